
/-
  When a sector is valid, and its text, in the model and in the program. Conditions: at most 1048576 bytes in a text; for the program's, what the library's variable holds.
-/
import Derived.Test.YtbmhhhhodlfcbaaDoorSec0
import Derived.Test.YtbmhhhhodlfcbaaDoorText1
import Derived.Test.YtbmhhhhodlfcbaaDoorJoin
import Derived.Test.YtbmhhhhodlfcbaaDoorListSpec
import Derived.Test.YtbmhhhhodlfcbaaDoorListImpl
import Derived.Test.YtbmhhhhodlfcbaaDoorOnH
import Derived.Deep.RegionHeld3
import Derived.Deep.DeepCutAuto
namespace Go.Proofs.YtbmhhhhodlfcbaaDoor.Sec
open Go.RowKit
open Plain
open ListSpec (listT listT_yes)
open Ints (Ints)

def okT (s0 s1 s2 s3 s4 : ByteArray) (v0 v1 v2 v3 : Int) : Bool := nameB s0.data.toList && (nameB s1.data.toList && (nameB s2.data.toList && (nameB s3.data.toList && (nameB s4.data.toList && (inB v0 0 359 && (inB v1 0 30 && (inB v2 1 3000 && (inB v3 (-1) 999))))))))
def secT (s0 s1 s2 s3 s4 : ByteArray) (v0 v1 v2 v3 : Int) : ByteArray := if okT s0 s1 s2 s3 s4 v0 v1 v2 v3 then s0 ++ ⟨#[32]⟩ ++ s1 ++ ⟨#[32]⟩ ++ s2 ++ ⟨#[32]⟩ ++ s3 ++ ⟨#[32]⟩ ++ s4 ++ ⟨#[32]⟩ ++ listT [v0, v1, v2, v3] else ⟨#[]⟩
theorem secT_no {s0 s1 s2 s3 s4 : ByteArray} {v0 v1 v2 v3 : Int} (k : okT s0 s1 s2 s3 s4 v0 v1 v2 v3 = false) : secT s0 s1 s2 s3 s4 v0 v1 v2 v3 = ⟨#[]⟩ := if_neg (by rw [k]; simp)
theorem secT_yes {s0 s1 s2 s3 s4 : ByteArray} {v0 v1 v2 v3 : Int} (k : okT s0 s1 s2 s3 s4 v0 v1 v2 v3 = true) : secT s0 s1 s2 s3 s4 v0 v1 v2 v3 = s0 ++ ⟨#[32]⟩ ++ s1 ++ ⟨#[32]⟩ ++ s2 ++ ⟨#[32]⟩ ++ s3 ++ ⟨#[32]⟩ ++ s4 ++ ⟨#[32]⟩ ++ listT [v0, v1, v2, v3] := if_pos k
theorem of_okT {s0 s1 s2 s3 s4 : ByteArray} {v0 v1 v2 v3 : Int} (k : okT s0 s1 s2 s3 s4 v0 v1 v2 v3 = true) : nameB s0.data.toList = true ∧ nameB s1.data.toList = true ∧ nameB s2.data.toList = true ∧ nameB s3.data.toList = true ∧ nameB s4.data.toList = true ∧ (0 ≤ v0 ∧ v0 ≤ 359) ∧ (0 ≤ v1 ∧ v1 ≤ 30) ∧ (1 ≤ v2 ∧ v2 ≤ 3000) ∧ (-1 ≤ v3 ∧ v3 ≤ 999) := by
  unfold okT at k
  simp only [Bool.and_eq_true] at k
  exact ⟨k.1, k.2.1, k.2.2.1, k.2.2.2.1, k.2.2.2.2.1, of_inB k.2.2.2.2.2.1, of_inB k.2.2.2.2.2.2.1, of_inB k.2.2.2.2.2.2.2.1, of_inB k.2.2.2.2.2.2.2.2⟩
theorem fits4 {v0 v1 v2 v3 : Int} (h0 : 0 ≤ v0 ∧ v0 ≤ 359) (h1 : 0 ≤ v1 ∧ v1 ≤ 30) (h2 : 1 ≤ v2 ∧ v2 ≤ 3000) (h3 : -1 ≤ v3 ∧ v3 ≤ 999) : fitsB [v0, v1, v2, v3] = true := by
  have e : ∀ v, -1 ≤ v → v ≤ 3000 → inV v = true := fun v a b => inB_yes (by omega) (by omega)
  unfold fitsB
  simp only [List.all_cons, List.all_nil, e v0 (by omega) (by omega), e v1 (by omega) (by omega), e v2 (by omega) (by omega), e v3 (by omega) (by omega)]
  rfl
theorem list_le {v0 v1 v2 v3 : Int} (h0 : 0 ≤ v0 ∧ v0 ≤ 359) (h1 : 0 ≤ v1 ∧ v1 ≤ 30) (h2 : 1 ≤ v2 ∧ v2 ≤ 3000) (h3 : -1 ≤ v3 ∧ v3 ≤ 999) : (listT [v0, v1, v2, v3]).size ≤ 100 := by
  have hf := fits4 h0 h1 h2 h3
  rw [listT_yes hf (by simp)]
  have := commas_len (fits_in hf).2 4 (by simp)
  rw [List.take_of_length_le (by simp)] at this
  show (commas [v0, v1, v2, v3]).toArray.size ≤ 100
  simp; omega
theorem four {w : World} {b : Nat} {v0 v1 v2 v3 : Int} (h0 : w.cell? ⟨b, 0, none⟩ = some (.int .i64 v0)) (h1 : w.cell? ⟨b, 1, none⟩ = some (.int .i64 v1)) (h2 : w.cell? ⟨b, 2, none⟩ = some (.int .i64 v2)) (h3 : w.cell? ⟨b, 3, none⟩ = some (.int .i64 v3)) :
    ∀ i, i < [v0, v1, v2, v3].length → w.cell? ⟨b, 0 + i, none⟩ = some (.int .i64 ([v0, v1, v2, v3].getD i 0)) := by
  intro i hi
  rcases (show i = 0 ∨ i = 1 ∨ i = 2 ∨ i = 3 by simp at hi; omega) with rfl | rfl | rfl | rfl
  · exact h0
  · exact h1
  · exact h2
  · exact h3
theorem four_ints {w : World} {b cap : Nat} {v0 v1 v2 v3 : Int} (h0 : w.cell? ⟨b, 0, none⟩ = some (.int .i64 v0)) (h1 : w.cell? ⟨b, 1, none⟩ = some (.int .i64 v1)) (h2 : w.cell? ⟨b, 2, none⟩ = some (.int .i64 v2)) (h3 : w.cell? ⟨b, 3, none⟩ = some (.int .i64 v3)) :
    Ints w (.slice (some ⟨b, 0, none⟩) [v0, v1, v2, v3].length cap) [v0, v1, v2, v3] := ⟨_, _, rfl, fun _ => ⟨b, 0, rfl, World.block_lt_of_cell? w _ h0, four h0 h1 h2 h3⟩⟩
/-- The cells of the sector, in a world grown out of one that holds it. -/
theorem held {w w' : World} {g : Nat} {s0 s1 s2 s3 s4 : ByteArray} {v0 v1 v2 v3 : Int} (hi : In w g s0 s1 s2 s3 s4 v0 v1 v2 v3) (ho : On w w') : On w w' ∧ In w' g s0 s1 s2 s3 s4 v0 v1 v2 v3 := ⟨ho, hi.on ho⟩

set_option maxRecDepth 100000 in
set_option maxHeartbeats 8000000 in
theorem spec_ok (g : Nat) (s0 s1 s2 s3 s4 : ByteArray) (v0 v1 v2 v3 : Int) (w : World) (q0 : s0.size ≤ 1048576) (q1 : s1.size ≤ 1048576) (q2 : s2.size ≤ 1048576) (q3 : s3.size ≤ 1048576) (q4 : s4.size ≤ 1048576) (hp : In w g s0 s1 s2 s3 s4 v0 v1 v2 v3) :
    Calls Tryd.prog 62 #[.pointer (some ⟨g, 0, none⟩)] w fun e w' => e = .returned (.bool (okT s0 s1 s2 s3 s4 v0 v1 v2 v3)) ∧ On w w' := by
  have EN := Lib.hid (show okT s0 s1 s2 s3 s4 v0 v1 v2 v3 = (nameB s0.data.toList && (nameB s1.data.toList && (nameB s2.data.toList && (nameB s3.data.toList && (nameB s4.data.toList && (inB v0 0 359 && (inB v1 0 30 && (inB v2 1 3000 && (inB v3 (-1) 999))))))))) from rfl)
  have hN0 := fun w => Text1.spec_l01Name s0 w q0
  have hN1 := fun w => Text1.spec_l01Name s1 w q1
  have hN2 := fun w => Text1.spec_l01Name s2 w q2
  have hN3 := fun w => Text1.spec_l01Name s3 w q3
  have hN4 := fun w => Text1.spec_l01Name s4 w q4
  have hg := hp.lt
  obtain ⟨k0, k1, k2, k3, k4, k5, k6, k7, k8⟩ := hp
  generalize nameB s0.data.toList = b0 at *
  generalize nameB s1.data.toList = b1 at *
  generalize nameB s2.data.toList = b2 at *
  generalize nameB s3.data.toList = b3 at *
  generalize nameB s4.data.toList = b4 at *
  have HN0 := Lib.hid hN0
  have HN1 := Lib.hid hN1
  have HN2 := Lib.hid hN2
  have HN3 := Lib.hid hN3
  have HN4 := Lib.hid hN4
  clear hN0 hN1 hN2 hN3 hN4 q0 q1 q2 q3 q4
  cases b0 with
  | false =>
    have en := Lib.hid (show okT s0 s1 s2 s3 s4 v0 v1 v2 v3 = false by rw [EN.out]; rfl)
    clear EN
    go_enter Tryd.func62, Tryd.ntmps62
    go_wp2_with (first
      | (go_at_call 78; with_reducible refine (HN0.out _).mono ?_; rintro e w' ⟨rfl, rfl⟩)
      | (go_at_call 78; with_reducible refine (HN1.out _).mono ?_; rintro e w' ⟨rfl, rfl⟩)
      | (go_at_call 78; with_reducible refine (HN2.out _).mono ?_; rintro e w' ⟨rfl, rfl⟩)
      | (go_at_call 78; with_reducible refine (HN3.out _).mono ?_; rintro e w' ⟨rfl, rfl⟩)
      | (go_at_call 78; with_reducible refine (HN4.out _).mono ?_; rintro e w' ⟨rfl, rfl⟩)
      | (go_at_call 79; refine (Arith.l00In _ _ _ _).mono ?_; rintro e w' ⟨rfl, rfl⟩))
    go_ret
    exact ⟨ret_bool en.out.symm, by repeat (first | with_reducible exact On.refl _ | with_reducible apply On.alloc | with_reducible apply On.drewN | with_reducible apply On.drew | with_reducible refine On.setCell ?_ (by (try simp) <;> omega) _)⟩
  | true =>
    cases b1 with
    | false =>
      have en := Lib.hid (show okT s0 s1 s2 s3 s4 v0 v1 v2 v3 = false by rw [EN.out]; rfl)
      clear EN
      go_enter Tryd.func62, Tryd.ntmps62
      go_wp2_with (first
      | (go_at_call 78; with_reducible refine (HN0.out _).mono ?_; rintro e w' ⟨rfl, rfl⟩)
      | (go_at_call 78; with_reducible refine (HN1.out _).mono ?_; rintro e w' ⟨rfl, rfl⟩)
      | (go_at_call 78; with_reducible refine (HN2.out _).mono ?_; rintro e w' ⟨rfl, rfl⟩)
      | (go_at_call 78; with_reducible refine (HN3.out _).mono ?_; rintro e w' ⟨rfl, rfl⟩)
      | (go_at_call 78; with_reducible refine (HN4.out _).mono ?_; rintro e w' ⟨rfl, rfl⟩)
      | (go_at_call 79; refine (Arith.l00In _ _ _ _).mono ?_; rintro e w' ⟨rfl, rfl⟩))
      go_ret
      exact ⟨ret_bool en.out.symm, by repeat (first | with_reducible exact On.refl _ | with_reducible apply On.alloc | with_reducible apply On.drewN | with_reducible apply On.drew | with_reducible refine On.setCell ?_ (by (try simp) <;> omega) _)⟩
    | true =>
      cases b2 with
      | false =>
        have en := Lib.hid (show okT s0 s1 s2 s3 s4 v0 v1 v2 v3 = false by rw [EN.out]; rfl)
        clear EN
        go_enter Tryd.func62, Tryd.ntmps62
        go_wp2_with (first
      | (go_at_call 78; with_reducible refine (HN0.out _).mono ?_; rintro e w' ⟨rfl, rfl⟩)
      | (go_at_call 78; with_reducible refine (HN1.out _).mono ?_; rintro e w' ⟨rfl, rfl⟩)
      | (go_at_call 78; with_reducible refine (HN2.out _).mono ?_; rintro e w' ⟨rfl, rfl⟩)
      | (go_at_call 78; with_reducible refine (HN3.out _).mono ?_; rintro e w' ⟨rfl, rfl⟩)
      | (go_at_call 78; with_reducible refine (HN4.out _).mono ?_; rintro e w' ⟨rfl, rfl⟩)
      | (go_at_call 79; refine (Arith.l00In _ _ _ _).mono ?_; rintro e w' ⟨rfl, rfl⟩))
        go_ret
        exact ⟨ret_bool en.out.symm, by repeat (first | with_reducible exact On.refl _ | with_reducible apply On.alloc | with_reducible apply On.drewN | with_reducible apply On.drew | with_reducible refine On.setCell ?_ (by (try simp) <;> omega) _)⟩
      | true =>
        cases b3 with
        | false =>
          have en := Lib.hid (show okT s0 s1 s2 s3 s4 v0 v1 v2 v3 = false by rw [EN.out]; rfl)
          clear EN
          go_enter Tryd.func62, Tryd.ntmps62
          go_wp2_with (first
      | (go_at_call 78; with_reducible refine (HN0.out _).mono ?_; rintro e w' ⟨rfl, rfl⟩)
      | (go_at_call 78; with_reducible refine (HN1.out _).mono ?_; rintro e w' ⟨rfl, rfl⟩)
      | (go_at_call 78; with_reducible refine (HN2.out _).mono ?_; rintro e w' ⟨rfl, rfl⟩)
      | (go_at_call 78; with_reducible refine (HN3.out _).mono ?_; rintro e w' ⟨rfl, rfl⟩)
      | (go_at_call 78; with_reducible refine (HN4.out _).mono ?_; rintro e w' ⟨rfl, rfl⟩)
      | (go_at_call 79; refine (Arith.l00In _ _ _ _).mono ?_; rintro e w' ⟨rfl, rfl⟩))
          go_ret
          exact ⟨ret_bool en.out.symm, by repeat (first | with_reducible exact On.refl _ | with_reducible apply On.alloc | with_reducible apply On.drewN | with_reducible apply On.drew | with_reducible refine On.setCell ?_ (by (try simp) <;> omega) _)⟩
        | true =>
          cases b4 with
          | false =>
            have en := Lib.hid (show okT s0 s1 s2 s3 s4 v0 v1 v2 v3 = false by rw [EN.out]; rfl)
            clear EN
            go_enter Tryd.func62, Tryd.ntmps62
            go_wp2_with (first
      | (go_at_call 78; with_reducible refine (HN0.out _).mono ?_; rintro e w' ⟨rfl, rfl⟩)
      | (go_at_call 78; with_reducible refine (HN1.out _).mono ?_; rintro e w' ⟨rfl, rfl⟩)
      | (go_at_call 78; with_reducible refine (HN2.out _).mono ?_; rintro e w' ⟨rfl, rfl⟩)
      | (go_at_call 78; with_reducible refine (HN3.out _).mono ?_; rintro e w' ⟨rfl, rfl⟩)
      | (go_at_call 78; with_reducible refine (HN4.out _).mono ?_; rintro e w' ⟨rfl, rfl⟩)
      | (go_at_call 79; refine (Arith.l00In _ _ _ _).mono ?_; rintro e w' ⟨rfl, rfl⟩))
            go_ret
            exact ⟨ret_bool en.out.symm, by repeat (first | with_reducible exact On.refl _ | with_reducible apply On.alloc | with_reducible apply On.drewN | with_reducible apply On.drew | with_reducible refine On.setCell ?_ (by (try simp) <;> omega) _)⟩
          | true =>
            cases t0 : inB v0 0 359 with
            | false =>
              have en := Lib.hid (show okT s0 s1 s2 s3 s4 v0 v1 v2 v3 = false by rw [EN.out, t0]; rfl)
              clear EN
              go_enter Tryd.func62, Tryd.ntmps62
              go_wp2_with (first
      | (go_at_call 78; with_reducible refine (HN0.out _).mono ?_; rintro e w' ⟨rfl, rfl⟩)
      | (go_at_call 78; with_reducible refine (HN1.out _).mono ?_; rintro e w' ⟨rfl, rfl⟩)
      | (go_at_call 78; with_reducible refine (HN2.out _).mono ?_; rintro e w' ⟨rfl, rfl⟩)
      | (go_at_call 78; with_reducible refine (HN3.out _).mono ?_; rintro e w' ⟨rfl, rfl⟩)
      | (go_at_call 78; with_reducible refine (HN4.out _).mono ?_; rintro e w' ⟨rfl, rfl⟩)
      | (go_at_call 79; refine (Arith.l00In _ _ _ _).mono ?_; rintro e w' ⟨rfl, rfl⟩))
              go_ret
              exact ⟨ret_bool en.out.symm, by repeat (first | with_reducible exact On.refl _ | with_reducible apply On.alloc | with_reducible apply On.drewN | with_reducible apply On.drew | with_reducible refine On.setCell ?_ (by (try simp) <;> omega) _)⟩
            | true =>
              cases t1 : inB v1 0 30 with
              | false =>
                have en := Lib.hid (show okT s0 s1 s2 s3 s4 v0 v1 v2 v3 = false by rw [EN.out, t0, t1]; rfl)
                clear EN
                go_enter Tryd.func62, Tryd.ntmps62
                go_wp2_with (first
      | (go_at_call 78; with_reducible refine (HN0.out _).mono ?_; rintro e w' ⟨rfl, rfl⟩)
      | (go_at_call 78; with_reducible refine (HN1.out _).mono ?_; rintro e w' ⟨rfl, rfl⟩)
      | (go_at_call 78; with_reducible refine (HN2.out _).mono ?_; rintro e w' ⟨rfl, rfl⟩)
      | (go_at_call 78; with_reducible refine (HN3.out _).mono ?_; rintro e w' ⟨rfl, rfl⟩)
      | (go_at_call 78; with_reducible refine (HN4.out _).mono ?_; rintro e w' ⟨rfl, rfl⟩)
      | (go_at_call 79; refine (Arith.l00In _ _ _ _).mono ?_; rintro e w' ⟨rfl, rfl⟩))
                go_ret
                exact ⟨ret_bool en.out.symm, by repeat (first | with_reducible exact On.refl _ | with_reducible apply On.alloc | with_reducible apply On.drewN | with_reducible apply On.drew | with_reducible refine On.setCell ?_ (by (try simp) <;> omega) _)⟩
              | true =>
                cases t2 : inB v2 1 3000 with
                | false =>
                  have en := Lib.hid (show okT s0 s1 s2 s3 s4 v0 v1 v2 v3 = false by rw [EN.out, t0, t1, t2]; rfl)
                  clear EN
                  go_enter Tryd.func62, Tryd.ntmps62
                  go_wp2_with (first
      | (go_at_call 78; with_reducible refine (HN0.out _).mono ?_; rintro e w' ⟨rfl, rfl⟩)
      | (go_at_call 78; with_reducible refine (HN1.out _).mono ?_; rintro e w' ⟨rfl, rfl⟩)
      | (go_at_call 78; with_reducible refine (HN2.out _).mono ?_; rintro e w' ⟨rfl, rfl⟩)
      | (go_at_call 78; with_reducible refine (HN3.out _).mono ?_; rintro e w' ⟨rfl, rfl⟩)
      | (go_at_call 78; with_reducible refine (HN4.out _).mono ?_; rintro e w' ⟨rfl, rfl⟩)
      | (go_at_call 79; refine (Arith.l00In _ _ _ _).mono ?_; rintro e w' ⟨rfl, rfl⟩))
                  go_ret
                  exact ⟨ret_bool en.out.symm, by repeat (first | with_reducible exact On.refl _ | with_reducible apply On.alloc | with_reducible apply On.drewN | with_reducible apply On.drew | with_reducible refine On.setCell ?_ (by (try simp) <;> omega) _)⟩
                | true =>
                  cases t3 : inB v3 (-1) 999 with
                  | false =>
                    have en := Lib.hid (show okT s0 s1 s2 s3 s4 v0 v1 v2 v3 = false by rw [EN.out, t0, t1, t2, t3]; rfl)
                    clear EN
                    go_enter Tryd.func62, Tryd.ntmps62
                    go_wp2_with (first
      | (go_at_call 78; with_reducible refine (HN0.out _).mono ?_; rintro e w' ⟨rfl, rfl⟩)
      | (go_at_call 78; with_reducible refine (HN1.out _).mono ?_; rintro e w' ⟨rfl, rfl⟩)
      | (go_at_call 78; with_reducible refine (HN2.out _).mono ?_; rintro e w' ⟨rfl, rfl⟩)
      | (go_at_call 78; with_reducible refine (HN3.out _).mono ?_; rintro e w' ⟨rfl, rfl⟩)
      | (go_at_call 78; with_reducible refine (HN4.out _).mono ?_; rintro e w' ⟨rfl, rfl⟩)
      | (go_at_call 79; refine (Arith.l00In _ _ _ _).mono ?_; rintro e w' ⟨rfl, rfl⟩))
                    go_ret
                    exact ⟨ret_bool en.out.symm, by repeat (first | with_reducible exact On.refl _ | with_reducible apply On.alloc | with_reducible apply On.drewN | with_reducible apply On.drew | with_reducible refine On.setCell ?_ (by (try simp) <;> omega) _)⟩
                  | true =>
                    have en := Lib.hid (show okT s0 s1 s2 s3 s4 v0 v1 v2 v3 = true by rw [EN.out, t0, t1, t2, t3]; rfl)
                    clear EN
                    go_enter Tryd.func62, Tryd.ntmps62
                    go_wp2_with (first
      | (go_at_call 78; with_reducible refine (HN0.out _).mono ?_; rintro e w' ⟨rfl, rfl⟩)
      | (go_at_call 78; with_reducible refine (HN1.out _).mono ?_; rintro e w' ⟨rfl, rfl⟩)
      | (go_at_call 78; with_reducible refine (HN2.out _).mono ?_; rintro e w' ⟨rfl, rfl⟩)
      | (go_at_call 78; with_reducible refine (HN3.out _).mono ?_; rintro e w' ⟨rfl, rfl⟩)
      | (go_at_call 78; with_reducible refine (HN4.out _).mono ?_; rintro e w' ⟨rfl, rfl⟩)
      | (go_at_call 79; refine (Arith.l00In _ _ _ _).mono ?_; rintro e w' ⟨rfl, rfl⟩))
                    go_ret
                    exact ⟨ret_bool en.out.symm, by repeat (first | with_reducible exact On.refl _ | with_reducible apply On.alloc | with_reducible apply On.drewN | with_reducible apply On.drew | with_reducible refine On.setCell ?_ (by (try simp) <;> omega) _)⟩
theorem impl_isChannel (v : Int) (w : World) :
    Calls Tryd.prog 98 #[.int .i64 v] w fun e w' => e = .returned (.bool (inB v (-1) 999)) ∧ w = w' := by
  go_enter Tryd.func98, Tryd.ntmps98
  go_wp2_with (go_at_call 84; refine (Arith.within _ _ _ _).mono ?_; rintro e w' ⟨rfl, rfl⟩)
  go_ret
  exact ⟨rfl, rfl⟩

set_option maxRecDepth 100000 in
set_option maxHeartbeats 8000000 in
theorem impl_ok (s0 s1 s2 s3 s4 : ByteArray) (v0 v1 v2 v3 : Int) (w : World) (q0 : s0.size ≤ 1048576) (q1 : s1.size ≤ 1048576) (q2 : s2.size ≤ 1048576) (q3 : s3.size ≤ 1048576) (q4 : s4.size ≤ 1048576) :
    Calls Tryd.prog 64 #[.agg #[.string s0, .string s1, .string s2, .string s3, .string s4, .int .i64 v0, .int .i64 v1, .int .i64 v2, .int .i64 v3]] w fun e w' => e = .returned (.bool (okT s0 s1 s2 s3 s4 v0 v1 v2 v3)) ∧ On w w' := by
  have EN := Lib.hid (show okT s0 s1 s2 s3 s4 v0 v1 v2 v3 = (nameB s0.data.toList && (nameB s1.data.toList && (nameB s2.data.toList && (nameB s3.data.toList && (nameB s4.data.toList && (inB v0 0 359 && (inB v1 0 30 && (inB v2 1 3000 && (inB v3 (-1) 999))))))))) from rfl)
  have hN0 := fun w => Text1.impl_isName s0 w q0
  have hN1 := fun w => Text1.impl_isName s1 w q1
  have hN2 := fun w => Text1.impl_isName s2 w q2
  have hN3 := fun w => Text1.impl_isName s3 w q3
  have hN4 := fun w => Text1.impl_isName s4 w q4
  generalize nameB s0.data.toList = b0 at *
  generalize nameB s1.data.toList = b1 at *
  generalize nameB s2.data.toList = b2 at *
  generalize nameB s3.data.toList = b3 at *
  generalize nameB s4.data.toList = b4 at *
  have HN0 := Lib.hid hN0
  have HN1 := Lib.hid hN1
  have HN2 := Lib.hid hN2
  have HN3 := Lib.hid hN3
  have HN4 := Lib.hid hN4
  clear hN0 hN1 hN2 hN3 hN4 q0 q1 q2 q3 q4
  have ix0 : ∀ w, (Instr.index 137 (.agg #[.string s0, .string s1, .string s2, .string s3, .string s4]) (.int .i64 0)).run Tryd.prog w = .ok (.string s0) w := fun _ => by kernel_rfl
  have ix1 : ∀ w, (Instr.index 137 (.agg #[.string s0, .string s1, .string s2, .string s3, .string s4]) (.int .i64 1)).run Tryd.prog w = .ok (.string s1) w := fun _ => by kernel_rfl
  have ix2 : ∀ w, (Instr.index 137 (.agg #[.string s0, .string s1, .string s2, .string s3, .string s4]) (.int .i64 2)).run Tryd.prog w = .ok (.string s2) w := fun _ => by kernel_rfl
  have ix3 : ∀ w, (Instr.index 137 (.agg #[.string s0, .string s1, .string s2, .string s3, .string s4]) (.int .i64 3)).run Tryd.prog w = .ok (.string s3) w := fun _ => by kernel_rfl
  have ix4 : ∀ w, (Instr.index 137 (.agg #[.string s0, .string s1, .string s2, .string s3, .string s4]) (.int .i64 4)).run Tryd.prog w = .ok (.string s4) w := fun _ => by kernel_rfl
  cases b0 with
  | false =>
    have en := Lib.hid (show okT s0 s1 s2 s3 s4 v0 v1 v2 v3 = false by rw [EN.out]; rfl)
    clear EN
    go_enter Tryd.func64, Tryd.ntmps64
    go_wp2_with fail
    refine wp_loop_rounds 6 ?_
    rw [rounds_succ]
    go_wp2_with (first
      | (go_at_call 82; with_reducible refine (HN0.out _).mono ?_; rintro e w' ⟨rfl, rfl⟩)
      | (go_at_call 82; with_reducible refine (HN1.out _).mono ?_; rintro e w' ⟨rfl, rfl⟩)
      | (go_at_call 82; with_reducible refine (HN2.out _).mono ?_; rintro e w' ⟨rfl, rfl⟩)
      | (go_at_call 82; with_reducible refine (HN3.out _).mono ?_; rintro e w' ⟨rfl, rfl⟩)
      | (go_at_call 82; with_reducible refine (HN4.out _).mono ?_; rintro e w' ⟨rfl, rfl⟩)
      | (go_at_call 84; refine (Arith.within _ _ _ _).mono ?_; rintro e w' ⟨rfl, rfl⟩)
      | (go_at_call 98; refine (impl_isChannel _ _).mono ?_; rintro e w' ⟨rfl, rfl⟩))
    go_ret
    exact ⟨ret_bool en.out.symm, by repeat (first | with_reducible exact On.refl _ | with_reducible apply On.alloc | with_reducible apply On.drewN | with_reducible apply On.drew | with_reducible refine On.setCell ?_ (by (try simp) <;> omega) _)⟩
  | true =>
    cases b1 with
    | false =>
      have en := Lib.hid (show okT s0 s1 s2 s3 s4 v0 v1 v2 v3 = false by rw [EN.out]; rfl)
      clear EN
      go_enter Tryd.func64, Tryd.ntmps64
      go_wp2_with fail
      refine wp_loop_rounds 6 ?_
      rw [rounds_succ]
      go_wp2_with (first
      | (go_at_call 82; with_reducible refine (HN0.out _).mono ?_; rintro e w' ⟨rfl, rfl⟩)
      | (go_at_call 82; with_reducible refine (HN1.out _).mono ?_; rintro e w' ⟨rfl, rfl⟩)
      | (go_at_call 82; with_reducible refine (HN2.out _).mono ?_; rintro e w' ⟨rfl, rfl⟩)
      | (go_at_call 82; with_reducible refine (HN3.out _).mono ?_; rintro e w' ⟨rfl, rfl⟩)
      | (go_at_call 82; with_reducible refine (HN4.out _).mono ?_; rintro e w' ⟨rfl, rfl⟩)
      | (go_at_call 84; refine (Arith.within _ _ _ _).mono ?_; rintro e w' ⟨rfl, rfl⟩)
      | (go_at_call 98; refine (impl_isChannel _ _).mono ?_; rintro e w' ⟨rfl, rfl⟩))
      rw [rounds_succ]
      go_wp2_with (first
      | (go_at_call 82; with_reducible refine (HN0.out _).mono ?_; rintro e w' ⟨rfl, rfl⟩)
      | (go_at_call 82; with_reducible refine (HN1.out _).mono ?_; rintro e w' ⟨rfl, rfl⟩)
      | (go_at_call 82; with_reducible refine (HN2.out _).mono ?_; rintro e w' ⟨rfl, rfl⟩)
      | (go_at_call 82; with_reducible refine (HN3.out _).mono ?_; rintro e w' ⟨rfl, rfl⟩)
      | (go_at_call 82; with_reducible refine (HN4.out _).mono ?_; rintro e w' ⟨rfl, rfl⟩)
      | (go_at_call 84; refine (Arith.within _ _ _ _).mono ?_; rintro e w' ⟨rfl, rfl⟩)
      | (go_at_call 98; refine (impl_isChannel _ _).mono ?_; rintro e w' ⟨rfl, rfl⟩))
      go_ret
      exact ⟨ret_bool en.out.symm, by repeat (first | with_reducible exact On.refl _ | with_reducible apply On.alloc | with_reducible apply On.drewN | with_reducible apply On.drew | with_reducible refine On.setCell ?_ (by (try simp) <;> omega) _)⟩
    | true =>
      cases b2 with
      | false =>
        have en := Lib.hid (show okT s0 s1 s2 s3 s4 v0 v1 v2 v3 = false by rw [EN.out]; rfl)
        clear EN
        go_enter Tryd.func64, Tryd.ntmps64
        go_wp2_with fail
        refine wp_loop_rounds 6 ?_
        rw [rounds_succ]
        go_wp2_with (first
      | (go_at_call 82; with_reducible refine (HN0.out _).mono ?_; rintro e w' ⟨rfl, rfl⟩)
      | (go_at_call 82; with_reducible refine (HN1.out _).mono ?_; rintro e w' ⟨rfl, rfl⟩)
      | (go_at_call 82; with_reducible refine (HN2.out _).mono ?_; rintro e w' ⟨rfl, rfl⟩)
      | (go_at_call 82; with_reducible refine (HN3.out _).mono ?_; rintro e w' ⟨rfl, rfl⟩)
      | (go_at_call 82; with_reducible refine (HN4.out _).mono ?_; rintro e w' ⟨rfl, rfl⟩)
      | (go_at_call 84; refine (Arith.within _ _ _ _).mono ?_; rintro e w' ⟨rfl, rfl⟩)
      | (go_at_call 98; refine (impl_isChannel _ _).mono ?_; rintro e w' ⟨rfl, rfl⟩))
        rw [rounds_succ]
        go_wp2_with (first
      | (go_at_call 82; with_reducible refine (HN0.out _).mono ?_; rintro e w' ⟨rfl, rfl⟩)
      | (go_at_call 82; with_reducible refine (HN1.out _).mono ?_; rintro e w' ⟨rfl, rfl⟩)
      | (go_at_call 82; with_reducible refine (HN2.out _).mono ?_; rintro e w' ⟨rfl, rfl⟩)
      | (go_at_call 82; with_reducible refine (HN3.out _).mono ?_; rintro e w' ⟨rfl, rfl⟩)
      | (go_at_call 82; with_reducible refine (HN4.out _).mono ?_; rintro e w' ⟨rfl, rfl⟩)
      | (go_at_call 84; refine (Arith.within _ _ _ _).mono ?_; rintro e w' ⟨rfl, rfl⟩)
      | (go_at_call 98; refine (impl_isChannel _ _).mono ?_; rintro e w' ⟨rfl, rfl⟩))
        rw [rounds_succ]
        go_wp2_with (first
      | (go_at_call 82; with_reducible refine (HN0.out _).mono ?_; rintro e w' ⟨rfl, rfl⟩)
      | (go_at_call 82; with_reducible refine (HN1.out _).mono ?_; rintro e w' ⟨rfl, rfl⟩)
      | (go_at_call 82; with_reducible refine (HN2.out _).mono ?_; rintro e w' ⟨rfl, rfl⟩)
      | (go_at_call 82; with_reducible refine (HN3.out _).mono ?_; rintro e w' ⟨rfl, rfl⟩)
      | (go_at_call 82; with_reducible refine (HN4.out _).mono ?_; rintro e w' ⟨rfl, rfl⟩)
      | (go_at_call 84; refine (Arith.within _ _ _ _).mono ?_; rintro e w' ⟨rfl, rfl⟩)
      | (go_at_call 98; refine (impl_isChannel _ _).mono ?_; rintro e w' ⟨rfl, rfl⟩))
        go_ret
        exact ⟨ret_bool en.out.symm, by repeat (first | with_reducible exact On.refl _ | with_reducible apply On.alloc | with_reducible apply On.drewN | with_reducible apply On.drew | with_reducible refine On.setCell ?_ (by (try simp) <;> omega) _)⟩
      | true =>
        cases b3 with
        | false =>
          have en := Lib.hid (show okT s0 s1 s2 s3 s4 v0 v1 v2 v3 = false by rw [EN.out]; rfl)
          clear EN
          go_enter Tryd.func64, Tryd.ntmps64
          go_wp2_with fail
          refine wp_loop_rounds 6 ?_
          rw [rounds_succ]
          go_wp2_with (first
      | (go_at_call 82; with_reducible refine (HN0.out _).mono ?_; rintro e w' ⟨rfl, rfl⟩)
      | (go_at_call 82; with_reducible refine (HN1.out _).mono ?_; rintro e w' ⟨rfl, rfl⟩)
      | (go_at_call 82; with_reducible refine (HN2.out _).mono ?_; rintro e w' ⟨rfl, rfl⟩)
      | (go_at_call 82; with_reducible refine (HN3.out _).mono ?_; rintro e w' ⟨rfl, rfl⟩)
      | (go_at_call 82; with_reducible refine (HN4.out _).mono ?_; rintro e w' ⟨rfl, rfl⟩)
      | (go_at_call 84; refine (Arith.within _ _ _ _).mono ?_; rintro e w' ⟨rfl, rfl⟩)
      | (go_at_call 98; refine (impl_isChannel _ _).mono ?_; rintro e w' ⟨rfl, rfl⟩))
          rw [rounds_succ]
          go_wp2_with (first
      | (go_at_call 82; with_reducible refine (HN0.out _).mono ?_; rintro e w' ⟨rfl, rfl⟩)
      | (go_at_call 82; with_reducible refine (HN1.out _).mono ?_; rintro e w' ⟨rfl, rfl⟩)
      | (go_at_call 82; with_reducible refine (HN2.out _).mono ?_; rintro e w' ⟨rfl, rfl⟩)
      | (go_at_call 82; with_reducible refine (HN3.out _).mono ?_; rintro e w' ⟨rfl, rfl⟩)
      | (go_at_call 82; with_reducible refine (HN4.out _).mono ?_; rintro e w' ⟨rfl, rfl⟩)
      | (go_at_call 84; refine (Arith.within _ _ _ _).mono ?_; rintro e w' ⟨rfl, rfl⟩)
      | (go_at_call 98; refine (impl_isChannel _ _).mono ?_; rintro e w' ⟨rfl, rfl⟩))
          rw [rounds_succ]
          go_wp2_with (first
      | (go_at_call 82; with_reducible refine (HN0.out _).mono ?_; rintro e w' ⟨rfl, rfl⟩)
      | (go_at_call 82; with_reducible refine (HN1.out _).mono ?_; rintro e w' ⟨rfl, rfl⟩)
      | (go_at_call 82; with_reducible refine (HN2.out _).mono ?_; rintro e w' ⟨rfl, rfl⟩)
      | (go_at_call 82; with_reducible refine (HN3.out _).mono ?_; rintro e w' ⟨rfl, rfl⟩)
      | (go_at_call 82; with_reducible refine (HN4.out _).mono ?_; rintro e w' ⟨rfl, rfl⟩)
      | (go_at_call 84; refine (Arith.within _ _ _ _).mono ?_; rintro e w' ⟨rfl, rfl⟩)
      | (go_at_call 98; refine (impl_isChannel _ _).mono ?_; rintro e w' ⟨rfl, rfl⟩))
          rw [rounds_succ]
          go_wp2_with (first
      | (go_at_call 82; with_reducible refine (HN0.out _).mono ?_; rintro e w' ⟨rfl, rfl⟩)
      | (go_at_call 82; with_reducible refine (HN1.out _).mono ?_; rintro e w' ⟨rfl, rfl⟩)
      | (go_at_call 82; with_reducible refine (HN2.out _).mono ?_; rintro e w' ⟨rfl, rfl⟩)
      | (go_at_call 82; with_reducible refine (HN3.out _).mono ?_; rintro e w' ⟨rfl, rfl⟩)
      | (go_at_call 82; with_reducible refine (HN4.out _).mono ?_; rintro e w' ⟨rfl, rfl⟩)
      | (go_at_call 84; refine (Arith.within _ _ _ _).mono ?_; rintro e w' ⟨rfl, rfl⟩)
      | (go_at_call 98; refine (impl_isChannel _ _).mono ?_; rintro e w' ⟨rfl, rfl⟩))
          go_ret
          exact ⟨ret_bool en.out.symm, by repeat (first | with_reducible exact On.refl _ | with_reducible apply On.alloc | with_reducible apply On.drewN | with_reducible apply On.drew | with_reducible refine On.setCell ?_ (by (try simp) <;> omega) _)⟩
        | true =>
          cases b4 with
          | false =>
            have en := Lib.hid (show okT s0 s1 s2 s3 s4 v0 v1 v2 v3 = false by rw [EN.out]; rfl)
            clear EN
            go_enter Tryd.func64, Tryd.ntmps64
            go_wp2_with fail
            refine wp_loop_rounds 6 ?_
            rw [rounds_succ]
            go_wp2_with (first
      | (go_at_call 82; with_reducible refine (HN0.out _).mono ?_; rintro e w' ⟨rfl, rfl⟩)
      | (go_at_call 82; with_reducible refine (HN1.out _).mono ?_; rintro e w' ⟨rfl, rfl⟩)
      | (go_at_call 82; with_reducible refine (HN2.out _).mono ?_; rintro e w' ⟨rfl, rfl⟩)
      | (go_at_call 82; with_reducible refine (HN3.out _).mono ?_; rintro e w' ⟨rfl, rfl⟩)
      | (go_at_call 82; with_reducible refine (HN4.out _).mono ?_; rintro e w' ⟨rfl, rfl⟩)
      | (go_at_call 84; refine (Arith.within _ _ _ _).mono ?_; rintro e w' ⟨rfl, rfl⟩)
      | (go_at_call 98; refine (impl_isChannel _ _).mono ?_; rintro e w' ⟨rfl, rfl⟩))
            rw [rounds_succ]
            go_wp2_with (first
      | (go_at_call 82; with_reducible refine (HN0.out _).mono ?_; rintro e w' ⟨rfl, rfl⟩)
      | (go_at_call 82; with_reducible refine (HN1.out _).mono ?_; rintro e w' ⟨rfl, rfl⟩)
      | (go_at_call 82; with_reducible refine (HN2.out _).mono ?_; rintro e w' ⟨rfl, rfl⟩)
      | (go_at_call 82; with_reducible refine (HN3.out _).mono ?_; rintro e w' ⟨rfl, rfl⟩)
      | (go_at_call 82; with_reducible refine (HN4.out _).mono ?_; rintro e w' ⟨rfl, rfl⟩)
      | (go_at_call 84; refine (Arith.within _ _ _ _).mono ?_; rintro e w' ⟨rfl, rfl⟩)
      | (go_at_call 98; refine (impl_isChannel _ _).mono ?_; rintro e w' ⟨rfl, rfl⟩))
            rw [rounds_succ]
            go_wp2_with (first
      | (go_at_call 82; with_reducible refine (HN0.out _).mono ?_; rintro e w' ⟨rfl, rfl⟩)
      | (go_at_call 82; with_reducible refine (HN1.out _).mono ?_; rintro e w' ⟨rfl, rfl⟩)
      | (go_at_call 82; with_reducible refine (HN2.out _).mono ?_; rintro e w' ⟨rfl, rfl⟩)
      | (go_at_call 82; with_reducible refine (HN3.out _).mono ?_; rintro e w' ⟨rfl, rfl⟩)
      | (go_at_call 82; with_reducible refine (HN4.out _).mono ?_; rintro e w' ⟨rfl, rfl⟩)
      | (go_at_call 84; refine (Arith.within _ _ _ _).mono ?_; rintro e w' ⟨rfl, rfl⟩)
      | (go_at_call 98; refine (impl_isChannel _ _).mono ?_; rintro e w' ⟨rfl, rfl⟩))
            rw [rounds_succ]
            go_wp2_with (first
      | (go_at_call 82; with_reducible refine (HN0.out _).mono ?_; rintro e w' ⟨rfl, rfl⟩)
      | (go_at_call 82; with_reducible refine (HN1.out _).mono ?_; rintro e w' ⟨rfl, rfl⟩)
      | (go_at_call 82; with_reducible refine (HN2.out _).mono ?_; rintro e w' ⟨rfl, rfl⟩)
      | (go_at_call 82; with_reducible refine (HN3.out _).mono ?_; rintro e w' ⟨rfl, rfl⟩)
      | (go_at_call 82; with_reducible refine (HN4.out _).mono ?_; rintro e w' ⟨rfl, rfl⟩)
      | (go_at_call 84; refine (Arith.within _ _ _ _).mono ?_; rintro e w' ⟨rfl, rfl⟩)
      | (go_at_call 98; refine (impl_isChannel _ _).mono ?_; rintro e w' ⟨rfl, rfl⟩))
            rw [rounds_succ]
            go_wp2_with (first
      | (go_at_call 82; with_reducible refine (HN0.out _).mono ?_; rintro e w' ⟨rfl, rfl⟩)
      | (go_at_call 82; with_reducible refine (HN1.out _).mono ?_; rintro e w' ⟨rfl, rfl⟩)
      | (go_at_call 82; with_reducible refine (HN2.out _).mono ?_; rintro e w' ⟨rfl, rfl⟩)
      | (go_at_call 82; with_reducible refine (HN3.out _).mono ?_; rintro e w' ⟨rfl, rfl⟩)
      | (go_at_call 82; with_reducible refine (HN4.out _).mono ?_; rintro e w' ⟨rfl, rfl⟩)
      | (go_at_call 84; refine (Arith.within _ _ _ _).mono ?_; rintro e w' ⟨rfl, rfl⟩)
      | (go_at_call 98; refine (impl_isChannel _ _).mono ?_; rintro e w' ⟨rfl, rfl⟩))
            go_ret
            exact ⟨ret_bool en.out.symm, by repeat (first | with_reducible exact On.refl _ | with_reducible apply On.alloc | with_reducible apply On.drewN | with_reducible apply On.drew | with_reducible refine On.setCell ?_ (by (try simp) <;> omega) _)⟩
          | true =>
            cases t0 : inB v0 0 359 with
            | false =>
              have en := Lib.hid (show okT s0 s1 s2 s3 s4 v0 v1 v2 v3 = false by rw [EN.out, t0]; rfl)
              clear EN
              go_enter Tryd.func64, Tryd.ntmps64
              go_wp2_with fail
              refine wp_loop_rounds 6 ?_
              rw [rounds_succ]
              go_wp2_with (first
      | (go_at_call 82; with_reducible refine (HN0.out _).mono ?_; rintro e w' ⟨rfl, rfl⟩)
      | (go_at_call 82; with_reducible refine (HN1.out _).mono ?_; rintro e w' ⟨rfl, rfl⟩)
      | (go_at_call 82; with_reducible refine (HN2.out _).mono ?_; rintro e w' ⟨rfl, rfl⟩)
      | (go_at_call 82; with_reducible refine (HN3.out _).mono ?_; rintro e w' ⟨rfl, rfl⟩)
      | (go_at_call 82; with_reducible refine (HN4.out _).mono ?_; rintro e w' ⟨rfl, rfl⟩)
      | (go_at_call 84; refine (Arith.within _ _ _ _).mono ?_; rintro e w' ⟨rfl, rfl⟩)
      | (go_at_call 98; refine (impl_isChannel _ _).mono ?_; rintro e w' ⟨rfl, rfl⟩))
              rw [rounds_succ]
              go_wp2_with (first
      | (go_at_call 82; with_reducible refine (HN0.out _).mono ?_; rintro e w' ⟨rfl, rfl⟩)
      | (go_at_call 82; with_reducible refine (HN1.out _).mono ?_; rintro e w' ⟨rfl, rfl⟩)
      | (go_at_call 82; with_reducible refine (HN2.out _).mono ?_; rintro e w' ⟨rfl, rfl⟩)
      | (go_at_call 82; with_reducible refine (HN3.out _).mono ?_; rintro e w' ⟨rfl, rfl⟩)
      | (go_at_call 82; with_reducible refine (HN4.out _).mono ?_; rintro e w' ⟨rfl, rfl⟩)
      | (go_at_call 84; refine (Arith.within _ _ _ _).mono ?_; rintro e w' ⟨rfl, rfl⟩)
      | (go_at_call 98; refine (impl_isChannel _ _).mono ?_; rintro e w' ⟨rfl, rfl⟩))
              rw [rounds_succ]
              go_wp2_with (first
      | (go_at_call 82; with_reducible refine (HN0.out _).mono ?_; rintro e w' ⟨rfl, rfl⟩)
      | (go_at_call 82; with_reducible refine (HN1.out _).mono ?_; rintro e w' ⟨rfl, rfl⟩)
      | (go_at_call 82; with_reducible refine (HN2.out _).mono ?_; rintro e w' ⟨rfl, rfl⟩)
      | (go_at_call 82; with_reducible refine (HN3.out _).mono ?_; rintro e w' ⟨rfl, rfl⟩)
      | (go_at_call 82; with_reducible refine (HN4.out _).mono ?_; rintro e w' ⟨rfl, rfl⟩)
      | (go_at_call 84; refine (Arith.within _ _ _ _).mono ?_; rintro e w' ⟨rfl, rfl⟩)
      | (go_at_call 98; refine (impl_isChannel _ _).mono ?_; rintro e w' ⟨rfl, rfl⟩))
              rw [rounds_succ]
              go_wp2_with (first
      | (go_at_call 82; with_reducible refine (HN0.out _).mono ?_; rintro e w' ⟨rfl, rfl⟩)
      | (go_at_call 82; with_reducible refine (HN1.out _).mono ?_; rintro e w' ⟨rfl, rfl⟩)
      | (go_at_call 82; with_reducible refine (HN2.out _).mono ?_; rintro e w' ⟨rfl, rfl⟩)
      | (go_at_call 82; with_reducible refine (HN3.out _).mono ?_; rintro e w' ⟨rfl, rfl⟩)
      | (go_at_call 82; with_reducible refine (HN4.out _).mono ?_; rintro e w' ⟨rfl, rfl⟩)
      | (go_at_call 84; refine (Arith.within _ _ _ _).mono ?_; rintro e w' ⟨rfl, rfl⟩)
      | (go_at_call 98; refine (impl_isChannel _ _).mono ?_; rintro e w' ⟨rfl, rfl⟩))
              rw [rounds_succ]
              go_wp2_with (first
      | (go_at_call 82; with_reducible refine (HN0.out _).mono ?_; rintro e w' ⟨rfl, rfl⟩)
      | (go_at_call 82; with_reducible refine (HN1.out _).mono ?_; rintro e w' ⟨rfl, rfl⟩)
      | (go_at_call 82; with_reducible refine (HN2.out _).mono ?_; rintro e w' ⟨rfl, rfl⟩)
      | (go_at_call 82; with_reducible refine (HN3.out _).mono ?_; rintro e w' ⟨rfl, rfl⟩)
      | (go_at_call 82; with_reducible refine (HN4.out _).mono ?_; rintro e w' ⟨rfl, rfl⟩)
      | (go_at_call 84; refine (Arith.within _ _ _ _).mono ?_; rintro e w' ⟨rfl, rfl⟩)
      | (go_at_call 98; refine (impl_isChannel _ _).mono ?_; rintro e w' ⟨rfl, rfl⟩))
              rw [rounds_succ]
              go_wp2_with (first
      | (go_at_call 82; with_reducible refine (HN0.out _).mono ?_; rintro e w' ⟨rfl, rfl⟩)
      | (go_at_call 82; with_reducible refine (HN1.out _).mono ?_; rintro e w' ⟨rfl, rfl⟩)
      | (go_at_call 82; with_reducible refine (HN2.out _).mono ?_; rintro e w' ⟨rfl, rfl⟩)
      | (go_at_call 82; with_reducible refine (HN3.out _).mono ?_; rintro e w' ⟨rfl, rfl⟩)
      | (go_at_call 82; with_reducible refine (HN4.out _).mono ?_; rintro e w' ⟨rfl, rfl⟩)
      | (go_at_call 84; refine (Arith.within _ _ _ _).mono ?_; rintro e w' ⟨rfl, rfl⟩)
      | (go_at_call 98; refine (impl_isChannel _ _).mono ?_; rintro e w' ⟨rfl, rfl⟩))
              go_ret
              exact ⟨ret_bool en.out.symm, by repeat (first | with_reducible exact On.refl _ | with_reducible apply On.alloc | with_reducible apply On.drewN | with_reducible apply On.drew | with_reducible refine On.setCell ?_ (by (try simp) <;> omega) _)⟩
            | true =>
              cases t1 : inB v1 0 30 with
              | false =>
                have en := Lib.hid (show okT s0 s1 s2 s3 s4 v0 v1 v2 v3 = false by rw [EN.out, t0, t1]; rfl)
                clear EN
                go_enter Tryd.func64, Tryd.ntmps64
                go_wp2_with fail
                refine wp_loop_rounds 6 ?_
                rw [rounds_succ]
                go_wp2_with (first
      | (go_at_call 82; with_reducible refine (HN0.out _).mono ?_; rintro e w' ⟨rfl, rfl⟩)
      | (go_at_call 82; with_reducible refine (HN1.out _).mono ?_; rintro e w' ⟨rfl, rfl⟩)
      | (go_at_call 82; with_reducible refine (HN2.out _).mono ?_; rintro e w' ⟨rfl, rfl⟩)
      | (go_at_call 82; with_reducible refine (HN3.out _).mono ?_; rintro e w' ⟨rfl, rfl⟩)
      | (go_at_call 82; with_reducible refine (HN4.out _).mono ?_; rintro e w' ⟨rfl, rfl⟩)
      | (go_at_call 84; refine (Arith.within _ _ _ _).mono ?_; rintro e w' ⟨rfl, rfl⟩)
      | (go_at_call 98; refine (impl_isChannel _ _).mono ?_; rintro e w' ⟨rfl, rfl⟩))
                rw [rounds_succ]
                go_wp2_with (first
      | (go_at_call 82; with_reducible refine (HN0.out _).mono ?_; rintro e w' ⟨rfl, rfl⟩)
      | (go_at_call 82; with_reducible refine (HN1.out _).mono ?_; rintro e w' ⟨rfl, rfl⟩)
      | (go_at_call 82; with_reducible refine (HN2.out _).mono ?_; rintro e w' ⟨rfl, rfl⟩)
      | (go_at_call 82; with_reducible refine (HN3.out _).mono ?_; rintro e w' ⟨rfl, rfl⟩)
      | (go_at_call 82; with_reducible refine (HN4.out _).mono ?_; rintro e w' ⟨rfl, rfl⟩)
      | (go_at_call 84; refine (Arith.within _ _ _ _).mono ?_; rintro e w' ⟨rfl, rfl⟩)
      | (go_at_call 98; refine (impl_isChannel _ _).mono ?_; rintro e w' ⟨rfl, rfl⟩))
                rw [rounds_succ]
                go_wp2_with (first
      | (go_at_call 82; with_reducible refine (HN0.out _).mono ?_; rintro e w' ⟨rfl, rfl⟩)
      | (go_at_call 82; with_reducible refine (HN1.out _).mono ?_; rintro e w' ⟨rfl, rfl⟩)
      | (go_at_call 82; with_reducible refine (HN2.out _).mono ?_; rintro e w' ⟨rfl, rfl⟩)
      | (go_at_call 82; with_reducible refine (HN3.out _).mono ?_; rintro e w' ⟨rfl, rfl⟩)
      | (go_at_call 82; with_reducible refine (HN4.out _).mono ?_; rintro e w' ⟨rfl, rfl⟩)
      | (go_at_call 84; refine (Arith.within _ _ _ _).mono ?_; rintro e w' ⟨rfl, rfl⟩)
      | (go_at_call 98; refine (impl_isChannel _ _).mono ?_; rintro e w' ⟨rfl, rfl⟩))
                rw [rounds_succ]
                go_wp2_with (first
      | (go_at_call 82; with_reducible refine (HN0.out _).mono ?_; rintro e w' ⟨rfl, rfl⟩)
      | (go_at_call 82; with_reducible refine (HN1.out _).mono ?_; rintro e w' ⟨rfl, rfl⟩)
      | (go_at_call 82; with_reducible refine (HN2.out _).mono ?_; rintro e w' ⟨rfl, rfl⟩)
      | (go_at_call 82; with_reducible refine (HN3.out _).mono ?_; rintro e w' ⟨rfl, rfl⟩)
      | (go_at_call 82; with_reducible refine (HN4.out _).mono ?_; rintro e w' ⟨rfl, rfl⟩)
      | (go_at_call 84; refine (Arith.within _ _ _ _).mono ?_; rintro e w' ⟨rfl, rfl⟩)
      | (go_at_call 98; refine (impl_isChannel _ _).mono ?_; rintro e w' ⟨rfl, rfl⟩))
                rw [rounds_succ]
                go_wp2_with (first
      | (go_at_call 82; with_reducible refine (HN0.out _).mono ?_; rintro e w' ⟨rfl, rfl⟩)
      | (go_at_call 82; with_reducible refine (HN1.out _).mono ?_; rintro e w' ⟨rfl, rfl⟩)
      | (go_at_call 82; with_reducible refine (HN2.out _).mono ?_; rintro e w' ⟨rfl, rfl⟩)
      | (go_at_call 82; with_reducible refine (HN3.out _).mono ?_; rintro e w' ⟨rfl, rfl⟩)
      | (go_at_call 82; with_reducible refine (HN4.out _).mono ?_; rintro e w' ⟨rfl, rfl⟩)
      | (go_at_call 84; refine (Arith.within _ _ _ _).mono ?_; rintro e w' ⟨rfl, rfl⟩)
      | (go_at_call 98; refine (impl_isChannel _ _).mono ?_; rintro e w' ⟨rfl, rfl⟩))
                rw [rounds_succ]
                go_wp2_with (first
      | (go_at_call 82; with_reducible refine (HN0.out _).mono ?_; rintro e w' ⟨rfl, rfl⟩)
      | (go_at_call 82; with_reducible refine (HN1.out _).mono ?_; rintro e w' ⟨rfl, rfl⟩)
      | (go_at_call 82; with_reducible refine (HN2.out _).mono ?_; rintro e w' ⟨rfl, rfl⟩)
      | (go_at_call 82; with_reducible refine (HN3.out _).mono ?_; rintro e w' ⟨rfl, rfl⟩)
      | (go_at_call 82; with_reducible refine (HN4.out _).mono ?_; rintro e w' ⟨rfl, rfl⟩)
      | (go_at_call 84; refine (Arith.within _ _ _ _).mono ?_; rintro e w' ⟨rfl, rfl⟩)
      | (go_at_call 98; refine (impl_isChannel _ _).mono ?_; rintro e w' ⟨rfl, rfl⟩))
                go_ret
                exact ⟨ret_bool en.out.symm, by repeat (first | with_reducible exact On.refl _ | with_reducible apply On.alloc | with_reducible apply On.drewN | with_reducible apply On.drew | with_reducible refine On.setCell ?_ (by (try simp) <;> omega) _)⟩
              | true =>
                cases t2 : inB v2 1 3000 with
                | false =>
                  have en := Lib.hid (show okT s0 s1 s2 s3 s4 v0 v1 v2 v3 = false by rw [EN.out, t0, t1, t2]; rfl)
                  clear EN
                  go_enter Tryd.func64, Tryd.ntmps64
                  go_wp2_with fail
                  refine wp_loop_rounds 6 ?_
                  rw [rounds_succ]
                  go_wp2_with (first
      | (go_at_call 82; with_reducible refine (HN0.out _).mono ?_; rintro e w' ⟨rfl, rfl⟩)
      | (go_at_call 82; with_reducible refine (HN1.out _).mono ?_; rintro e w' ⟨rfl, rfl⟩)
      | (go_at_call 82; with_reducible refine (HN2.out _).mono ?_; rintro e w' ⟨rfl, rfl⟩)
      | (go_at_call 82; with_reducible refine (HN3.out _).mono ?_; rintro e w' ⟨rfl, rfl⟩)
      | (go_at_call 82; with_reducible refine (HN4.out _).mono ?_; rintro e w' ⟨rfl, rfl⟩)
      | (go_at_call 84; refine (Arith.within _ _ _ _).mono ?_; rintro e w' ⟨rfl, rfl⟩)
      | (go_at_call 98; refine (impl_isChannel _ _).mono ?_; rintro e w' ⟨rfl, rfl⟩))
                  rw [rounds_succ]
                  go_wp2_with (first
      | (go_at_call 82; with_reducible refine (HN0.out _).mono ?_; rintro e w' ⟨rfl, rfl⟩)
      | (go_at_call 82; with_reducible refine (HN1.out _).mono ?_; rintro e w' ⟨rfl, rfl⟩)
      | (go_at_call 82; with_reducible refine (HN2.out _).mono ?_; rintro e w' ⟨rfl, rfl⟩)
      | (go_at_call 82; with_reducible refine (HN3.out _).mono ?_; rintro e w' ⟨rfl, rfl⟩)
      | (go_at_call 82; with_reducible refine (HN4.out _).mono ?_; rintro e w' ⟨rfl, rfl⟩)
      | (go_at_call 84; refine (Arith.within _ _ _ _).mono ?_; rintro e w' ⟨rfl, rfl⟩)
      | (go_at_call 98; refine (impl_isChannel _ _).mono ?_; rintro e w' ⟨rfl, rfl⟩))
                  rw [rounds_succ]
                  go_wp2_with (first
      | (go_at_call 82; with_reducible refine (HN0.out _).mono ?_; rintro e w' ⟨rfl, rfl⟩)
      | (go_at_call 82; with_reducible refine (HN1.out _).mono ?_; rintro e w' ⟨rfl, rfl⟩)
      | (go_at_call 82; with_reducible refine (HN2.out _).mono ?_; rintro e w' ⟨rfl, rfl⟩)
      | (go_at_call 82; with_reducible refine (HN3.out _).mono ?_; rintro e w' ⟨rfl, rfl⟩)
      | (go_at_call 82; with_reducible refine (HN4.out _).mono ?_; rintro e w' ⟨rfl, rfl⟩)
      | (go_at_call 84; refine (Arith.within _ _ _ _).mono ?_; rintro e w' ⟨rfl, rfl⟩)
      | (go_at_call 98; refine (impl_isChannel _ _).mono ?_; rintro e w' ⟨rfl, rfl⟩))
                  rw [rounds_succ]
                  go_wp2_with (first
      | (go_at_call 82; with_reducible refine (HN0.out _).mono ?_; rintro e w' ⟨rfl, rfl⟩)
      | (go_at_call 82; with_reducible refine (HN1.out _).mono ?_; rintro e w' ⟨rfl, rfl⟩)
      | (go_at_call 82; with_reducible refine (HN2.out _).mono ?_; rintro e w' ⟨rfl, rfl⟩)
      | (go_at_call 82; with_reducible refine (HN3.out _).mono ?_; rintro e w' ⟨rfl, rfl⟩)
      | (go_at_call 82; with_reducible refine (HN4.out _).mono ?_; rintro e w' ⟨rfl, rfl⟩)
      | (go_at_call 84; refine (Arith.within _ _ _ _).mono ?_; rintro e w' ⟨rfl, rfl⟩)
      | (go_at_call 98; refine (impl_isChannel _ _).mono ?_; rintro e w' ⟨rfl, rfl⟩))
                  rw [rounds_succ]
                  go_wp2_with (first
      | (go_at_call 82; with_reducible refine (HN0.out _).mono ?_; rintro e w' ⟨rfl, rfl⟩)
      | (go_at_call 82; with_reducible refine (HN1.out _).mono ?_; rintro e w' ⟨rfl, rfl⟩)
      | (go_at_call 82; with_reducible refine (HN2.out _).mono ?_; rintro e w' ⟨rfl, rfl⟩)
      | (go_at_call 82; with_reducible refine (HN3.out _).mono ?_; rintro e w' ⟨rfl, rfl⟩)
      | (go_at_call 82; with_reducible refine (HN4.out _).mono ?_; rintro e w' ⟨rfl, rfl⟩)
      | (go_at_call 84; refine (Arith.within _ _ _ _).mono ?_; rintro e w' ⟨rfl, rfl⟩)
      | (go_at_call 98; refine (impl_isChannel _ _).mono ?_; rintro e w' ⟨rfl, rfl⟩))
                  rw [rounds_succ]
                  go_wp2_with (first
      | (go_at_call 82; with_reducible refine (HN0.out _).mono ?_; rintro e w' ⟨rfl, rfl⟩)
      | (go_at_call 82; with_reducible refine (HN1.out _).mono ?_; rintro e w' ⟨rfl, rfl⟩)
      | (go_at_call 82; with_reducible refine (HN2.out _).mono ?_; rintro e w' ⟨rfl, rfl⟩)
      | (go_at_call 82; with_reducible refine (HN3.out _).mono ?_; rintro e w' ⟨rfl, rfl⟩)
      | (go_at_call 82; with_reducible refine (HN4.out _).mono ?_; rintro e w' ⟨rfl, rfl⟩)
      | (go_at_call 84; refine (Arith.within _ _ _ _).mono ?_; rintro e w' ⟨rfl, rfl⟩)
      | (go_at_call 98; refine (impl_isChannel _ _).mono ?_; rintro e w' ⟨rfl, rfl⟩))
                  go_ret
                  exact ⟨ret_bool en.out.symm, by repeat (first | with_reducible exact On.refl _ | with_reducible apply On.alloc | with_reducible apply On.drewN | with_reducible apply On.drew | with_reducible refine On.setCell ?_ (by (try simp) <;> omega) _)⟩
                | true =>
                  cases t3 : inB v3 (-1) 999 with
                  | false =>
                    have en := Lib.hid (show okT s0 s1 s2 s3 s4 v0 v1 v2 v3 = false by rw [EN.out, t0, t1, t2, t3]; rfl)
                    clear EN
                    go_enter Tryd.func64, Tryd.ntmps64
                    go_wp2_with fail
                    refine wp_loop_rounds 6 ?_
                    rw [rounds_succ]
                    go_wp2_with (first
      | (go_at_call 82; with_reducible refine (HN0.out _).mono ?_; rintro e w' ⟨rfl, rfl⟩)
      | (go_at_call 82; with_reducible refine (HN1.out _).mono ?_; rintro e w' ⟨rfl, rfl⟩)
      | (go_at_call 82; with_reducible refine (HN2.out _).mono ?_; rintro e w' ⟨rfl, rfl⟩)
      | (go_at_call 82; with_reducible refine (HN3.out _).mono ?_; rintro e w' ⟨rfl, rfl⟩)
      | (go_at_call 82; with_reducible refine (HN4.out _).mono ?_; rintro e w' ⟨rfl, rfl⟩)
      | (go_at_call 84; refine (Arith.within _ _ _ _).mono ?_; rintro e w' ⟨rfl, rfl⟩)
      | (go_at_call 98; refine (impl_isChannel _ _).mono ?_; rintro e w' ⟨rfl, rfl⟩))
                    rw [rounds_succ]
                    go_wp2_with (first
      | (go_at_call 82; with_reducible refine (HN0.out _).mono ?_; rintro e w' ⟨rfl, rfl⟩)
      | (go_at_call 82; with_reducible refine (HN1.out _).mono ?_; rintro e w' ⟨rfl, rfl⟩)
      | (go_at_call 82; with_reducible refine (HN2.out _).mono ?_; rintro e w' ⟨rfl, rfl⟩)
      | (go_at_call 82; with_reducible refine (HN3.out _).mono ?_; rintro e w' ⟨rfl, rfl⟩)
      | (go_at_call 82; with_reducible refine (HN4.out _).mono ?_; rintro e w' ⟨rfl, rfl⟩)
      | (go_at_call 84; refine (Arith.within _ _ _ _).mono ?_; rintro e w' ⟨rfl, rfl⟩)
      | (go_at_call 98; refine (impl_isChannel _ _).mono ?_; rintro e w' ⟨rfl, rfl⟩))
                    rw [rounds_succ]
                    go_wp2_with (first
      | (go_at_call 82; with_reducible refine (HN0.out _).mono ?_; rintro e w' ⟨rfl, rfl⟩)
      | (go_at_call 82; with_reducible refine (HN1.out _).mono ?_; rintro e w' ⟨rfl, rfl⟩)
      | (go_at_call 82; with_reducible refine (HN2.out _).mono ?_; rintro e w' ⟨rfl, rfl⟩)
      | (go_at_call 82; with_reducible refine (HN3.out _).mono ?_; rintro e w' ⟨rfl, rfl⟩)
      | (go_at_call 82; with_reducible refine (HN4.out _).mono ?_; rintro e w' ⟨rfl, rfl⟩)
      | (go_at_call 84; refine (Arith.within _ _ _ _).mono ?_; rintro e w' ⟨rfl, rfl⟩)
      | (go_at_call 98; refine (impl_isChannel _ _).mono ?_; rintro e w' ⟨rfl, rfl⟩))
                    rw [rounds_succ]
                    go_wp2_with (first
      | (go_at_call 82; with_reducible refine (HN0.out _).mono ?_; rintro e w' ⟨rfl, rfl⟩)
      | (go_at_call 82; with_reducible refine (HN1.out _).mono ?_; rintro e w' ⟨rfl, rfl⟩)
      | (go_at_call 82; with_reducible refine (HN2.out _).mono ?_; rintro e w' ⟨rfl, rfl⟩)
      | (go_at_call 82; with_reducible refine (HN3.out _).mono ?_; rintro e w' ⟨rfl, rfl⟩)
      | (go_at_call 82; with_reducible refine (HN4.out _).mono ?_; rintro e w' ⟨rfl, rfl⟩)
      | (go_at_call 84; refine (Arith.within _ _ _ _).mono ?_; rintro e w' ⟨rfl, rfl⟩)
      | (go_at_call 98; refine (impl_isChannel _ _).mono ?_; rintro e w' ⟨rfl, rfl⟩))
                    rw [rounds_succ]
                    go_wp2_with (first
      | (go_at_call 82; with_reducible refine (HN0.out _).mono ?_; rintro e w' ⟨rfl, rfl⟩)
      | (go_at_call 82; with_reducible refine (HN1.out _).mono ?_; rintro e w' ⟨rfl, rfl⟩)
      | (go_at_call 82; with_reducible refine (HN2.out _).mono ?_; rintro e w' ⟨rfl, rfl⟩)
      | (go_at_call 82; with_reducible refine (HN3.out _).mono ?_; rintro e w' ⟨rfl, rfl⟩)
      | (go_at_call 82; with_reducible refine (HN4.out _).mono ?_; rintro e w' ⟨rfl, rfl⟩)
      | (go_at_call 84; refine (Arith.within _ _ _ _).mono ?_; rintro e w' ⟨rfl, rfl⟩)
      | (go_at_call 98; refine (impl_isChannel _ _).mono ?_; rintro e w' ⟨rfl, rfl⟩))
                    rw [rounds_succ]
                    go_wp2_with (first
      | (go_at_call 82; with_reducible refine (HN0.out _).mono ?_; rintro e w' ⟨rfl, rfl⟩)
      | (go_at_call 82; with_reducible refine (HN1.out _).mono ?_; rintro e w' ⟨rfl, rfl⟩)
      | (go_at_call 82; with_reducible refine (HN2.out _).mono ?_; rintro e w' ⟨rfl, rfl⟩)
      | (go_at_call 82; with_reducible refine (HN3.out _).mono ?_; rintro e w' ⟨rfl, rfl⟩)
      | (go_at_call 82; with_reducible refine (HN4.out _).mono ?_; rintro e w' ⟨rfl, rfl⟩)
      | (go_at_call 84; refine (Arith.within _ _ _ _).mono ?_; rintro e w' ⟨rfl, rfl⟩)
      | (go_at_call 98; refine (impl_isChannel _ _).mono ?_; rintro e w' ⟨rfl, rfl⟩))
                    go_ret
                    exact ⟨ret_bool en.out.symm, by repeat (first | with_reducible exact On.refl _ | with_reducible apply On.alloc | with_reducible apply On.drewN | with_reducible apply On.drew | with_reducible refine On.setCell ?_ (by (try simp) <;> omega) _)⟩
                  | true =>
                    have en := Lib.hid (show okT s0 s1 s2 s3 s4 v0 v1 v2 v3 = true by rw [EN.out, t0, t1, t2, t3]; rfl)
                    clear EN
                    go_enter Tryd.func64, Tryd.ntmps64
                    go_wp2_with fail
                    refine wp_loop_rounds 6 ?_
                    rw [rounds_succ]
                    go_wp2_with (first
      | (go_at_call 82; with_reducible refine (HN0.out _).mono ?_; rintro e w' ⟨rfl, rfl⟩)
      | (go_at_call 82; with_reducible refine (HN1.out _).mono ?_; rintro e w' ⟨rfl, rfl⟩)
      | (go_at_call 82; with_reducible refine (HN2.out _).mono ?_; rintro e w' ⟨rfl, rfl⟩)
      | (go_at_call 82; with_reducible refine (HN3.out _).mono ?_; rintro e w' ⟨rfl, rfl⟩)
      | (go_at_call 82; with_reducible refine (HN4.out _).mono ?_; rintro e w' ⟨rfl, rfl⟩)
      | (go_at_call 84; refine (Arith.within _ _ _ _).mono ?_; rintro e w' ⟨rfl, rfl⟩)
      | (go_at_call 98; refine (impl_isChannel _ _).mono ?_; rintro e w' ⟨rfl, rfl⟩))
                    rw [rounds_succ]
                    go_wp2_with (first
      | (go_at_call 82; with_reducible refine (HN0.out _).mono ?_; rintro e w' ⟨rfl, rfl⟩)
      | (go_at_call 82; with_reducible refine (HN1.out _).mono ?_; rintro e w' ⟨rfl, rfl⟩)
      | (go_at_call 82; with_reducible refine (HN2.out _).mono ?_; rintro e w' ⟨rfl, rfl⟩)
      | (go_at_call 82; with_reducible refine (HN3.out _).mono ?_; rintro e w' ⟨rfl, rfl⟩)
      | (go_at_call 82; with_reducible refine (HN4.out _).mono ?_; rintro e w' ⟨rfl, rfl⟩)
      | (go_at_call 84; refine (Arith.within _ _ _ _).mono ?_; rintro e w' ⟨rfl, rfl⟩)
      | (go_at_call 98; refine (impl_isChannel _ _).mono ?_; rintro e w' ⟨rfl, rfl⟩))
                    rw [rounds_succ]
                    go_wp2_with (first
      | (go_at_call 82; with_reducible refine (HN0.out _).mono ?_; rintro e w' ⟨rfl, rfl⟩)
      | (go_at_call 82; with_reducible refine (HN1.out _).mono ?_; rintro e w' ⟨rfl, rfl⟩)
      | (go_at_call 82; with_reducible refine (HN2.out _).mono ?_; rintro e w' ⟨rfl, rfl⟩)
      | (go_at_call 82; with_reducible refine (HN3.out _).mono ?_; rintro e w' ⟨rfl, rfl⟩)
      | (go_at_call 82; with_reducible refine (HN4.out _).mono ?_; rintro e w' ⟨rfl, rfl⟩)
      | (go_at_call 84; refine (Arith.within _ _ _ _).mono ?_; rintro e w' ⟨rfl, rfl⟩)
      | (go_at_call 98; refine (impl_isChannel _ _).mono ?_; rintro e w' ⟨rfl, rfl⟩))
                    rw [rounds_succ]
                    go_wp2_with (first
      | (go_at_call 82; with_reducible refine (HN0.out _).mono ?_; rintro e w' ⟨rfl, rfl⟩)
      | (go_at_call 82; with_reducible refine (HN1.out _).mono ?_; rintro e w' ⟨rfl, rfl⟩)
      | (go_at_call 82; with_reducible refine (HN2.out _).mono ?_; rintro e w' ⟨rfl, rfl⟩)
      | (go_at_call 82; with_reducible refine (HN3.out _).mono ?_; rintro e w' ⟨rfl, rfl⟩)
      | (go_at_call 82; with_reducible refine (HN4.out _).mono ?_; rintro e w' ⟨rfl, rfl⟩)
      | (go_at_call 84; refine (Arith.within _ _ _ _).mono ?_; rintro e w' ⟨rfl, rfl⟩)
      | (go_at_call 98; refine (impl_isChannel _ _).mono ?_; rintro e w' ⟨rfl, rfl⟩))
                    rw [rounds_succ]
                    go_wp2_with (first
      | (go_at_call 82; with_reducible refine (HN0.out _).mono ?_; rintro e w' ⟨rfl, rfl⟩)
      | (go_at_call 82; with_reducible refine (HN1.out _).mono ?_; rintro e w' ⟨rfl, rfl⟩)
      | (go_at_call 82; with_reducible refine (HN2.out _).mono ?_; rintro e w' ⟨rfl, rfl⟩)
      | (go_at_call 82; with_reducible refine (HN3.out _).mono ?_; rintro e w' ⟨rfl, rfl⟩)
      | (go_at_call 82; with_reducible refine (HN4.out _).mono ?_; rintro e w' ⟨rfl, rfl⟩)
      | (go_at_call 84; refine (Arith.within _ _ _ _).mono ?_; rintro e w' ⟨rfl, rfl⟩)
      | (go_at_call 98; refine (impl_isChannel _ _).mono ?_; rintro e w' ⟨rfl, rfl⟩))
                    rw [rounds_succ]
                    go_wp2_with (first
      | (go_at_call 82; with_reducible refine (HN0.out _).mono ?_; rintro e w' ⟨rfl, rfl⟩)
      | (go_at_call 82; with_reducible refine (HN1.out _).mono ?_; rintro e w' ⟨rfl, rfl⟩)
      | (go_at_call 82; with_reducible refine (HN2.out _).mono ?_; rintro e w' ⟨rfl, rfl⟩)
      | (go_at_call 82; with_reducible refine (HN3.out _).mono ?_; rintro e w' ⟨rfl, rfl⟩)
      | (go_at_call 82; with_reducible refine (HN4.out _).mono ?_; rintro e w' ⟨rfl, rfl⟩)
      | (go_at_call 84; refine (Arith.within _ _ _ _).mono ?_; rintro e w' ⟨rfl, rfl⟩)
      | (go_at_call 98; refine (impl_isChannel _ _).mono ?_; rintro e w' ⟨rfl, rfl⟩))
                    go_ret
                    exact ⟨ret_bool en.out.symm, by repeat (first | with_reducible exact On.refl _ | with_reducible apply On.alloc | with_reducible apply On.drewN | with_reducible apply On.drew | with_reducible refine On.setCell ?_ (by (try simp) <;> omega) _)⟩
set_option maxRecDepth 100000 in
set_option maxHeartbeats 8000000 in
theorem spec_text (g : Nat) (s0 s1 s2 s3 s4 : ByteArray) (v0 v1 v2 v3 : Int) (w : World) (q0 : s0.size ≤ 1048576) (q1 : s1.size ≤ 1048576) (q2 : s2.size ≤ 1048576) (q3 : s3.size ≤ 1048576) (q4 : s4.size ≤ 1048576) (hp : In w g s0 s1 s2 s3 s4 v0 v1 v2 v3) (k : okT s0 s1 s2 s3 s4 v0 v1 v2 v3 = true) :
    Calls Tryd.prog 63 #[.pointer (some ⟨g, 0, none⟩)] w fun e w' => e = .returned (.string (s0 ++ ⟨#[32]⟩ ++ s1 ++ ⟨#[32]⟩ ++ s2 ++ ⟨#[32]⟩ ++ s3 ++ ⟨#[32]⟩ ++ s4 ++ ⟨#[32]⟩ ++ listT [v0, v1, v2, v3])) ∧ On w w' := by
  obtain ⟨-, -, -, -, -, r0, r1, r2, r3⟩ := of_okT k
  have hf := fits4 r0 r1 r2 r3
  have hz := list_le r0 r1 r2 r3
  have hL := fun (b cap : Nat) (w' : World) h0 h1 h2 h3 => ListSpec.list_some b 0 cap [v0, v1, v2, v3] w' (by simp) hf (World.block_lt_of_cell? w' _ h0) (four h0 h1 h2 h3)
  rw [show (⟨(commas [v0, v1, v2, v3]).toArray⟩ : ByteArray) = listT [v0, v1, v2, v3] from (listT_yes hf (by simp)).symm] at hL
  generalize listT [v0, v1, v2, v3] = u at *
  have HL := Lib.hid (fun (b cap : Nat) (w' : World) h0 h1 h2 h3 => show Calls Tryd.prog 97 #[.slice (some ⟨b, 0, none⟩) 4 cap] w' (fun e w'' => e = .returned (.string u) ∧ On w' w'') from hL b cap w' h0 h1 h2 h3)
  have g0 : ¬ 9223372036854775807 < s0.size + 1 := by omega
  have g1 : ¬ 9223372036854775807 < s0.size + 1 + s1.size := by omega
  have g2 : ¬ 9223372036854775807 < s0.size + 1 + s1.size + 1 := by omega
  have g3 : ¬ 9223372036854775807 < s0.size + 1 + s1.size + 1 + s2.size := by omega
  have g4 : ¬ 9223372036854775807 < s0.size + 1 + s1.size + 1 + s2.size + 1 := by omega
  have g5 : ¬ 9223372036854775807 < s0.size + 1 + s1.size + 1 + s2.size + 1 + s3.size := by omega
  have g6 : ¬ 9223372036854775807 < s0.size + 1 + s1.size + 1 + s2.size + 1 + s3.size + 1 := by omega
  have g7 : ¬ 9223372036854775807 < s0.size + 1 + s1.size + 1 + s2.size + 1 + s3.size + 1 + s4.size := by omega
  have g8 : ¬ 9223372036854775807 < s0.size + 1 + s1.size + 1 + s2.size + 1 + s3.size + 1 + s4.size + 1 := by omega
  have g9 : ¬ 9223372036854775807 < s0.size + 1 + s1.size + 1 + s2.size + 1 + s3.size + 1 + s4.size + 1 + u.size := by omega
  have HP := Lib.hid hp
  have hg := hp.lt
  clear hL hf hz r0 r1 r2 r3 k q0 q1 q2 q3 q4 hp
  go_enter Tryd.func63, Tryd.ntmps63
  go_upto_region 1 with fail
  go_cut [2] (fun s wx => s = .string (s0 ++ ⟨#[32]⟩ ++ s1 ++ ⟨#[32]⟩ ++ s2 ++ ⟨#[32]⟩ ++ s3 ++ ⟨#[32]⟩ ++ s4 ++ ⟨#[32]⟩ ++ u) ∧ On w wx)
  case first =>
    go_region_held3 (fun w' => On w w' ∧ w'.cell? ⟨g, 0, none⟩ = some (.string s0) ∧ w'.cell? ⟨g, 1, none⟩ = some (.string s1) ∧ w'.cell? ⟨g, 2, none⟩ = some (.string s2) ∧ w'.cell? ⟨g, 3, none⟩ = some (.string s3) ∧ w'.cell? ⟨g, 4, none⟩ = some (.string s4) ∧ w'.cell? ⟨g, 5, none⟩ = some (.int .i64 v0) ∧ w'.cell? ⟨g, 6, none⟩ = some (.int .i64 v1) ∧ w'.cell? ⟨g, 7, none⟩ = some (.int .i64 v2) ∧ w'.cell? ⟨g, 8, none⟩ = some (.int .i64 v3))
      ((refine held HP.out ?_; repeat (first | with_reducible exact On.refl _ | with_reducible assumption | with_reducible apply On.alloc | with_reducible apply On.drew | (obtain ⟨hOW, _⟩ := ‹On w _ ∧ _›; exact hOW) | (refine On.trans ?_ (by assumption)))))
      (first
        | (go_at_call 97; refine (HL.out _ _ _ (by first | (go_simp; done) | (simp [go_sem]; done)) (by first | (go_simp; done) | (simp [go_sem]; done)) (by first | (go_simp; done) | (simp [go_sem]; done)) (by first | (go_simp; done) | (simp [go_sem]; done))).mono ?_; rintro e w' ⟨rfl, hcall⟩; (try (with_reducible replace hcall := On.undrew hcall)); obtain ⟨hc, hf⟩ := bcell hcall; have hgr := hcall.lts; (try (have hl1 := hgr _ (by assumption))); (try (have hl0 := On.last hcall)); have hsz := hcall.size; (try simp at hsz)))
    all_goals
      go_wp2_with fail
      go_meet
      refine ⟨rfl, ?_⟩
      repeat (first | with_reducible exact On.refl _ | with_reducible assumption | with_reducible apply On.alloc | with_reducible apply On.drew | (obtain ⟨hOW, _⟩ := ‹On w _ ∧ _›; exact hOW) | (refine On.trans ?_ (by assumption)))
  case rest =>
    obtain ⟨rfl, hO⟩ := hcut
    go_wp2_with fail
    go_ret
    exact ⟨rfl, hO⟩

theorem spec_SectorText (s0 s1 s2 s3 s4 : ByteArray) (v0 v1 v2 v3 : Int) (w : World) (q0 : s0.size ≤ 1048576) (q1 : s1.size ≤ 1048576) (q2 : s2.size ≤ 1048576) (q3 : s3.size ≤ 1048576) (q4 : s4.size ≤ 1048576) :
    Calls Tryd.prog 27 #[.agg #[.string s0, .string s1, .string s2, .string s3, .string s4, .int .i64 v0, .int .i64 v1, .int .i64 v2, .int .i64 v3]] w fun e w' => e = .returned (.string (secT s0 s1 s2 s3 s4 v0 v1 v2 v3)) ∧ On w w' := by
  have HV := Lib.hid (fun w' hp => spec_ok w.heap.size s0 s1 s2 s3 s4 v0 v1 v2 v3 w' q0 q1 q2 q3 q4 hp)
  cases k : okT s0 s1 s2 s3 s4 v0 v1 v2 v3 with
  | false =>
    rw [k] at HV
    rw [secT_no k]
    clear k
    go_enter Tryd.func27, Tryd.ntmps27
    go_wp2_with fail
    refine (HV.out _ ⟨by simp [go_sem], by simp [go_sem], by simp [go_sem], by simp [go_sem], by simp [go_sem], by simp [go_sem], by simp [go_sem], by simp [go_sem], by simp [go_sem]⟩).mono ?_
    rintro e w1 ⟨rfl, h1⟩
    go_wp2_with fail
    go_ret
    exact ⟨rfl, by repeat (first | with_reducible exact On.refl _ | with_reducible apply On.alloc | with_reducible apply On.drewN | with_reducible apply On.drew | with_reducible refine On.setCell ?_ (by (try simp) <;> omega) _ | refine On.trans ?_ h1)⟩
  | true =>
    rw [k] at HV
    rw [secT_yes k]
    have HT := Lib.hid (fun w' hp => spec_text w.heap.size s0 s1 s2 s3 s4 v0 v1 v2 v3 w' q0 q1 q2 q3 q4 hp k)
    generalize s0 ++ ⟨#[32]⟩ ++ s1 ++ ⟨#[32]⟩ ++ s2 ++ ⟨#[32]⟩ ++ s3 ++ ⟨#[32]⟩ ++ s4 ++ ⟨#[32]⟩ ++ listT [v0, v1, v2, v3] = u at *
    clear k
    go_enter Tryd.func27, Tryd.ntmps27
    go_wp2_with fail
    refine (HV.out _ ⟨by simp [go_sem], by simp [go_sem], by simp [go_sem], by simp [go_sem], by simp [go_sem], by simp [go_sem], by simp [go_sem], by simp [go_sem], by simp [go_sem]⟩).mono ?_
    rintro e w1 ⟨rfl, h1⟩
    have K1 : In w1 w.heap.size s0 s1 s2 s3 s4 v0 v1 v2 v3 := In.on ⟨by simp [go_sem], by simp [go_sem], by simp [go_sem], by simp [go_sem], by simp [go_sem], by simp [go_sem], by simp [go_sem], by simp [go_sem], by simp [go_sem]⟩ h1
    go_wp2_with fail
    refine (HT.out _ K1).mono ?_
    rintro e w2 ⟨rfl, h2⟩
    go_wp2_with fail
    go_ret
    exact ⟨rfl, by repeat (first | with_reducible exact On.refl _ | with_reducible apply On.alloc | with_reducible apply On.drewN | with_reducible apply On.drew | with_reducible refine On.setCell ?_ (by (try simp) <;> omega) _ | refine On.trans ?_ h2 | refine On.trans ?_ h1)⟩

set_option maxHeartbeats 4000000 in
theorem impl_SectorText (s0 s1 s2 s3 s4 : ByteArray) (v0 v1 v2 v3 : Int) (w : World) (q0 : s0.size ≤ 1048576) (q1 : s1.size ≤ 1048576) (q2 : s2.size ≤ 1048576) (q3 : s3.size ≤ 1048576) (q4 : s4.size ≤ 1048576) (ht : Lib.TabBelow Tryd.prog w.heap.size w "internal/strconv.uint64pow10" .u64 Lib.pow10Tab) :
    Calls Tryd.prog 29 #[.agg #[.string s0, .string s1, .string s2, .string s3, .string s4, .int .i64 v0, .int .i64 v1, .int .i64 v2, .int .i64 v3]] w fun e w' => e = .returned (.string (secT s0 s1 s2 s3 s4 v0 v1 v2 v3)) ∧ On w w' := by
  have HV := Lib.hid (fun w' => impl_ok s0 s1 s2 s3 s4 v0 v1 v2 v3 w' q0 q1 q2 q3 q4)
  cases k : okT s0 s1 s2 s3 s4 v0 v1 v2 v3 with
  | false =>
    rw [k] at HV
    rw [secT_no k]
    clear k
    go_enter Tryd.func29, Tryd.ntmps29
    go_wp2_with fail
    refine (HV.out _).mono ?_
    rintro e w1 ⟨rfl, h1⟩
    go_wp2_with fail
    go_ret
    exact ⟨rfl, by repeat (first | with_reducible exact On.refl _ | with_reducible apply On.alloc | with_reducible apply On.drewN | with_reducible apply On.drew | with_reducible refine On.setCell ?_ (by (try simp) <;> omega) _ | refine On.trans ?_ h1)⟩
  | true =>
    rw [k] at HV
    rw [secT_yes k]
    obtain ⟨-, -, -, -, -, r0, r1, r2, r3⟩ := of_okT k
    have hz := list_le r0 r1 r2 r3
    have hL := fun (w' : World) (ho : On w w') (b cap : Nat) h0 h1 h2 h3 => ListImpl.impl_listText _ [v0, v1, v2, v3] w' (by simp) (four_ints (b := b) (cap := cap) h0 h1 h2 h3) (fun w'' hb => ht w'' (On.trans ho hb))
    generalize listT [v0, v1, v2, v3] = u at *
    have HL := Lib.hid (fun (w' : World) (ho : On w w') (b cap : Nat) h0 h1 h2 h3 => show Calls Tryd.prog 65 #[.slice (some ⟨b, 0, none⟩) 4 cap] w' (fun e w'' => e = .returned (.string u) ∧ On w' w'') from hL w' ho b cap h0 h1 h2 h3)
    clear hL r0 r1 r2 r3 k ht
    go_enter Tryd.func29, Tryd.ntmps29
    go_wp2_with fail
    refine (HV.out _).mono ?_
    rintro e w1 ⟨rfl, h1⟩
    have K1 : In w1 w.heap.size s0 s1 s2 s3 s4 v0 v1 v2 v3 := In.on ⟨by simp [go_sem], by simp [go_sem], by simp [go_sem], by simp [go_sem], by simp [go_sem], by simp [go_sem], by simp [go_sem], by simp [go_sem], by simp [go_sem]⟩ h1
    have HK := Lib.hid K1
    have z1 := K1.lt
    obtain ⟨k0, k1, k2, k3, k4, k5, k6, k7, k8⟩ := K1
    have hO1 : On w w1 := by repeat (first | with_reducible exact On.refl _ | with_reducible apply On.alloc | with_reducible apply On.drewN | with_reducible apply On.drew | with_reducible refine On.setCell ?_ (by (try simp) <;> omega) _ | refine On.trans ?_ h1)
    clear h1
    go_wp2_with fail
    refine (HL.out _ (by repeat (first | with_reducible exact On.refl _ | with_reducible apply On.alloc | with_reducible apply On.drewN | with_reducible apply On.drew | with_reducible refine On.setCell ?_ (by (try simp) <;> omega) _ | refine On.trans ?_ hO1)) _ _ (by simp [go_sem]) (by simp [go_sem]) (by simp [go_sem]) (by simp [go_sem])).mono ?_
    rintro e w2 ⟨rfl, h2⟩
    have hO2 : On w1 w2 := by repeat (first | with_reducible exact On.refl _ | with_reducible apply On.alloc | with_reducible apply On.drewN | with_reducible apply On.drew | with_reducible refine On.setCell ?_ (by (try simp) <;> omega) _ | refine On.trans ?_ h2)
    have K2 := HK.out.on hO2
    clear h2 k0 k1 k2 k3 k4 k5 k6 k7 k8 z1
    have z2 := K2.lt
    obtain ⟨k0, k1, k2, k3, k4, k5, k6, k7, k8⟩ := K2
    go_wp2_with fail
    refine (Join.join6 s0 s1 s2 s3 s4 u _ _ _ (by simp [go_sem]) (by simp [go_sem]) (by simp [go_sem]) (by simp [go_sem]) (by simp [go_sem]) (by simp [go_sem]) (by omega) (by omega) (by omega) (by omega) (by omega) (by omega) (by omega)).mono ?_
    rintro e w3 ⟨rfl, h3⟩
    go_wp2_with fail
    go_ret
    exact ⟨rfl, by repeat (first | with_reducible exact On.refl _ | with_reducible apply On.alloc | with_reducible apply On.drewN | with_reducible apply On.drew | with_reducible refine On.setCell ?_ (by (try simp) <;> omega) _ | refine On.trans ?_ h3 | refine On.trans ?_ hO2 | refine On.trans ?_ hO1)⟩

end Go.Proofs.YtbmhhhhodlfcbaaDoor.Sec
