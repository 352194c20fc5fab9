
/-
  The mask of a channel, in the model and in the program: a mask of its own memory. No condition.
-/
import Derived.Test.YtjnkfpgglhgkaaaMskOwn
import Derived.Test.YtjnkfpgglhgkaaaPlain
import Derived.Test.YtjnkfpgglhgkaaaArith
namespace Go.Proofs.Ytjnkfpgglhgkaaa.Msk
open Go.RowKit
open Plain
open Ints (Ints Own)

/-- Whether a width and a stop are in range. -/
def chK (x s : Int) : Bool := inB x 2 100000 && inB s 0 120000
def chO (b : Bool) (x : Int) : List Int := if b = true then [0, x / 2, x] else []
def chL (b : Bool) (s : Int) : List Int := if b = true then [0, 0, s] else []
def chC (b : Bool) : Int := if b = true then 0 else 2
theorem ch_no (x s : Int) : chO false x = [] ∧ chL false s = [] ∧ chC false = 2 := ⟨rfl, rfl, rfl⟩
theorem ch_yes (x s : Int) : chO true x = [0, x / 2, x] ∧ chL true s = [0, 0, s] ∧ chC true = 0 := ⟨rfl, rfl, rfl⟩
theorem ch_len (b : Bool) (x s : Int) : (chO b x).length + (chL b s).length ≤ 1048576 := by cases b <;> simp [chO, chL]
theorem own3 {B : Nat} {w : World} {b : Nat} {x y z : Int} (hB : B ≤ b) (hlt : b < w.heap.size) (hf : ∀ i, w.frozen? ⟨b, i, none⟩ = false) (h0 : w.cell? ⟨b, 0, none⟩ = some (.int .i64 x)) (h1 : w.cell? ⟨b, 1, none⟩ = some (.int .i64 y)) (h2 : w.cell? ⟨b, 2, none⟩ = some (.int .i64 z)) : Own B w (.slice (some ⟨b, 0, none⟩) 3 3) [x, y, z] :=
  ⟨_, _, rfl, fun _ => ⟨b, 0, rfl, hB, hlt, fun i _ => hf _, fun i hi => by
    have hi : i < 3 := hi
    rcases (show i = 0 ∨ i = 1 ∨ i = 2 by omega) with rfl | rfl | rfl
    · exact h0
    · exact h1
    · exact h2⟩⟩
theorem nil0 (B : Nat) (w : World) : Own B w (.slice none 0 0) [] := Own.empty B w none 0
set_option maxHeartbeats 2000000 in
theorem spec_chan (x s : Int) (w : World) (h1 : 2 ≤ x) (h2 : x ≤ 100000) :
    Calls Try.prog 51 #[.int .i64 x, .int .i64 s] w fun e w' => ∃ a0 c0 a1 c1, e = .returned (.agg #[.slice a0 3 c0, .slice a1 3 c1]) ∧ OwnR w.heap.size w' a0 3 c0 a1 3 c1 [0, x / 2, x] [0, 0, s] ∧ On w w' := by
  have e1 : Int.tdiv x 2 = x / 2 := Int.tdiv_eq_ediv_of_nonneg (by omega)
  obtain ⟨y, hy⟩ : ∃ y, y = x / 2 := ⟨_, rfl⟩
  have y1 : 0 ≤ y ∧ y ≤ 100000 := by omega
  obtain ⟨y1, y2⟩ := y1
  rw [← hy] at e1 ⊢
  have e2 := hy.symm
  clear hy
  go_enter Try.func51, Try.ntmps51
  go_wp2_with fail
  refine bodyPost_ret (v := .agg #[.slice (some ⟨w.heap.size + 1, 0, none⟩) 3 3, .slice (some ⟨w.heap.size + 1 + 1, 0, none⟩) 3 3]) (by simp [results, Try.results51, go_sem]) rfl ⟨_, _, _, _, rfl, ⟨rfl, rfl, ?_, ?_, ?_⟩, ?_⟩
  · exact own3 (by omega) (by simp <;> omega) (by intro i; simp [go_sem]) (by simp [go_sem]) (by simp [go_sem]) (by simp [go_sem])
  · exact own3 (by omega) (by simp <;> omega) (by intro i; simp [go_sem]) (by simp [go_sem]) (by simp [go_sem]) (by simp [go_sem])
  · intro _ _ p q hp hq
    cases hp
    cases hq
    show w.heap.size + 1 ≠ w.heap.size + 1 + 1
    omega
  · repeat (first | with_reducible exact On.refl _ | apply On.alloc | apply On.drewN | refine On.setCell ?_ (by (try simp) <;> omega) _)
set_option maxHeartbeats 4000000 in
theorem spec_ChannelMask (x s : Int) (w : World) :
    Calls Try.prog 20 #[.int .i64 x, .int .i64 s] w fun e w' => ∃ a0 c0 a1 c1, e = .returned (.tuple #[.agg #[.slice a0 (chO (chK x s) x).length c0, .slice a1 (chL (chK x s) s).length c1], .int .i64 (chC (chK x s))]) ∧ OwnR w.heap.size w' a0 (chO (chK x s) x).length c0 a1 (chL (chK x s) s).length c1 (chO (chK x s) x) (chL (chK x s) s) ∧ On w w' := by
  cases h1 : inB x 2 100000 with
  | false =>
    have en := Lib.hid (show chK x s = false by unfold chK; rw [h1]; simp)
    rw [en.out]
    obtain ⟨o1, o2, o3⟩ := ch_no x s
    rw [o1, o2, o3]
    clear o1 o2 o3 en
    go_enter Try.func20, Try.ntmps20
    go_wp2_with (go_at_call 50; refine (Arith.l00In _ _ _ _).mono ?_; rintro e w' ⟨rfl, rfl⟩)
    refine bodyPost_ret (v := .tuple #[.agg #[.slice none 0 0, .slice none 0 0], .int .i64 2]) (by simp [results, Try.results20, go_sem]) rfl ⟨_, _, _, _, rfl, ⟨rfl, rfl, nil0 _ _, nil0 _ _, fun h _ => absurd h (by decide)⟩, ?_⟩
    repeat (first | with_reducible exact On.refl _ | apply On.alloc | apply On.drewN | refine On.setCell ?_ (by (try simp) <;> omega) _)
  | true =>
    cases h2 : inB s 0 120000 with
    | false =>
      have en := Lib.hid (show chK x s = false by unfold chK; rw [h1, h2]; simp)
      rw [en.out]
      obtain ⟨o1, o2, o3⟩ := ch_no x s
      rw [o1, o2, o3]
      clear o1 o2 o3 en
      go_enter Try.func20, Try.ntmps20
      go_wp2_with (go_at_call 50; refine (Arith.l00In _ _ _ _).mono ?_; rintro e w' ⟨rfl, rfl⟩)
      refine bodyPost_ret (v := .tuple #[.agg #[.slice none 0 0, .slice none 0 0], .int .i64 2]) (by simp [results, Try.results20, go_sem]) rfl ⟨_, _, _, _, rfl, ⟨rfl, rfl, nil0 _ _, nil0 _ _, fun h _ => absurd h (by decide)⟩, ?_⟩
      repeat (first | with_reducible exact On.refl _ | apply On.alloc | apply On.drewN | refine On.setCell ?_ (by (try simp) <;> omega) _)
    | true =>
      have en := Lib.hid (show chK x s = true by unfold chK; rw [h1, h2]; rfl)
      obtain ⟨x1, x2⟩ := of_inB h1
      rw [en.out]
      obtain ⟨o1, o2, o3⟩ := ch_yes x s
      rw [o1, o2, o3]
      clear o1 o2 o3 en
      have HC := Lib.hid (fun w => spec_chan x s w x1 x2)
      go_enter Try.func20, Try.ntmps20
      go_wp2_with (go_at_call 50; refine (Arith.l00In _ _ _ _).mono ?_; rintro e w' ⟨rfl, rfl⟩)
      refine (HC.out _).mono ?_
      rintro e w1 ⟨a0, c0, a1, c1, rfl, ho, h3⟩
      have h3' : On w w1 := by refine On.trans ?_ h3; repeat (first | with_reducible exact On.refl _ | apply On.alloc | apply On.drewN | refine On.setCell ?_ (by (try simp) <;> omega) _)
      have z1 : w.heap.size < w1.heap.size := by have := h3.size; simp at this; omega
      obtain ⟨hc3, hf3⟩ := bcell h3
      have HO := Lib.hid (ho.mono (B' := w.heap.size + 1) (by simp))
      have H3 := Lib.hid h3'
      clear ho h3 h3'
      go_wp2_with fail
      refine bodyPost_ret (v := .tuple #[.agg #[.slice a0 3 c0, .slice a1 3 c1], .int .i64 0]) (by simp [results, Try.results20, go_sem, hc3]) rfl ⟨_, _, _, _, rfl, ?_, ?_⟩
      · refine OwnR.mono (B := w.heap.size + 1) ?_ (by omega)
        obtain ⟨l0, l1, p0, p1, pd⟩ := HO.out
        exact ⟨l0, l1, by repeat (first | with_reducible exact p0 | refine Own.setCell ?_ (by (try simp) <;> omega) _), by repeat (first | with_reducible exact p1 | refine Own.setCell ?_ (by (try simp) <;> omega) _), pd⟩
      · repeat (first | with_reducible exact H3.out | refine On.setCell ?_ (by (try simp) <;> omega) _)
set_option maxHeartbeats 4000000 in
theorem impl_ChannelMask (x s : Int) (w : World) :
    Calls Try.prog 21 #[.int .i64 x, .int .i64 s] w fun e w' => ∃ a0 c0 a1 c1, e = .returned (.tuple #[.agg #[.slice a0 (chO (chK x s) x).length c0, .slice a1 (chL (chK x s) s).length c1], .int .i64 (chC (chK x s))]) ∧ OwnR w.heap.size w' a0 (chO (chK x s) x).length c0 a1 (chL (chK x s) s).length c1 (chO (chK x s) x) (chL (chK x s) s) ∧ On w w' := by
  cases h1 : inB x 2 100000 with
  | false =>
    have en := Lib.hid (show chK x s = false by unfold chK; rw [h1]; simp)
    rw [en.out]
    obtain ⟨o1, o2, o3⟩ := ch_no x s
    rw [o1, o2, o3]
    clear o1 o2 o3 en
    go_enter Try.func21, Try.ntmps21
    go_wp2_with (go_at_call 46; refine (Arith.within _ _ _ _).mono ?_; rintro e w' ⟨rfl, rfl⟩)
    refine bodyPost_ret (v := .tuple #[.agg #[.slice none 0 0, .slice none 0 0], .int .i64 2]) (by simp [results, Try.results21, go_sem]) rfl ⟨_, _, _, _, rfl, ⟨rfl, rfl, nil0 _ _, nil0 _ _, fun h _ => absurd h (by decide)⟩, ?_⟩
    repeat (first | with_reducible exact On.refl _ | apply On.alloc | apply On.drewN | refine On.setCell ?_ (by (try simp) <;> omega) _)
  | true =>
    cases h2 : inB s 0 120000 with
    | false =>
      have en := Lib.hid (show chK x s = false by unfold chK; rw [h1, h2]; simp)
      rw [en.out]
      obtain ⟨o1, o2, o3⟩ := ch_no x s
      rw [o1, o2, o3]
      clear o1 o2 o3 en
      go_enter Try.func21, Try.ntmps21
      go_wp2_with (go_at_call 46; refine (Arith.within _ _ _ _).mono ?_; rintro e w' ⟨rfl, rfl⟩)
      refine bodyPost_ret (v := .tuple #[.agg #[.slice none 0 0, .slice none 0 0], .int .i64 2]) (by simp [results, Try.results21, go_sem]) rfl ⟨_, _, _, _, rfl, ⟨rfl, rfl, nil0 _ _, nil0 _ _, fun h _ => absurd h (by decide)⟩, ?_⟩
      repeat (first | with_reducible exact On.refl _ | apply On.alloc | apply On.drewN | refine On.setCell ?_ (by (try simp) <;> omega) _)
    | true =>
      have en := Lib.hid (show chK x s = true by unfold chK; rw [h1, h2]; rfl)
      obtain ⟨x1, x2⟩ := of_inB h1
      rw [en.out]
      obtain ⟨o1, o2, o3⟩ := ch_yes x s
      rw [o1, o2, o3]
      clear o1 o2 o3 en
      have e1 : Int.tdiv x 2 = x / 2 := Int.tdiv_eq_ediv_of_nonneg (by omega)
      obtain ⟨y, hy⟩ : ∃ y, y = x / 2 := ⟨_, rfl⟩
      have y1 : 0 ≤ y ∧ y ≤ 100000 := by omega
      obtain ⟨y1, y2⟩ := y1
      rw [← hy] at e1 ⊢
      have e2 := hy.symm
      clear hy
      go_enter Try.func21, Try.ntmps21
      go_wp2_with (go_at_call 46; refine (Arith.within _ _ _ _).mono ?_; rintro e w' ⟨rfl, rfl⟩)
      refine bodyPost_ret (v := .tuple #[.agg #[.slice (some ⟨w.heap.size + 1, 0, none⟩) 3 3, .slice (some ⟨w.heap.size + 1 + 1, 0, none⟩) 3 3], .int .i64 0]) (by simp [results, Try.results21, go_sem]) rfl ⟨_, _, _, _, rfl, ⟨rfl, rfl, ?_, ?_, ?_⟩, ?_⟩
      · exact own3 (by omega) (by simp <;> omega) (by intro i; simp [go_sem]) (by simp [go_sem]) (by simp [go_sem]) (by simp [go_sem])
      · exact own3 (by omega) (by simp <;> omega) (by intro i; simp [go_sem]) (by simp [go_sem]) (by simp [go_sem]) (by simp [go_sem])
      · intro _ _ p q hp hq
        cases hp
        cases hq
        show w.heap.size + 1 ≠ w.heap.size + 1 + 1
        omega
      · repeat (first | with_reducible exact On.refl _ | apply On.alloc | apply On.drewN | refine On.setCell ?_ (by (try simp) <;> omega) _)
theorem spec_ChannelMaskI (x s : Int) (w : World) :
    Calls Try.prog 20 #[.int .i64 x, .int .i64 s] w fun e w' => ∃ a0 c0 a1 c1, e = .returned (.tuple #[.agg #[.slice a0 (chO (chK x s) x).length c0, .slice a1 (chL (chK x s) s).length c1], .int .i64 (chC (chK x s))]) ∧ Ints w' (.slice a0 (chO (chK x s) x).length c0) (chO (chK x s) x) ∧ Ints w' (.slice a1 (chL (chK x s) s).length c1) (chL (chK x s) s) ∧ On w w' :=
  (spec_ChannelMask x s w).mono fun _ _ ⟨a0, c0, a1, c1, he, ho, h⟩ => ⟨a0, c0, a1, c1, he, ho.ints0, ho.ints1, h⟩
end Go.Proofs.Ytjnkfpgglhgkaaa.Msk
