
/-
  The width of an antenna's main beam, in the model and in the program. Condition: at most 1048576 losses in each list and bytes in the name.
-/
import Derived.Test.YtknggnchldcghabAntFun
namespace Go.Proofs.Ytknggnchldcghab.Ant
open Go.RowKit
open Plain
open Ints (Ints Own)

def leadFrom (p : Nat → Bool) : Nat → Nat → Nat
  | 0, k => k
  | f + 1, k => if p (k + 1) = true then leadFrom p f (k + 1) else k
/-- How many of the first n numbers from 1 on have p, up to the first one that has not. -/
def lead (p : Nat → Bool) (n : Nat) : Nat := leadFrom p n 0
theorem leadFrom_at (p : Nat → Bool) (g : Nat) : ∀ (d k : Nat), (∀ j, k ≤ j → j < k + d → p (j + 1) = true) → (g = 0 ∨ p (k + d + 1) = false) → leadFrom p (d + g) k = k + d
  | 0, k, _, e => by
    rcases e with rfl | e
    · rfl
    · cases g with
      | zero => rfl
      | succ g => rw [Nat.zero_add, leadFrom, if_neg (by rw [Nat.add_zero] at e; rw [e]; decide)]; rfl
  | d + 1, k, h, e => by
    have h1 := leadFrom_at p g d (k + 1) (fun j hj hj2 => h j (by omega) (by omega)) (by rw [show k + 1 + d + 1 = k + (d + 1) + 1 by omega]; exact e)
    rw [show d + 1 + g = (d + g) + 1 by omega, leadFrom, if_pos (h k (Nat.le_refl _) (by omega)), h1]
    omega
theorem lead_at {p : Nat → Bool} {n k : Nat} (hk : k ≤ n) (h : ∀ j, j < k → p (j + 1) = true) (e : k = n ∨ p (k + 1) = false) : lead p n = k := by
  have := leadFrom_at p (n - k) k 0 (fun j _ hj => h j (by omega)) (by rcases e with e | e; exact .inl (by omega); exact .inr (by rw [Nat.zero_add]; exact e))
  rw [show k + (n - k) = n by omega, Nat.zero_add] at this
  exact this
/-- Whether the loss s * d degrees from the main direction is at most 3 dB. -/
def inBeam (hs : List Int) (s : Int) (d : Nat) : Bool := decide (across hs (s * (d : Int)) ≤ 3000)
def beamV (ok : Bool) (hs : List Int) : Int := if ok = true then 1 + ((lead (inBeam hs 1) 180 : Nat) : Int) + ((lead (inBeam hs (-1)) 179 : Nat) : Int) else 0
theorem inBeam_yes {hs : List Int} {s c : Int} {d : Nat} (hc : s * ((d : Int) + 1) = c) (h : across hs c ≤ 3000) : inBeam hs s (d + 1) = true := by unfold inBeam; rw [Int.natCast_add, show ((1 : Nat) : Int) = 1 from rfl, hc]; exact decide_eq_true h
theorem inBeam_no {hs : List Int} {s c : Int} {d : Nat} (hc : s * ((d : Int) + 1) = c) (h : ¬ across hs c ≤ 3000) : inBeam hs s (d + 1) = false := by unfold inBeam; rw [Int.natCast_add, show ((1 : Nat) : Int) = 1 from rfl, hc]; exact decide_eq_false h
theorem all_more {p : Nat → Bool} {k : Nat} (h : ∀ j, j < k → p (j + 1) = true) (e : p (k + 1) = true) : ∀ j, j < k + 1 → p (j + 1) = true := fun j hj => by
  by_cases g : j = k
  · rw [g]; exact e
  · exact h j (by omega)
theorem leadFrom_le (p : Nat → Bool) : ∀ (f k : Nat), leadFrom p f k ≤ k + f
  | 0, k => Nat.le_refl _
  | f + 1, k => by
    rw [leadFrom]
    have := leadFrom_le p f (k + 1)
    split <;> omega
theorem lead_le (p : Nat → Bool) (n : Nat) : lead p n ≤ n := by have := leadFrom_le p n 0; unfold lead; omega
set_option maxHeartbeats 1000000 in
theorem impl_beamSide (x0 : ByteArray) (x1 : Int) (v2 v3 : Value) (z2 : List Int) (s : Int) (n : Nat) (w : World) (hs : s = 1 ∨ s = -1) (hn : n ≤ 180) (hl : lossB z2 36 0 = true) (hv : ∃ a n c, v3 = .slice a n c) (h2 : Ints w v2 z2) :
    Calls Try.prog 77 #[.agg #[.string x0, .int .i64 x1, v2, v3], .int .i64 s, .int .i64 n] w fun e w' => e = .returned (.int .i64 (lead (inBeam z2 s) n : Nat)) ∧ On w w' := by
  have HH := Lib.hid (fun w' angle (hw : On w w') => impl_horizontal x0 x1 v2 v3 z2 angle w' hl hv (h2.below hw))
  obtain ⟨a3, m3, cap3, rfl⟩ := hv
  obtain ⟨a2, cap2, rfl, -⟩ := h2
  clear hl
  go_enter Try.func77, Try.ntmps77
  go_wp2_with fail
  go_loopw [7] (fun i wr => ∃ k : Nat, k ≤ n ∧ i = .int .i64 ((k : Int) + 1) ∧ (∀ j, j < k → inBeam z2 s (j + 1) = true) ∧ In wr w.heap.size x0 x1 (.slice a2 z2.length cap2) (.slice a3 m3 cap3) ∧ On w wr) (fun i _ => (n + 1 - intOf i).toNat)
  case atStart => exact ⟨0, Nat.zero_le _, rfl, fun j h => by omega, ⟨by simp [go_sem], by simp [go_sem], by simp [go_sem], by simp [go_sem]⟩, by repeat (first | with_reducible exact On.refl _ | apply On.alloc)⟩
  case round =>
    obtain ⟨k, hk, rfl, hall, hp, hw⟩ := hrel
    have HA := Lib.hid hall
    have HP := Lib.hid hp
    have HW := Lib.hid hw
    obtain ⟨p0, p1, p2, p3⟩ := hp
    clear hall hw
    by_cases hlt : k < n
    · have hlti : (k : Int) + 1 ≤ (n : Int) := by omega
      obtain ⟨c, hc⟩ : ∃ c, c = s * ((k : Int) + 1) := ⟨_, rfl⟩
      have cb : -180 ≤ c ∧ c ≤ 180 := by rcases hs with rfl | rfl <;> omega
      have wI : IntKind.i64.wrap (s * ((k : Int) + 1)) = c := by rw [← hc]; exact IntWalk.i64_in _ (by omega)
      have wK : IntKind.i64.wrap ((k : Int) + 1 + 1) = (k : Int) + 1 + 1 := IntWalk.i64_in _ (by omega)
      have wM : IntKind.i64.wrap ((k : Int) + 1 - 1) = (k : Int) := by rw [show (k : Int) + 1 - 1 = k by omega]; exact IntWalk.i64_in _ (by omega)
      have HC := Lib.hid hc
      clear hc cb
      by_cases hz : across z2 c ≤ 3000
      · have HN := Lib.hid (all_more HA.out (inBeam_yes HC.out.symm hz))
        have hz' : ¬ 3000 < across z2 c := by omega
        have HH2 := Lib.hid (HH.out wr c HW.out)
        generalize across z2 c = y at *
        go_wp2_with fail
        refine HH2.out.mono ?_
        rintro e w1 ⟨rfl, h1⟩
        have HP1 := Lib.hid (HP.out.on h1)
        have HW1 := Lib.hid (On.trans HW.out h1)
        go_wp2_with fail
        go_roundw
        case rel => exact ⟨k + 1, by omega, by go_num, HN.out, HP1.out, HW1.out⟩
        case measure => simp [intOf]; omega
      · have en := Lib.hid (lead_at hk HA.out (.inr (inBeam_no HC.out.symm hz)))
        have hz' : 3000 < across z2 c := by omega
        have HH2 := Lib.hid (HH.out wr c HW.out)
        generalize across z2 c = y at *
        go_wp2_with fail
        refine HH2.out.mono ?_
        rintro e w1 ⟨rfl, h1⟩
        have HW1 := Lib.hid (On.trans HW.out h1)
        go_wp2_with fail
        go_ret
        exact ⟨ret_int (by rw [en.out]), HW1.out⟩
    · obtain rfl : k = n := by omega
      have en := Lib.hid (lead_at hk HA.out (.inl rfl))
      go_wp2_with fail
      go_ret
      exact ⟨ret_int (by rw [en.out]), HW.out⟩
set_option maxHeartbeats 2000000 in
theorem spec_BeamWidth (x0 : ByteArray) (x1 : Int) (v2 v3 : Value) (z2 z3 : List Int) (w : World) (q0 : x0.size ≤ 1048576) (q2 : z2.length ≤ 1048576) (q3 : z3.length ≤ 1048576) (h2 : Ints w v2 z2) (h3 : Ints w v3 z3) :
    Calls Try.prog 37 #[.agg #[.string x0, .int .i64 x1, v2, v3]] w fun r w' => r = .returned (.tuple #[.int .i64 (beamV (okA x0 x1 z2 z3) z2), .int .i64 (codeV (okA x0 x1 z2 z3))]) ∧ On w w' := by
  have HO := Lib.hid (fun w' (hb : On w w') hp => spec_ok w.heap.size x0 x1 v2 v3 z2 z3 w' q0 q2 q3 hp (h2.below hb) (h3.below hb))
  have h2' := h2
  obtain ⟨a2, cap2, rfl, -⟩ := h2
  obtain ⟨a3, cap3, rfl, -⟩ := h3
  cases hok : okA x0 x1 z2 z3 with
  | false =>
    rw [hok] at HO
    have V := Lib.hid (show beamV false z2 = 0 from rfl)
    have C := Lib.hid (show codeV false = 1 from rfl)
    clear h2'
    go_enter Try.func37, Try.ntmps37
    go_wp2_with fail
    refine (HO.out _ (by repeat (first | with_reducible exact On.refl _ | apply On.alloc)) ⟨by simp [go_sem], by simp [go_sem], by simp [go_sem], by simp [go_sem]⟩).mono ?_
    rintro r w1 ⟨rfl, rfl⟩
    go_wp2_with fail
    go_ret2
    exact ⟨ret_ii V.out.symm C.out.symm, (by repeat (first | with_reducible exact On.refl _ | apply On.alloc))⟩
  | true =>
    rw [hok] at HO
    have hl := (of_okA hok).2.2.1
    have V := Lib.hid (show beamV true z2 = 1 + ((lead (inBeam z2 1) 180 : Nat) : Int) + ((lead (inBeam z2 (-1)) 179 : Nat) : Int) from rfl)
    have C := Lib.hid (show codeV true = 0 from rfl)
    have HX := Lib.hid (fun w' angle (hb : On w w') hp => spec_across w.heap.size x0 x1 (.slice a2 z2.length cap2) (.slice a3 z3.length cap3) z2 angle w' hl hp (h2'.below hb))
    clear h2' hl
    go_enter Try.func37, Try.ntmps37
    go_wp2_with fail
    refine (HO.out _ (by repeat (first | with_reducible exact On.refl _ | apply On.alloc)) ⟨by simp [go_sem], by simp [go_sem], by simp [go_sem], by simp [go_sem]⟩).mono ?_
    rintro r w1 ⟨rfl, rfl⟩
    go_wp2_with fail
    go_loopw [4, 5] (fun m i wr => ∃ k : Nat, k ≤ 180 ∧ m = .int .i64 (1 + (k : Int)) ∧ i = .int .i64 ((k : Int) + 1) ∧ (∀ j, j < k → inBeam z2 1 (j + 1) = true) ∧ In wr w.heap.size x0 x1 (.slice a2 z2.length cap2) (.slice a3 z3.length cap3) ∧ On w wr) (fun _ i _ => (181 - intOf i).toNat)
    case atStart => exact ⟨0, Nat.zero_le _, by go_num, by go_num, fun j h => by omega, ⟨by simp [go_sem], by simp [go_sem], by simp [go_sem], by simp [go_sem]⟩, by repeat (first | with_reducible exact On.refl _ | apply On.alloc)⟩
    case round =>
      obtain ⟨k, hk, rfl, rfl, hall, hp, hw⟩ := hrel
      have HA := Lib.hid hall
      have HP := Lib.hid hp
      have HW := Lib.hid hw
      obtain ⟨p0, p1, p2, p3⟩ := hp
      clear hall hw
      by_cases hlt : k < 180
      · have hlti : (k : Int) + 1 ≤ 180 := by omega
        have wK : IntKind.i64.wrap ((k : Int) + 1 + 1) = (k : Int) + 1 + 1 := IntWalk.i64_in _ (by omega)
        have wM : IntKind.i64.wrap (1 + (k : Int) + 1) = 1 + (k : Int) + 1 := IntWalk.i64_in _ (by omega)
        by_cases hz : across z2 ((k : Int) + 1) ≤ 3000
        · have HN := Lib.hid (all_more HA.out (inBeam_yes (Int.one_mul _) hz))
          have HX3 := Lib.hid (HX.out wr ((k : Int) + 1) HW.out HP.out)
          generalize across z2 ((k : Int) + 1) = y at *
          go_wp2_with fail
          refine HX3.out.mono ?_
          rintro e w1 ⟨rfl, h1⟩
          have HP1 := Lib.hid (HP.out.on h1)
          have HW1 := Lib.hid (On.trans HW.out h1)
          go_wp2_with fail
          go_roundw
          case rel => exact ⟨k + 1, by omega, by go_num, by go_num, HN.out, HP1.out, HW1.out⟩
          case measure => simp [intOf]; omega
        · have en1 := Lib.hid (lead_at hk HA.out (.inr (inBeam_no (Int.one_mul _) hz)))
          have HX3 := Lib.hid (HX.out wr ((k : Int) + 1) HW.out HP.out)
          generalize across z2 ((k : Int) + 1) = y at *
          go_wp2_with fail
          refine HX3.out.mono ?_
          rintro e w1 ⟨rfl, h1⟩
          have HP2 := Lib.hid (HP.out.on h1)
          have HW2 := Lib.hid (On.trans HW.out h1)
          obtain ⟨k1, hk1⟩ : ∃ k1, k1 = k := ⟨_, rfl⟩
          rw [← hk1] at en1
          clear hlti wK h1 HX3 wM HP HW HA p0 p1 p2 p3
          obtain ⟨p0, p1, p2, p3⟩ := HP2.out
          go_wp2_with fail
          go_loopw [4, 6] (fun m i wr => ∃ k : Nat, k ≤ 179 ∧ m = .int .i64 (1 + (k1 : Int) + (k : Int)) ∧ i = .int .i64 (-1 - (k : Int)) ∧ (∀ j, j < k → inBeam z2 (-1) (j + 1) = true) ∧ In wr w.heap.size x0 x1 (.slice a2 z2.length cap2) (.slice a3 z3.length cap3) ∧ On w wr) (fun _ i _ => (180 + intOf i).toNat)
          case atStart => exact ⟨0, Nat.zero_le _, by go_num, by go_num, fun j h => by omega, HP2.out, HW2.out⟩
          case round =>
            obtain ⟨k, hk, rfl, rfl, hall, hp, hw⟩ := hrel
            have HA := Lib.hid hall
            have HP := Lib.hid hp
            have HW := Lib.hid hw
            obtain ⟨p0, p1, p2, p3⟩ := hp
            clear hall hw
            by_cases hlt : k < 179
            · have hlti : -179 ≤ -1 - (k : Int) := by omega
              obtain ⟨c, hc⟩ : ∃ c, c = -1 - (k : Int) := ⟨_, rfl⟩
              have hc' : (-1 : Int) * ((k : Int) + 1) = c := by omega
              have wK : IntKind.i64.wrap (-1 - (k : Int) - 1) = -1 - (k : Int) - 1 := IntWalk.i64_in _ (by omega)
              have wM : IntKind.i64.wrap (1 + (k1 : Int) + (k : Int) + 1) = 1 + (k1 : Int) + (k : Int) + 1 := IntWalk.i64_in _ (by omega)
              have HC := Lib.hid hc'
              by_cases hz : across z2 c ≤ 3000
              · have HN := Lib.hid (all_more HA.out (inBeam_yes HC.out hz))
                have HX2 := HX.out wr c HW.out HP.out
                rw [hc] at HX2
                have hz2 := hz
                rw [hc] at hz2
                have HX3 := Lib.hid HX2
                clear HX2 hz hc hc' 
                generalize across z2 (-1 - (k : Int)) = y at *
                go_wp2_with fail
                refine HX3.out.mono ?_
                rintro e w1 ⟨rfl, h1⟩
                have HP1 := Lib.hid (HP.out.on h1)
                have HW1 := Lib.hid (On.trans HW.out h1)
                go_wp2_with fail
                go_roundw
                case rel => exact ⟨k + 1, by omega, by go_num, by go_num, HN.out, HP1.out, HW1.out⟩
                case measure => simp [intOf]; omega
              · have en := Lib.hid (lead_at hk HA.out (.inr (inBeam_no HC.out hz)))
                have HX2 := HX.out wr c HW.out HP.out
                rw [hc] at HX2
                have hz2 := hz
                rw [hc] at hz2
                have HX3 := Lib.hid HX2
                clear HX2 hz hc hc'
                generalize across z2 (-1 - (k : Int)) = y at *
                go_wp2_with fail
                refine HX3.out.mono ?_
                rintro e w1 ⟨rfl, h1⟩
                have HW1 := Lib.hid (On.trans HW.out h1)
                go_wp2_with fail
                go_ret2
                exact ⟨ret_ii (by rw [V.out, en1.out, en.out] <;> omega) C.out.symm, HW1.out⟩
            · obtain rfl : k = 179 := by omega
              have en := Lib.hid (lead_at hk HA.out (.inl rfl))
              go_wp2_with fail
              go_ret2
              exact ⟨ret_ii (by rw [V.out, en1.out, en.out] <;> omega) C.out.symm, HW.out⟩
      · have hk180 : k = 180 := by omega
        have hno : ¬ (k : Int) + 1 ≤ 180 := by omega
        have en1 := Lib.hid (lead_at hk HA.out (.inl hk180))
        have HP2 := HP
        have HW2 := HW
        clear HA HP HW hk180
        obtain ⟨k1, hk1⟩ : ∃ k1, k1 = k := ⟨_, rfl⟩
        rw [← hk1] at en1
        go_wp2_with fail
        go_loopw [4, 6] (fun m i wr => ∃ k : Nat, k ≤ 179 ∧ m = .int .i64 (1 + (k1 : Int) + (k : Int)) ∧ i = .int .i64 (-1 - (k : Int)) ∧ (∀ j, j < k → inBeam z2 (-1) (j + 1) = true) ∧ In wr w.heap.size x0 x1 (.slice a2 z2.length cap2) (.slice a3 z3.length cap3) ∧ On w wr) (fun _ i _ => (180 + intOf i).toNat)
        case atStart => exact ⟨0, Nat.zero_le _, by go_num, by go_num, fun j h => by omega, HP2.out, HW2.out⟩
        case round =>
          obtain ⟨k, hk, rfl, rfl, hall, hp, hw⟩ := hrel
          have HA := Lib.hid hall
          have HP := Lib.hid hp
          have HW := Lib.hid hw
          obtain ⟨p0, p1, p2, p3⟩ := hp
          clear hall hw
          by_cases hlt : k < 179
          · have hlti : -179 ≤ -1 - (k : Int) := by omega
            obtain ⟨c, hc⟩ : ∃ c, c = -1 - (k : Int) := ⟨_, rfl⟩
            have hc' : (-1 : Int) * ((k : Int) + 1) = c := by omega
            have wK : IntKind.i64.wrap (-1 - (k : Int) - 1) = -1 - (k : Int) - 1 := IntWalk.i64_in _ (by omega)
            have wM : IntKind.i64.wrap (1 + (k1 : Int) + (k : Int) + 1) = 1 + (k1 : Int) + (k : Int) + 1 := IntWalk.i64_in _ (by omega)
            have HC := Lib.hid hc'
            by_cases hz : across z2 c ≤ 3000
            · have HN := Lib.hid (all_more HA.out (inBeam_yes HC.out hz))
              have HX2 := HX.out wr c HW.out HP.out
              rw [hc] at HX2
              have hz2 := hz
              rw [hc] at hz2
              have HX3 := Lib.hid HX2
              clear HX2 hz hc hc' 
              generalize across z2 (-1 - (k : Int)) = y at *
              go_wp2_with fail
              refine HX3.out.mono ?_
              rintro e w1 ⟨rfl, h1⟩
              have HP1 := Lib.hid (HP.out.on h1)
              have HW1 := Lib.hid (On.trans HW.out h1)
              go_wp2_with fail
              go_roundw
              case rel => exact ⟨k + 1, by omega, by go_num, by go_num, HN.out, HP1.out, HW1.out⟩
              case measure => simp [intOf]; omega
            · have en := Lib.hid (lead_at hk HA.out (.inr (inBeam_no HC.out hz)))
              have HX2 := HX.out wr c HW.out HP.out
              rw [hc] at HX2
              have hz2 := hz
              rw [hc] at hz2
              have HX3 := Lib.hid HX2
              clear HX2 hz hc hc'
              generalize across z2 (-1 - (k : Int)) = y at *
              go_wp2_with fail
              refine HX3.out.mono ?_
              rintro e w1 ⟨rfl, h1⟩
              have HW1 := Lib.hid (On.trans HW.out h1)
              go_wp2_with fail
              go_ret2
              exact ⟨ret_ii (by rw [V.out, en1.out, en.out] <;> omega) C.out.symm, HW1.out⟩
          · obtain rfl : k = 179 := by omega
            have en := Lib.hid (lead_at hk HA.out (.inl rfl))
            go_wp2_with fail
            go_ret2
            exact ⟨ret_ii (by rw [V.out, en1.out, en.out] <;> omega) C.out.symm, HW.out⟩
set_option maxHeartbeats 2000000 in
theorem impl_BeamWidth (x0 : ByteArray) (x1 : Int) (v2 v3 : Value) (z2 z3 : List Int) (w : World) (q0 : x0.size ≤ 1048576) (q2 : z2.length ≤ 1048576) (q3 : z3.length ≤ 1048576) (h2 : Ints w v2 z2) (h3 : Ints w v3 z3) :
    Calls Try.prog 38 #[.agg #[.string x0, .int .i64 x1, v2, v3]] w fun r w' => r = .returned (.tuple #[.int .i64 (beamV (okA x0 x1 z2 z3) z2), .int .i64 (codeV (okA x0 x1 z2 z3))]) ∧ On w w' := by
  have HO := Lib.hid (fun w' (hb : On w w') => impl_valid x0 x1 v2 v3 z2 z3 w' q0 q2 q3 (h2.below hb) (h3.below hb))
  have h2' := h2
  obtain ⟨a2, cap2, rfl, -⟩ := h2
  obtain ⟨a3, cap3, rfl, -⟩ := h3
  cases hok : okA x0 x1 z2 z3 with
  | false =>
    rw [hok] at HO
    have V := Lib.hid (show beamV false z2 = 0 from rfl)
    have C := Lib.hid (show codeV false = 1 from rfl)
    clear h2'
    go_enter Try.func38, Try.ntmps38
    go_wp2_with fail
    refine (HO.out _ (by repeat (first | with_reducible exact On.refl _ | apply On.alloc))).mono ?_
    rintro r w1 ⟨rfl, h1⟩
    have P1 : In w1 w.heap.size x0 x1 (.slice a2 z2.length cap2) (.slice a3 z3.length cap3) := In.on ⟨by simp [go_sem], by simp [go_sem], by simp [go_sem], by simp [go_sem]⟩ h1
    have HO1 := Lib.hid (On.trans (On.alloc (On.refl w) _) h1)
    obtain ⟨p0, p1, p2, p3⟩ := P1
    clear h1
    go_wp2_with fail
    go_ret2
    exact ⟨ret_ii V.out.symm C.out.symm, HO1.out⟩
  | true =>
    rw [hok] at HO
    have hl := (of_okA hok).2.2.1
    have V := Lib.hid (show beamV true z2 = 1 + ((lead (inBeam z2 1) 180 : Nat) : Int) + ((lead (inBeam z2 (-1)) 179 : Nat) : Int) from rfl)
    have C := Lib.hid (show codeV true = 0 from rfl)
    have B1 := Lib.hid (fun w' (hb : On w w') => impl_beamSide x0 x1 (.slice a2 z2.length cap2) (.slice a3 z3.length cap3) z2 1 180 w' (.inl rfl) (by omega) hl ⟨_, _, _, rfl⟩ (h2'.below hb))
    have B2 := Lib.hid (fun w' (hb : On w w') => impl_beamSide x0 x1 (.slice a2 z2.length cap2) (.slice a3 z3.length cap3) z2 (-1) 179 w' (.inr rfl) (by omega) hl ⟨_, _, _, rfl⟩ (h2'.below hb))
    rw [show (((180 : Nat) : Int)) = 180 from rfl] at B1
    rw [show (((179 : Nat) : Int)) = 179 from rfl] at B2
    have l1 : lead (inBeam z2 1) 180 ≤ 180 := lead_le _ _
    have l2 : lead (inBeam z2 (-1)) 179 ≤ 179 := lead_le _ _
    generalize lead (inBeam z2 1) 180 = p at *
    generalize lead (inBeam z2 (-1)) 179 = q at *
    have w1' : IntKind.i64.wrap (1 + (p : Int)) = 1 + (p : Int) := IntWalk.i64_in _ (by omega)
    have w2' : IntKind.i64.wrap (1 + (p : Int) + (q : Int)) = 1 + (p : Int) + (q : Int) := IntWalk.i64_in _ (by omega)
    clear h2' hl
    go_enter Try.func38, Try.ntmps38
    go_wp2_with fail
    refine (HO.out _ (by repeat (first | with_reducible exact On.refl _ | apply On.alloc))).mono ?_
    rintro r w1 ⟨rfl, h1⟩
    have P1 : In w1 w.heap.size x0 x1 (.slice a2 z2.length cap2) (.slice a3 z3.length cap3) := In.on ⟨by simp [go_sem], by simp [go_sem], by simp [go_sem], by simp [go_sem]⟩ h1
    have HO1 := Lib.hid (On.trans (On.alloc (On.refl w) _) h1)
    have HP1 := Lib.hid P1
    obtain ⟨p0, p1, p2, p3⟩ := P1
    have z1 : w.heap.size < w1.heap.size := World.block_lt_of_cell? w1 _ p0
    clear h1
    go_wp2_with fail
    refine wp_region_onh (by kernel_rfl) (by kernel_rfl) ?_
    repeat (refine rest_step (fun K hK => ?_); go_simp; first | (refine hK _ ?_; clear hK K) | (apply Exists.intro; refine ⟨fun v1 hv1 => ?_, hK _ ?_⟩; (first | with_reducible exact rfl | with_reducible exact ⟨rfl, rfl⟩ | with_reducible exact Calls.on hv1 (B1.out _ (HO1.out.trans hv1)) | with_reducible exact Calls.on hv1 (B2.out _ (HO1.out.trans hv1)) | (obtain ⟨hc, hf⟩ := bcell hv1; go_simp; first | with_reducible exact rfl | with_reducible exact ⟨rfl, rfl⟩ | exact rfl | exact ⟨rfl, rfl⟩)); clear hK K))
    refine rest_nil ?_
    intro w2 h2
    go_wp2_with fail
    go_ret2
    exact ⟨ret_ii V.out.symm C.out.symm, HO1.out.trans h2⟩
end Go.Proofs.Ytknggnchldcghab.Ant
