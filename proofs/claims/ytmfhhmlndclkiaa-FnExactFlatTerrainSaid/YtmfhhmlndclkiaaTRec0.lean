
/-
  Records Terrain: what the laws' copy, comparison and count of them return. Condition: at most 1048576 numbers in each slice.
-/
import Derived.Test.YtmfhhmlndclkiaaCopyFit
import Derived.Test.YtmfhhmlndclkiaaOn
namespace Go.Proofs.Ytmfhhmlndclkiaa.TRec
open Go.RowKit
open Ints (Ints Own)

/-- The block g holds the record. -/
def In (w : World) (g : Nat) (x0 : Int) (x1 : Int) (x2 : Int) (v3 v4 : Value) : Prop := w.cell? ⟨g, 0, none⟩ = some (.int .i64 x0) ∧ w.cell? ⟨g, 1, none⟩ = some (.int .i64 x1) ∧ w.cell? ⟨g, 2, none⟩ = some (.int .i64 x2) ∧ w.cell? ⟨g, 3, none⟩ = some (v3) ∧ w.cell? ⟨g, 4, none⟩ = some (v4)
theorem In.on {w w' : World} {g : Nat} {x0 : Int} {x1 : Int} {x2 : Int} {v3 v4 : Value} (h : In w g x0 x1 x2 v3 v4) (ho : On w w') : In w' g x0 x1 x2 v3 v4 :=
  ⟨(ho.cell (World.block_lt_of_cell? w _ h.1)).trans h.1, (ho.cell (World.block_lt_of_cell? w _ h.2.1)).trans h.2.1, (ho.cell (World.block_lt_of_cell? w _ h.2.2.1)).trans h.2.2.1, (ho.cell (World.block_lt_of_cell? w _ h.2.2.2.1)).trans h.2.2.2.1, (ho.cell (World.block_lt_of_cell? w _ h.2.2.2.2)).trans h.2.2.2.2⟩
set_option maxHeartbeats 1000000 in
theorem eq (x0 : Int) (x1 : Int) (x2 : Int) (v3 v4 u3 u4 : Value) (z3 : List Int) (z4 : List Int) (w : World) (n3 : z3.length ≤ 1048576) (n4 : z4.length ≤ 1048576) (h3 : Ints w v3 z3) (h4 : Ints w v4 z4) (k3 : Ints w u3 z3) (k4 : Ints w u4 z4) :
    Calls Try.prog 21 #[.agg #[.int .i64 x0, .int .i64 x1, .int .i64 x2, v3, v4], .agg #[.int .i64 x0, .int .i64 x1, .int .i64 x2, u3, u4]] w fun e w' => e = .returned (.bool true) ∧ On w w' := by
  have H3 := Lib.hid h3
  have K3 := Lib.hid k3
  have H4 := Lib.hid h4
  have K4 := Lib.hid k4
  obtain ⟨a3, cap3, rfl, -⟩ := h3
  obtain ⟨b3, dap3, rfl, -⟩ := k3
  obtain ⟨a4, cap4, rfl, -⟩ := h4
  obtain ⟨b4, dap4, rfl, -⟩ := k4
  have C3 := Lib.hid (fun w' (hb : On w w') => Ints.eq _ _ z3 w' n3 (H3.out.below hb) (K3.out.below hb))
  have C4 := Lib.hid (fun w' (hb : On w w') => Ints.eq _ _ z4 w' n4 (H4.out.below hb) (K4.out.below hb))
  go_enter Try.func21, Try.ntmps21
  go_wp2_with fail
  refine (C3.out _ (by repeat (first | with_reducible exact On.refl _ | apply On.drewN | apply On.alloc))).mono ?_
  rintro e w3 ⟨rfl, n3', rfl⟩
  go_wp2_with fail
  refine (C4.out _ (by repeat (first | with_reducible exact On.refl _ | apply On.drewN | apply On.alloc))).mono ?_
  rintro e w4 ⟨rfl, n4', rfl⟩
  go_wp2_with fail
  go_ret
  exact ⟨rfl, by repeat (first | with_reducible exact On.refl _ | apply On.alloc | apply On.drewN)⟩
/-- What is left of a count behind several lengths. -/
def restL : Nat → List Nat → Int
  | left, [] => (left : Int)
  | left, l :: ls => if l ≤ left then restL (left - l) ls else -1
theorem restL_or (ls : List Nat) : ∀ left, restL left ls = -1 ∨ ∃ r : Nat, restL left ls = (r : Int) ∧ r ≤ left ∧ ∀ l ∈ ls, l ≤ left := by
  induction ls with
  | nil => intro left; exact .inr ⟨left, rfl, Nat.le_refl _, fun _ h => by cases h⟩
  | cons l ls ih =>
    intro left
    unfold restL
    by_cases h : l ≤ left
    · rw [if_pos h]
      rcases ih (left - l) with h1 | ⟨r, h1, h2, h3⟩
      · exact .inl h1
      · refine .inr ⟨r, h1, by omega, fun m hm => ?_⟩
        rcases List.mem_cons.1 hm with rfl | hm
        · exact h
        · have := h3 m hm; omega
    · rw [if_neg h]; exact .inl rfl
theorem restL_yes {left l : Nat} {ls : List Nat} (h : l ≤ left) : restL left (l :: ls) = restL (left - l) ls := if_pos h
theorem restL_no {left l : Nat} {ls : List Nat} (h : ¬ l ≤ left) : restL left (l :: ls) = -1 := if_neg h

/-- What is left of a count behind one length. -/
def rest (left len : Nat) : Int := if len ≤ left then ((left - len : Nat) : Int) else -1
theorem rest_yes {left len : Nat} (h : len ≤ left) : rest left len = ((left - len : Nat) : Int) := if_pos h
theorem rest_no {left len : Nat} (h : ¬ len ≤ left) : rest left len = -1 := if_neg h
theorem szInts (left len : Nat) (a : Option Addr) (cap : Nat) (w : World) (h : left ≤ 1048576) (hl : len ≤ maxLen) :
    Calls Try.prog 68 #[.slice a len cap, .int .i64 left] w fun e w' => e = .returned (.int .i64 (rest left len)) ∧ w = w' := by
  unfold maxLen at hl
  by_cases hle : len ≤ left
  · have en := Lib.hid (show (left : Int) - (len : Int) = rest left len by rw [rest_yes hle]; omega)
    have h0 : ¬ (left : Int) - (len : Int) < 0 := by omega
    go_enter Try.func68, Try.ntmps68
    go_wp2_with fail
    go_ret
    exact ⟨ret_int en.out, rfl⟩
  · have en := Lib.hid (show (-1 : Int) = rest left len from (rest_no hle).symm)
    have h0 : (left : Int) - (len : Int) < 0 := by omega
    go_enter Try.func68, Try.ntmps68
    go_wp2_with fail
    go_ret
    exact ⟨ret_int en.out, rfl⟩
end Go.Proofs.Ytmfhhmlndclkiaa.TRec
