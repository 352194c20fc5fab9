
/-
  Records Mask: what the laws' copy, comparison and count of them return. Condition: at most 1048576 numbers in each slice.
-/
import Derived.Test.YtkcjbcllpbojhaaDoorCopyFit
import Derived.Test.YtkcjbcllpbojhaaDoorOn
namespace Go.Proofs.YtkcjbcllpbojhaaDoor.Msk
open Go.RowKit
open Ints (Ints Own)

/-- The block g holds the record. -/
def In (w : World) (g : Nat)  (v0 v1 : Value) : Prop := w.cell? ⟨g, 0, none⟩ = some (v0) ∧ w.cell? ⟨g, 1, none⟩ = some (v1)
theorem In.on {w w' : World} {g : Nat}  {v0 v1 : Value} (h : In w g  v0 v1) (ho : On w w') : In w' g  v0 v1 :=
  ⟨(ho.cell (World.block_lt_of_cell? w _ h.1)).trans h.1, (ho.cell (World.block_lt_of_cell? w _ h.2)).trans h.2⟩
/-- What is left of a count behind several lengths. -/
def restL : Nat → List Nat → Int
  | left, [] => (left : Int)
  | left, l :: ls => if l ≤ left then restL (left - l) ls else -1
theorem restL_or (ls : List Nat) : ∀ left, restL left ls = -1 ∨ ∃ r : Nat, restL left ls = (r : Int) ∧ r ≤ left ∧ ∀ l ∈ ls, l ≤ left := by
  induction ls with
  | nil => intro left; exact .inr ⟨left, rfl, Nat.le_refl _, fun _ h => by cases h⟩
  | cons l ls ih =>
    intro left
    unfold restL
    by_cases h : l ≤ left
    · rw [if_pos h]
      rcases ih (left - l) with h1 | ⟨r, h1, h2, h3⟩
      · exact .inl h1
      · refine .inr ⟨r, h1, by omega, fun m hm => ?_⟩
        rcases List.mem_cons.1 hm with rfl | hm
        · exact h
        · have := h3 m hm; omega
    · rw [if_neg h]; exact .inl rfl
theorem restL_yes {left l : Nat} {ls : List Nat} (h : l ≤ left) : restL left (l :: ls) = restL (left - l) ls := if_pos h
theorem restL_no {left l : Nat} {ls : List Nat} (h : ¬ l ≤ left) : restL left (l :: ls) = -1 := if_neg h

/-- What is left of a count behind one length. -/
def rest (left len : Nat) : Int := if len ≤ left then ((left - len : Nat) : Int) else -1
theorem rest_yes {left len : Nat} (h : len ≤ left) : rest left len = ((left - len : Nat) : Int) := if_pos h
theorem rest_no {left len : Nat} (h : ¬ len ≤ left) : rest left len = -1 := if_neg h
theorem szInts (left len : Nat) (a : Option Addr) (cap : Nat) (w : World) (h : left ≤ 1048576) (hl : len ≤ maxLen) :
    Calls Tryd.prog 20 #[.slice a len cap, .int .i64 left] w fun e w' => e = .returned (.int .i64 (rest left len)) ∧ w = w' := by
  unfold maxLen at hl
  by_cases hle : len ≤ left
  · have en := Lib.hid (show (left : Int) - (len : Int) = rest left len by rw [rest_yes hle]; omega)
    have h0 : ¬ (left : Int) - (len : Int) < 0 := by omega
    go_enter Tryd.func20, Tryd.ntmps20
    go_wp2_with fail
    go_ret
    exact ⟨ret_int en.out, rfl⟩
  · have en := Lib.hid (show (-1 : Int) = rest left len from (rest_no hle).symm)
    have h0 : (left : Int) - (len : Int) < 0 := by omega
    go_enter Tryd.func20, Tryd.ntmps20
    go_wp2_with fail
    go_ret
    exact ⟨ret_int en.out, rfl⟩
end Go.Proofs.YtkcjbcllpbojhaaDoor.Msk
