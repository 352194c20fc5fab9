
/-
  Records Antenna: what the laws' copy, comparison and count of them return. Condition: at most 1048576 numbers in each slice.
-/
import Derived.Test.YtnambnddoebeiaaDoorCopyFit
import Derived.Test.YtnambnddoebeiaaDoorOn
namespace Go.Proofs.YtnambnddoebeiaaDoor.Ant
open Go.RowKit
open Ints (Ints Own)

/-- The block g holds the record. -/
def In (w : World) (g : Nat) (x0 : ByteArray) (x1 : Int) (v2 v3 : Value) : Prop := w.cell? ⟨g, 0, none⟩ = some (.string x0) ∧ w.cell? ⟨g, 1, none⟩ = some (.int .i64 x1) ∧ w.cell? ⟨g, 2, none⟩ = some (v2) ∧ w.cell? ⟨g, 3, none⟩ = some (v3)
theorem In.on {w w' : World} {g : Nat} {x0 : ByteArray} {x1 : Int} {v2 v3 : Value} (h : In w g x0 x1 v2 v3) (ho : On w w') : In w' g x0 x1 v2 v3 :=
  ⟨(ho.cell (World.block_lt_of_cell? w _ h.1)).trans h.1, (ho.cell (World.block_lt_of_cell? w _ h.2.1)).trans h.2.1, (ho.cell (World.block_lt_of_cell? w _ h.2.2.1)).trans h.2.2.1, (ho.cell (World.block_lt_of_cell? w _ h.2.2.2)).trans h.2.2.2⟩
set_option maxHeartbeats 1000000 in
theorem eq (x0 : ByteArray) (x1 : Int) (v2 v3 u2 u3 : Value) (z2 z3 : List Int) (w : World) (n2 : z2.length ≤ 1048576) (n3 : z3.length ≤ 1048576) (h2 : Ints w v2 z2) (h3 : Ints w v3 z3) (k2 : Ints w u2 z2) (k3 : Ints w u3 z3) :
    Calls Tryd.prog 7 #[.agg #[.string x0, .int .i64 x1, v2, v3], .agg #[.string x0, .int .i64 x1, u2, u3]] w fun e w' => e = .returned (.bool true) ∧ On w w' := by
  have H2 := Lib.hid h2
  have K2 := Lib.hid k2
  have H3 := Lib.hid h3
  have K3 := Lib.hid k3
  obtain ⟨a2, cap2, rfl, -⟩ := h2
  obtain ⟨b2, dap2, rfl, -⟩ := k2
  obtain ⟨a3, cap3, rfl, -⟩ := h3
  obtain ⟨b3, dap3, rfl, -⟩ := k3
  have C2 := Lib.hid (fun w' (hb : On w w') => Ints.eq _ _ z2 w' n2 (H2.out.below hb) (K2.out.below hb))
  have C3 := Lib.hid (fun w' (hb : On w w') => Ints.eq _ _ z3 w' n3 (H3.out.below hb) (K3.out.below hb))
  go_enter Tryd.func7, Tryd.ntmps7
  go_wp2_with fail
  refine (C2.out _ (by repeat (first | with_reducible exact On.refl _ | apply On.drewN | apply On.alloc))).mono ?_
  rintro e w2 ⟨rfl, n2', rfl⟩
  go_wp2_with fail
  refine (C3.out _ (by repeat (first | with_reducible exact On.refl _ | apply On.drewN | apply On.alloc))).mono ?_
  rintro e w3 ⟨rfl, n3', rfl⟩
  go_wp2_with fail
  go_ret
  exact ⟨rfl, by repeat (first | with_reducible exact On.refl _ | apply On.alloc | apply On.drewN)⟩
/-- What is left of a count behind several lengths. -/
def restL : Nat → List Nat → Int
  | left, [] => (left : Int)
  | left, l :: ls => if l ≤ left then restL (left - l) ls else -1
theorem restL_or (ls : List Nat) : ∀ left, restL left ls = -1 ∨ ∃ r : Nat, restL left ls = (r : Int) ∧ r ≤ left ∧ ∀ l ∈ ls, l ≤ left := by
  induction ls with
  | nil => intro left; exact .inr ⟨left, rfl, Nat.le_refl _, fun _ h => by cases h⟩
  | cons l ls ih =>
    intro left
    unfold restL
    by_cases h : l ≤ left
    · rw [if_pos h]
      rcases ih (left - l) with h1 | ⟨r, h1, h2, h3⟩
      · exact .inl h1
      · refine .inr ⟨r, h1, by omega, fun m hm => ?_⟩
        rcases List.mem_cons.1 hm with rfl | hm
        · exact h
        · have := h3 m hm; omega
    · rw [if_neg h]; exact .inl rfl
theorem restL_yes {left l : Nat} {ls : List Nat} (h : l ≤ left) : restL left (l :: ls) = restL (left - l) ls := if_pos h
theorem restL_no {left l : Nat} {ls : List Nat} (h : ¬ l ≤ left) : restL left (l :: ls) = -1 := if_neg h
/-- What is left of a count behind one length. -/
def rest (left len : Nat) : Int := if len ≤ left then ((left - len : Nat) : Int) else -1
theorem rest_yes {left len : Nat} (h : len ≤ left) : rest left len = ((left - len : Nat) : Int) := if_pos h
theorem rest_no {left len : Nat} (h : ¬ len ≤ left) : rest left len = -1 := if_neg h
end Go.Proofs.YtnambnddoebeiaaDoor.Ant
