
/-
  Records Radio: what the laws' copy, comparison and count of them return. Condition: at most 1048576 numbers in each slice.
-/
import Derived.Test.YtggiilbdlbhpgaaDoorModes
import Derived.Test.YtggiilbdlbhpgaaDoorOn
namespace Go.Proofs.YtggiilbdlbhpgaaDoor.Rad
open Go.RowKit

/-- The block g holds the record. -/
def In (w : World) (g : Nat) (x0 : ByteArray) (x1 : Int) (x2 : Int) (x3 : Int) (x4 : Int) (v5 : Value) : Prop := w.cell? ⟨g, 0, none⟩ = some (.string x0) ∧ w.cell? ⟨g, 1, none⟩ = some (.int .i64 x1) ∧ w.cell? ⟨g, 2, none⟩ = some (.int .i64 x2) ∧ w.cell? ⟨g, 3, none⟩ = some (.int .i64 x3) ∧ w.cell? ⟨g, 4, none⟩ = some (.int .i64 x4) ∧ w.cell? ⟨g, 5, none⟩ = some (v5)
theorem In.on {w w' : World} {g : Nat} {x0 : ByteArray} {x1 : Int} {x2 : Int} {x3 : Int} {x4 : Int} {v5 : Value} (h : In w g x0 x1 x2 x3 x4 v5) (ho : On w w') : In w' g x0 x1 x2 x3 x4 v5 :=
  ⟨(ho.cell (World.block_lt_of_cell? w _ h.1)).trans h.1, (ho.cell (World.block_lt_of_cell? w _ h.2.1)).trans h.2.1, (ho.cell (World.block_lt_of_cell? w _ h.2.2.1)).trans h.2.2.1, (ho.cell (World.block_lt_of_cell? w _ h.2.2.2.1)).trans h.2.2.2.1, (ho.cell (World.block_lt_of_cell? w _ h.2.2.2.2.1)).trans h.2.2.2.2.1, (ho.cell (World.block_lt_of_cell? w _ h.2.2.2.2.2)).trans h.2.2.2.2.2⟩
set_option maxHeartbeats 2000000 in
theorem copy (x0 : ByteArray) (x1 : Int) (x2 : Int) (x3 : Int) (x4 : Int) (v5 : Value) (z5 : List (Int × Int)) (w : World) (n5 : z5.length ≤ 1048576) (h5 : Modes.Pairs w v5 z5) :
    Calls Tryd.prog 8 #[.agg #[.string x0, .int .i64 x1, .int .i64 x2, .int .i64 x3, .int .i64 x4, v5]] w fun e w' => ∃ a5 cap5, e = .returned (.agg #[.string x0, .int .i64 x1, .int .i64 x2, .int .i64 x3, .int .i64 x4, .slice a5 z5.length cap5]) ∧ z5.length ≤ cap5 ∧ Modes.OwnP w.heap.size w' (.slice a5 z5.length cap5) z5 ∧ On w w' := by
  have H5 := Lib.hid h5
  obtain ⟨a5, cap5, rfl, -⟩ := h5
  have C5 := Lib.hid (fun w' (hb : On w w') => Modes.copyS _ z5 w' n5 (H5.out.below hb))
  go_enter Tryd.func8, Tryd.ntmps8
  go_wp2_with fail
  refine (C5.out _ (by repeat (first | with_reducible exact On.refl _ | apply On.alloc | refine On.setCell ?_ (by (try simp) <;> omega) _))).mono ?_
  rintro e w1 ⟨b5, dap5, rfl, fit5, hi5, hb5⟩
  have hb5' : On _ w1 := hb5
  have B5_1 := Lib.hid (hi5.mono (B' := w.heap.size + 3) (by simp))
  clear hi5
  obtain ⟨hc5, hf5⟩ := bcell hb5'
  obtain ⟨y5_0, y5_1, y5_2⟩ : w.heap.size < w1.heap.size ∧ w.heap.size + 1 < w1.heap.size ∧ w.heap.size + 2 < w1.heap.size := by have := hb5'.size; simp at this; omega
  have hO1 : On w w1 := by refine On.trans ?_ hb5'; repeat (first | with_reducible exact On.refl _ | apply On.alloc | refine On.setCell ?_ (by (try simp) <;> omega) _)
  go_wp2_with fail
  refine bodyPost_ret (v := .agg #[.string x0, .int .i64 x1, .int .i64 x2, .int .i64 x3, .int .i64 x4, .slice b5 z5.length dap5]) (by simp [results, Tryd.results8, go_sem, hc5]) rfl ⟨b5, dap5, rfl, fit5, ?_, ?_⟩
  · refine Modes.OwnP.mono (B := w.heap.size + 3) ?_ (by omega)
    repeat (first | with_reducible exact B5_1.out | refine Modes.OwnP.setCell ?_ (by simp) _)
  · repeat (first | with_reducible exact hO1 | (refine On.setCell ?_ (by (try simp) <;> omega) _))
set_option maxHeartbeats 1000000 in
theorem eq (x0 : ByteArray) (x1 : Int) (x2 : Int) (x3 : Int) (x4 : Int) (v5 u5 : Value) (z5 : List (Int × Int)) (w : World) (n5 : z5.length ≤ 1048576) (h5 : Modes.Pairs w v5 z5) (k5 : Modes.Pairs w u5 z5) :
    Calls Tryd.prog 10 #[.agg #[.string x0, .int .i64 x1, .int .i64 x2, .int .i64 x3, .int .i64 x4, v5], .agg #[.string x0, .int .i64 x1, .int .i64 x2, .int .i64 x3, .int .i64 x4, u5]] w fun e w' => e = .returned (.bool true) ∧ On w w' := by
  have H5 := Lib.hid h5
  have K5 := Lib.hid k5
  obtain ⟨a5, cap5, rfl, -⟩ := h5
  obtain ⟨b5, dap5, rfl, -⟩ := k5
  have C5 := Lib.hid (fun w' (hb : On w w') => Modes.eqS _ _ z5 w' n5 (H5.out.below hb) (K5.out.below hb))
  go_enter Tryd.func10, Tryd.ntmps10
  go_wp2_with fail
  refine (C5.out _ (by repeat (first | with_reducible exact On.refl _ | apply On.drewN | apply On.alloc))).mono ?_
  rintro e w5 ⟨rfl, e5⟩
  obtain ⟨hc5, hf5⟩ := bcell e5
  have s5 := e5.size
  go_wp2_with fail
  go_ret
  exact ⟨rfl, by repeat (first | with_reducible exact On.refl _ | apply On.alloc | apply On.drewN | refine On.trans ?_ e5)⟩
/-- What is left of a count behind several lengths. -/
def restL : Nat → List Nat → Int
  | left, [] => (left : Int)
  | left, l :: ls => if l ≤ left then restL (left - l) ls else -1
theorem restL_or (ls : List Nat) : ∀ left, restL left ls = -1 ∨ ∃ r : Nat, restL left ls = (r : Int) ∧ r ≤ left ∧ ∀ l ∈ ls, l ≤ left := by
  induction ls with
  | nil => intro left; exact .inr ⟨left, rfl, Nat.le_refl _, fun _ h => by cases h⟩
  | cons l ls ih =>
    intro left
    unfold restL
    by_cases h : l ≤ left
    · rw [if_pos h]
      rcases ih (left - l) with h1 | ⟨r, h1, h2, h3⟩
      · exact .inl h1
      · refine .inr ⟨r, h1, by omega, fun m hm => ?_⟩
        rcases List.mem_cons.1 hm with rfl | hm
        · exact h
        · have := h3 m hm; omega
    · rw [if_neg h]; exact .inl rfl
theorem restL_yes {left l : Nat} {ls : List Nat} (h : l ≤ left) : restL left (l :: ls) = restL (left - l) ls := if_pos h
theorem restL_no {left l : Nat} {ls : List Nat} (h : ¬ l ≤ left) : restL left (l :: ls) = -1 := if_neg h

set_option maxHeartbeats 2000000 in
theorem count (left : Nat) (x0 : ByteArray) (x1 : Int) (x2 : Int) (x3 : Int) (x4 : Int) (a5 : Option Addr) (l5 cap5 : Nat) (w : World) (h : left ≤ 1048576) (m0 : x0.size ≤ maxLen) (m5 : l5 ≤ maxLen) :
    Calls Tryd.prog 6 #[.agg #[.string x0, .int .i64 x1, .int .i64 x2, .int .i64 x3, .int .i64 x4, .slice a5 l5 cap5], .int .i64 left] w fun e w' => e = .returned (.int .i64 (restL left [x0.size, l5])) ∧ On w w' := by
  have M0 := m0
  have M5 := m5
  unfold maxLen at m0 m5
  by_cases g0 : x0.size ≤ left
  · obtain ⟨r0, e0⟩ : ∃ r : Nat, r = left - x0.size := ⟨_, rfl⟩
    have q0 : ¬ ((r0 : Nat) : Int) < 0 := by omega
    have d0 : ((left : Nat) : Int) - (x0.size : Int) = ((r0 : Nat) : Int) := by omega
    have q0' : ¬ ((left : Nat) : Int) - (x0.size : Int) < 0 := by omega
    by_cases g1 : l5 ≤ r0
    · obtain ⟨r1, e1⟩ : ∃ r : Nat, r = r0 - l5 := ⟨_, rfl⟩
      have q1 : ¬ ((r1 : Nat) : Int) < 0 := by omega
      have S1 := Lib.hid (fun w => show Calls Tryd.prog 19 #[.slice a5 l5 cap5, .int .i64 r0] w fun e w' => e = .returned (.int .i64 ((r1 : Nat) : Int)) ∧ w = w' from by have := Modes.szS r0 l5 a5 cap5 w (by omega) M5; rw [Modes.restP_yes g1, ← e1] at this; exact this)
      have en := Lib.hid (show restL left [x0.size, l5] = ((r1 : Nat) : Int) by rw [restL_yes g0, ← e0, restL_yes g1, ← e1]; rfl)
      clear e0 e1
      go_enter Tryd.func6, Tryd.ntmps6
      go_wp2_with fail
      refine (S1.out _).mono ?_
      rintro e w1 ⟨rfl, rfl⟩
      go_wp2_with fail
      go_ret
      exact ⟨ret_int en.out.symm, by repeat (first | with_reducible exact On.refl _ | apply On.alloc)⟩
    · have en := Lib.hid (show restL left [x0.size, l5] = -1 by rw [restL_yes g0, ← e0, restL_no g1])
      have S1 := Lib.hid (fun w => show Calls Tryd.prog 19 #[.slice a5 l5 cap5, .int .i64 r0] w fun e w' => e = .returned (.int .i64 (-1)) ∧ w = w' from by have := Modes.szS r0 l5 a5 cap5 w (by omega) M5; rw [Modes.restP_no g1] at this; exact this)
      clear e0
      go_enter Tryd.func6, Tryd.ntmps6
      go_wp2_with fail
      refine (S1.out _).mono ?_
      rintro e w1 ⟨rfl, rfl⟩
      go_wp2_with fail
      go_ret
      exact ⟨ret_int en.out.symm, by repeat (first | with_reducible exact On.refl _ | apply On.alloc)⟩
  · have en := Lib.hid (show restL left [x0.size, l5] = -1 by rw [restL_no g0])
    have q0 : ((left : Nat) : Int) - (x0.size : Int) < 0 := by omega
    go_enter Tryd.func6, Tryd.ntmps6
    go_wp2_with fail
    go_ret
    exact ⟨ret_int en.out.symm, by repeat (first | with_reducible exact On.refl _ | apply On.alloc)⟩
end Go.Proofs.YtggiilbdlbhpgaaDoor.Rad
