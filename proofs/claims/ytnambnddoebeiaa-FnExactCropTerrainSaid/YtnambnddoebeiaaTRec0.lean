
/-
  Records Terrain: what the laws' copy, comparison and count of them return. Condition: at most 1048576 numbers in each slice.
-/
import Derived.Test.YtnambnddoebeiaaCopyFit
import Derived.Test.YtnambnddoebeiaaOn
namespace Go.Proofs.Ytnambnddoebeiaa.TRec
open Go.RowKit
open Ints (Ints Own)

/-- The block g holds the record. -/
def In (w : World) (g : Nat) (x0 : Int) (x1 : Int) (x2 : Int) (v3 v4 : Value) : Prop := w.cell? ⟨g, 0, none⟩ = some (.int .i64 x0) ∧ w.cell? ⟨g, 1, none⟩ = some (.int .i64 x1) ∧ w.cell? ⟨g, 2, none⟩ = some (.int .i64 x2) ∧ w.cell? ⟨g, 3, none⟩ = some (v3) ∧ w.cell? ⟨g, 4, none⟩ = some (v4)
theorem In.on {w w' : World} {g : Nat} {x0 : Int} {x1 : Int} {x2 : Int} {v3 v4 : Value} (h : In w g x0 x1 x2 v3 v4) (ho : On w w') : In w' g x0 x1 x2 v3 v4 :=
  ⟨(ho.cell (World.block_lt_of_cell? w _ h.1)).trans h.1, (ho.cell (World.block_lt_of_cell? w _ h.2.1)).trans h.2.1, (ho.cell (World.block_lt_of_cell? w _ h.2.2.1)).trans h.2.2.1, (ho.cell (World.block_lt_of_cell? w _ h.2.2.2.1)).trans h.2.2.2.1, (ho.cell (World.block_lt_of_cell? w _ h.2.2.2.2)).trans h.2.2.2.2⟩
set_option maxHeartbeats 2000000 in
theorem copy (x0 : Int) (x1 : Int) (x2 : Int) (v3 v4 : Value) (z3 : List Int) (z4 : List Int) (w : World) (n3 : z3.length ≤ 1048576) (n4 : z4.length ≤ 1048576) (h3 : Ints w v3 z3) (h4 : Ints w v4 z4) :
    Calls Try.prog 9 #[.agg #[.int .i64 x0, .int .i64 x1, .int .i64 x2, v3, v4]] w fun e w' => ∃ a3 cap3 a4 cap4, e = .returned (.agg #[.int .i64 x0, .int .i64 x1, .int .i64 x2, .slice a3 z3.length cap3, .slice a4 z4.length cap4]) ∧ z3.length ≤ cap3 ∧ Own w.heap.size w' (.slice a3 z3.length cap3) z3 ∧ z4.length ≤ cap4 ∧ Own w.heap.size w' (.slice a4 z4.length cap4) z4 ∧ On w w' := by
  have H3 := Lib.hid h3
  have H4 := Lib.hid h4
  obtain ⟨a3, cap3, rfl, -⟩ := h3
  obtain ⟨a4, cap4, rfl, -⟩ := h4
  have C3 := Lib.hid (fun w' (hb : On w w') => Ints.copyFit _ z3 w' n3 (H3.out.below hb))
  have C4 := Lib.hid (fun w' (hb : On w w') => Ints.copyFit _ z4 w' n4 (H4.out.below hb))
  go_enter Try.func9, Try.ntmps9
  go_wp2_with fail
  refine (C3.out _ (by repeat (first | with_reducible exact On.refl _ | apply On.alloc | refine On.setCell ?_ (by (try simp) <;> omega) _))).mono ?_
  rintro e w1 ⟨b3, dap3, rfl, fit3, hi3, hb3⟩
  have hb3' : On _ w1 := hb3
  have B3_1 := Lib.hid (hi3.mono (B' := w.heap.size + 3) (by simp))
  clear hi3
  obtain ⟨hc3, hf3⟩ := bcell hb3'
  obtain ⟨y3_0, y3_1, y3_2⟩ : w.heap.size < w1.heap.size ∧ w.heap.size + 1 < w1.heap.size ∧ w.heap.size + 2 < w1.heap.size := by have := hb3'.size; simp at this; omega
  have hO1 : On w w1 := by refine On.trans ?_ hb3'; repeat (first | with_reducible exact On.refl _ | apply On.alloc | refine On.setCell ?_ (by (try simp) <;> omega) _)
  go_wp2_with fail
  refine (C4.out _ (by repeat (first | with_reducible exact hO1 | refine On.setCell ?_ (by (try simp) <;> omega) _))).mono ?_
  rintro e w2 ⟨b4, dap4, rfl, fit4, hi4, hb4⟩
  have hb4' : On _ w2 := hb4
  have B4_2 := Lib.hid (hi4.mono (B' := w.heap.size + 3) (by simp; omega))
  have B3_2 := Lib.hid (((B3_1.out.setCell (by simp) _)).below hb4')
  clear hi4
  obtain ⟨hc4, hf4⟩ := bcell hb4'
  obtain ⟨y4_0, y4_1, y4_2⟩ : w.heap.size < w2.heap.size ∧ w.heap.size + 1 < w2.heap.size ∧ w.heap.size + 2 < w2.heap.size := by have := hb4'.size; simp at this; omega
  have hO2 : On w w2 := by refine On.trans ?_ hb4'; repeat (first | with_reducible exact hO1 | refine On.setCell ?_ (by (try simp) <;> omega) _)
  go_wp2_with fail
  refine bodyPost_ret (v := .agg #[.int .i64 x0, .int .i64 x1, .int .i64 x2, .slice b3 z3.length dap3, .slice b4 z4.length dap4]) (by simp [results, Try.results9, go_sem, hc3, y3_1, hc4]) rfl ⟨b3, dap3, b4, dap4, rfl, fit3, ?_, fit4, ?_, ?_⟩
  · refine Own.mono (B := w.heap.size + 3) ?_ (by omega)
    repeat (first | with_reducible exact B3_2.out | refine Own.setCell ?_ (by simp) _)
  · refine Own.mono (B := w.heap.size + 3) ?_ (by omega)
    repeat (first | with_reducible exact B4_2.out | refine Own.setCell ?_ (by simp) _)
  · repeat (first | with_reducible exact hO2 | (refine On.setCell ?_ (by (try simp) <;> omega) _))
set_option maxHeartbeats 1000000 in
theorem eq (x0 : Int) (x1 : Int) (x2 : Int) (v3 v4 u3 u4 : Value) (z3 : List Int) (z4 : List Int) (w : World) (n3 : z3.length ≤ 1048576) (n4 : z4.length ≤ 1048576) (h3 : Ints w v3 z3) (h4 : Ints w v4 z4) (k3 : Ints w u3 z3) (k4 : Ints w u4 z4) :
    Calls Try.prog 11 #[.agg #[.int .i64 x0, .int .i64 x1, .int .i64 x2, v3, v4], .agg #[.int .i64 x0, .int .i64 x1, .int .i64 x2, u3, u4]] w fun e w' => e = .returned (.bool true) ∧ On w w' := by
  have H3 := Lib.hid h3
  have K3 := Lib.hid k3
  have H4 := Lib.hid h4
  have K4 := Lib.hid k4
  obtain ⟨a3, cap3, rfl, -⟩ := h3
  obtain ⟨b3, dap3, rfl, -⟩ := k3
  obtain ⟨a4, cap4, rfl, -⟩ := h4
  obtain ⟨b4, dap4, rfl, -⟩ := k4
  have C3 := Lib.hid (fun w' (hb : On w w') => Ints.eq _ _ z3 w' n3 (H3.out.below hb) (K3.out.below hb))
  have C4 := Lib.hid (fun w' (hb : On w w') => Ints.eq _ _ z4 w' n4 (H4.out.below hb) (K4.out.below hb))
  go_enter Try.func11, Try.ntmps11
  go_wp2_with fail
  refine (C3.out _ (by repeat (first | with_reducible exact On.refl _ | apply On.drewN | apply On.alloc))).mono ?_
  rintro e w3 ⟨rfl, n3', rfl⟩
  go_wp2_with fail
  refine (C4.out _ (by repeat (first | with_reducible exact On.refl _ | apply On.drewN | apply On.alloc))).mono ?_
  rintro e w4 ⟨rfl, n4', rfl⟩
  go_wp2_with fail
  go_ret
  exact ⟨rfl, by repeat (first | with_reducible exact On.refl _ | apply On.alloc | apply On.drewN)⟩
/-- What is left of a count behind several lengths. -/
def restL : Nat → List Nat → Int
  | left, [] => (left : Int)
  | left, l :: ls => if l ≤ left then restL (left - l) ls else -1
theorem restL_or (ls : List Nat) : ∀ left, restL left ls = -1 ∨ ∃ r : Nat, restL left ls = (r : Int) ∧ r ≤ left ∧ ∀ l ∈ ls, l ≤ left := by
  induction ls with
  | nil => intro left; exact .inr ⟨left, rfl, Nat.le_refl _, fun _ h => by cases h⟩
  | cons l ls ih =>
    intro left
    unfold restL
    by_cases h : l ≤ left
    · rw [if_pos h]
      rcases ih (left - l) with h1 | ⟨r, h1, h2, h3⟩
      · exact .inl h1
      · refine .inr ⟨r, h1, by omega, fun m hm => ?_⟩
        rcases List.mem_cons.1 hm with rfl | hm
        · exact h
        · have := h3 m hm; omega
    · rw [if_neg h]; exact .inl rfl
theorem restL_yes {left l : Nat} {ls : List Nat} (h : l ≤ left) : restL left (l :: ls) = restL (left - l) ls := if_pos h
theorem restL_no {left l : Nat} {ls : List Nat} (h : ¬ l ≤ left) : restL left (l :: ls) = -1 := if_neg h

/-- What is left of a count behind one length. -/
def rest (left len : Nat) : Int := if len ≤ left then ((left - len : Nat) : Int) else -1
theorem rest_yes {left len : Nat} (h : len ≤ left) : rest left len = ((left - len : Nat) : Int) := if_pos h
theorem rest_no {left len : Nat} (h : ¬ len ≤ left) : rest left len = -1 := if_neg h
theorem szInts (left len : Nat) (a : Option Addr) (cap : Nat) (w : World) (h : left ≤ 1048576) (hl : len ≤ maxLen) :
    Calls Try.prog 26 #[.slice a len cap, .int .i64 left] w fun e w' => e = .returned (.int .i64 (rest left len)) ∧ w = w' := by
  unfold maxLen at hl
  by_cases hle : len ≤ left
  · have en := Lib.hid (show (left : Int) - (len : Int) = rest left len by rw [rest_yes hle]; omega)
    have h0 : ¬ (left : Int) - (len : Int) < 0 := by omega
    go_enter Try.func26, Try.ntmps26
    go_wp2_with fail
    go_ret
    exact ⟨ret_int en.out, rfl⟩
  · have en := Lib.hid (show (-1 : Int) = rest left len from (rest_no hle).symm)
    have h0 : (left : Int) - (len : Int) < 0 := by omega
    go_enter Try.func26, Try.ntmps26
    go_wp2_with fail
    go_ret
    exact ⟨ret_int en.out, rfl⟩
set_option maxHeartbeats 2000000 in
theorem count (left : Nat) (x0 : Int) (x1 : Int) (x2 : Int) (a3 : Option Addr) (l3 cap3 : Nat) (a4 : Option Addr) (l4 cap4 : Nat) (w : World) (h : left ≤ 1048576) (m3 : l3 ≤ maxLen) (m4 : l4 ≤ maxLen) :
    Calls Try.prog 7 #[.agg #[.int .i64 x0, .int .i64 x1, .int .i64 x2, .slice a3 l3 cap3, .slice a4 l4 cap4], .int .i64 left] w fun e w' => e = .returned (.int .i64 (restL left [l3, l4])) ∧ On w w' := by
  have M3 := m3
  have M4 := m4
  unfold maxLen at m3 m4
  by_cases g0 : l3 ≤ left
  · obtain ⟨r0, e0⟩ : ∃ r : Nat, r = left - l3 := ⟨_, rfl⟩
    have q0 : ¬ ((r0 : Nat) : Int) < 0 := by omega
    have S0 := Lib.hid (fun w => show Calls Try.prog 26 #[.slice a3 l3 cap3, .int .i64 left] w fun e w' => e = .returned (.int .i64 ((r0 : Nat) : Int)) ∧ w = w' from by have := szInts left l3 a3 cap3 w (by omega) M3; rw [rest_yes g0, ← e0] at this; exact this)
    by_cases g1 : l4 ≤ r0
    · obtain ⟨r1, e1⟩ : ∃ r : Nat, r = r0 - l4 := ⟨_, rfl⟩
      have q1 : ¬ ((r1 : Nat) : Int) < 0 := by omega
      have S1 := Lib.hid (fun w => show Calls Try.prog 26 #[.slice a4 l4 cap4, .int .i64 r0] w fun e w' => e = .returned (.int .i64 ((r1 : Nat) : Int)) ∧ w = w' from by have := szInts r0 l4 a4 cap4 w (by omega) M4; rw [rest_yes g1, ← e1] at this; exact this)
      have en := Lib.hid (show restL left [l3, l4] = ((r1 : Nat) : Int) by rw [restL_yes g0, ← e0, restL_yes g1, ← e1]; rfl)
      clear e0 e1
      go_enter Try.func7, Try.ntmps7
      go_wp2_with fail
      refine (S0.out _).mono ?_
      rintro e w1 ⟨rfl, rfl⟩
      go_wp2_with fail
      refine (S1.out _).mono ?_
      rintro e w1 ⟨rfl, rfl⟩
      go_wp2_with fail
      go_ret
      exact ⟨ret_int en.out.symm, by repeat (first | with_reducible exact On.refl _ | apply On.alloc)⟩
    · have en := Lib.hid (show restL left [l3, l4] = -1 by rw [restL_yes g0, ← e0, restL_no g1])
      have S1 := Lib.hid (fun w => show Calls Try.prog 26 #[.slice a4 l4 cap4, .int .i64 r0] w fun e w' => e = .returned (.int .i64 (-1)) ∧ w = w' from by have := szInts r0 l4 a4 cap4 w (by omega) M4; rw [rest_no g1] at this; exact this)
      clear e0
      go_enter Try.func7, Try.ntmps7
      go_wp2_with fail
      refine (S0.out _).mono ?_
      rintro e w1 ⟨rfl, rfl⟩
      go_wp2_with fail
      refine (S1.out _).mono ?_
      rintro e w1 ⟨rfl, rfl⟩
      go_wp2_with fail
      go_ret
      exact ⟨ret_int en.out.symm, by repeat (first | with_reducible exact On.refl _ | apply On.alloc)⟩
  · have en := Lib.hid (show restL left [l3, l4] = -1 by rw [restL_no g0])
    have S0 := Lib.hid (fun w => show Calls Try.prog 26 #[.slice a3 l3 cap3, .int .i64 left] w fun e w' => e = .returned (.int .i64 (-1)) ∧ w = w' from by have := szInts left l3 a3 cap3 w (by omega) M3; rw [rest_no g0] at this; exact this)
    go_enter Try.func7, Try.ntmps7
    go_wp2_with fail
    refine (S0.out _).mono ?_
    rintro e w1 ⟨rfl, rfl⟩
    go_wp2_with fail
    go_ret
    exact ⟨ret_int en.out.symm, by repeat (first | with_reducible exact On.refl _ | apply On.alloc)⟩
end Go.Proofs.Ytnambnddoebeiaa.TRec
