
/-
  Records Antenna: what the laws' copy, comparison and count of them return. Condition: at most 1048576 numbers in each slice.
-/
import Derived.Test.YtnambnddoebeiaaCopyFit
import Derived.Test.YtnambnddoebeiaaOn
namespace Go.Proofs.Ytnambnddoebeiaa.Ant
open Go.RowKit
open Ints (Ints Own)

/-- The block g holds the record. -/
def In (w : World) (g : Nat) (x0 : ByteArray) (x1 : Int) (v2 v3 : Value) : Prop := w.cell? ⟨g, 0, none⟩ = some (.string x0) ∧ w.cell? ⟨g, 1, none⟩ = some (.int .i64 x1) ∧ w.cell? ⟨g, 2, none⟩ = some (v2) ∧ w.cell? ⟨g, 3, none⟩ = some (v3)
theorem In.on {w w' : World} {g : Nat} {x0 : ByteArray} {x1 : Int} {v2 v3 : Value} (h : In w g x0 x1 v2 v3) (ho : On w w') : In w' g x0 x1 v2 v3 :=
  ⟨(ho.cell (World.block_lt_of_cell? w _ h.1)).trans h.1, (ho.cell (World.block_lt_of_cell? w _ h.2.1)).trans h.2.1, (ho.cell (World.block_lt_of_cell? w _ h.2.2.1)).trans h.2.2.1, (ho.cell (World.block_lt_of_cell? w _ h.2.2.2)).trans h.2.2.2⟩
set_option maxHeartbeats 2000000 in
theorem copy (x0 : ByteArray) (x1 : Int) (v2 v3 : Value) (z2 z3 : List Int) (w : World) (n2 : z2.length ≤ 1048576) (n3 : z3.length ≤ 1048576) (h2 : Ints w v2 z2) (h3 : Ints w v3 z3) :
    Calls Try.prog 19 #[.agg #[.string x0, .int .i64 x1, v2, v3]] w fun e w' => ∃ a2 cap2 a3 cap3, e = .returned (.agg #[.string x0, .int .i64 x1, .slice a2 z2.length cap2, .slice a3 z3.length cap3]) ∧ z2.length ≤ cap2 ∧ Own w.heap.size w' (.slice a2 z2.length cap2) z2 ∧ z3.length ≤ cap3 ∧ Own w.heap.size w' (.slice a3 z3.length cap3) z3 ∧ On w w' := by
  have H2 := Lib.hid h2
  have H3 := Lib.hid h3
  obtain ⟨a2, cap2, rfl, -⟩ := h2
  obtain ⟨a3, cap3, rfl, -⟩ := h3
  have C2 := Lib.hid (fun w' (hb : On w w') => Ints.copyFit _ z2 w' n2 (H2.out.below hb))
  have C3 := Lib.hid (fun w' (hb : On w w') => Ints.copyFit _ z3 w' n3 (H3.out.below hb))
  go_enter Try.func19, Try.ntmps19
  go_wp2_with fail
  refine (C2.out _ (by repeat (first | with_reducible exact On.refl _ | apply On.alloc | refine On.setCell ?_ (by (try simp) <;> omega) _))).mono ?_
  rintro e w1 ⟨b2, dap2, rfl, fit2, hi2, hb2⟩
  have hb2' : On _ w1 := hb2
  have B2_1 := Lib.hid (hi2.mono (B' := w.heap.size + 3) (by simp))
  clear hi2
  obtain ⟨hc2, hf2⟩ := bcell hb2'
  obtain ⟨y2_0, y2_1, y2_2⟩ : w.heap.size < w1.heap.size ∧ w.heap.size + 1 < w1.heap.size ∧ w.heap.size + 2 < w1.heap.size := by have := hb2'.size; simp at this; omega
  have hO1 : On w w1 := by refine On.trans ?_ hb2'; repeat (first | with_reducible exact On.refl _ | apply On.alloc | refine On.setCell ?_ (by (try simp) <;> omega) _)
  go_wp2_with fail
  refine (C3.out _ (by repeat (first | with_reducible exact hO1 | refine On.setCell ?_ (by (try simp) <;> omega) _))).mono ?_
  rintro e w2 ⟨b3, dap3, rfl, fit3, hi3, hb3⟩
  have hb3' : On _ w2 := hb3
  have B3_2 := Lib.hid (hi3.mono (B' := w.heap.size + 3) (by simp; omega))
  have B2_2 := Lib.hid (((B2_1.out.setCell (by simp) _)).below hb3')
  clear hi3
  obtain ⟨hc3, hf3⟩ := bcell hb3'
  obtain ⟨y3_0, y3_1, y3_2⟩ : w.heap.size < w2.heap.size ∧ w.heap.size + 1 < w2.heap.size ∧ w.heap.size + 2 < w2.heap.size := by have := hb3'.size; simp at this; omega
  have hO2 : On w w2 := by refine On.trans ?_ hb3'; repeat (first | with_reducible exact hO1 | refine On.setCell ?_ (by (try simp) <;> omega) _)
  go_wp2_with fail
  refine bodyPost_ret (v := .agg #[.string x0, .int .i64 x1, .slice b2 z2.length dap2, .slice b3 z3.length dap3]) (by simp [results, Try.results19, go_sem, hc2, y2_1, hc3]) rfl ⟨b2, dap2, b3, dap3, rfl, fit2, ?_, fit3, ?_, ?_⟩
  · refine Own.mono (B := w.heap.size + 3) ?_ (by omega)
    repeat (first | with_reducible exact B2_2.out | refine Own.setCell ?_ (by simp) _)
  · refine Own.mono (B := w.heap.size + 3) ?_ (by omega)
    repeat (first | with_reducible exact B3_2.out | refine Own.setCell ?_ (by simp) _)
  · repeat (first | with_reducible exact hO2 | (refine On.setCell ?_ (by (try simp) <;> omega) _))
set_option maxHeartbeats 1000000 in
theorem eq (x0 : ByteArray) (x1 : Int) (v2 v3 u2 u3 : Value) (z2 z3 : List Int) (w : World) (n2 : z2.length ≤ 1048576) (n3 : z3.length ≤ 1048576) (h2 : Ints w v2 z2) (h3 : Ints w v3 z3) (k2 : Ints w u2 z2) (k3 : Ints w u3 z3) :
    Calls Try.prog 21 #[.agg #[.string x0, .int .i64 x1, v2, v3], .agg #[.string x0, .int .i64 x1, u2, u3]] w fun e w' => e = .returned (.bool true) ∧ On w w' := by
  have H2 := Lib.hid h2
  have K2 := Lib.hid k2
  have H3 := Lib.hid h3
  have K3 := Lib.hid k3
  obtain ⟨a2, cap2, rfl, -⟩ := h2
  obtain ⟨b2, dap2, rfl, -⟩ := k2
  obtain ⟨a3, cap3, rfl, -⟩ := h3
  obtain ⟨b3, dap3, rfl, -⟩ := k3
  have C2 := Lib.hid (fun w' (hb : On w w') => Ints.eq _ _ z2 w' n2 (H2.out.below hb) (K2.out.below hb))
  have C3 := Lib.hid (fun w' (hb : On w w') => Ints.eq _ _ z3 w' n3 (H3.out.below hb) (K3.out.below hb))
  go_enter Try.func21, Try.ntmps21
  go_wp2_with fail
  refine (C2.out _ (by repeat (first | with_reducible exact On.refl _ | apply On.drewN | apply On.alloc))).mono ?_
  rintro e w2 ⟨rfl, n2', rfl⟩
  go_wp2_with fail
  refine (C3.out _ (by repeat (first | with_reducible exact On.refl _ | apply On.drewN | apply On.alloc))).mono ?_
  rintro e w3 ⟨rfl, n3', rfl⟩
  go_wp2_with fail
  go_ret
  exact ⟨rfl, by repeat (first | with_reducible exact On.refl _ | apply On.alloc | apply On.drewN)⟩
/-- What is left of a count behind several lengths. -/
def restL : Nat → List Nat → Int
  | left, [] => (left : Int)
  | left, l :: ls => if l ≤ left then restL (left - l) ls else -1
theorem restL_or (ls : List Nat) : ∀ left, restL left ls = -1 ∨ ∃ r : Nat, restL left ls = (r : Int) ∧ r ≤ left ∧ ∀ l ∈ ls, l ≤ left := by
  induction ls with
  | nil => intro left; exact .inr ⟨left, rfl, Nat.le_refl _, fun _ h => by cases h⟩
  | cons l ls ih =>
    intro left
    unfold restL
    by_cases h : l ≤ left
    · rw [if_pos h]
      rcases ih (left - l) with h1 | ⟨r, h1, h2, h3⟩
      · exact .inl h1
      · refine .inr ⟨r, h1, by omega, fun m hm => ?_⟩
        rcases List.mem_cons.1 hm with rfl | hm
        · exact h
        · have := h3 m hm; omega
    · rw [if_neg h]; exact .inl rfl
theorem restL_yes {left l : Nat} {ls : List Nat} (h : l ≤ left) : restL left (l :: ls) = restL (left - l) ls := if_pos h
theorem restL_no {left l : Nat} {ls : List Nat} (h : ¬ l ≤ left) : restL left (l :: ls) = -1 := if_neg h
/-- What is left of a count behind one length. -/
def rest (left len : Nat) : Int := if len ≤ left then ((left - len : Nat) : Int) else -1
theorem rest_yes {left len : Nat} (h : len ≤ left) : rest left len = ((left - len : Nat) : Int) := if_pos h
theorem rest_no {left len : Nat} (h : ¬ len ≤ left) : rest left len = -1 := if_neg h
theorem szInts (left len : Nat) (a : Option Addr) (cap : Nat) (w : World) (h : left ≤ 1048576) (hl : len ≤ maxLen) :
    Calls Try.prog 26 #[.slice a len cap, .int .i64 left] w fun e w' => e = .returned (.int .i64 (rest left len)) ∧ w = w' := by
  unfold maxLen at hl
  by_cases hle : len ≤ left
  · have en := Lib.hid (show (left : Int) - (len : Int) = rest left len by rw [rest_yes hle]; omega)
    have h0 : ¬ (left : Int) - (len : Int) < 0 := by omega
    go_enter Try.func26, Try.ntmps26
    go_wp2_with fail
    go_ret
    exact ⟨ret_int en.out, rfl⟩
  · have en := Lib.hid (show (-1 : Int) = rest left len from (rest_no hle).symm)
    have h0 : (left : Int) - (len : Int) < 0 := by omega
    go_enter Try.func26, Try.ntmps26
    go_wp2_with fail
    go_ret
    exact ⟨ret_int en.out, rfl⟩
set_option maxHeartbeats 2000000 in
theorem count (left : Nat) (x0 : ByteArray) (x1 : Int) (a2 : Option Addr) (l2 cap2 : Nat) (a3 : Option Addr) (l3 cap3 : Nat) (w : World) (h : left ≤ 1048576) (m0 : x0.size ≤ maxLen) (m2 : l2 ≤ maxLen) (m3 : l3 ≤ maxLen) :
    Calls Try.prog 17 #[.agg #[.string x0, .int .i64 x1, .slice a2 l2 cap2, .slice a3 l3 cap3], .int .i64 left] w fun e w' => e = .returned (.int .i64 (restL left [x0.size, l2, l3])) ∧ On w w' := by
  have M0 := m0
  have M2 := m2
  have M3 := m3
  unfold maxLen at m0 m2 m3
  by_cases g0 : x0.size ≤ left
  · obtain ⟨r0, e0⟩ : ∃ r : Nat, r = left - x0.size := ⟨_, rfl⟩
    have q0 : ¬ ((r0 : Nat) : Int) < 0 := by omega
    have d0 : ((left : Nat) : Int) - (x0.size : Int) = ((r0 : Nat) : Int) := by omega
    have q0' : ¬ ((left : Nat) : Int) - (x0.size : Int) < 0 := by omega
    by_cases g1 : l2 ≤ r0
    · obtain ⟨r1, e1⟩ : ∃ r : Nat, r = r0 - l2 := ⟨_, rfl⟩
      have q1 : ¬ ((r1 : Nat) : Int) < 0 := by omega
      have S1 := Lib.hid (fun w => show Calls Try.prog 26 #[.slice a2 l2 cap2, .int .i64 r0] w fun e w' => e = .returned (.int .i64 ((r1 : Nat) : Int)) ∧ w = w' from by have := szInts r0 l2 a2 cap2 w (by omega) M2; rw [rest_yes g1, ← e1] at this; exact this)
      by_cases g2 : l3 ≤ r1
      · obtain ⟨r2, e2⟩ : ∃ r : Nat, r = r1 - l3 := ⟨_, rfl⟩
        have q2 : ¬ ((r2 : Nat) : Int) < 0 := by omega
        have S2 := Lib.hid (fun w => show Calls Try.prog 26 #[.slice a3 l3 cap3, .int .i64 r1] w fun e w' => e = .returned (.int .i64 ((r2 : Nat) : Int)) ∧ w = w' from by have := szInts r1 l3 a3 cap3 w (by omega) M3; rw [rest_yes g2, ← e2] at this; exact this)
        have en := Lib.hid (show restL left [x0.size, l2, l3] = ((r2 : Nat) : Int) by rw [restL_yes g0, ← e0, restL_yes g1, ← e1, restL_yes g2, ← e2]; rfl)
        clear e0 e1 e2
        go_enter Try.func17, Try.ntmps17
        go_wp2_with fail
        refine (S1.out _).mono ?_
        rintro e w1 ⟨rfl, rfl⟩
        go_wp2_with fail
        refine (S2.out _).mono ?_
        rintro e w1 ⟨rfl, rfl⟩
        go_wp2_with fail
        go_ret
        exact ⟨ret_int en.out.symm, by repeat (first | with_reducible exact On.refl _ | apply On.alloc)⟩
      · have en := Lib.hid (show restL left [x0.size, l2, l3] = -1 by rw [restL_yes g0, ← e0, restL_yes g1, ← e1, restL_no g2])
        have S2 := Lib.hid (fun w => show Calls Try.prog 26 #[.slice a3 l3 cap3, .int .i64 r1] w fun e w' => e = .returned (.int .i64 (-1)) ∧ w = w' from by have := szInts r1 l3 a3 cap3 w (by omega) M3; rw [rest_no g2] at this; exact this)
        clear e0 e1
        go_enter Try.func17, Try.ntmps17
        go_wp2_with fail
        refine (S1.out _).mono ?_
        rintro e w1 ⟨rfl, rfl⟩
        go_wp2_with fail
        refine (S2.out _).mono ?_
        rintro e w1 ⟨rfl, rfl⟩
        go_wp2_with fail
        go_ret
        exact ⟨ret_int en.out.symm, by repeat (first | with_reducible exact On.refl _ | apply On.alloc)⟩
    · have en := Lib.hid (show restL left [x0.size, l2, l3] = -1 by rw [restL_yes g0, ← e0, restL_no g1])
      have S1 := Lib.hid (fun w => show Calls Try.prog 26 #[.slice a2 l2 cap2, .int .i64 r0] w fun e w' => e = .returned (.int .i64 (-1)) ∧ w = w' from by have := szInts r0 l2 a2 cap2 w (by omega) M2; rw [rest_no g1] at this; exact this)
      clear e0
      go_enter Try.func17, Try.ntmps17
      go_wp2_with fail
      refine (S1.out _).mono ?_
      rintro e w1 ⟨rfl, rfl⟩
      go_wp2_with fail
      go_ret
      exact ⟨ret_int en.out.symm, by repeat (first | with_reducible exact On.refl _ | apply On.alloc)⟩
  · have en := Lib.hid (show restL left [x0.size, l2, l3] = -1 by rw [restL_no g0])
    have q0 : ((left : Nat) : Int) - (x0.size : Int) < 0 := by omega
    go_enter Try.func17, Try.ntmps17
    go_wp2_with fail
    go_ret
    exact ⟨ret_int en.out.symm, by repeat (first | with_reducible exact On.refl _ | apply On.alloc)⟩
end Go.Proofs.Ytnambnddoebeiaa.Ant
