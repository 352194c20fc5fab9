
/-
  Records Mask: what the laws' copy, comparison and count of them return. Condition: at most 1048576 numbers in each slice.
-/
import Derived.Test.YtjnkfpgglhgkaaaDoorCopyFit
import Derived.Test.YtjnkfpgglhgkaaaDoorOn
namespace Go.Proofs.YtjnkfpgglhgkaaaDoor.Msk
open Go.RowKit
open Ints (Ints Own)

/-- The block g holds the record. -/
def In (w : World) (g : Nat)  (v0 v1 : Value) : Prop := w.cell? ⟨g, 0, none⟩ = some (v0) ∧ w.cell? ⟨g, 1, none⟩ = some (v1)
theorem In.on {w w' : World} {g : Nat}  {v0 v1 : Value} (h : In w g  v0 v1) (ho : On w w') : In w' g  v0 v1 :=
  ⟨(ho.cell (World.block_lt_of_cell? w _ h.1)).trans h.1, (ho.cell (World.block_lt_of_cell? w _ h.2)).trans h.2⟩
set_option maxHeartbeats 2000000 in
theorem copy  (v0 v1 : Value) (z0 : List Int) (z1 : List Int) (w : World) (n0 : z0.length ≤ 1048576) (n1 : z1.length ≤ 1048576) (h0 : Ints w v0 z0) (h1 : Ints w v1 z1) :
    Calls Tryd.prog 7 #[.agg #[v0, v1]] w fun e w' => ∃ a0 cap0 a1 cap1, e = .returned (.agg #[.slice a0 z0.length cap0, .slice a1 z1.length cap1]) ∧ z0.length ≤ cap0 ∧ Own w.heap.size w' (.slice a0 z0.length cap0) z0 ∧ z1.length ≤ cap1 ∧ Own w.heap.size w' (.slice a1 z1.length cap1) z1 ∧ On w w' := by
  have H0 := Lib.hid h0
  have H1 := Lib.hid h1
  obtain ⟨a0, cap0, rfl, -⟩ := h0
  obtain ⟨a1, cap1, rfl, -⟩ := h1
  have C0 := Lib.hid (fun w' (hb : On w w') => Ints.copyFit _ z0 w' n0 (H0.out.below hb))
  have C1 := Lib.hid (fun w' (hb : On w w') => Ints.copyFit _ z1 w' n1 (H1.out.below hb))
  go_enter Tryd.func7, Tryd.ntmps7
  go_wp2_with fail
  refine (C0.out _ (by repeat (first | with_reducible exact On.refl _ | apply On.alloc | refine On.setCell ?_ (by (try simp) <;> omega) _))).mono ?_
  rintro e w1 ⟨b0, dap0, rfl, fit0, hi0, hb0⟩
  have hb0' : On _ w1 := hb0
  have B0_1 := Lib.hid (hi0.mono (B' := w.heap.size + 3) (by simp))
  clear hi0
  obtain ⟨hc0, hf0⟩ := bcell hb0'
  obtain ⟨y0_0, y0_1, y0_2⟩ : w.heap.size < w1.heap.size ∧ w.heap.size + 1 < w1.heap.size ∧ w.heap.size + 2 < w1.heap.size := by have := hb0'.size; simp at this; omega
  have hO1 : On w w1 := by refine On.trans ?_ hb0'; repeat (first | with_reducible exact On.refl _ | apply On.alloc | refine On.setCell ?_ (by (try simp) <;> omega) _)
  go_wp2_with fail
  refine (C1.out _ (by repeat (first | with_reducible exact hO1 | refine On.setCell ?_ (by (try simp) <;> omega) _))).mono ?_
  rintro e w2 ⟨b1, dap1, rfl, fit1, hi1, hb1⟩
  have hb1' : On _ w2 := hb1
  have B1_2 := Lib.hid (hi1.mono (B' := w.heap.size + 3) (by simp; omega))
  have B0_2 := Lib.hid (((B0_1.out.setCell (by simp) _)).below hb1')
  clear hi1
  obtain ⟨hc1, hf1⟩ := bcell hb1'
  obtain ⟨y1_0, y1_1, y1_2⟩ : w.heap.size < w2.heap.size ∧ w.heap.size + 1 < w2.heap.size ∧ w.heap.size + 2 < w2.heap.size := by have := hb1'.size; simp at this; omega
  have hO2 : On w w2 := by refine On.trans ?_ hb1'; repeat (first | with_reducible exact hO1 | refine On.setCell ?_ (by (try simp) <;> omega) _)
  go_wp2_with fail
  refine bodyPost_ret (v := .agg #[.slice b0 z0.length dap0, .slice b1 z1.length dap1]) (by simp [results, Tryd.results7, go_sem, hc0, y0_1, hc1]) rfl ⟨b0, dap0, b1, dap1, rfl, fit0, ?_, fit1, ?_, ?_⟩
  · refine Own.mono (B := w.heap.size + 3) ?_ (by omega)
    repeat (first | with_reducible exact B0_2.out | refine Own.setCell ?_ (by simp) _)
  · refine Own.mono (B := w.heap.size + 3) ?_ (by omega)
    repeat (first | with_reducible exact B1_2.out | refine Own.setCell ?_ (by simp) _)
  · repeat (first | with_reducible exact hO2 | (refine On.setCell ?_ (by (try simp) <;> omega) _))
set_option maxHeartbeats 1000000 in
theorem eq  (v0 v1 u0 u1 : Value) (z0 : List Int) (z1 : List Int) (w : World) (n0 : z0.length ≤ 1048576) (n1 : z1.length ≤ 1048576) (h0 : Ints w v0 z0) (h1 : Ints w v1 z1) (k0 : Ints w u0 z0) (k1 : Ints w u1 z1) :
    Calls Tryd.prog 9 #[.agg #[v0, v1], .agg #[u0, u1]] w fun e w' => e = .returned (.bool true) ∧ On w w' := by
  have H0 := Lib.hid h0
  have K0 := Lib.hid k0
  have H1 := Lib.hid h1
  have K1 := Lib.hid k1
  obtain ⟨a0, cap0, rfl, -⟩ := h0
  obtain ⟨b0, dap0, rfl, -⟩ := k0
  obtain ⟨a1, cap1, rfl, -⟩ := h1
  obtain ⟨b1, dap1, rfl, -⟩ := k1
  have C0 := Lib.hid (fun w' (hb : On w w') => Ints.eq _ _ z0 w' n0 (H0.out.below hb) (K0.out.below hb))
  have C1 := Lib.hid (fun w' (hb : On w w') => Ints.eq _ _ z1 w' n1 (H1.out.below hb) (K1.out.below hb))
  go_enter Tryd.func9, Tryd.ntmps9
  go_wp2_with fail
  refine (C0.out _ (by repeat (first | with_reducible exact On.refl _ | apply On.drewN | apply On.alloc))).mono ?_
  rintro e w0 ⟨rfl, n0', rfl⟩
  go_wp2_with fail
  refine (C1.out _ (by repeat (first | with_reducible exact On.refl _ | apply On.drewN | apply On.alloc))).mono ?_
  rintro e w1 ⟨rfl, n1', rfl⟩
  go_wp2_with fail
  go_ret
  exact ⟨rfl, by repeat (first | with_reducible exact On.refl _ | apply On.alloc | apply On.drewN)⟩
/-- What is left of a count behind several lengths. -/
def restL : Nat → List Nat → Int
  | left, [] => (left : Int)
  | left, l :: ls => if l ≤ left then restL (left - l) ls else -1
theorem restL_or (ls : List Nat) : ∀ left, restL left ls = -1 ∨ ∃ r : Nat, restL left ls = (r : Int) ∧ r ≤ left ∧ ∀ l ∈ ls, l ≤ left := by
  induction ls with
  | nil => intro left; exact .inr ⟨left, rfl, Nat.le_refl _, fun _ h => by cases h⟩
  | cons l ls ih =>
    intro left
    unfold restL
    by_cases h : l ≤ left
    · rw [if_pos h]
      rcases ih (left - l) with h1 | ⟨r, h1, h2, h3⟩
      · exact .inl h1
      · refine .inr ⟨r, h1, by omega, fun m hm => ?_⟩
        rcases List.mem_cons.1 hm with rfl | hm
        · exact h
        · have := h3 m hm; omega
    · rw [if_neg h]; exact .inl rfl
theorem restL_yes {left l : Nat} {ls : List Nat} (h : l ≤ left) : restL left (l :: ls) = restL (left - l) ls := if_pos h
theorem restL_no {left l : Nat} {ls : List Nat} (h : ¬ l ≤ left) : restL left (l :: ls) = -1 := if_neg h

/-- What is left of a count behind one length. -/
def rest (left len : Nat) : Int := if len ≤ left then ((left - len : Nat) : Int) else -1
theorem rest_yes {left len : Nat} (h : len ≤ left) : rest left len = ((left - len : Nat) : Int) := if_pos h
theorem rest_no {left len : Nat} (h : ¬ len ≤ left) : rest left len = -1 := if_neg h
theorem szInts (left len : Nat) (a : Option Addr) (cap : Nat) (w : World) (h : left ≤ 1048576) (hl : len ≤ maxLen) :
    Calls Tryd.prog 14 #[.slice a len cap, .int .i64 left] w fun e w' => e = .returned (.int .i64 (rest left len)) ∧ w = w' := by
  unfold maxLen at hl
  by_cases hle : len ≤ left
  · have en := Lib.hid (show (left : Int) - (len : Int) = rest left len by rw [rest_yes hle]; omega)
    have h0 : ¬ (left : Int) - (len : Int) < 0 := by omega
    go_enter Tryd.func14, Tryd.ntmps14
    go_wp2_with fail
    go_ret
    exact ⟨ret_int en.out, rfl⟩
  · have en := Lib.hid (show (-1 : Int) = rest left len from (rest_no hle).symm)
    have h0 : (left : Int) - (len : Int) < 0 := by omega
    go_enter Tryd.func14, Tryd.ntmps14
    go_wp2_with fail
    go_ret
    exact ⟨ret_int en.out, rfl⟩
set_option maxHeartbeats 2000000 in
theorem count (left : Nat)  (a0 : Option Addr) (l0 cap0 : Nat) (a1 : Option Addr) (l1 cap1 : Nat) (w : World) (h : left ≤ 1048576) (m0 : l0 ≤ maxLen) (m1 : l1 ≤ maxLen) :
    Calls Tryd.prog 5 #[.agg #[.slice a0 l0 cap0, .slice a1 l1 cap1], .int .i64 left] w fun e w' => e = .returned (.int .i64 (restL left [l0, l1])) ∧ On w w' := by
  have M0 := m0
  have M1 := m1
  unfold maxLen at m0 m1
  by_cases g0 : l0 ≤ left
  · obtain ⟨r0, e0⟩ : ∃ r : Nat, r = left - l0 := ⟨_, rfl⟩
    have q0 : ¬ ((r0 : Nat) : Int) < 0 := by omega
    have S0 := Lib.hid (fun w => show Calls Tryd.prog 14 #[.slice a0 l0 cap0, .int .i64 left] w fun e w' => e = .returned (.int .i64 ((r0 : Nat) : Int)) ∧ w = w' from by have := szInts left l0 a0 cap0 w (by omega) M0; rw [rest_yes g0, ← e0] at this; exact this)
    by_cases g1 : l1 ≤ r0
    · obtain ⟨r1, e1⟩ : ∃ r : Nat, r = r0 - l1 := ⟨_, rfl⟩
      have q1 : ¬ ((r1 : Nat) : Int) < 0 := by omega
      have S1 := Lib.hid (fun w => show Calls Tryd.prog 14 #[.slice a1 l1 cap1, .int .i64 r0] w fun e w' => e = .returned (.int .i64 ((r1 : Nat) : Int)) ∧ w = w' from by have := szInts r0 l1 a1 cap1 w (by omega) M1; rw [rest_yes g1, ← e1] at this; exact this)
      have en := Lib.hid (show restL left [l0, l1] = ((r1 : Nat) : Int) by rw [restL_yes g0, ← e0, restL_yes g1, ← e1]; rfl)
      clear e0 e1
      go_enter Tryd.func5, Tryd.ntmps5
      go_wp2_with fail
      refine (S0.out _).mono ?_
      rintro e w1 ⟨rfl, rfl⟩
      go_wp2_with fail
      refine (S1.out _).mono ?_
      rintro e w1 ⟨rfl, rfl⟩
      go_wp2_with fail
      go_ret
      exact ⟨ret_int en.out.symm, by repeat (first | with_reducible exact On.refl _ | apply On.alloc)⟩
    · have en := Lib.hid (show restL left [l0, l1] = -1 by rw [restL_yes g0, ← e0, restL_no g1])
      have S1 := Lib.hid (fun w => show Calls Tryd.prog 14 #[.slice a1 l1 cap1, .int .i64 r0] w fun e w' => e = .returned (.int .i64 (-1)) ∧ w = w' from by have := szInts r0 l1 a1 cap1 w (by omega) M1; rw [rest_no g1] at this; exact this)
      clear e0
      go_enter Tryd.func5, Tryd.ntmps5
      go_wp2_with fail
      refine (S0.out _).mono ?_
      rintro e w1 ⟨rfl, rfl⟩
      go_wp2_with fail
      refine (S1.out _).mono ?_
      rintro e w1 ⟨rfl, rfl⟩
      go_wp2_with fail
      go_ret
      exact ⟨ret_int en.out.symm, by repeat (first | with_reducible exact On.refl _ | apply On.alloc)⟩
  · have en := Lib.hid (show restL left [l0, l1] = -1 by rw [restL_no g0])
    have S0 := Lib.hid (fun w => show Calls Tryd.prog 14 #[.slice a0 l0 cap0, .int .i64 left] w fun e w' => e = .returned (.int .i64 (-1)) ∧ w = w' from by have := szInts left l0 a0 cap0 w (by omega) M0; rw [rest_no g0] at this; exact this)
    go_enter Tryd.func5, Tryd.ntmps5
    go_wp2_with fail
    refine (S0.out _).mono ?_
    rintro e w1 ⟨rfl, rfl⟩
    go_wp2_with fail
    go_ret
    exact ⟨ret_int en.out.symm, by repeat (first | with_reducible exact On.refl _ | apply On.alloc)⟩
end Go.Proofs.YtjnkfpgglhgkaaaDoor.Msk
