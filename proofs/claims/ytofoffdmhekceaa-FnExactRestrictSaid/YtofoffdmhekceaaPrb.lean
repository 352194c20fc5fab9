
/-
  Records Problem, whose fields are slices of records: what the laws' copy, comparison and count of them return. Condition: at most 1048576 elements in each slice, and numbers and bytes in each of these.
-/
import Derived.Test.YtofoffdmhekceaaMts
namespace Go.Proofs.Ytofoffdmhekceaa.Prb
open Go.RowKit

/-- What such a record holds. -/
structure T where
  f0 : List Mts.Z
  f1 : List Mts.Z
def T.Small (m : Nat) (N : T) : Prop := (N.f0.length ≤ m ∧ ∀ k, k < N.f0.length → Mts.Small m (N.f0.getD k Mts.d0)) ∧ (N.f1.length ≤ m ∧ ∀ k, k < N.f1.length → Mts.Small m (N.f1.getD k Mts.d0))
/-- The value v reads as N. -/
def Is (w : World) (v : Value) (N : T) : Prop := ∃ v0 v1, v = .agg #[v0, v1] ∧ Mts.Rows w v0 N.f0 ∧ Mts.Rows w v1 N.f1
theorem Is.on {w w' : World} {v : Value} {N : T} (h : Is w v N) (ho : On w w') : Is w' v N := by
  obtain ⟨v0, v1, rfl, h0, h1⟩ := h
  exact ⟨v0, v1, rfl, h0.on ho, h1.on ho⟩
/-- The same, in memory from block B on. -/
def IsO (B : Nat) (w : World) (v : Value) (N : T) : Prop := ∃ v0 v1, v = .agg #[v0, v1] ∧ Mts.RowsO B w v0 N.f0 ∧ Mts.RowsO B w v1 N.f1
theorem IsO.is {B : Nat} {w : World} {v : Value} {N : T} (h : IsO B w v N) : Is w v N := by
  obtain ⟨v0, v1, rfl, h0, h1⟩ := h
  exact ⟨v0, v1, rfl, h0.rows, h1.rows⟩
theorem IsO.on {B : Nat} {w w' : World} {v : Value} {N : T} (h : IsO B w v N) (ho : On w w') : IsO B w' v N := by
  obtain ⟨v0, v1, rfl, h0, h1⟩ := h
  exact ⟨v0, v1, rfl, h0.on ho, h1.on ho⟩
theorem IsO.mono {B B' : Nat} {w : World} {v : Value} {N : T} (h : IsO B w v N) (hb : B' ≤ B) : IsO B' w v N := by
  obtain ⟨v0, v1, rfl, h0, h1⟩ := h
  exact ⟨v0, v1, rfl, h0.mono hb, h1.mono hb⟩
set_option maxHeartbeats 4000000 in
theorem copy (v : Value) (N : T) (w : World) (hn : N.Small 1048576) (h : Is w v N) :
    Calls Try.prog 12 #[v] w fun e w' => ∃ v', e = .returned v' ∧ IsO w.heap.size w' v' N ∧ On w w' := by
  obtain ⟨v0, v1, rfl, h0, h1⟩ := h
  have H0 := Lib.hid h0
  have H1 := Lib.hid h1
  obtain ⟨a0, cap0, rfl, -⟩ := h0
  obtain ⟨a1, cap1, rfl, -⟩ := h1
  have C0 := Lib.hid (fun w' (hb : On w w') => Mts.copyS _ N.f0 w' hn.1.1 (H0.out.on hb) hn.1.2)
  have C1 := Lib.hid (fun w' (hb : On w w') => Mts.copyS _ N.f1 w' hn.2.1 (H1.out.on hb) hn.2.2)
  go_enter Try.func12, Try.ntmps12
  go_wp2_with fail
  refine (C0.out _ (by repeat (first | with_reducible exact On.refl _ | apply On.alloc | refine On.setCell ?_ (by (try simp) <;> omega) _))).mono ?_
  rintro e w1 ⟨b0, dap0, rfl, own0, hb0⟩
  have hb0' : On _ w1 := hb0
  have B0_1 := Lib.hid (own0.mono (B' := w.heap.size + 3) (by simp))
  clear own0
  obtain ⟨hc0, hf0⟩ := bcell hb0'
  obtain ⟨y0_0, y0_1, y0_2⟩ : w.heap.size < w1.heap.size ∧ w.heap.size + 1 < w1.heap.size ∧ w.heap.size + 2 < w1.heap.size := by have := hb0'.size; simp at this; omega
  have hO1 : On w w1 := by refine On.trans ?_ hb0'; repeat (first | with_reducible exact On.refl _ | apply On.alloc | refine On.setCell ?_ (by (try simp) <;> omega) _)
  go_wp2_with fail
  refine (C1.out _ (by repeat (first | with_reducible exact hO1 | refine On.setCell ?_ (by (try simp) <;> omega) _))).mono ?_
  rintro e w2 ⟨b1, dap1, rfl, own1, hb1⟩
  have hb1' : On _ w2 := hb1
  have B1_2 := Lib.hid (own1.mono (B' := w.heap.size + 3) (by simp; omega))
  have B0_2 := Lib.hid ((B0_1.out.setCell (by simp) _).on hb1')
  clear own1
  obtain ⟨hc1, hf1⟩ := bcell hb1'
  obtain ⟨y1_0, y1_1, y1_2⟩ : w.heap.size < w2.heap.size ∧ w.heap.size + 1 < w2.heap.size ∧ w.heap.size + 2 < w2.heap.size := by have := hb1'.size; simp at this; omega
  have hO2 : On w w2 := by refine On.trans ?_ hb1'; repeat (first | with_reducible exact hO1 | refine On.setCell ?_ (by (try simp) <;> omega) _)
  go_wp2_with fail
  refine bodyPost_ret (v := .agg #[.slice b0 N.f0.length dap0, .slice b1 N.f1.length dap1]) (by simp [results, Try.results12, go_sem, hc0, y0_1, hc1]) rfl ⟨_, rfl, ⟨_, _, rfl, ?_, ?_⟩, ?_⟩
  · refine Mts.RowsO.mono (B := w.heap.size + 3) ?_ (by omega)
    repeat (first | with_reducible exact B0_2.out | refine Mts.RowsO.setCell ?_ (by simp) _)
  · refine Mts.RowsO.mono (B := w.heap.size + 3) ?_ (by omega)
    repeat (first | with_reducible exact B1_2.out | refine Mts.RowsO.setCell ?_ (by simp) _)
  · repeat (first | with_reducible exact hO2 | (refine On.setCell ?_ (by (try simp) <;> omega) _))
set_option maxHeartbeats 4000000 in
theorem eq (v u : Value) (N : T) (w : World) (hn : N.Small 1048576) (h : Is w v N) (k : Is w u N) :
    Calls Try.prog 14 #[v, u] w fun e w' => e = .returned (.bool true) ∧ On w w' := by
  obtain ⟨v0, v1, rfl, h0, h1⟩ := h
  obtain ⟨u0, u1, rfl, k0, k1⟩ := k
  have H0 := Lib.hid h0
  have K0 := Lib.hid k0
  have H1 := Lib.hid h1
  have K1 := Lib.hid k1
  obtain ⟨a0, cap0, rfl, -⟩ := h0
  obtain ⟨b0, dap0, rfl, -⟩ := k0
  obtain ⟨a1, cap1, rfl, -⟩ := h1
  obtain ⟨b1, dap1, rfl, -⟩ := k1
  have C0 := Lib.hid (fun w' (hb : On w w') => Mts.eqS _ _ N.f0 w' hn.1.1 (H0.out.on hb) (K0.out.on hb) hn.1.2)
  have C1 := Lib.hid (fun w' (hb : On w w') => Mts.eqS _ _ N.f1 w' hn.2.1 (H1.out.on hb) (K1.out.on hb) hn.2.2)
  go_enter Try.func14, Try.ntmps14
  go_wp2_with fail
  refine (C0.out _ (by repeat (first | with_reducible exact On.refl _ | apply On.alloc | refine On.setCell ?_ (by (try simp) <;> omega) _))).mono ?_
  rintro e w1 ⟨rfl, hb0⟩
  have hb0' : On _ w1 := hb0
  obtain ⟨hc0, hf0⟩ := bcell hb0'
  obtain ⟨y0_0, y0_1⟩ : w.heap.size < w1.heap.size ∧ w.heap.size + 1 < w1.heap.size := by have := hb0'.size; simp at this; omega
  have hO1 : On w w1 := by refine On.trans ?_ hb0'; repeat (first | with_reducible exact On.refl _ | apply On.alloc | refine On.setCell ?_ (by (try simp) <;> omega) _)
  go_wp2_with fail
  refine (C1.out _ (by exact hO1)).mono ?_
  rintro e w2 ⟨rfl, hb1⟩
  have hb1' : On _ w2 := hb1
  obtain ⟨hc1, hf1⟩ := bcell hb1'
  obtain ⟨y1_0, y1_1⟩ : w.heap.size < w2.heap.size ∧ w.heap.size + 1 < w2.heap.size := by have := hb1'.size; omega
  have hO2 : On w w2 := by refine On.trans ?_ hb1'; exact hO1
  go_wp2_with fail
  go_ret
  exact ⟨rfl, hO2⟩
set_option maxHeartbeats 4000000 in
theorem count (left : Nat) (v : Value) (N : T) (w : World) (hleft : left ≤ 1048576) (hn : N.Small maxLen) (h : Is w v N) :
    Calls Try.prog 10 #[v, .int .i64 left] w fun e w' => ∃ r : Int, e = .returned (.int .i64 r) ∧ On w w' ∧ (r < 0 ∨ ∃ c : Nat, r = (c : Int) ∧ c ≤ 1048576 ∧ N.Small 1048576) := by
  obtain ⟨v0, v1, rfl, h0, h1⟩ := h
  have H0 := Lib.hid h0
  have H1 := Lib.hid h1
  obtain ⟨a0, cap0, rfl, -⟩ := h0
  obtain ⟨a1, cap1, rfl, -⟩ := h1
  have C0 := Lib.hid (fun c w' (hc : c ≤ 1048576) (hb : On w w') => Mts.szS c _ N.f0 w' hc hn.1.1 hn.1.2 (H0.out.on hb))
  have C1 := Lib.hid (fun c w' (hc : c ≤ 1048576) (hb : On w w') => Mts.szS c _ N.f1 w' hc hn.2.1 hn.2.2 (H1.out.on hb))
  clear hn
  go_enter Try.func10, Try.ntmps10
  go_wp2_with fail
  refine (C0.out left _ (by omega) (by repeat (first | with_reducible exact On.refl _ | apply On.alloc | refine On.setCell ?_ (by (try simp) <;> omega) _))).mono ?_
  rintro e w1 ⟨r, rfl, hb0, hr⟩
  have hb0' : On _ w1 := hb0
  obtain ⟨hc0, hf0⟩ := bcell hb0'
  have y0 : w.heap.size < w1.heap.size := by have := hb0'.size; simp at this; omega
  have hO1 : On w w1 := by refine On.trans ?_ hb0'; repeat (first | with_reducible exact On.refl _ | apply On.alloc | refine On.setCell ?_ (by (try simp) <;> omega) _)
  rcases hr with hr | ⟨c0, rfl, l0, s0, e0⟩
  · go_wp2_with fail
    go_ret
    exact ⟨_, rfl, hO1, .inl (by omega)⟩
  · have S0 := Lib.hid (And.intro s0 e0)
    have t0 : ¬ ((c0 : Nat) : Int) < 0 := by omega
    clear e0
    go_wp2_with fail
    refine (C1.out c0 _ (by omega) (by exact hO1)).mono ?_
    rintro e w2 ⟨r, rfl, hb1, hr⟩
    have hb1' : On _ w2 := hb1
    obtain ⟨hc1, hf1⟩ := bcell hb1'
    have y1 : w.heap.size < w2.heap.size := by have := hb1'.size; omega
    have hO2 : On w w2 := by refine On.trans ?_ hb1'; exact hO1
    rcases hr with hr | ⟨c1, rfl, l1, s1, e1⟩
    · go_wp2_with fail
      go_ret
      exact ⟨_, rfl, hO2, .inl (by omega)⟩
    · have S1 := Lib.hid (And.intro s1 e1)
      have t1 : ¬ ((c1 : Nat) : Int) < 0 := by omega
      clear e1
      go_wp2_with fail
      go_ret
      exact ⟨_, rfl, hO2, .inr ⟨c1, rfl, by omega, ⟨by have := S0.out.1; omega, fun k hk => (S0.out.2 k hk).mono (by omega)⟩, ⟨by have := S1.out.1; omega, fun k hk => (S1.out.2 k hk).mono (by omega)⟩⟩⟩
end Go.Proofs.Ytofoffdmhekceaa.Prb
