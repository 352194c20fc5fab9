
/-
  Records Network, whose fields are slices of records: what the laws' copy, comparison and count of them return. Condition: at most 1048576 elements in each slice, and numbers and bytes in each of these.
-/
import Derived.Test.YtpnmodmaabhldaaGreatSites
import Derived.Test.YtpnmodmaabhldaaGreatSecs
import Derived.Test.YtpnmodmaabhldaaGreatAnts
import Derived.Test.YtpnmodmaabhldaaGreatRads
namespace Go.Proofs.YtpnmodmaabhldaaGreat.Net
open Go.RowKit

/-- What such a record holds. -/
structure T where
  f0 : List Sites.Z
  f1 : List Secs.Z
  f2 : List Ants.Z
  f3 : List Rads.Z
def T.Small (m : Nat) (N : T) : Prop := (N.f0.length ≤ m ∧ ∀ k, k < N.f0.length → Sites.Small m (N.f0.getD k Sites.d0)) ∧ (N.f1.length ≤ m ∧ ∀ k, k < N.f1.length → Secs.Small m (N.f1.getD k Secs.d0)) ∧ (N.f2.length ≤ m ∧ ∀ k, k < N.f2.length → Ants.Small m (N.f2.getD k Ants.d0)) ∧ (N.f3.length ≤ m ∧ ∀ k, k < N.f3.length → Rads.Small m (N.f3.getD k Rads.d0))
/-- The value v reads as N. -/
def Is (w : World) (v : Value) (N : T) : Prop := ∃ v0 v1 v2 v3, v = .agg #[v0, v1, v2, v3] ∧ Sites.Rows w v0 N.f0 ∧ Secs.Rows w v1 N.f1 ∧ Ants.Rows w v2 N.f2 ∧ Rads.Rows w v3 N.f3
theorem Is.on {w w' : World} {v : Value} {N : T} (h : Is w v N) (ho : On w w') : Is w' v N := by
  obtain ⟨v0, v1, v2, v3, rfl, h0, h1, h2, h3⟩ := h
  exact ⟨v0, v1, v2, v3, rfl, h0.on ho, h1.on ho, h2.on ho, h3.on ho⟩
/-- The same, in memory from block B on. -/
def IsO (B : Nat) (w : World) (v : Value) (N : T) : Prop := ∃ v0 v1 v2 v3, v = .agg #[v0, v1, v2, v3] ∧ Sites.RowsO B w v0 N.f0 ∧ Secs.RowsO B w v1 N.f1 ∧ Ants.RowsO B w v2 N.f2 ∧ Rads.RowsO B w v3 N.f3
theorem IsO.is {B : Nat} {w : World} {v : Value} {N : T} (h : IsO B w v N) : Is w v N := by
  obtain ⟨v0, v1, v2, v3, rfl, h0, h1, h2, h3⟩ := h
  exact ⟨v0, v1, v2, v3, rfl, h0.rows, h1.rows, h2.rows, h3.rows⟩
theorem IsO.on {B : Nat} {w w' : World} {v : Value} {N : T} (h : IsO B w v N) (ho : On w w') : IsO B w' v N := by
  obtain ⟨v0, v1, v2, v3, rfl, h0, h1, h2, h3⟩ := h
  exact ⟨v0, v1, v2, v3, rfl, h0.on ho, h1.on ho, h2.on ho, h3.on ho⟩
theorem IsO.mono {B B' : Nat} {w : World} {v : Value} {N : T} (h : IsO B w v N) (hb : B' ≤ B) : IsO B' w v N := by
  obtain ⟨v0, v1, v2, v3, rfl, h0, h1, h2, h3⟩ := h
  exact ⟨v0, v1, v2, v3, rfl, h0.mono hb, h1.mono hb, h2.mono hb, h3.mono hb⟩
set_option maxHeartbeats 4000000 in
theorem copy (v : Value) (N : T) (w : World) (hn : N.Small 1048576) (h : Is w v N) :
    Calls Tryz.prog 13 #[v] w fun e w' => ∃ v', e = .returned v' ∧ IsO w.heap.size w' v' N ∧ On w w' := by
  obtain ⟨v0, v1, v2, v3, rfl, h0, h1, h2, h3⟩ := h
  have H0 := Lib.hid h0
  have H1 := Lib.hid h1
  have H2 := Lib.hid h2
  have H3 := Lib.hid h3
  obtain ⟨a0, cap0, rfl, -⟩ := h0
  obtain ⟨a1, cap1, rfl, -⟩ := h1
  obtain ⟨a2, cap2, rfl, -⟩ := h2
  obtain ⟨a3, cap3, rfl, -⟩ := h3
  have C0 := Lib.hid (fun w' (hb : On w w') => Sites.copyS _ N.f0 w' hn.1.1 (H0.out.on hb))
  have C1 := Lib.hid (fun w' (hb : On w w') => Secs.copyS _ N.f1 w' hn.2.1.1 (H1.out.on hb))
  have C2 := Lib.hid (fun w' (hb : On w w') => Ants.copyS _ N.f2 w' hn.2.2.1.1 (H2.out.on hb) hn.2.2.1.2)
  have C3 := Lib.hid (fun w' (hb : On w w') => Rads.copyS _ N.f3 w' hn.2.2.2.1 (H3.out.on hb) hn.2.2.2.2)
  go_enter Tryz.func13, Tryz.ntmps13
  go_wp2_with fail
  refine (C0.out _ (by repeat (first | with_reducible exact On.refl _ | apply On.alloc | refine On.setCell ?_ (by (try simp) <;> omega) _))).mono ?_
  rintro e w1 ⟨b0, dap0, rfl, own0, hb0⟩
  have hb0' : On _ w1 := hb0
  have B0_1 := Lib.hid (own0.mono (B' := w.heap.size + 3) (by simp))
  clear own0
  obtain ⟨hc0, hf0⟩ := bcell hb0'
  obtain ⟨y0_0, y0_1, y0_2⟩ : w.heap.size < w1.heap.size ∧ w.heap.size + 1 < w1.heap.size ∧ w.heap.size + 2 < w1.heap.size := by have := hb0'.size; simp at this; omega
  have hO1 : On w w1 := by refine On.trans ?_ hb0'; repeat (first | with_reducible exact On.refl _ | apply On.alloc | refine On.setCell ?_ (by (try simp) <;> omega) _)
  go_wp2_with fail
  refine (C1.out _ (by repeat (first | with_reducible exact hO1 | refine On.setCell ?_ (by (try simp) <;> omega) _))).mono ?_
  rintro e w2 ⟨b1, dap1, rfl, own1, hb1⟩
  have hb1' : On _ w2 := hb1
  have B1_2 := Lib.hid (own1.mono (B' := w.heap.size + 3) (by simp; omega))
  have B0_2 := Lib.hid ((B0_1.out.setCell (by simp) _).on hb1')
  clear own1
  obtain ⟨hc1, hf1⟩ := bcell hb1'
  obtain ⟨y1_0, y1_1, y1_2⟩ : w.heap.size < w2.heap.size ∧ w.heap.size + 1 < w2.heap.size ∧ w.heap.size + 2 < w2.heap.size := by have := hb1'.size; simp at this; omega
  have hO2 : On w w2 := by refine On.trans ?_ hb1'; repeat (first | with_reducible exact hO1 | refine On.setCell ?_ (by (try simp) <;> omega) _)
  go_wp2_with fail
  refine (C2.out _ (by repeat (first | with_reducible exact hO2 | refine On.setCell ?_ (by (try simp) <;> omega) _))).mono ?_
  rintro e w3 ⟨b2, dap2, rfl, own2, hb2⟩
  have hb2' : On _ w3 := hb2
  have B2_3 := Lib.hid (own2.mono (B' := w.heap.size + 3) (by simp; omega))
  have B0_3 := Lib.hid ((B0_2.out.setCell (by simp) _).on hb2')
  have B1_3 := Lib.hid ((B1_2.out.setCell (by simp) _).on hb2')
  clear own2
  obtain ⟨hc2, hf2⟩ := bcell hb2'
  obtain ⟨y2_0, y2_1, y2_2⟩ : w.heap.size < w3.heap.size ∧ w.heap.size + 1 < w3.heap.size ∧ w.heap.size + 2 < w3.heap.size := by have := hb2'.size; simp at this; omega
  have hO3 : On w w3 := by refine On.trans ?_ hb2'; repeat (first | with_reducible exact hO2 | refine On.setCell ?_ (by (try simp) <;> omega) _)
  go_wp2_with fail
  refine (C3.out _ (by repeat (first | with_reducible exact hO3 | refine On.setCell ?_ (by (try simp) <;> omega) _))).mono ?_
  rintro e w4 ⟨b3, dap3, rfl, own3, hb3⟩
  have hb3' : On _ w4 := hb3
  have B3_4 := Lib.hid (own3.mono (B' := w.heap.size + 3) (by simp; omega))
  have B0_4 := Lib.hid ((B0_3.out.setCell (by simp) _).on hb3')
  have B1_4 := Lib.hid ((B1_3.out.setCell (by simp) _).on hb3')
  have B2_4 := Lib.hid ((B2_3.out.setCell (by simp) _).on hb3')
  clear own3
  obtain ⟨hc3, hf3⟩ := bcell hb3'
  obtain ⟨y3_0, y3_1, y3_2⟩ : w.heap.size < w4.heap.size ∧ w.heap.size + 1 < w4.heap.size ∧ w.heap.size + 2 < w4.heap.size := by have := hb3'.size; simp at this; omega
  have hO4 : On w w4 := by refine On.trans ?_ hb3'; repeat (first | with_reducible exact hO3 | refine On.setCell ?_ (by (try simp) <;> omega) _)
  go_wp2_with fail
  refine bodyPost_ret (v := .agg #[.slice b0 N.f0.length dap0, .slice b1 N.f1.length dap1, .slice b2 N.f2.length dap2, .slice b3 N.f3.length dap3]) (by simp [results, Tryz.results13, go_sem, hc0, y0_1, hc1, y1_1, hc2, y2_1, hc3]) rfl ⟨_, rfl, ⟨_, _, _, _, rfl, ?_, ?_, ?_, ?_⟩, ?_⟩
  · refine Sites.RowsO.mono (B := w.heap.size + 3) ?_ (by omega)
    repeat (first | with_reducible exact B0_4.out | refine Sites.RowsO.setCell ?_ (by simp) _)
  · refine Secs.RowsO.mono (B := w.heap.size + 3) ?_ (by omega)
    repeat (first | with_reducible exact B1_4.out | refine Secs.RowsO.setCell ?_ (by simp) _)
  · refine Ants.RowsO.mono (B := w.heap.size + 3) ?_ (by omega)
    repeat (first | with_reducible exact B2_4.out | refine Ants.RowsO.setCell ?_ (by simp) _)
  · refine Rads.RowsO.mono (B := w.heap.size + 3) ?_ (by omega)
    repeat (first | with_reducible exact B3_4.out | refine Rads.RowsO.setCell ?_ (by simp) _)
  · repeat (first | with_reducible exact hO4 | (refine On.setCell ?_ (by (try simp) <;> omega) _))
set_option maxHeartbeats 4000000 in
theorem eq (v u : Value) (N : T) (w : World) (hn : N.Small 1048576) (h : Is w v N) (k : Is w u N) :
    Calls Tryz.prog 16 #[v, u] w fun e w' => e = .returned (.bool true) ∧ On w w' := by
  obtain ⟨v0, v1, v2, v3, rfl, h0, h1, h2, h3⟩ := h
  obtain ⟨u0, u1, u2, u3, rfl, k0, k1, k2, k3⟩ := k
  have H0 := Lib.hid h0
  have K0 := Lib.hid k0
  have H1 := Lib.hid h1
  have K1 := Lib.hid k1
  have H2 := Lib.hid h2
  have K2 := Lib.hid k2
  have H3 := Lib.hid h3
  have K3 := Lib.hid k3
  obtain ⟨a0, cap0, rfl, -⟩ := h0
  obtain ⟨b0, dap0, rfl, -⟩ := k0
  obtain ⟨a1, cap1, rfl, -⟩ := h1
  obtain ⟨b1, dap1, rfl, -⟩ := k1
  obtain ⟨a2, cap2, rfl, -⟩ := h2
  obtain ⟨b2, dap2, rfl, -⟩ := k2
  obtain ⟨a3, cap3, rfl, -⟩ := h3
  obtain ⟨b3, dap3, rfl, -⟩ := k3
  have C0 := Lib.hid (fun w' (hb : On w w') => Sites.eqS _ _ N.f0 w' hn.1.1 (H0.out.on hb) (K0.out.on hb))
  have C1 := Lib.hid (fun w' (hb : On w w') => Secs.eqS _ _ N.f1 w' hn.2.1.1 (H1.out.on hb) (K1.out.on hb))
  have C2 := Lib.hid (fun w' (hb : On w w') => Ants.eqS _ _ N.f2 w' hn.2.2.1.1 (H2.out.on hb) (K2.out.on hb) hn.2.2.1.2)
  have C3 := Lib.hid (fun w' (hb : On w w') => Rads.eqS _ _ N.f3 w' hn.2.2.2.1 (H3.out.on hb) (K3.out.on hb) hn.2.2.2.2)
  go_enter Tryz.func16, Tryz.ntmps16
  go_wp2_with fail
  refine (C0.out _ (by repeat (first | with_reducible exact On.refl _ | apply On.alloc | refine On.setCell ?_ (by (try simp) <;> omega) _))).mono ?_
  rintro e w1 ⟨rfl, hb0⟩
  have hb0' : On _ w1 := hb0
  obtain ⟨hc0, hf0⟩ := bcell hb0'
  obtain ⟨y0_0, y0_1⟩ : w.heap.size < w1.heap.size ∧ w.heap.size + 1 < w1.heap.size := by have := hb0'.size; simp at this; omega
  have hO1 : On w w1 := by refine On.trans ?_ hb0'; repeat (first | with_reducible exact On.refl _ | apply On.alloc | refine On.setCell ?_ (by (try simp) <;> omega) _)
  go_wp2_with fail
  refine (C1.out _ (by exact hO1)).mono ?_
  rintro e w2 ⟨rfl, hb1⟩
  have hb1' : On _ w2 := hb1
  obtain ⟨hc1, hf1⟩ := bcell hb1'
  obtain ⟨y1_0, y1_1⟩ : w.heap.size < w2.heap.size ∧ w.heap.size + 1 < w2.heap.size := by have := hb1'.size; omega
  have hO2 : On w w2 := by refine On.trans ?_ hb1'; exact hO1
  go_wp2_with fail
  refine (C2.out _ (by exact hO2)).mono ?_
  rintro e w3 ⟨rfl, hb2⟩
  have hb2' : On _ w3 := hb2
  obtain ⟨hc2, hf2⟩ := bcell hb2'
  obtain ⟨y2_0, y2_1⟩ : w.heap.size < w3.heap.size ∧ w.heap.size + 1 < w3.heap.size := by have := hb2'.size; omega
  have hO3 : On w w3 := by refine On.trans ?_ hb2'; exact hO2
  go_wp2_with fail
  refine (C3.out _ (by exact hO3)).mono ?_
  rintro e w4 ⟨rfl, hb3⟩
  have hb3' : On _ w4 := hb3
  obtain ⟨hc3, hf3⟩ := bcell hb3'
  obtain ⟨y3_0, y3_1⟩ : w.heap.size < w4.heap.size ∧ w.heap.size + 1 < w4.heap.size := by have := hb3'.size; omega
  have hO4 : On w w4 := by refine On.trans ?_ hb3'; exact hO3
  go_wp2_with fail
  go_ret
  exact ⟨rfl, hO4⟩
set_option maxHeartbeats 4000000 in
theorem count (left : Nat) (v : Value) (N : T) (w : World) (hleft : left ≤ 1048576) (hn : N.Small maxLen) (h : Is w v N) :
    Calls Tryz.prog 11 #[v, .int .i64 left] w fun e w' => ∃ r : Int, e = .returned (.int .i64 r) ∧ On w w' ∧ (r < 0 ∨ ∃ c : Nat, r = (c : Int) ∧ c ≤ left ∧ N.Small 1048576) := by
  obtain ⟨v0, v1, v2, v3, rfl, h0, h1, h2, h3⟩ := h
  have H0 := Lib.hid h0
  have H1 := Lib.hid h1
  have H2 := Lib.hid h2
  have H3 := Lib.hid h3
  obtain ⟨a0, cap0, rfl, -⟩ := h0
  obtain ⟨a1, cap1, rfl, -⟩ := h1
  obtain ⟨a2, cap2, rfl, -⟩ := h2
  obtain ⟨a3, cap3, rfl, -⟩ := h3
  have C0 := Lib.hid (fun c w' (hc : c ≤ 1048576) (hb : On w w') => Sites.szS c _ N.f0 w' hc hn.1.1 hn.1.2 (H0.out.on hb))
  have C1 := Lib.hid (fun c w' (hc : c ≤ 1048576) (hb : On w w') => Secs.szS c _ N.f1 w' hc hn.2.1.1 hn.2.1.2 (H1.out.on hb))
  have C2 := Lib.hid (fun c w' (hc : c ≤ 1048576) (hb : On w w') => Ants.szS c _ N.f2 w' hc hn.2.2.1.1 hn.2.2.1.2 (H2.out.on hb))
  have C3 := Lib.hid (fun c w' (hc : c ≤ 1048576) (hb : On w w') => Rads.szS c _ N.f3 w' hc hn.2.2.2.1 hn.2.2.2.2 (H3.out.on hb))
  clear hn
  go_enter Tryz.func11, Tryz.ntmps11
  go_wp2_with fail
  refine (C0.out left _ (by omega) (by repeat (first | with_reducible exact On.refl _ | apply On.alloc | refine On.setCell ?_ (by (try simp) <;> omega) _))).mono ?_
  rintro e w1 ⟨r, rfl, hb0, hr⟩
  have hb0' : On _ w1 := hb0
  obtain ⟨hc0, hf0⟩ := bcell hb0'
  have y0 : w.heap.size < w1.heap.size := by have := hb0'.size; simp at this; omega
  have hO1 : On w w1 := by refine On.trans ?_ hb0'; repeat (first | with_reducible exact On.refl _ | apply On.alloc | refine On.setCell ?_ (by (try simp) <;> omega) _)
  rcases hr with hr | ⟨c0, rfl, l0, s0, e0⟩
  · go_wp2_with fail
    go_ret
    exact ⟨_, rfl, hO1, .inl (by omega)⟩
  · have S0 := Lib.hid (And.intro s0 e0)
    have t0 : ¬ ((c0 : Nat) : Int) < 0 := by omega
    clear e0
    go_wp2_with fail
    refine (C1.out c0 _ (by omega) (by exact hO1)).mono ?_
    rintro e w2 ⟨r, rfl, hb1, hr⟩
    have hb1' : On _ w2 := hb1
    obtain ⟨hc1, hf1⟩ := bcell hb1'
    have y1 : w.heap.size < w2.heap.size := by have := hb1'.size; omega
    have hO2 : On w w2 := by refine On.trans ?_ hb1'; exact hO1
    rcases hr with hr | ⟨c1, rfl, l1, s1, e1⟩
    · go_wp2_with fail
      go_ret
      exact ⟨_, rfl, hO2, .inl (by omega)⟩
    · have S1 := Lib.hid (And.intro s1 e1)
      have t1 : ¬ ((c1 : Nat) : Int) < 0 := by omega
      clear e1
      go_wp2_with fail
      refine (C2.out c1 _ (by omega) (by exact hO2)).mono ?_
      rintro e w3 ⟨r, rfl, hb2, hr⟩
      have hb2' : On _ w3 := hb2
      obtain ⟨hc2, hf2⟩ := bcell hb2'
      have y2 : w.heap.size < w3.heap.size := by have := hb2'.size; omega
      have hO3 : On w w3 := by refine On.trans ?_ hb2'; exact hO2
      rcases hr with hr | ⟨c2, rfl, l2, s2, e2⟩
      · go_wp2_with fail
        go_ret
        exact ⟨_, rfl, hO3, .inl (by omega)⟩
      · have S2 := Lib.hid (And.intro s2 e2)
        have t2 : ¬ ((c2 : Nat) : Int) < 0 := by omega
        clear e2
        go_wp2_with fail
        refine (C3.out c2 _ (by omega) (by exact hO3)).mono ?_
        rintro e w4 ⟨r, rfl, hb3, hr⟩
        have hb3' : On _ w4 := hb3
        obtain ⟨hc3, hf3⟩ := bcell hb3'
        have y3 : w.heap.size < w4.heap.size := by have := hb3'.size; omega
        have hO4 : On w w4 := by refine On.trans ?_ hb3'; exact hO3
        rcases hr with hr | ⟨c3, rfl, l3, s3, e3⟩
        · go_wp2_with fail
          go_ret
          exact ⟨_, rfl, hO4, .inl (by omega)⟩
        · have S3 := Lib.hid (And.intro s3 e3)
          have t3 : ¬ ((c3 : Nat) : Int) < 0 := by omega
          clear e3
          go_wp2_with fail
          go_ret
          exact ⟨_, rfl, hO4, .inr ⟨c3, rfl, by omega, ⟨by have := S0.out.1; omega, fun k hk => (S0.out.2 k hk).mono (by omega)⟩, ⟨by have := S1.out.1; omega, fun k hk => (S1.out.2 k hk).mono (by omega)⟩, ⟨by have := S2.out.1; omega, fun k hk => (S2.out.2 k hk).mono (by omega)⟩, ⟨by have := S3.out.1; omega, fun k hk => (S3.out.2 k hk).mono (by omega)⟩⟩⟩
end Go.Proofs.YtpnmodmaabhldaaGreat.Net
