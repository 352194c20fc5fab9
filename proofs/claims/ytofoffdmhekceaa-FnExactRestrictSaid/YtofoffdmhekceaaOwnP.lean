
/-
  Problems in memory of their own, for the laws' walks: read, marked, looked at. Conditions: sizes that fit.
-/
import Derived.Test.YtofoffdmhekceaaRstI
import Derived.Test.YtofoffdmhekceaaOwnG
namespace Go.Proofs.Ytofoffdmhekceaa.Rst
open Go.RowKit
open Prb (T)
open Mats (OwnX marksM tot)
open Mrk (Kd)

theorem OwnP.is {B E : Nat} {w : World} {v : Value} {R : T} (h : OwnP B E w v R) : Prb.Is w v R := by
  obtain ⟨v0, v1, M, rfl, h0, h1, -⟩ := h
  exact ⟨_, _, rfl, h0.rows, h1.rows⟩
theorem OwnP.below {B E : Nat} {w w' : World} {v : Value} {R : T} (h : OwnP B E w v R) (ho : On w w') : OwnP B E w' v R := by
  obtain ⟨v0, v1, M, e, h0, h1, h2, h3⟩ := h
  exact ⟨v0, v1, M, e, h0.below ho, h1.below ho, h2, h3⟩
theorem OwnP.mono {B B' E : Nat} {w : World} {v : Value} {R : T} (h : OwnP B E w v R) (hb : B' ≤ B) : OwnP B' E w v R := by
  obtain ⟨v0, v1, M, e, h0, h1, h2, h3⟩ := h
  exact ⟨v0, v1, M, e, h0.mono hb (Nat.le_refl _), h1, h2, Nat.le_trans hb h3⟩
theorem OwnP.off2 {B E : Nat} {w w' : World} {v : Value} {R : T} (h : OwnP B E w v R) (hs : w.heap.size ≤ w'.heap.size) (hf : ∀ p : Addr, p.block < w.heap.size → w'.frozen? p = w.frozen? p)
    (hx : ∀ p : Addr, p.block < w.heap.size → B ≤ p.block → w'.cell? p = w.cell? p) : OwnP B E w' v R := by
  obtain ⟨v0, v1, M, e, h0, h1, h2, h3⟩ := h
  exact ⟨v0, v1, M, e, h0.off2 hs hf hx, h1.off2 hs hf (fun p h4 h5 => hx p h4 (Nat.le_trans h3 h5)), h2, h3⟩
theorem Box_kd {B E g : Nat} {w w' : World} {vs : List Value} (h : Bx.Box w g vs) (hE : E ≤ g) (kd : Kd B E w w') : Bx.Box w' g vs :=
  ⟨Nat.lt_of_lt_of_le h.1 kd.size, fun q v hq => (World.cell?_of_block (by exact kd.out g hE h.1)).trans (h.2 q v hq)⟩
def markedP (R : T) : T := ⟨marksM 1 R.f0, marksM (1 + tot R.f0) R.f1⟩
set_option maxHeartbeats 4000000 in
theorem markP (B E : Nat) (v : Value) (R : T) (w : World) (hB : B ≤ w.heap.size) (hE : E ≤ w.heap.size) (hn : R.Small 1048576) (hk : 1 + tot R.f0 + tot R.f1 ≤ 1048576) (h : OwnP B E w v R) :
    Calls Try.prog 24 #[v, .int .i64 1] w fun e w' => e = .returned (.int .i64 ((1 + tot R.f0 + tot R.f1 : Nat) : Int)) ∧ Below B w w' ∧ OwnP B E w' v (markedP R) ∧ ∀ g vs, E ≤ g → Bx.Box w g vs → Bx.Box w' g vs := by
  obtain ⟨v0, v1, M, rfl, h0, h1, hME, hBM⟩ := h
  have H0 := Lib.hid h0
  have H1 := Lib.hid h1
  obtain ⟨a0, cap0, hv0, -⟩ := h0
  obtain ⟨a1, cap1, hv1, -⟩ := h1
  obtain ⟨n0, hn0⟩ : ∃ n, n = R.f0.length := ⟨_, rfl⟩
  obtain ⟨n1, hn1⟩ : ∃ n, n = R.f1.length := ⟨_, rfl⟩
  rw [← hn0] at hv0
  rw [← hn1] at hv1
  subst hv0 hv1
  obtain ⟨w0, hW0⟩ : ∃ W, W = w.alloc (.cells #[.slice a0 n0 cap0, .slice a1 n1 cap1] 27) := ⟨_, rfl⟩
  have HO := Lib.hid (show On w w0 by rw [hW0]; exact On.alloc (On.refl _) _)
  have X := Lib.hid (show Bx.Box w0 w.heap.size [.slice a0 n0 cap0, .slice a1 n1 cap1] by rw [hW0]; exact Bx.Box.new _ _ _)
  have HW := Lib.hid hW0
  have HM0 := Lib.hid (Mats.markX B M 1 (.slice a0 n0 cap0) R.f0 w0 hn.1.1 (by omega) (H0.out.below HO.out))
  have HM1 := Lib.hid (fun w1 h => Mats.markX M E (1 + tot R.f0) (.slice a1 n1 cap1) R.f1 w1 hn.2.1 (by omega) h)
  have HTT := Lib.hid (show ((1 + tot R.f0 + tot R.f1 : Nat) : Int) = ((1 + tot R.f0 + tot R.f1 : Nat) : Int) from rfl)
  obtain ⟨q1, hq1⟩ : ∃ q : Nat, q = 1 + tot R.f0 := ⟨_, rfl⟩
  have HQ1 := Lib.hid hq1
  rw [← hq1] at HM0 HM1 ⊢
  clear hn hk hn0 hn1 hW0 hq1
  go_enter Try.func24, Try.ntmps24
  go_wp2_with fail
  rw [← HW.out]
  refine HM0.out.mono ?_
  rintro e w1 ⟨rfl, b1, x1, f1, c1⟩
  have hs1 := b1.size
  have X1 := Lib.hid (show Bx.Box w1 w.heap.size [.slice a0 n0 cap0, .slice a1 n1 cap1] from ⟨Nat.lt_of_lt_of_le X.out.1 hs1, fun q v hq => (c1 _ (.inr (by show M ≤ w.heap.size; omega))).trans (X.out.2 q v hq)⟩)
  have k0 := X1.out.1
  have k2 := X1.out.2 1 _ rfl
  have HX0 := Lib.hid x1
  have HX1 := Lib.hid ((H1.out.below HO.out).move hs1 (fun p _ => f1 p) (fun p _ hp _ => c1 p (.inr hp)))
  have HB1 := Lib.hid b1
  have HF1 := Lib.hid f1
  have HC1 := Lib.hid c1
  clear b1 x1 f1 c1
  go_wp2_with fail
  refine (HM1.out w1 HX1.out).mono ?_
  rintro e w2 ⟨rfl, b2, x2, f2, c2⟩
  have hs2 := b2.size
  have HX02 := Lib.hid (HX0.out.move hs2 (fun p _ => f2 p) (fun p _ _ hp => c2 p (.inl hp)))
  have HX12 := Lib.hid x2
  have HB2 := Lib.hid (show Below B w w2 from Below.trans (Below.mono HO.out hB) (HB1.out.trans (b2.mono hBM)))
  have HBX := Lib.hid (show ∀ g vs, E ≤ g → Bx.Box w g vs → Bx.Box w2 g vs from fun g vs hg hb =>
    ⟨Nat.lt_of_lt_of_le (HO.out.lts _ hb.1) (Nat.le_trans hs1 hs2), fun q v hq => (c2 _ (.inr (by exact hg))).trans ((HC1.out _ (.inr (by show M ≤ g; omega))).trans ((HO.out.cell (by exact hb.1)).trans (hb.2 q v hq)))⟩)
  clear b2 x2 f2 c2 hs1 hs2
  go_wp2_with fail
  go_ret
  refine ⟨by first | rfl | (simp), HB2.out, ⟨_, _, M, rfl, HX02.out, ?_, hME, hBM⟩, HBX.out⟩
  have := HX12.out
  rw [HQ1.out] at this
  exact this
set_option maxHeartbeats 4000000 in
theorem heldP (B E : Nat) (v : Value) (R : T) (w : World) (hn : R.Small 1048576) (hk : 1 + tot R.f0 + tot R.f1 ≤ 1048576) (h : OwnP B E w v (markedP R)) :
    Calls Try.prog 32 #[v, .int .i64 1] w fun e w' => e = .returned (.int .i64 ((1 + tot R.f0 + tot R.f1 : Nat) : Int)) ∧ On w w' := by
  obtain ⟨v0, v1, M, rfl, h0, h1, -, -⟩ := h
  have H0 := Lib.hid (show OwnX B M w v0 (marksM 1 R.f0) from h0)
  have H1 := Lib.hid (show OwnX M E w v1 (marksM (1 + tot R.f0) R.f1) from h1)
  obtain ⟨a0, cap0, hv0, -⟩ := h0
  obtain ⟨a1, cap1, hv1, -⟩ := h1
  obtain ⟨n0, hn0⟩ : ∃ n, n = (markedP R).f0.length := ⟨_, rfl⟩
  obtain ⟨n1, hn1⟩ : ∃ n, n = (markedP R).f1.length := ⟨_, rfl⟩
  rw [← hn0] at hv0
  rw [← hn1] at hv1
  subst hv0 hv1
  obtain ⟨w0, hW0⟩ : ∃ W, W = w.alloc (.cells #[.slice a0 n0 cap0, .slice a1 n1 cap1] 27) := ⟨_, rfl⟩
  have HO := Lib.hid (show On w w0 by rw [hW0]; exact On.alloc (On.refl _) _)
  have X := Lib.hid (show Bx.Box w0 w.heap.size [.slice a0 n0 cap0, .slice a1 n1 cap1] by rw [hW0]; exact Bx.Box.new _ _ _)
  have HW := Lib.hid hW0
  have HM0 := Lib.hid (Mats.heldX B M 1 (.slice a0 n0 cap0) R.f0 w0 hn.1.1 (by omega) (H0.out.below HO.out))
  have HM1 := Lib.hid (Mats.heldX M E (1 + tot R.f0) (.slice a1 n1 cap1) R.f1 w0 hn.2.1 (by omega) (H1.out.below HO.out))
  obtain ⟨q1, hq1⟩ : ∃ q : Nat, q = 1 + tot R.f0 := ⟨_, rfl⟩
  obtain ⟨q2, hq2⟩ : ∃ q : Nat, q = 1 + tot R.f0 + tot R.f1 := ⟨_, rfl⟩
  rw [← hq2] at HM1 ⊢
  rw [← hq1] at HM0 HM1
  have g1 : ¬ (q1 : Int) < 0 := by omega
  have g2 : ¬ (q2 : Int) < 0 := by omega
  have k0 := X.out.1
  have k1 := X.out.2 0 _ rfl
  have k2 := X.out.2 1 _ rfl
  clear hn hk hn0 hn1 hW0 hq1 hq2
  go_enter Try.func32, Try.ntmps32
  go_wp2_with fail
  rw [← HW.out]
  refine HM0.out.mono ?_
  rintro e w1 ⟨rfl, hw⟩
  subst hw
  go_wp2_with fail
  refine HM1.out.mono ?_
  rintro e w1 ⟨rfl, hw⟩
  subst hw
  go_wp2_with fail
  go_ret
  exact ⟨rfl, HO.out⟩
end Go.Proofs.Ytofoffdmhekceaa.Rst
