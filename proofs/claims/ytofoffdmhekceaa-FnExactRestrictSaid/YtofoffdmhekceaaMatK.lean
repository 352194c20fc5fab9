
/-
  The laws' marking of lists of lists and of problems that are arguments: only their numbers change. Conditions: at most 1048576 lists of at most 1048576 numbers.
-/
import Derived.Test.YtofoffdmhekceaaMatX
import Derived.Test.YtofoffdmhekceaaPrbI
import Derived.Test.YtofoffdmhekceaaBox
namespace Go.Proofs.Ytofoffdmhekceaa.Mats
open Go.RowKit
open Mrk (Kd Nst)

def ShpM (B E : Nat) (w : World) (n : Nat) (v : Value) : Prop :=
  ∃ a cap, v = .slice a n cap ∧ (0 < n → ∃ b off, a = some ⟨b, off, none⟩ ∧ b < w.heap.size ∧ ∀ i, i < n → ∃ d l e, w.cell? ⟨b, off + i, none⟩ = some (.slice d l e) ∧ l ≤ 1048576 ∧ Nst B E 1 w l (.slice d l e))
theorem ShpM.kd {B E : Nat} {w w' : World} {n : Nat} {v : Value} (h : ShpM B E w n v) (k : Kd B E w w') : ShpM B E w' n v := by
  obtain ⟨a, cap, hv, hc⟩ := h
  refine ⟨a, cap, hv, fun h0 => ?_⟩
  obtain ⟨b, off, ha, hlt, hcell⟩ := hc h0
  refine ⟨b, off, ha, Nat.lt_of_lt_of_le hlt k.size, fun i hi => ?_⟩
  obtain ⟨d, l, e, hx, hl, hn⟩ := hcell i hi
  exact ⟨d, l, e, k.slc _ _ _ _ hx, hl, hn.kd k⟩
theorem nst_own {B : Nat} {w : World} {v : Value} {zs : List Int} (h : Ints.Own B w v zs) : Nst B w.heap.size 1 w zs.length v := by
  obtain ⟨a, cap, hv, hc⟩ := h
  refine ⟨a, cap, hv, fun h0 => ?_⟩
  obtain ⟨b, off, ha, hB, hlt, hf, hcell⟩ := hc h0
  exact ⟨b, off, ha, hB, hlt, fun i hi => ⟨hf i (by omega), _, hcell i (by omega)⟩⟩
theorem ShpM.of_own {B : Nat} {w : World} {v : Value} {zss : List (List Int)} (h : Own B w v zss) (hr : ∀ i, i < zss.length → (zss.getD i []).length ≤ 1048576) : ShpM B w.heap.size w zss.length v := by
  obtain ⟨a, cap, hv, hc⟩ := h
  refine ⟨a, cap, hv, fun h0 => ?_⟩
  obtain ⟨b, off, ha, hB, hlt, hcell⟩ := hc h0
  refine ⟨b, off, ha, hlt, fun i hi => ?_⟩
  obtain ⟨hf, u, hu, hz⟩ := hcell i hi
  have hz' := hz
  obtain ⟨d, e, rfl, -⟩ := hz
  exact ⟨d, _, e, hu, hr i hi, nst_own hz'⟩
set_option maxHeartbeats 4000000 in
theorem markM (B E k n : Nat) (v : Value) (w : World) (hn : n ≤ 1048576) (hk : k ≤ 288230376151711744) (hB : B ≤ w.heap.size) (h : ShpM B E w n v) :
    Calls Try.prog 26 #[v, .int .i64 k] w fun e w' => ∃ r : Nat, e = .returned (.int .i64 r) ∧ r ≤ k + n * 1048576 ∧ Kd B E w w' := by
  obtain ⟨a, cap, rfl, hc⟩ := h
  by_cases h0 : 0 < n
  case neg =>
    obtain rfl : n = 0 := by omega
    clear hc
    go_enter Try.func26, Try.ntmps26
    go_wp2
    refine wp_loop_rounds 1 ?_
    rw [rounds_succ]
    go_wp2
    go_ret
    exact ⟨k, rfl, by omega, Kd.refl hB⟩
  obtain ⟨b, off, rfl, hlt, hcell⟩ := hc h0
  have HC := Lib.hid (show ShpM B E w n (.slice (some ⟨b, off, none⟩) n cap) from ⟨_, cap, rfl, fun _ => ⟨b, off, rfl, hlt, hcell⟩⟩)
  clear hc hcell
  go_enter Try.func26, Try.ntmps26
  go_wp2_with fail
  go_loopw [1, 5] (fun s i wr => ∃ q r : Nat, q ≤ n ∧ i = .int .i64 q ∧ s = .int .i64 r ∧ r ≤ k + q * 1048576 ∧ Kd B E w wr) (fun _ i _ => n - (intOf i).toNat)
  case atStart => exact ⟨0, k, Nat.zero_le _, rfl, rfl, by omega, Kd.refl hB⟩
  case round =>
    obtain ⟨q, r, hq, rfl, rfl, hr, kd⟩ := hrel
    have KD := Lib.hid kd
    by_cases hl : q < n
    · have hlti : (q : Int) < (n : Int) := by omega
      obtain ⟨a', c', hv, hc'⟩ := HC.out.kd kd
      cases hv
      obtain ⟨b', off', hb', hlt', hcell'⟩ := hc' h0
      cases hb'
      obtain ⟨d, l, e, hx, hl1, hns⟩ := hcell' q hl
      have HM := Lib.hid (Mrk.markInts B E r l (.slice d l e) wr hl1 (by omega) (Nat.le_trans hB kd.size) hns)
      clear kd hns hcell' hc'
      go_wp2_with fail
      refine HM.out.mono ?_
      rintro e1 w1 ⟨rfl, k1⟩
      have K1 := Lib.hid (KD.out.trans k1)
      clear k1
      go_wp2_with fail
      go_roundw
      case rel => exact ⟨q + 1, r + l, by omega, by go_num, by go_num, by omega, K1.out⟩
      case measure => simp [intOf]; omega
    · obtain rfl : q = n := by omega
      clear kd
      go_wp2_with fail
      go_ret
      exact ⟨r, rfl, hr, KD.out⟩
end Go.Proofs.Ytofoffdmhekceaa.Mats
namespace Go.Proofs.Ytofoffdmhekceaa.Prb
open Go.RowKit
open Mrk (Kd Nst)
/-- A problem in memory that may be marked. -/
def Shp (B E : Nat) (w : World) (N : T) (v : Value) : Prop := ∃ v0 v1, v = .agg #[v0, v1] ∧ Mats.ShpM B E w N.f0.length v0 ∧ Mats.ShpM B E w N.f1.length v1
theorem Shp.kd {B E : Nat} {w w' : World} {N : T} {v : Value} (h : Shp B E w N v) (k : Kd B E w w') : Shp B E w' N v := by
  obtain ⟨v0, v1, e, h0, h1⟩ := h
  exact ⟨v0, v1, e, h0.kd k, h1.kd k⟩
theorem Shp.of_is {B : Nat} {w : World} {v : Value} {N : T} (h : IsO B w v N) (hs : N.Small 1048576) : Shp B w.heap.size w N v := by
  obtain ⟨v0, v1, e, h0, h1⟩ := h
  exact ⟨v0, v1, e, Mats.ShpM.of_own h0 hs.1.2, Mats.ShpM.of_own h1 hs.2.2⟩
set_option maxHeartbeats 4000000 in
theorem mark (B E k : Nat) (v : Value) (N : T) (w : World) (hN : N.Small 1048576) (hk : k ≤ 1048576) (hB : B ≤ w.heap.size) (h : Shp B E w N v) :
    Calls Try.prog 24 #[v, .int .i64 k] w fun e w' => ∃ r : Nat, e = .returned (.int .i64 r) ∧ r ≤ 4398046511104 ∧ Kd B E w w' := by
  obtain ⟨v0, v1, rfl, h0, h1⟩ := h
  obtain ⟨n0, hn0⟩ : ∃ n, n = N.f0.length := ⟨_, rfl⟩
  have m0 : n0 ≤ 1048576 := by rw [hn0]; exact hN.1.1
  rw [← hn0] at h0
  have H0 := Lib.hid h0
  obtain ⟨a0, cap0, rfl, -⟩ := h0
  obtain ⟨n1, hn1⟩ : ∃ n, n = N.f1.length := ⟨_, rfl⟩
  have m1 : n1 ≤ 1048576 := by rw [hn1]; exact hN.2.1
  rw [← hn1] at h1
  have H1 := Lib.hid h1
  obtain ⟨a1, cap1, rfl, -⟩ := h1
  clear hN hn0 hn1
  go_enter Try.func24, Try.ntmps24
  go_wp2_with fail
  generalize hW0 : w.alloc (.cells #[.slice a0 n0 cap0, .slice a1 n1 cap1] 27) = w0
  have K0 := Lib.hid (show Kd B E w w0 by rw [← hW0]; exact Kd.of_on (On.alloc (On.refl _) _) hB)
  have X := Lib.hid (show Bx.Box w0 w.heap.size [.slice a0 n0 cap0, .slice a1 n1 cap1] by rw [← hW0]; exact Bx.Box.new _ _ _)
  clear hW0
  refine (Mats.markM B E k n0 _ _ m0 (by omega) (Nat.le_trans hB K0.out.size) (H0.out.kd K0.out)).mono ?_
  rintro e w1 ⟨r1, rfl, hr1, k1⟩
  have y1 := k1.slc _ _ _ _ (X.out.2 1 _ rfl)
  have z1 : w.heap.size < w1.heap.size := Nat.lt_of_lt_of_le X.out.1 k1.size
  have K1 := Lib.hid (K0.out.trans k1)
  clear k1
  go_wp2_with fail
  refine (Mats.markM B E r1 n1 _ _ m1 (by omega) (Nat.le_trans hB K1.out.size) (H1.out.kd K1.out)).mono ?_
  rintro e w2 ⟨r2, rfl, hr2, k2⟩
  have K2 := Lib.hid (K1.out.trans k2)
  clear k2
  go_wp2_with fail
  go_ret
  exact ⟨r2, rfl, by omega, K2.out⟩
end Go.Proofs.Ytofoffdmhekceaa.Prb
