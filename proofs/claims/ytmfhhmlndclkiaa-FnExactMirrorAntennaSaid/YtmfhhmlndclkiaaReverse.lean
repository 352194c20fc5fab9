
/-
  The library's turning of a slice of numbers. Condition: at least one number, at most 1048576.
-/
import Derived.Test.YtmfhhmlndclkiaaClone
namespace Go.Proofs.Ytmfhhmlndclkiaa.Reverse
open Go.RowKit
open Ints (Ints Own)

/-- What lies at p when k pairs have been exchanged. -/
def valAt (zs : List Int) (k p : Nat) : Int := if p < k ∨ zs.length < p + 1 + k then zs.getD (zs.length - 1 - p) 0 else zs.getD p 0
theorem valAt_zero {zs : List Int} {p : Nat} (hp : p < zs.length) : valAt zs 0 p = zs.getD p 0 := by unfold valAt; rw [if_neg (by omega)]
theorem valAt_in {zs : List Int} {k p : Nat} (h1 : k ≤ p) (h2 : p + 1 + k ≤ zs.length) : valAt zs k p = zs.getD p 0 := by unfold valAt; rw [if_neg (by omega)]
theorem valAt_end {zs : List Int} {k p : Nat} (hk : zs.length ≤ 2 * k + 1) (hp : p < zs.length) : valAt zs k p = zs.reverse.getD p 0 := by
  have e : zs.reverse.getD p 0 = zs.getD (zs.length - 1 - p) 0 := by
    rw [List.getD_eq_getElem?_getD, List.getD_eq_getElem?_getD, List.getElem?_reverse hp]
  unfold valAt
  by_cases h : p < k ∨ zs.length < p + 1 + k
  · rw [if_pos h, e]
  · rw [if_neg h, e, show zs.length - 1 - p = p by omega]
theorem valAt_lo {zs : List Int} {k : Nat} (_h2 : 2 * k + 1 < zs.length) : valAt zs (k + 1) k = zs.getD (zs.length - 1 - k) 0 := by unfold valAt; rw [if_pos (by omega)]
theorem valAt_hi {zs : List Int} {k j : Nat} (h2 : 2 * k + 1 < zs.length) (hj : j = zs.length - 1 - k) : valAt zs (k + 1) j = zs.getD k 0 := by unfold valAt; rw [if_pos (by omega), show zs.length - 1 - j = k by omega]
theorem valAt_oth {zs : List Int} {k p : Nat} (h1 : p ≠ k) (h2 : p + 1 + k ≠ zs.length) : valAt zs (k + 1) p = valAt zs k p := by
  unfold valAt
  by_cases h : p < k ∨ zs.length < p + 1 + k
  · rw [if_pos h, if_pos (by omega)]
  · rw [if_neg h, if_neg (by omega)]
set_option maxRecDepth 100000 in
set_option maxHeartbeats 2000000 in
theorem rev_some (b off cap : Nat) (zs : List Int) (w : World) (h0 : 0 < zs.length) (hn : zs.length ≤ 1048576)
    (hf : ∀ i, i < zs.length → w.frozen? ⟨b, off + i, none⟩ = false) (hcell : ∀ i, i < zs.length → w.cell? ⟨b, off + i, none⟩ = some (.int .i64 (zs.getD i 0))) :
    Calls Try.prog 41 #[.slice (some ⟨b, off, none⟩) zs.length cap] w fun e w' => e = .returned (.tuple #[]) ∧ Below b w w' ∧ (∀ a, w'.frozen? a = w.frozen? a) ∧ (∀ i, i < zs.length → w'.cell? ⟨b, off + i, none⟩ = some (.int .i64 (zs.reverse.getD i 0))) ∧ ∀ p : Addr, p.block ≠ b → w'.cell? p = w.cell? p := by
  obtain ⟨n, hn'⟩ : ∃ n, n = zs.length := ⟨_, rfl⟩
  have HN := Lib.hid hn'
  have HF := Lib.hid hf
  have HC := Lib.hid hcell
  have w1 : IntKind.i64.wrap ((n : Int) - 1) = (n : Int) - 1 := IntWalk.i64_in _ (by omega)
  rw [← hn'] at hn h0 ⊢
  rw [← hn'] at HF HC
  clear hf hcell hn'
  go_enter Try.func41, Try.ntmps41
  go_wp2_with fail
  go_loopw [2, 3] (fun i j wr => ∃ k : Nat, 2 * k ≤ n ∧ i = .int .i64 k ∧ j = .int .i64 ((n : Int) - 1 - k) ∧ Below b w wr ∧ (∀ a, wr.frozen? a = w.frozen? a) ∧ (∀ i, i < n → wr.cell? ⟨b, off + i, none⟩ = some (.int .i64 (valAt zs k i))) ∧ ∀ p : Addr, p.block ≠ b → wr.cell? p = w.cell? p) (fun i _ _ => n - (intOf i).toNat)
  case atStart => exact ⟨0, by omega, rfl, by go_num, Below.refl _ _, fun _ => rfl, fun i hi => by rw [valAt_zero (by rw [← HN.out]; exact hi)]; exact HC.out i hi, fun _ _ => rfl⟩
  case round =>
    obtain ⟨k, hk, rfl, rfl, hb, hfz, hcl, hoth⟩ := hrel
    have HB := Lib.hid hb
    have HZ := Lib.hid hfz
    have HL := Lib.hid hcl
    have HX := Lib.hid hoth
    clear hb hfz hcl hoth
    by_cases hlt2 : 2 * k + 1 < n
    · obtain ⟨j, hj⟩ : ∃ j : Nat, j = n - 1 - k := ⟨_, rfl⟩
      have hji : (n : Int) - 1 - k = (j : Int) := by omega
      have hjn : (j : Int) < (n : Int) := by omega
      have hkn : (k : Int) < (n : Int) := by omega
      have hkj : (k : Int) < (j : Int) := by omega
      obtain ⟨x, hx⟩ : ∃ x, x = zs.getD k 0 := ⟨_, rfl⟩
      obtain ⟨y, hy⟩ : ∃ y, y = zs.getD j 0 := ⟨_, rfl⟩
      have hc1 : wr.cell? ⟨b, off + k, none⟩ = some (.int .i64 x) := by rw [hx, ← valAt_in (k := k) (Nat.le_refl _) (by rw [← HN.out]; omega)]; exact HL.out k (by omega)
      have hc2 : wr.cell? ⟨b, off + j, none⟩ = some (.int .i64 y) := by rw [hy, ← valAt_in (k := k) (by omega) (by rw [← HN.out]; omega)]; exact HL.out j (by omega)
      have hf1 : wr.frozen? ⟨b, off + k, none⟩ = false := (HZ.out _).trans (HF.out k (by omega))
      have hf2 : wr.frozen? ⟨b, off + j, none⟩ = false := (HZ.out _).trans (HF.out j (by omega))
      have wK : IntKind.i64.wrap ((k : Int) + 1) = (k : Int) + 1 := IntWalk.i64_in _ (by omega)
      have wJ : IntKind.i64.wrap ((j : Int) - 1) = (j : Int) - 1 := IntWalk.i64_in _ (by omega)
      have hne : off + k ≠ off + j := by omega
      have HX1 := Lib.hid hx
      have HY1 := Lib.hid hy
      have HJ := Lib.hid hj
      clear hx hy hj
      rw [hji]
      go_wp2_with fail
      go_region
      go_wp2_with fail
      go_roundw
      case rel =>
        refine ⟨k + 1, by omega, by go_num, by have := HJ.out; go_num, ((HB.out.setCell (by exact Nat.le_refl _) _).setCell (by exact Nat.le_refl _) _).drew, fun a => by show ((wr.setCell ⟨b, off + k, none⟩ (.int .i64 y)).setCell ⟨b, off + j, none⟩ (.int .i64 x)).frozen? a = _; rw [World.frozen?_setCell, World.frozen?_setCell]; exact HZ.out a, fun i hi => ?_, fun p hp => ?_⟩
        · show ((wr.setCell ⟨b, off + k, none⟩ (.int .i64 y)).setCell ⟨b, off + j, none⟩ (.int .i64 x)).cell? _ = _
          have hk2 : 2 * k + 1 < zs.length := by rw [← HN.out]; exact hlt2
          have hj2 : j = zs.length - 1 - k := by rw [← HN.out]; exact HJ.out
          by_cases h1 : i = j
          · subst h1
            rw [valAt_hi hk2 hj2, ← HX1.out]
            exact World.cell?_setCell_same (h := (World.cell?_setCell_other (h := fun hc => by injection hc with _ h2 _; omega) ..).trans hc2) ..
          · refine (World.cell?_setCell_other (h := fun hc => by injection hc with _ h2 _; omega) ..).trans ?_
            by_cases h2 : i = k
            · subst h2
              rw [valAt_lo hk2, ← hj2, ← HY1.out]
              exact World.cell?_setCell_same (h := hc1) ..
            · refine (World.cell?_setCell_other (h := fun hc => by injection hc with _ h3 _; omega) ..).trans ?_
              rw [valAt_oth h2 (by omega)]
              exact HL.out i hi
        · show ((wr.setCell ⟨b, off + k, none⟩ (.int .i64 y)).setCell ⟨b, off + j, none⟩ (.int .i64 x)).cell? _ = _
          exact (World.cell?_setCell_other (h := fun hc => hp (by rw [← hc])) ..).trans ((World.cell?_setCell_other (h := fun hc => hp (by rw [← hc])) ..).trans (HX.out p hp))
      case measure => simp [intOf]; omega
    · have hno : ¬ (k : Int) < (n : Int) - 1 - k := by omega
      have HE := Lib.hid (fun i (hi : i < n) => valAt_end (zs := zs) (k := k) (p := i) (by rw [← HN.out]; omega) (by rw [← HN.out]; exact hi))
      go_wp2_with fail
      go_end0
      exact ⟨rfl, HB.out, HZ.out, fun i hi => by have := HL.out i hi; rw [HE.out i hi] at this; simpa using this, HX.out⟩
end Go.Proofs.Ytmfhhmlndclkiaa.Reverse
