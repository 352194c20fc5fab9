
/-
  Plain facts on masks: their losses never decrease, and widths, with no program in them.
-/
import Derived.Test.YtompiicgbmpoiaaMskPlain
namespace Go.Proofs.Ytompiicgbmpoiaa.Msk
open Plain
open Line (line line_first line_last line_mid)

theorem near_mono {a b d : Int} (hd : 0 < d) (ha : 0 ≤ a) (h : a ≤ b) : near a d ≤ near b d := by
  rw [near_div_pp a d hd ha, near_div_pp b d hd (by omega)]
  exact Int.ediv_le_ediv (by omega) (by omega)
theorem near_full {D d : Int} (hd : 0 < d) (hD : 0 ≤ D) : near (D * d) d = D := by
  rw [near_div_pp _ d hd (Int.mul_nonneg hD (by omega)), show 2 * (D * d) + d = d + D * (2 * d) by rw [← Int.mul_assoc, Int.mul_comm 2 D, Int.mul_assoc]; omega,
    Int.add_mul_ediv_right _ _ (by omega), Int.ediv_eq_zero_of_lt (by omega) (by omega)]
  omega
theorem near_nn {a d : Int} (hd : 0 < d) (ha : 0 ≤ a) : 0 ≤ near a d := by
  have := near_mono hd (Int.le_refl 0) ha
  rw [near_zero _ (by omega)] at this
  exact this
theorem line_bd {x0 y0 x1 y1 x : Int} (h : x0 < x1) (hy : y0 ≤ y1) : y0 ≤ line x0 y0 x1 y1 x ∧ line x0 y0 x1 y1 x ≤ y1 := by
  by_cases h1 : x ≤ x0
  · rw [line_first (.inl h1)]; omega
  · by_cases h2 : x1 ≤ x
    · rw [line_last (by omega) h h2]; omega
    · rw [line_mid (by omega) (by omega)]
      have a := near_nn (a := (y1 - y0) * (x - x0)) (d := x1 - x0) (by omega) (Int.mul_nonneg (by omega) (by omega))
      have b := near_mono (a := (y1 - y0) * (x - x0)) (b := (y1 - y0) * (x1 - x0)) (d := x1 - x0) (by omega) (Int.mul_nonneg (by omega) (by omega)) (Int.mul_le_mul_of_nonneg_left (by omega) (by omega))
      rw [near_full (by omega) (by omega)] at b
      omega
theorem line_mono {x0 y0 x1 y1 x x' : Int} (h : x0 < x1) (hy : y0 ≤ y1) (hx : x ≤ x') : line x0 y0 x1 y1 x ≤ line x0 y0 x1 y1 x' := by
  by_cases h1 : x ≤ x0
  · rw [line_first (x := x) (.inl h1)]; exact (line_bd h hy).1
  · by_cases h2 : x1 ≤ x'
    · rw [line_last (x := x') (by omega) h h2]; exact (line_bd h hy).2
    · rw [line_mid (x := x) (by omega) (by omega), line_mid (x := x') (by omega) (by omega)]
      have b := near_mono (a := (y1 - y0) * (x - x0)) (b := (y1 - y0) * (x' - x0)) (d := x1 - x0) (by omega) (Int.mul_nonneg (by omega) (by omega)) (Int.mul_le_mul_of_nonneg_left (by omega) (by omega))
      omega
theorem cntM_mono {os : List Int} {lim a b : Int} (_h : Climb 1 lim os) (hab : a ≤ b) : cntM os a ≤ cntM os b := by
  obtain ⟨h1, -⟩ := lead_spec (upTo os a) os.length
  obtain ⟨-, h3⟩ := lead_spec (upTo os b) os.length
  rcases h3 with h3 | h3
  · have := lead_le (upTo os a) os.length; unfold cntM; omega
  · by_cases g : leadN (upTo os a) os.length ≤ leadN (upTo os b) os.length
    · exact g
    · have e := of_decide_eq_true (h1 _ (by omega : leadN (upTo os b) os.length < _))
      have e2 := of_decide_eq_false h3
      omega
/-- The loss between two offsets that lie one behind the other, and behind the last one. -/
theorem lossA_bd {os ls : List Int} {a : Int} {k : Nat} (ho : Climb 1 100000 os) (hl : Climb 0 120000 ls) (hn : ls.length = os.length) (hk : cntM os a = k + 1) (h : k < os.length) : ls.getD k 0 ≤ lossA os ls a ∧ (k + 1 < os.length → lossA os ls a ≤ ls.getD (k + 1) 0) := by
  by_cases g : k + 1 < os.length
  · rw [lossA_line hk g]
    have := line_bd (x := a) (ho.lt (i := k) (j := k + 1) (by omega) g) (hl.le (by omega) (i := k) (j := k + 1) (by omega) (by omega))
    exact ⟨this.1, fun _ => this.2⟩
  · rw [lossA_last (by omega), show os.length - 1 = k by omega]
    exact ⟨Int.le_refl _, fun g' => absurd g' g⟩
theorem lossA_mono {os ls : List Int} {a b : Int} (h0 : 0 < os.length) (ho : Climb 1 100000 os) (hl : Climb 0 120000 ls) (hn : ls.length = os.length) (ha : 0 ≤ a) (hab : a ≤ b) : lossA os ls a ≤ lossA os ls b := by
  have p := cntM_pos ho h0 ha
  have m := cntM_mono ho hab
  have lb := cntM_le os b
  obtain ⟨k, hk⟩ : ∃ k, cntM os a = k + 1 := ⟨cntM os a - 1, by omega⟩
  obtain ⟨k', hk'⟩ : ∃ k, cntM os b = k + 1 := ⟨cntM os b - 1, by omega⟩
  by_cases g : k = k'
  · subst g
    by_cases g2 : k + 1 < os.length
    · rw [lossA_line hk g2, lossA_line hk' g2]
      exact line_mono (ho.lt (i := k) (j := k + 1) (by omega) g2) (hl.le (by omega) (i := k) (j := k + 1) (by omega) (by omega)) hab
    · rw [lossA_last (by omega), lossA_last (by omega)]
      exact Int.le_refl _
  · have b1 := (lossA_bd ho hl hn hk (by omega)).2 (by omega)
    have b2 := (lossA_bd ho hl hn hk' (by omega)).1
    have b3 := hl.le (by omega) (i := k + 1) (j := k') (by omega) (by omega)
    omega
theorem lossM_bd {os ls : List Int} (x : Int) (hv : okM os ls = true) : 0 ≤ lossM os ls x ∧ lossM os ls x ≤ 120000 := by
  obtain ⟨⟨n2, n12⟩, hn, ho, hl⟩ := of_okM hv
  have p := cntM_pos ho (by omega) (a := (x.natAbs : Nat)) (by omega)
  have lb := cntM_le os (x.natAbs : Nat)
  obtain ⟨k, hk⟩ : ∃ k, cntM os (x.natAbs : Nat) = k + 1 := ⟨cntM os (x.natAbs : Nat) - 1, by omega⟩
  obtain ⟨b1, b2⟩ := lossA_bd ho hl hn hk (by omega)
  have c1 := hl.bd (by omega) (k := k) (by omega)
  unfold lossM
  by_cases g : k + 1 < os.length
  · have := b2 g
    have c2 := hl.bd (by omega) (k := k + 1) (by omega)
    omega
  · rw [lossA_last (by omega)]
    exact hl.bd (by omega) (by omega)
theorem lossM_nn {os ls : List Int} {x : Int} (h : 0 ≤ x) : lossM os ls x = lossA os ls x := by
  unfold lossM; rw [show ((x.natAbs : Nat) : Int) = x by omega]
/-- Whether the loss at an offset is at most a loss. -/
def lowAt (os ls : List Int) (loss : Int) (k : Nat) : Bool := decide (lossM os ls (k : Nat) ≤ loss)
theorem mono_low {os ls : List Int} {loss : Int} (hv : okM os ls = true) (n : Nat) : Mono (lowAt os ls loss) n := fun i j h1 _ e => by
  obtain ⟨⟨n2, n12⟩, hn, ho, hl⟩ := of_okM hv
  have e := of_decide_eq_true e
  have m := lossA_mono (a := (i : Nat)) (b := (j : Nat)) (by omega) ho hl hn (by omega) (by omega)
  rw [lossM_nn (by omega)] at e
  unfold lowAt
  rw [lossM_nn (by omega)]
  exact decide_eq_true (by omega)
/-- The last offset. -/
def lastO (os : List Int) : Int := os.getD (os.length - 1) 0
/-- The first offset with more loss, if there is one. -/
def beyond (os ls : List Int) (loss : Int) : Nat := leadN (lowAt os ls loss) (lastO os).toNat
theorem low_zero {os ls : List Int} {loss : Int} (hv : okM os ls = true) (h0 : 0 ≤ loss) : lowAt os ls loss 0 = true := by
  obtain ⟨⟨n2, n12⟩, hn, ho, hl⟩ := of_okM hv
  unfold lowAt
  rw [lossM_nn (by omega)]
  have c : cntM os ((0 : Nat) : Int) = 0 + 1 := cntM_at (by omega) (fun j hj => by rw [show j = 0 by omega, ho.1]; omega) (.inr (by have := ho.lt (i := 0) (j := 1) (by omega) (by omega); rw [ho.1] at this; show ((0 : Nat) : Int) < os.getD 1 0; omega))
  rw [lossA_line (k := 0) c (by omega), line_first (.inl (by rw [ho.1]; omega)), hl.1]
  exact decide_eq_true h0
end Go.Proofs.Ytompiicgbmpoiaa.Msk
