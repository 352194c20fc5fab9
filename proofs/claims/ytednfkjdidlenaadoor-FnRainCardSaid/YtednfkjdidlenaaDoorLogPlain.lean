
/-
  Plain facts on logarithms digit by digit, with no program in them.
-/
namespace Go.Proofs.YtednfkjdidlenaaDoor.Plain

/-- The product of two numbers from 10^8 to 10^9 - 1 that stand for 1 to 10, and whether it has been divided by 10. -/
def tmV (a b : Int) : Int := if 1000000000 ≤ a * b / 100000000 then a * b / 100000000 / 10 else a * b / 100000000
def tmD (a b : Int) : Int := if 1000000000 ≤ a * b / 100000000 then 1 else 0
theorem prod_bd {a b : Int} (a0 : 100000000 ≤ a) (a1 : a ≤ 999999999) (b0 : 100000000 ≤ b) (b1 : b ≤ 999999999) : 10000000000000000 ≤ a * b ∧ a * b ≤ 999999998000000001 := by
  have h1 : 100000000 * b ≤ a * b := Int.mul_le_mul_of_nonneg_right a0 (by omega)
  have h2 : a * b ≤ 999999999 * b := Int.mul_le_mul_of_nonneg_right a1 (by omega)
  omega
theorem tmV_bd {a b : Int} (a0 : 100000000 ≤ a) (a1 : a ≤ 999999999) (b0 : 100000000 ≤ b) (b1 : b ≤ 999999999) : 100000000 ≤ tmV a b ∧ tmV a b ≤ 999999999 := by
  have h := prod_bd a0 a1 b0 b1
  unfold tmV
  generalize a * b = p at *
  split <;> omega
theorem tmD_bd (a b : Int) : 0 ≤ tmD a b ∧ tmD a b ≤ 1 := by unfold tmD; split <;> omega
/-- The tenth power, and the power of 10 by which it has been divided. -/
def two (x : Int) : Int := tmV x x
def four (x : Int) : Int := tmV (two x) (two x)
def five (x : Int) : Int := tmV (four x) x
def tenV (x : Int) : Int := tmV (five x) (five x)
def tenD (x : Int) : Int := 2 * (2 * tmD x x + tmD (two x) (two x) + tmD (four x) x) + tmD (five x) (five x)
def Fig (x : Int) : Prop := 100000000 ≤ x ∧ x ≤ 999999999
theorem two_fig {x : Int} (h : Fig x) : Fig (two x) := tmV_bd h.1 h.2 h.1 h.2
theorem four_fig {x : Int} (h : Fig x) : Fig (four x) := have h2 := two_fig h; tmV_bd h2.1 h2.2 h2.1 h2.2
theorem five_fig {x : Int} (h : Fig x) : Fig (five x) := have h2 := four_fig h; tmV_bd h2.1 h2.2 h.1 h.2
theorem ten_fig {x : Int} (h : Fig x) : Fig (tenV x) := have h2 := five_fig h; tmV_bd h2.1 h2.2 h2.1 h2.2
theorem tenD_bd (x : Int) : 0 ≤ tenD x ∧ tenD x ≤ 9 := by
  have h1 := tmD_bd x x
  have h2 := tmD_bd (two x) (two x)
  have h3 := tmD_bd (four x) x
  have h4 := tmD_bd (five x) (five x)
  unfold tenD
  omega
/-- What four rounds make of a number and of the digits so far. -/
def itX : Nat → Int → Int
  | 0, x => x
  | k + 1, x => tenV (itX k x)
def itR : Nat → Int → Int → Int
  | 0, _, r => r
  | k + 1, x, r => 10 * itR k x r + tenD (itX k x)
theorem itX_fig {x : Int} (h : Fig x) : ∀ k, Fig (itX k x)
  | 0 => h
  | k + 1 => ten_fig (itX_fig h k)
theorem itR_bd {x r : Int} (h0 : 0 ≤ r) (h1 : r ≤ 18) : ∀ k, k ≤ 4 → 0 ≤ itR k x r ∧ itR k x r ≤ (19 * 10 ^ k - 1)
  | 0, _ => by unfold itR; omega
  | k + 1, hk => by
    have h := itR_bd (x := x) h0 h1 k (by omega)
    have hd := tenD_bd (itX k x)
    have e : (10 : Int) ^ (k + 1) = 10 * 10 ^ k := by rw [Int.pow_succ, Int.mul_comm]
    unfold itR
    rw [e]
    generalize (10 : Int) ^ k = q at *
    omega
theorem itR_le {x r : Int} (h0 : 0 ≤ r) (h1 : r ≤ 18) (k : Nat) (hk : k ≤ 4) : 0 ≤ itR k x r ∧ itR k x r ≤ 189999 := by
  have h := itR_bd (x := x) h0 h1 k hk
  have : (10 : Int) ^ k ≤ 10000 := by
    match k, hk with
    | 0, _ => decide
    | 1, _ => decide
    | 2, _ => decide
    | 3, _ => decide
    | 4, _ => decide
  omega

/-- One less than the number of decimal digits. -/
def dg (n : Nat) : Nat := if n < 10 then 0 else dg (n / 10) + 1
termination_by n
theorem dg_small {n : Nat} (h : n < 10) : dg n = 0 := by rw [dg, if_pos h]
theorem dg_step {n : Nat} (h : 10 ≤ n) : dg n = dg (n / 10) + 1 := by rw [dg, if_neg (by omega)]
theorem dg_spec (n : Nat) (h0 : 0 < n) : 10 ^ dg n ≤ n ∧ n < 10 ^ (dg n + 1) := by
  induction n using Nat.strongRecOn with
  | _ n ih =>
    by_cases h : n < 10
    · rw [dg_small h]; exact ⟨by rw [Nat.pow_zero]; exact h0, by rw [Nat.zero_add, Nat.pow_one]; exact h⟩
    · obtain ⟨h1, h2⟩ := ih (n / 10) (by omega) (by omega)
      rw [dg_step (by omega)]
      rw [Nat.pow_succ] at h2
      rw [Nat.pow_succ, Nat.pow_succ, Nat.pow_succ]
      generalize 10 ^ dg (n / 10) = q at *
      omega
theorem dg_le {n : Nat} (h : n < 10 ^ 19) : dg n ≤ 18 := by
  by_cases h0 : n = 0
  · subst h0; rw [dg_small (by omega)]; omega
  · obtain ⟨h1, _⟩ := dg_spec n (by omega)
    by_cases g : dg n ≤ 18
    · exact g
    · have : 10 ^ 19 ≤ 10 ^ dg n := Nat.pow_le_pow_right (by decide) (by omega)
      omega
/-- The number's first nine digits. -/
def fig (n : Nat) : Nat := if dg n ≤ 8 then n * 10 ^ (8 - dg n) else n / 10 ^ (dg n - 8)
theorem fig_fig {n : Nat} (h0 : 0 < n) : Fig (fig n : Int) := by
  obtain ⟨h1, h2⟩ := dg_spec n h0
  have key : 100000000 ≤ fig n ∧ fig n < 1000000000 := by
    unfold fig
    split
    · rename_i h
      have e1 : 10 ^ dg n * 10 ^ (8 - dg n) = 100000000 := by rw [← Nat.pow_add, show dg n + (8 - dg n) = 8 from by omega]
      have e2 : 10 ^ (dg n + 1) * 10 ^ (8 - dg n) = 1000000000 := by rw [← Nat.pow_add, show dg n + 1 + (8 - dg n) = 9 from by omega]
      have p := Nat.mul_le_mul_right (10 ^ (8 - dg n)) h1
      have q := Nat.mul_lt_mul_of_pos_right h2 (Nat.pow_pos (n := 8 - dg n) (show 0 < 10 by decide))
      omega
    · rename_i h
      have hp := Nat.pow_pos (n := dg n - 8) (show 0 < 10 by decide)
      have e1 : 10 ^ dg n = 100000000 * 10 ^ (dg n - 8) := by rw [show (100000000 : Nat) = 10 ^ 8 from rfl, ← Nat.pow_add, show 8 + (dg n - 8) = dg n from by omega]
      have e2 : 10 ^ (dg n + 1) = 1000000000 * 10 ^ (dg n - 8) := by rw [show (1000000000 : Nat) = 10 ^ 9 from rfl, ← Nat.pow_add, show 9 + (dg n - 8) = dg n + 1 from by omega]
      refine ⟨(Nat.le_div_iff_mul_le hp).2 (by omega), (Nat.div_lt_iff_lt_mul hp).2 (by omega)⟩
  unfold Fig
  omega
/-- The logarithm. -/
def logN (n : Nat) : Int := itR 4 (fig n) (dg n)
def logDb (n : Int) : Int := if n < 1 then 0 else logN n.toNat
theorem logN_bd {n : Nat} (h : n < 10 ^ 19) : 0 ≤ logN n ∧ logN n ≤ 189999 := itR_le (by omega) (by have := dg_le h; omega) 4 (by omega)
theorem logDb_bd {n : Int} (h : n ≤ 9223372036854775807) : 0 ≤ logDb n ∧ logDb n ≤ 189999 := by
  unfold logDb
  split
  · omega
  · exact logN_bd (by omega)
/-- The model multiplies and divides by 10, round by round. -/
theorem fig_up {n k : Nat} (hk : dg n ≤ k) (h8 : k ≤ 8) : n * 10 ^ (k - dg n) ≤ 999999999 := by
  by_cases h0 : n = 0
  · subst h0; simp
  · obtain ⟨_, h2⟩ := dg_spec n (by omega)
    have e2 : 10 ^ (dg n + 1) * 10 ^ (k - dg n) = 10 ^ (k + 1) := by rw [← Nat.pow_add]; congr 1; omega
    have q := Nat.mul_lt_mul_of_pos_right h2 (Nat.pow_pos (n := k - dg n) (show 0 < 10 by decide))
    have r : 10 ^ (k + 1) ≤ 10 ^ 9 := Nat.pow_le_pow_right (by decide) (by omega)
    have : (10 : Nat) ^ 9 = 1000000000 := rfl
    omega
theorem pow_succ_sub {d k : Nat} (h : d ≤ k) (n : Nat) : n * 10 ^ (k + 1 - d) = n * 10 ^ (k - d) * 10 := by
  rw [show k + 1 - d = k - d + 1 from by omega, Nat.pow_succ, Nat.mul_assoc]
theorem div_pow_succ (n k : Nat) : n / 10 ^ (k + 1) = n / 10 ^ k / 10 := by rw [Nat.pow_succ, Nat.div_div_eq_div_mul]
/-- The model's loops towards nine digits: upwards, then downwards. -/
def Up (n k x : Nat) : Prop := dg n ≤ k ∧ (k ≤ 8 ∨ k = dg n) ∧ x = n * 10 ^ (k - dg n)
def Down (n k x : Nat) : Prop := k ≤ dg n ∧ (dg n ≤ 8 ∧ k = dg n ∧ x = fig n ∨ 8 < dg n ∧ 8 ≤ k ∧ x = n / 10 ^ (dg n - k))
theorem up_start (n : Nat) : Up n (dg n) n := ⟨Nat.le_refl _, .inr rfl, by rw [Nat.sub_self, Nat.pow_zero, Nat.mul_one]⟩
theorem up_bd {n k x : Nat} (h : Up n k x) (hn : n ≤ 9223372036854775807) : x ≤ 9223372036854775807 := by
  obtain ⟨h1, h2, h3⟩ := h
  rcases h2 with h2 | h2
  · have := fig_up (n := n) h1 h2; omega
  · rw [h2, Nat.sub_self, Nat.pow_zero, Nat.mul_one] at h3; omega
theorem up_step {n k x : Nat} (h : Up n k x) (hk : k < 8) : Up n (k + 1) (x * 10) ∧ x * 10 ≤ 999999999 := by
  obtain ⟨h1, h2, h3⟩ := h
  have e : x * 10 = n * 10 ^ (k + 1 - dg n) := by rw [pow_succ_sub h1, h3]
  exact ⟨⟨by omega, .inl (by omega), e⟩, by rw [e]; exact fig_up (by omega) (by omega)⟩
theorem up_end {n k x : Nat} (h : Up n k x) (hk : ¬ k < 8) : Down n (dg n) x := by
  obtain ⟨h1, h2, h3⟩ := h
  refine ⟨Nat.le_refl _, ?_⟩
  by_cases hd : dg n ≤ 8
  · obtain rfl : k = 8 := by omega
    exact .inl ⟨hd, rfl, by rw [h3]; unfold fig; rw [if_pos hd]⟩
  · obtain rfl : k = dg n := by omega
    exact .inr ⟨by omega, by omega, by rw [h3, Nat.sub_self, Nat.pow_zero, Nat.mul_one, Nat.div_one]⟩
theorem down_bd {n k x : Nat} (h : Down n k x) (h0 : 0 < n) (hn : n ≤ 9223372036854775807) : x ≤ 9223372036854775807 := by
  obtain ⟨h1, ⟨h2, h3, h4⟩ | ⟨h2, h3, h4⟩⟩ := h
  · have := (fig_fig h0).2; omega
  · have := Nat.div_le_self n (10 ^ (dg n - k)); omega
theorem down_step {n k x : Nat} (h : Down n k x) (hk : 8 < k) : Down n (k - 1) (x / 10) := by
  obtain ⟨h1, ⟨h2, h3, h4⟩ | ⟨h2, h3, h4⟩⟩ := h
  · omega
  · refine ⟨by omega, .inr ⟨h2, by omega, ?_⟩⟩
    rw [show dg n - (k - 1) = dg n - k + 1 from by omega, div_pow_succ, h4]
theorem down_end {n k x : Nat} (h : Down n k x) (hk : ¬ 8 < k) : x = fig n := by
  obtain ⟨h1, ⟨h2, h3, h4⟩ | ⟨h2, h3, h4⟩⟩ := h
  · exact h4
  · obtain rfl : k = 8 := by omega
    rw [h4]; unfold fig; rw [if_neg (by omega)]
theorem itR_step (k : Nat) (x r : Int) : 10 * itR k x r + tenD (itX k x) = itR (k + 1) x r := rfl
theorem itX_step (k : Nat) (x : Int) : tenV (itX k x) = itX (k + 1) x := rfl
theorem logDb_no {n : Int} (h : n < 1) : logDb n = 0 := if_pos h
theorem logDb_yes {n : Nat} (h : 0 < n) : logDb n = logN n := by unfold logDb; rw [if_neg (by omega)]; rfl
end Go.Proofs.YtednfkjdidlenaaDoor.Plain
