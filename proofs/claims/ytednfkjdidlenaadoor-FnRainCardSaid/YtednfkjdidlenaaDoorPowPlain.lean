
/-
  Plain facts on the least number with a logarithm, with no program in them: logarithms are monotone.
-/
import Derived.Test.YtednfkjdidlenaaDoorLogPlain
namespace Go.Proofs.YtednfkjdidlenaaDoor.Plain

/-- A number with an exponent is at most another one. -/
def Lex (e d e' d' : Int) : Prop := e < e' ∨ e = e' ∧ d ≤ d'
theorem tmmul_mono {a b a' b' : Int} (ha : Fig a) (hb' : Fig b') (h1 : a ≤ a') (h2 : b ≤ b') : a * b ≤ a' * b' :=
  Int.le_trans (Int.mul_le_mul_of_nonneg_left h2 (by have := ha.1; omega)) (Int.mul_le_mul_of_nonneg_right h1 (by have := hb'.1; omega))
theorem tm_mono {a b a' b' : Int} (ha : Fig a) (hb' : Fig b') (h1 : a ≤ a') (h2 : b ≤ b') : Lex (tmD a b) (tmV a b) (tmD a' b') (tmV a' b') := by
  have h := tmmul_mono ha hb' h1 h2
  unfold Lex tmD tmV
  generalize a * b = p at *
  generalize a' * b' = q at *
  split <;> split <;> omega
theorem tmsq_mono {e d e' d' : Int} (hd : Fig d) (hd' : Fig d') (h : Lex e d e' d') : Lex (2 * e + tmD d d) (tmV d d) (2 * e' + tmD d' d') (tmV d' d') := by
  have b1 := tmD_bd d d
  have b2 := tmD_bd d' d'
  rcases h with h | ⟨rfl, h⟩
  · exact .inl (by omega)
  · rcases tm_mono hd hd' h h with g | ⟨g1, g2⟩
    · exact .inl (by omega)
    · exact .inr ⟨by omega, g2⟩
theorem tmby_mono {e d e' d' x x' : Int} (hd : Fig d) (hd' : Fig d') (hx : Fig x) (hx' : Fig x') (h : Lex e d e' d') (hxx : x ≤ x') : Lex (e + tmD d x) (tmV d x) (e' + tmD d' x') (tmV d' x') := by
  have b1 := tmD_bd d x
  have b2 := tmD_bd d' x'
  rcases h with h | ⟨rfl, h⟩
  · by_cases g : e + tmD d x < e' + tmD d' x'
    · exact .inl g
    · have t1 : tmD d x = 1 := by omega
      have t2 : tmD d' x' = 0 := by omega
      refine .inr ⟨by omega, ?_⟩
      have p1 : d * x ≤ 999999999 * x := Int.mul_le_mul_of_nonneg_right hd.2 (by have := hx.1; omega)
      have p2 : 100000000 * x' ≤ d' * x' := Int.mul_le_mul_of_nonneg_right hd'.1 (by have := hx'.1; omega)
      have q0 := hx.1
      unfold tmD at t1 t2
      unfold tmV
      generalize d * x = p at *
      generalize d' * x' = q at *
      split at t1
      · split at t2
        · omega
        · rw [if_pos (by assumption), if_neg (by assumption)]; omega
      · omega
  · rcases tm_mono hd hx' h hxx with g | ⟨g1, g2⟩
    · exact .inl (by omega)
    · exact .inr ⟨by omega, g2⟩
theorem ten_mono {x x' : Int} (hx : Fig x) (hx' : Fig x') (h : x ≤ x') : Lex (tenD x) (tenV x) (tenD x') (tenV x') := by
  have s1 := tm_mono hx hx' h h
  have s2 := tmsq_mono (two_fig hx) (two_fig hx') s1
  have s3 := tmby_mono (four_fig hx) (four_fig hx') hx hx' s2 h
  exact tmsq_mono (five_fig hx) (five_fig hx') s3
theorem it_mono {x x' r r' : Int} (hx : Fig x) (hx' : Fig x') (h : Lex r x r' x') : ∀ k, Lex (itR k x r) (itX k x) (itR k x' r') (itX k x')
  | 0 => h
  | k + 1 => by
    have b1 := tenD_bd (itX k x)
    have b2 := tenD_bd (itX k x')
    rcases it_mono hx hx' h k with g | ⟨g1, g2⟩
    · exact .inl (by unfold itR; omega)
    · rcases ten_mono (itX_fig hx k) (itX_fig hx' k) g2 with t | ⟨t1, t2⟩
      · exact .inl (by unfold itR; omega)
      · exact .inr ⟨by unfold itR; omega, t2⟩
theorem dg_mono {n m : Nat} (h0 : 0 < n) (h : n ≤ m) : dg n ≤ dg m := by
  obtain ⟨h1, _⟩ := dg_spec n h0
  obtain ⟨_, h2⟩ := dg_spec m (by omega)
  have h3 : 10 ^ dg n < 10 ^ (dg m + 1) := by omega
  have := (Nat.pow_lt_pow_iff_right (a := 10) (by decide)).1 h3
  omega
theorem fig_mono {n m : Nat} (h : n ≤ m) (hd : dg n = dg m) : fig n ≤ fig m := by
  unfold fig
  rw [hd]
  split
  · exact Nat.mul_le_mul_right _ h
  · exact Nat.div_le_div_right h
/-- Logarithms are monotone. -/
theorem log_mono {n m : Nat} (h0 : 0 < n) (h : n ≤ m) : logN n ≤ logN m := by
  have hd := dg_mono h0 h
  have hl : Lex (dg n) (fig n) (dg m) (fig m) := by
    by_cases g : dg n = dg m
    · exact .inr ⟨by omega, by have := fig_mono h g; omega⟩
    · exact .inl (by omega)
  have := it_mono (fig_fig h0) (fig_fig (by omega : 0 < m)) hl 4
  unfold logN
  rcases this with t | ⟨t, _⟩ <;> omega
theorem log_dg (n : Nat) : 10000 * (dg n : Int) ≤ logN n ∧ logN n ≤ 10000 * (dg n : Int) + 9999 := by
  have a0 := tenD_bd (itX 0 (fig n))
  have a1 := tenD_bd (itX 1 (fig n))
  have a2 := tenD_bd (itX 2 (fig n))
  have a3 := tenD_bd (itX 3 (fig n))
  unfold logN
  unfold itR itR itR itR itR
  omega
/-- The logarithm of a number below a power of ten. -/
theorem log_lt {n k : Nat} (h0 : 0 < n) (h : n < 10 ^ k) : logN n < 10000 * (k : Int) := by
  obtain ⟨h1, _⟩ := dg_spec n h0
  have h3 : 10 ^ dg n < 10 ^ k := by omega
  have := (Nat.pow_lt_pow_iff_right (a := 10) (by decide)).1 h3
  have := (log_dg n).2
  omega
theorem log_pow (k : Nat) : 10000 * (k : Int) ≤ logN (10 ^ k) := by
  have h0 : 0 < 10 ^ k := Nat.pow_pos (by decide)
  obtain ⟨_, h2⟩ := dg_spec (10 ^ k) h0
  have := (Nat.pow_lt_pow_iff_right (a := 10) (by decide)).1 h2
  have := (log_dg (10 ^ k)).1
  omega
/-- p is the least number with a logarithm of at least v. -/
def IsPow (v : Int) (p : Nat) : Prop := 0 < p ∧ v ≤ logN p ∧ ∀ q, 0 < q → q < p → logN q < v
theorem isPow_unique {v : Int} {p q : Nat} (h : IsPow v p) (k : IsPow v q) : p = q := by
  by_cases h1 : p < q
  · have := k.2.2 p h.1 h1; have := h.2.1; omega
  · by_cases h2 : q < p
    · have := h.2.2 q k.1 h2; have := k.2.1; omega
    · omega
/-- What a search by halves keeps. -/
def Srch (v : Int) (lo hi : Nat) : Prop := 0 < lo ∧ lo ≤ hi ∧ v ≤ logN hi ∧ ∀ q, 0 < q → q < lo → logN q < v
theorem srch_high {v : Int} {lo hi m : Nat} (h : Srch v lo hi) (h1 : lo ≤ m) (hm : v ≤ logN m) : Srch v lo m := ⟨h.1, h1, hm, h.2.2.2⟩
theorem srch_low {v : Int} {lo hi m : Nat} (h : Srch v lo hi) (h2 : m < hi) (hm : ¬ v ≤ logN m) : Srch v (m + 1) hi :=
  ⟨by omega, by omega, h.2.2.1, fun q q0 q1 => by have := log_mono q0 (show q ≤ m by omega); omega⟩
theorem srch_end {v : Int} {lo hi : Nat} (h : Srch v lo hi) (h1 : ¬ lo < hi) : IsPow v lo := by
  obtain rfl : lo = hi := by have := h.2.1; omega
  exact ⟨h.1, h.2.2.1, h.2.2.2⟩
theorem srch_wide {v : Int} (h : v ≤ 180000) : Srch v 1 1000000000000000000 :=
  ⟨by decide, by decide, by have := log_pow 18; exact Int.le_trans h this, fun q q0 q1 => by omega⟩
theorem srch_near {v : Int} {k : Nat} (h : v ≤ 180000) (h1 : 10000 * (k : Int) ≤ v) (h2 : v < 10000 * (k : Int) + 10000) : Srch v (10 ^ k) (10 ^ (min (k + 1) 18)) := by
  have hk : k ≤ 18 := by omega
  refine ⟨Nat.pow_pos (by decide), Nat.pow_le_pow_right (by decide) (by omega), ?_, fun q q0 q1 => by have := log_lt q0 q1; omega⟩
  have := log_pow (min (k + 1) 18)
  by_cases g : k + 1 ≤ 18
  · rw [Nat.min_eq_left g] at this ⊢; omega
  · rw [Nat.min_eq_right (by omega)] at this ⊢; omega
theorem pow_exists_aux (v : Int) : ∀ (n lo hi : Nat), hi - lo ≤ n → Srch v lo hi → ∃ p, IsPow v p ∧ p ≤ hi
  | 0, lo, hi, hn, h => ⟨lo, srch_end h (by omega), h.2.1⟩
  | n + 1, lo, hi, hn, h => by
    by_cases g : lo < hi
    · by_cases hm : v ≤ logN lo
      · exact ⟨lo, ⟨h.1, hm, h.2.2.2⟩, h.2.1⟩
      · exact pow_exists_aux v n (lo + 1) hi (by omega) (srch_low h g hm)
    · exact ⟨lo, srch_end h g, h.2.1⟩
theorem pow_exists {v : Int} (h : v ≤ 180000) : ∃ p, IsPow v p := by
  obtain ⟨p, hp, _⟩ := pow_exists_aux v _ _ _ (Nat.le_refl _) (srch_wide h)
  exact ⟨p, hp⟩
open Classical in
/-- The least number with a logarithm of at least v. -/
noncomputable def powN (v : Int) : Nat := if h : ∃ p, IsPow v p then Classical.choose h else 0
theorem powN_is {v : Int} (h : v ≤ 180000) : IsPow v (powN v) := by
  unfold powN
  rw [dif_pos (pow_exists h)]
  exact Classical.choose_spec (pow_exists h)
theorem powN_eq {v : Int} {p : Nat} (h : v ≤ 180000) (hp : IsPow v p) : p = powN v := isPow_unique hp (powN_is h)
theorem powN_le {v : Int} {k : Nat} (h : v ≤ 180000) (hk : v ≤ 10000 * (k : Int)) : powN v ≤ 10 ^ k := by
  have h1 := powN_is h
  by_cases g : powN v ≤ 10 ^ k
  · exact g
  · have := h1.2.2 (10 ^ k) (Nat.pow_pos (by decide)) (by omega)
    have := log_pow k
    omega
theorem powN_le18 {v : Int} (h : v ≤ 180000) : powN v ≤ 1000000000000000000 := by
  have := powN_le (k := 18) h (by omega)
  simpa using this
/-- What the program and the model return for a level. -/
noncomputable def powDb (v : Int) : Int := if 0 ≤ v ∧ v ≤ 180000 then (powN v : Int) else 0
theorem powDb_yes {v : Int} (h0 : 0 ≤ v) (h1 : v ≤ 180000) : powDb v = (powN v : Int) := if_pos ⟨h0, h1⟩
theorem powDb_no {v : Int} (h : ¬ (0 ≤ v ∧ v ≤ 180000)) : powDb v = 0 := if_neg h
theorem powDb_bd (v : Int) : 0 ≤ powDb v ∧ powDb v ≤ 1000000000000000000 := by
  unfold powDb
  split
  · rename_i h; have := powN_le18 h.2; omega
  · omega
end Go.Proofs.YtednfkjdidlenaaDoor.Plain
