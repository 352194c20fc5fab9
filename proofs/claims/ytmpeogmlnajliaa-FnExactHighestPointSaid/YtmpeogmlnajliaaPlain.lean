
/-
  Plain facts on whole numbers, with no program in them: the integer square root, the nearest quotient, the check value's step, and names.
-/
namespace Go.Proofs.Ytmpeogmlnajliaa.Plain

/-! ### The square root, rounded down -/

/-- 'r' is the root of 'n', rounded down; 0 for negative ones. -/
def IsRoot (n r : Int) : Prop := 0 ≤ r ∧ r ≤ 3037000499 ∧ (n < 0 → r = 0) ∧ (0 ≤ n → r * r ≤ n ∧ n < (r + 1) * (r + 1))

theorem sq_mono {a b : Int} (ha : 0 ≤ a) (h : a ≤ b) : a * a ≤ b * b := Int.mul_le_mul h h ha (by omega)

theorem isRoot_unique {n r s : Int} (hr : IsRoot n r) (hs : IsRoot n s) : r = s := by
  obtain ⟨r0, _, rn, rp⟩ := hr
  obtain ⟨s0, _, sn, sp⟩ := hs
  by_cases h : n < 0
  · rw [rn h, sn h]
  · obtain ⟨r1, r2⟩ := rp (by omega)
    obtain ⟨s1, s2⟩ := sp (by omega)
    have a : ¬ s + 1 ≤ r := fun q => by have := sq_mono (by omega : 0 ≤ s + 1) q; omega
    have b : ¬ r + 1 ≤ s := fun q => by have := sq_mono (by omega : 0 ≤ r + 1) q; omega
    omega

/-- The halving search's state: the root lies from 'low' to 'high'. -/
def Search (n low high : Int) : Prop := 0 ≤ low ∧ low ≤ high ∧ high ≤ 3037000499 ∧ (n < 0 → low = 0) ∧ (0 ≤ n → low * low ≤ n ∧ n < (high + 1) * (high + 1))

theorem search_start (n : Int) (h : n ≤ 9223372036854775807) : Search n 0 3037000499 :=
  ⟨by omega, by omega, by omega, fun _ => rfl, fun _ => ⟨by omega, by omega⟩⟩
theorem search_low {n low high m : Int} (h : Search n low high) (hm : low < m) (hm2 : m ≤ high) (ht : m * m ≤ n) : Search n m high := by
  obtain ⟨a, b, c, d, e⟩ := h
  have hn : 0 ≤ n := by have : 0 ≤ m * m := Int.mul_nonneg (by omega) (by omega); omega
  exact ⟨by omega, hm2, c, fun h => by omega, fun _ => ⟨ht, (e hn).2⟩⟩
theorem search_high {n low high m : Int} (h : Search n low high) (hm : low < m) (hm2 : m ≤ high) (ht : ¬ m * m ≤ n) : Search n low (m - 1) := by
  obtain ⟨a, b, c, d, e⟩ := h
  refine ⟨a, by omega, by omega, d, fun hn => ⟨(e hn).1, ?_⟩⟩
  rw [show m - 1 + 1 = m from by omega]; omega
theorem search_end {n low high : Int} (h : Search n low high) (he : ¬ low < high) : IsRoot n low := by
  obtain ⟨a, b, c, d, e⟩ := h
  have : low = high := by omega
  subst this
  exact ⟨a, c, d, e⟩
/-- The root as a function. -/
def isq : Nat → Nat
  | 0 => 0
  | n + 1 => if (isq n + 1) * (isq n + 1) ≤ n + 1 then isq n + 1 else isq n
theorem isq_spec (n : Nat) : isq n * isq n ≤ n ∧ n < (isq n + 1) * (isq n + 1) := by
  induction n with
  | zero => exact ⟨by simp [isq], by simp [isq]⟩
  | succ n ih =>
    obtain ⟨h1, h2⟩ := ih
    unfold isq
    split
    · rename_i h
      refine ⟨h, ?_⟩
      have e : (isq n + 1 + 1) * (isq n + 1 + 1) = (isq n + 1) * (isq n + 1) + 2 * (isq n + 1) + 1 := by
        rw [Nat.add_mul (isq n + 1) 1, Nat.mul_add (isq n + 1)]; omega
      omega
    · rename_i h
      exact ⟨by omega, by omega⟩
def rootOf (n : Int) : Int := (isq n.toNat : Nat)
theorem isRoot_rootOf (n : Int) (h : n ≤ 9223372036854775807) : IsRoot n (rootOf n) := by
  obtain ⟨h1, h2⟩ := isq_spec n.toNat
  have a1 : ((isq n.toNat : Nat) : Int) * ((isq n.toNat : Nat) : Int) ≤ (n.toNat : Int) := by exact_mod_cast h1
  have a2 : (n.toNat : Int) < (((isq n.toNat : Nat) : Int) + 1) * (((isq n.toNat : Nat) : Int) + 1) := by exact_mod_cast h2
  refine ⟨Int.natCast_nonneg _, ?_, fun hn => ?_, fun hn => ?_⟩
  · by_cases g : rootOf n ≤ 3037000499
    · exact g
    · have := sq_mono (by omega : (0 : Int) ≤ 3037000500) (by omega : (3037000500 : Int) ≤ rootOf n)
      unfold rootOf at this g
      omega
  · have : n.toNat = 0 := by omega
    unfold rootOf
    rw [this]
    rfl
  · have e : (n.toNat : Int) = n := by omega
    rw [e] at a1 a2
    exact ⟨a1, a2⟩
theorem eq_rootOf {n r : Int} (h : n ≤ 9223372036854775807) (hr : IsRoot n r) : r = rootOf n := isRoot_unique hr (isRoot_rootOf n h)
theorem rootOf_bd (n : Int) (h : n ≤ 9223372036854775807) : 0 ≤ rootOf n ∧ rootOf n ≤ 3037000499 := ⟨(isRoot_rootOf n h).1, (isRoot_rootOf n h).2.1⟩
theorem sq_bd {m : Int} (a : 0 ≤ m) (b : m ≤ 3037000499) : 0 ≤ m * m ∧ m * m ≤ 9223372030926249001 :=
  ⟨Int.mul_nonneg a a, by have := sq_mono a b; omega⟩

/-! ### The root, bit by bit -/

def Dig (n r m : Nat) : Prop := r % m = 0 ∧ r * r ≤ n ∧ n < (r + m) * (r + m) ∧ r + m ≤ 4294967296
theorem dig_take {n r b : Nat} (h : Dig n r (2 * b)) (ht : (r + b) * (r + b) ≤ n) : Dig n (r + b) b := by
  obtain ⟨h1, h2, h3, h4⟩ := h
  refine ⟨?_, ht, ?_, by omega⟩
  · obtain ⟨q, hq⟩ := Nat.dvd_of_mod_eq_zero h1
    rw [hq, show 2 * b * q + b = b * (2 * q + 1) from by rw [Nat.mul_add, Nat.mul_one, Nat.mul_comm 2 b, Nat.mul_assoc]]
    exact Nat.mul_mod_right _ _
  · rw [show r + b + b = r + 2 * b from by omega]; exact h3
theorem dig_skip {n r b : Nat} (h : Dig n r (2 * b)) (ht : ¬ (r + b) * (r + b) ≤ n) : Dig n r b := by
  obtain ⟨h1, h2, h3, h4⟩ := h
  refine ⟨?_, h2, by omega, by omega⟩
  obtain ⟨q, hq⟩ := Nat.dvd_of_mod_eq_zero h1
  rw [hq, Nat.mul_comm 2 b, Nat.mul_assoc]
  exact Nat.mul_mod_right _ _
def St (n r b : Nat) : Prop := (∃ j, j ≤ 31 ∧ b = 2 ^ j ∧ Dig n r (2 * b)) ∨ (b = 0 ∧ Dig n r 1)
theorem st_half {n r b : Nat} (hj : ∃ j, j ≤ 31 ∧ b = 2 ^ j) (h : Dig n r b) : St n r (b / 2) := by
  obtain ⟨j, hj, rfl⟩ := hj
  cases j with
  | zero => exact .inr ⟨by decide, h⟩
  | succ j =>
    have e : 2 ^ (j + 1) / 2 = 2 ^ j := by rw [Nat.pow_succ]; omega
    refine .inl ⟨j, by omega, e, ?_⟩
    rw [e, show 2 * 2 ^ j = 2 ^ (j + 1) from by rw [Nat.pow_succ, Nat.mul_comm]]
    exact h
theorem st_end {n r : Nat} (hn : n ≤ 9223372036854775807) (h : St n r 0) : (r : Int) = rootOf n := by
  rcases h with ⟨j, _, h, _⟩ | ⟨_, h1, h2, h3, h4⟩
  · have := Nat.two_pow_pos j; omega
  · refine eq_rootOf (by omega) ⟨by omega, ?_, fun h => by omega, fun _ => ⟨by exact_mod_cast h2, by exact_mod_cast h3⟩⟩
    by_cases g : (r : Int) ≤ 3037000499
    · exact g
    · have := sq_mono (by omega : (0 : Int) ≤ 3037000500) (by omega : (3037000500 : Int) ≤ r)
      have : ((r * r : Nat) : Int) ≤ n := by exact_mod_cast h2
      rw [Int.natCast_mul] at this
      omega
theorem st_start {n k : Nat} (hk : k ≤ 62) (h2 : n < 2 ^ (k + 1)) : St n 0 (2 ^ (k / 2)) := by
  have e : 2 * 2 ^ (k / 2) = 2 ^ (k / 2 + 1) := by rw [Nat.pow_succ, Nat.mul_comm]
  refine .inl ⟨k / 2, by omega, rfl, by simp, by omega, ?_, ?_⟩
  · rw [e, Nat.zero_add, ← Nat.pow_add]
    exact Nat.lt_of_lt_of_le h2 (Nat.pow_le_pow_right (by decide) (by omega))
  · rw [e, Nat.zero_add]
    exact Nat.le_trans (Nat.pow_le_pow_right (by decide) (by omega : k / 2 + 1 ≤ 32)) (by decide)
theorem st_pos {n r b : Nat} (h : St n r b) (hb : 0 < b) : (∃ j, j ≤ 31 ∧ b = 2 ^ j) ∧ Dig n r (2 * b) := by
  rcases h with ⟨j, hj, e, d⟩ | ⟨h, _⟩
  · exact ⟨⟨j, hj, e⟩, d⟩
  · omega
theorem st_or {n r b : Nat} (h : St n r b) (hb : 0 < b) : r ||| b = r + b := by
  obtain ⟨⟨j, _, rfl⟩, h1, _⟩ := st_pos h hb
  rw [show 2 * 2 ^ j = 2 ^ (j + 1) from by rw [Nat.pow_succ, Nat.mul_comm]] at h1
  obtain ⟨q, rfl⟩ := Nat.dvd_of_mod_eq_zero h1
  exact (Nat.two_pow_add_eq_or_of_lt (Nat.pow_lt_pow_right (by decide) (by omega)) q).symm
theorem st_bd {n r b : Nat} (h : St n r b) : r + b ≤ 4294967295 := by
  rcases h with ⟨j, hj, e, _, _, _, h4⟩ | ⟨rfl, _, _, _, h4⟩
  · have := Nat.two_pow_pos j; omega
  · omega
theorem usq_bd {m : Int} (a : 0 ≤ m) (b : m ≤ 4294967295) : 0 ≤ m * m ∧ m * m ≤ 18446744065119617025 :=
  ⟨Int.mul_nonneg a a, by have := sq_mono a b; omega⟩

/-! ### The nearest quotient -/

/-- The nearest quotient of two magnitudes, halves upwards. -/
def nq (a b : Nat) : Nat := if b - a % b ≤ a % b then a / b + 1 else a / b

theorem nq_eq (a b : Nat) (hb : 0 < b) : nq a b = (2 * a + b) / (2 * b) := by
  have h1 : a % b < b := Nat.mod_lt _ hb
  have h2 : b * (a / b) + a % b = a := Nat.div_add_mod a b
  have h3 : 2 * a + b = 2 * b * (a / b) + (2 * (a % b) + b) := by
    have : 2 * b * (a / b) = 2 * (b * (a / b)) := by rw [Nat.mul_assoc]
    omega
  unfold nq
  rw [h3, Nat.add_comm (2 * b * (a / b)), Nat.add_mul_div_left _ _ (by omega)]
  split
  · have : (2 * (a % b) + b) / (2 * b) = 1 := by
      apply Nat.div_eq_of_lt_le <;> omega
    omega
  · have : (2 * (a % b) + b) / (2 * b) = 0 := Nat.div_eq_of_lt (by omega)
    omega

/-- The nearest quotient, halves away from 0. -/
def near (a b : Int) : Int := if (a < 0 ∧ 0 ≤ b) ∨ (0 ≤ a ∧ b < 0) then -((nq a.natAbs b.natAbs : Nat) : Int) else ((nq a.natAbs b.natAbs : Nat) : Int)

theorem near_div_pp (a b : Int) (hb : 0 < b) (ha : 0 ≤ a) : near a b = (2 * a + b) / (2 * b) := by
  obtain ⟨x, rfl⟩ := Int.eq_ofNat_of_zero_le ha
  obtain ⟨y, rfl⟩ := Int.eq_ofNat_of_zero_le (Int.le_of_lt hb)
  unfold near
  rw [if_neg (by omega), Int.natAbs_natCast, Int.natAbs_natCast, nq_eq x y (by omega)]
  simp
theorem near_neg (a b : Int) (ha : a ≠ 0) : near (-a) b = -near a b := by
  unfold near
  rw [Int.natAbs_neg]
  by_cases h1 : a < 0 <;> by_cases h2 : b < 0
  · rw [if_pos (by omega), if_neg (by omega)]
  · rw [if_neg (by omega), if_pos (by omega)]; omega
  · rw [if_neg (by omega), if_pos (by omega)]; omega
  · rw [if_pos (by omega), if_neg (by omega)]
theorem near_zero (b : Int) (hb : b ≠ 0) : near 0 b = 0 := by
  have : nq 0 b.natAbs = 0 := by
    rw [nq_eq _ _ (by omega)]
    exact Nat.div_eq_of_lt (by omega)
  unfold near
  simp [this]
theorem near_neg2 (a b : Int) (hb : b ≠ 0) : near a (-b) = near (-a) b := by
  by_cases h : a = 0
  · subst h; rw [near_zero _ (by omega), Int.neg_zero, near_zero _ hb]
  · rw [near_neg a b h]
    unfold near
    rw [Int.natAbs_neg]
    by_cases h1 : a < 0 <;> by_cases h2 : b < 0
    · rw [if_pos (by omega), if_neg (by omega)]
    · rw [if_neg (by omega), if_pos (by omega)]; omega
    · rw [if_neg (by omega), if_pos (by omega)]; omega
    · rw [if_pos (by omega), if_neg (by omega)]
theorem near_div_pn (a b : Int) (hb : 0 < b) (ha : a < 0) : near a b = -((b - 2 * a) / (2 * b)) := by
  have := near_neg (-a) b (by omega)
  rw [Int.neg_neg] at this
  rw [this, near_div_pp (-a) b hb (by omega), show 2 * -a + b = b - 2 * a from by omega]
theorem near_div_nn (a b : Int) (hb : b < 0) (ha : a ≤ 0) : near a b = (2 * -a + -b) / (2 * -b) := by
  have := near_neg2 a (-b) (by omega)
  rw [Int.neg_neg] at this
  rw [this, near_div_pp (-a) (-b) (by omega) (by omega)]
theorem near_div_np (a b : Int) (hb : b < 0) (ha : 0 < a) : near a b = -((-b - 2 * -a) / (2 * -b)) := by
  have := near_neg2 a (-b) (by omega)
  rw [Int.neg_neg] at this
  rw [this, near_div_pn (-a) (-b) (by omega) (by omega)]

theorem nq_int (x y : Nat) (h0 : 0 < y) : ((nq x y : Nat) : Int) = if (y : Int) - (x : Int) % y ≤ (x : Int) % y then (x : Int) / y + 1 else (x : Int) / y := by
  have h1 : x % y < y := Nat.mod_lt _ h0
  have e1 : (x : Int) % y = ((x % y : Nat) : Int) := (Int.natCast_emod x y).symm
  have e2 : (x : Int) / y = ((x / y : Nat) : Int) := (Int.natCast_ediv x y).symm
  unfold nq
  rw [e1, e2]
  by_cases h : y - x % y ≤ x % y
  · rw [if_pos h, if_pos (by omega)]; rfl
  · rw [if_neg h, if_neg (by omega)]
theorem near_u1 {a b : Int} {x y : Nat} (hx : x = a.natAbs) (hy : y = b.natAbs) (h0 : 0 < y) (h : (y : Int) - (x : Int) % y ≤ (x : Int) % y) (hs : (!decide (a < 0) == decide (b < 0)) = true) :
    -((x : Int) / y + 1) = near a b := by
  have hs' : (a < 0 ∧ 0 ≤ b) ∨ (0 ≤ a ∧ b < 0) := by
    by_cases h1 : a < 0 <;> by_cases h2 : b < 0 <;> simp [h1, h2] at hs <;> omega
  unfold near
  rw [if_pos hs', ← hx, ← hy, nq_int x y h0, if_pos h]
theorem near_u2 {a b : Int} {x y : Nat} (hx : x = a.natAbs) (hy : y = b.natAbs) (h0 : 0 < y) (h : (y : Int) - (x : Int) % y ≤ (x : Int) % y) (hs : (!decide (a < 0) == decide (b < 0)) = false) :
    (x : Int) / y + 1 = near a b := by
  have hs' : ¬ ((a < 0 ∧ 0 ≤ b) ∨ (0 ≤ a ∧ b < 0)) := by
    by_cases h1 : a < 0 <;> by_cases h2 : b < 0 <;> simp [h1, h2] at hs <;> omega
  unfold near
  rw [if_neg hs', ← hx, ← hy, nq_int x y h0, if_pos h]
theorem near_d1 {a b : Int} {x y : Nat} (hx : x = a.natAbs) (hy : y = b.natAbs) (h0 : 0 < y) (h : (x : Int) % y < (y : Int) - (x : Int) % y) (hs : (!decide (a < 0) == decide (b < 0)) = true) :
    -((x : Int) / y) = near a b := by
  have hs' : (a < 0 ∧ 0 ≤ b) ∨ (0 ≤ a ∧ b < 0) := by
    by_cases h1 : a < 0 <;> by_cases h2 : b < 0 <;> simp [h1, h2] at hs <;> omega
  unfold near
  rw [if_pos hs', ← hx, ← hy, nq_int x y h0, if_neg (by omega)]
theorem near_d2 {a b : Int} {x y : Nat} (hx : x = a.natAbs) (hy : y = b.natAbs) (h0 : 0 < y) (h : (x : Int) % y < (y : Int) - (x : Int) % y) (hs : (!decide (a < 0) == decide (b < 0)) = false) :
    (x : Int) / y = near a b := by
  have hs' : ¬ ((a < 0 ∧ 0 ≤ b) ∨ (0 ≤ a ∧ b < 0)) := by
    by_cases h1 : a < 0 <;> by_cases h2 : b < 0 <;> simp [h1, h2] at hs <;> omega
  unfold near
  rw [if_neg hs', ← hx, ← hy, nq_int x y h0, if_neg (by omega)]
/-- How far the nearest quotient goes. -/
theorem near_le (a b : Int) (hb : b ≠ 0) (m : Int) (h1 : -m ≤ a) (h2 : a ≤ m) : -m ≤ near a b ∧ near a b ≤ m := by
  have h : nq a.natAbs b.natAbs ≤ a.natAbs := by
    rw [nq_eq _ _ (by omega)]
    by_cases h0 : a.natAbs = 0
    · rw [h0, Nat.div_eq_of_lt (by omega)]; omega
    · have : 0 < b.natAbs := by omega
      have : 1 * a.natAbs ≤ b.natAbs * a.natAbs := Nat.mul_le_mul_right _ (by omega)
      refine Nat.le_of_lt_succ (Nat.div_lt_of_lt_mul ?_)
      rw [Nat.mul_assoc, Nat.mul_succ]
      omega
  unfold near
  split <;> omega

/-- Whether a number lies in a range. -/
def inB (v lo hi : Int) : Bool := decide (lo ≤ v ∧ v ≤ hi)
theorem inB_yes {v lo hi : Int} (h1 : lo ≤ v) (h2 : v ≤ hi) : inB v lo hi = true := decide_eq_true ⟨h1, h2⟩
theorem inB_no {v lo hi : Int} (h : v < lo ∨ hi < v) : inB v lo hi = false := decide_eq_false (by omega)
theorem of_inB {v lo hi : Int} (h : inB v lo hi = true) : lo ≤ v ∧ v ≤ hi := of_decide_eq_true h
theorem of_not_inB {v lo hi : Int} (h : inB v lo hi = false) : v < lo ∨ hi < v := by have := of_decide_eq_false h; omega

end Go.Proofs.Ytmpeogmlnajliaa.Plain
