
/-
  Plain facts on directions, with no program in them: the sines, whole turns, the angle between two directions, and the direction in which a way reaches farthest.
-/
import Derived.Test.YtnambnddoebeiaaPlain
namespace Go.Proofs.Ytnambnddoebeiaa.Plain

/-- The sines of 0 to 90 degrees. -/
def sines : List Int := [0, 17452, 34899, 52336, 69756, 87156, 104528, 121869, 139173, 156434, 173648, 190809, 207912, 224951, 241922, 258819, 275637, 292372, 309017, 325568, 342020, 358368, 374607, 390731, 406737, 422618, 438371, 453990, 469472, 484810, 500000, 515038, 529919, 544639, 559193, 573576, 587785, 601815, 615661, 629320, 642788, 656059, 669131, 681998, 694658, 707107, 719340, 731354, 743145, 754710, 766044, 777146, 788011, 798636, 809017, 819152, 829038, 838671, 848048, 857167, 866025, 874620, 882948, 891007, 898794, 906308, 913545, 920505, 927184, 933580, 939693, 945519, 951057, 956305, 961262, 965926, 970296, 974370, 978148, 981627, 984808, 987688, 990268, 992546, 994522, 996195, 997564, 998630, 999391, 999848, 1000000]
def sinT (d : Nat) : Int := sines.getD d 0
/-- The sine of 0 to 180 degrees. -/
def sin2 (d : Nat) : Int := sinT (if 90 < d then 180 - d else d)
/-- The sine of 0 to 359 degrees. -/
def sinN (d : Nat) : Int := if 180 ≤ d then -sin2 (d - 180) else sin2 d
def cosN (d : Nat) : Int := sinN ((d + 90) % 360)
/-- The number of degrees from 0 to 359. -/
def deg (d : Int) : Nat := (d % 360).toNat
theorem deg_lt (d : Int) : deg d < 360 := by unfold deg; omega
theorem deg_nat {d : Nat} (h : d < 360) : deg (d : Int) = d := by unfold deg; omega
theorem deg_go (d : Int) : (Int.tmod d 360 + 360) % 360 = (deg d : Int) := by
  unfold deg
  have h1 : Int.tmod d 360 = d - 360 * Int.tdiv d 360 := by have := Int.tmod_add_mul_tdiv d 360; omega
  rw [h1]
  omega
theorem tmod_bd (d : Int) : -360 < Int.tmod d 360 ∧ Int.tmod d 360 < 360 := by
  by_cases h : 0 ≤ d
  · have h1 := Int.tmod_nonneg 360 h
    have h2 := Int.tmod_lt_of_pos d (show (0 : Int) < 360 by omega)
    omega
  · have h1 := Int.tmod_nonneg (a := -d) 360 (by omega)
    have h2 := Int.tmod_lt_of_pos (-d) (show (0 : Int) < 360 by omega)
    rw [Int.neg_tmod] at h1 h2
    omega
def sine (d : Int) : Int := sinN (deg d)
def cosine (d : Int) : Int := cosN (deg d)

theorem tab_bd : ∀ d, d < 91 → 0 ≤ sinT d ∧ sinT d ≤ 1000000 := by decide +kernel
theorem sin_bd : ∀ d, d < 360 → -1000000 ≤ sinN d ∧ sinN d ≤ 1000000 := by decide +kernel
theorem cos_bd : ∀ d, d < 360 → -1000000 ≤ cosN d ∧ cosN d ≤ 1000000 := by decide +kernel
theorem sine_bd (d : Int) : -1000000 ≤ sine d ∧ sine d ≤ 1000000 := sin_bd _ (deg_lt d)
theorem cosine_bd (d : Int) : -1000000 ≤ cosine d ∧ cosine d ≤ 1000000 := cos_bd _ (deg_lt d)
theorem sinN_low {d : Nat} (h : d ≤ 90) : sinN d = sinT d := by
  unfold sinN sin2; rw [if_neg (by omega), if_neg (by omega)]
theorem sinN_up {d : Nat} (h : 90 < d) (h2 : d < 180) : sinN d = sinT (180 - d) := by
  unfold sinN sin2; rw [if_neg (by omega), if_pos (by omega)]
theorem sinN_low2 {d : Nat} (h : 180 ≤ d) (h2 : d ≤ 270) : sinN d = -sinT (d - 180) := by
  unfold sinN sin2; rw [if_pos (by omega), if_neg (by omega)]
theorem sinN_up2 {d : Nat} (h : 270 < d) (h2 : d < 360) : sinN d = -sinT (360 - d) := by
  unfold sinN sin2; rw [if_pos (by omega), if_pos (by omega), show 180 - (d - 180) = 360 - d from by omega]

/-- The angle between two directions. -/
def gap (a b : Int) : Int := if a ≤ b then b - a else a - b
def turn (a b : Int) : Int := if gap (deg a) (deg b) ≤ 360 - gap (deg a) (deg b) then gap (deg a) (deg b) else 360 - gap (deg a) (deg b)
theorem gap_bd (a b : Int) : 0 ≤ gap (deg a) (deg b) ∧ gap (deg a) (deg b) < 360 := by
  have := deg_lt a; have := deg_lt b; unfold gap; split <;> omega
theorem turn_bd (a b : Int) : 0 ≤ turn a b ∧ turn a b ≤ 180 := by
  have := gap_bd a b; unfold turn; split <;> omega
/-- The model goes by the difference's own number of degrees. -/
theorem turn_spec (a b : Int) : turn a b = if (deg ((deg a : Int) - deg b) : Int) < 360 - deg ((deg a : Int) - deg b) then (deg ((deg a : Int) - deg b) : Int) else 360 - deg ((deg a : Int) - deg b) := by
  have h1 := deg_lt a
  have h2 := deg_lt b
  have h3 : (deg ((deg a : Int) - deg b) : Int) = if (deg b : Int) ≤ deg a then (deg a : Int) - deg b else deg a - deg b + 360 := by
    generalize deg a = x at *
    generalize deg b = y at *
    unfold deg
    split <;> omega
  rw [h3]
  unfold turn gap
  split <;> split <;> split <;> (try split) <;> omega

/-! ### How far a way leads in a direction -/

def reach (e n : Int) (d : Nat) : Int := e * sinN (d % 360) + n * cosN (d % 360)
/-- The least of the directions in which the way reaches farthest. -/
def IsBearing (e n : Int) (d : Nat) : Prop := d < 360 ∧ (∀ j, j < d → reach e n j < reach e n d) ∧ ∀ j, j < 360 → reach e n j ≤ reach e n d
theorem isBearing_unique {e n : Int} {c d : Nat} (hc : IsBearing e n c) (hd : IsBearing e n d) : c = d := by
  obtain ⟨c1, c2, c3⟩ := hc
  obtain ⟨d1, d2, d3⟩ := hd
  rcases Nat.lt_trichotomy c d with h | h | h
  · have := d2 c h; have := c3 d d1; omega
  · exact h
  · have := c2 d h; have := d3 c c1; omega
/-- The best of the first k + 1 directions. -/
def best (e n : Int) : Nat → Nat
  | 0 => 0
  | k + 1 => if reach e n (best e n k) < reach e n (k + 1) then k + 1 else best e n k
theorem best_spec (e n : Int) : ∀ k, best e n k ≤ k ∧ (∀ j, j < best e n k → reach e n j < reach e n (best e n k)) ∧ ∀ j, j ≤ k → reach e n j ≤ reach e n (best e n k)
  | 0 => ⟨Nat.le_refl _, fun j h => by simp [best] at h, fun j h => by obtain rfl : j = 0 := by omega
                                                                       exact Int.le_refl _⟩
  | k + 1 => by
    obtain ⟨h1, h2, h3⟩ := best_spec e n k
    unfold best
    split
    · rename_i h
      refine ⟨Nat.le_refl _, fun j hj => by have := h3 j (by omega); omega, fun j hj => ?_⟩
      by_cases hk : j = k + 1
      · subst hk; exact Int.le_refl _
      · have := h3 j (by omega); omega
    · rename_i h
      refine ⟨by omega, h2, fun j hj => ?_⟩
      by_cases hk : j = k + 1
      · subst hk; omega
      · exact h3 j (by omega)
def bearing (e n : Int) : Nat := best e n 359
theorem isBearing_bearing (e n : Int) : IsBearing e n (bearing e n) := by
  obtain ⟨h1, h2, h3⟩ := best_spec e n 359
  exact ⟨by unfold bearing; omega, h2, fun j hj => h3 j (by omega)⟩
theorem bearing_lt (e n : Int) : bearing e n < 360 := (isBearing_bearing e n).1

/-! ### The sines are the corners of a convex polygon -/

theorem tab1 : ∀ k, k < 89 → (sinN (k + 2) - sinN (k + 1)) * (cosN k - cosN (k + 1)) ≤ (sinN (k + 1) - sinN k) * (cosN (k + 1) - cosN (k + 2)) := by decide +kernel
theorem tab2 : ∀ k, k < 90 → 0 < cosN k - cosN (k + 1) := by decide +kernel
/-- The direction of the first quarter with the same sines but for the signs. -/
def red (d : Nat) : Nat := if d ≤ 90 then d else if d ≤ 180 then 180 - d else if d ≤ 270 then d - 180 else 360 - d
theorem red_le {d : Nat} (h : d < 360) : red d ≤ 90 := by unfold red; split <;> (try split) <;> (try split) <;> omega
theorem tab3 : ∀ d, d < 360 → (sinN d = sinN (red d) ∨ sinN d = -sinN (red d)) ∧ (cosN d = cosN (red d) ∨ cosN d = -cosN (red d)) ∧ 0 ≤ sinN (red d) ∧ 0 ≤ cosN (red d) := by decide +kernel
theorem tab4 : ∀ k, k < 91 → sinN (90 - k) = cosN k ∧ cosN (90 - k) = sinN k ∧ 0 ≤ sinN k ∧ 0 ≤ cosN k := by decide +kernel
theorem tab5 : ∀ k, k < 91 → sinN ((90 + k) % 360) = cosN k ∧ cosN ((90 + k) % 360) = -sinN k ∧ sinN ((180 + k) % 360) = -sinN k ∧ cosN ((180 + k) % 360) = -cosN k ∧ sinN ((270 + k) % 360) = -cosN k ∧ cosN ((270 + k) % 360) = sinN k := by decide +kernel
theorem tab6 : ∀ d, d < 180 → 0 < d → 0 < sinN d := by decide +kernel
theorem tab7 : ∀ d, d < 90 → 0 < cosN d := by decide +kernel
theorem tab8 : ∀ d, d < 270 → 90 < d → cosN d < 0 := by decide +kernel

def G (a b : Int) (k : Nat) : Int := a * sinN k + b * cosN k
theorem G_conc {a b : Int} (ha : 0 ≤ a) {k : Nat} (hk : k < 89) (h : G a b (k + 1) ≤ G a b k) : G a b (k + 2) ≤ G a b (k + 1) := by
  have t1 := tab1 k hk
  have t2 := tab2 k (by omega)
  have t3 := tab2 (k + 1) (by omega)
  unfold G at *
  rw [show k + 1 + 1 = k + 2 from rfl] at t3
  generalize sinN (k + 2) = s2 at *
  generalize sinN (k + 1) = s1 at *
  generalize sinN k = s0 at *
  generalize cosN (k + 2) = c2 at *
  generalize cosN (k + 1) = c1 at *
  generalize cosN k = c0 at *
  have h1 : a * (s1 - s0) ≤ b * (c0 - c1) := by rw [Int.mul_sub, Int.mul_sub]; omega
  have h2 : a * ((s2 - s1) * (c0 - c1)) ≤ a * ((s1 - s0) * (c1 - c2)) := Int.mul_le_mul_of_nonneg_left t1 ha
  have h3 : a * (s1 - s0) * (c1 - c2) ≤ b * (c0 - c1) * (c1 - c2) := Int.mul_le_mul_of_nonneg_right h1 (by omega)
  have h4 : a * (s2 - s1) * (c0 - c1) ≤ b * (c1 - c2) * (c0 - c1) := by
    rw [Int.mul_assoc, Int.mul_assoc, Int.mul_comm (c1 - c2) (c0 - c1), ← Int.mul_assoc b]
    rw [Int.mul_assoc] at h3
    omega
  have h5 : a * (s2 - s1) ≤ b * (c1 - c2) := Int.le_of_mul_le_mul_right h4 t2
  rw [Int.mul_sub, Int.mul_sub] at h5
  omega
theorem G_down {a b : Int} (ha : 0 ≤ a) {k : Nat} (h : G a b (k + 1) ≤ G a b k) : ∀ j, k + j < 90 → G a b (k + j + 1) ≤ G a b (k + j)
  | 0, _ => h
  | j + 1, hj => by
    have := G_down ha h j (by omega)
    exact G_conc ha (k := k + j) (by omega) this
theorem G_fall {a b : Int} (ha : 0 ≤ a) {k : Nat} (h : k = 90 ∨ G a b (k + 1) ≤ G a b k) : ∀ j, k + j ≤ 90 → G a b (k + j) ≤ G a b k
  | 0, _ => Int.le_refl _
  | j + 1, hj => by
    have h0 : G a b (k + 1) ≤ G a b k := by rcases h with h | h; · omega
                                            · exact h
    have h1 := G_down ha h0 j (by omega)
    have h2 := G_fall ha h j (by omega)
    have : G a b (k + (j + 1)) ≤ G a b (k + j) := h1
    omega
theorem G_rise {a b : Int} (ha : 0 ≤ a) {m : Nat} (hm : m ≤ 90) (h : m = 0 ∨ G a b (m - 1) < G a b m) : ∀ j, j < m → G a b (m - 1 - j) < G a b m
  | 0, hj => by rcases h with h | h; · omega
                · exact h
  | j + 1, hj => by
    have h1 := G_rise ha hm h j (by omega)
    by_cases g : G a b (m - 1 - j) ≤ G a b (m - 1 - (j + 1))
    · exfalso
      have e : m - 1 - j = m - 1 - (j + 1) + 1 := by omega
      rw [e] at g
      have h2 := G_fall ha (k := m - 1 - (j + 1)) (.inr g) (j + 2) (by omega)
      have h3 := G_fall ha (k := m - 1 - (j + 1)) (.inr g) (j + 1) (by omega)
      have h4 := G_down ha (k := m - 1 - (j + 1)) g (j + 1) (by omega)
      rw [show m - 1 - (j + 1) + (j + 1) + 1 = m from by omega, show m - 1 - (j + 1) + (j + 1) = m - 1 from by omega] at h4
      rcases h with h | h <;> omega
    · omega
/-- Where the search ends, the reach is greatest, for the first time. -/
theorem G_peak {a b : Int} (ha : 0 ≤ a) {m : Nat} (hm : m ≤ 90) (h1 : m = 0 ∨ G a b (m - 1) < G a b m) (h2 : m = 90 ∨ G a b (m + 1) ≤ G a b m) : (∀ k, k < m → G a b k < G a b m) ∧ ∀ k, k ≤ 90 → G a b k ≤ G a b m := by
  have p1 : ∀ k, k < m → G a b k < G a b m := fun k hk => by
    have := G_rise ha hm h1 (m - 1 - k) (by omega)
    rwa [show m - 1 - (m - 1 - k) = k from by omega] at this
  refine ⟨p1, fun k hk => ?_⟩
  by_cases h : k < m
  · have := p1 k h; omega
  · have := G_fall ha h2 (k - m) (by omega)
    rwa [show m + (k - m) = k from by omega] at this

/-- The first direction of the quarter in which the way lies. -/
def start (e n : Int) : Nat := if 0 ≤ e ∧ 0 ≤ n then 0 else if 0 ≤ e then 90 else if n ≤ 0 then 180 else 270
/-- The two lengths as the quarter sees them. -/
def lenA (e n : Int) : Int := if 0 ≤ e ∧ 0 ≤ n then e else if 0 ≤ e then -n else if n ≤ 0 then -e else n
def lenB (e n : Int) : Int := if 0 ≤ e ∧ 0 ≤ n then n else if 0 ≤ e then e else if n ≤ 0 then -n else -e
theorem len_pos (e n : Int) : 0 ≤ lenA e n ∧ 0 ≤ lenB e n := by unfold lenA lenB; split <;> (try split) <;> (try split) <;> omega
theorem reach_start (e n : Int) {k : Nat} (hk : k ≤ 90) : reach e n (start e n + k) = G (lenA e n) (lenB e n) k := by
  obtain ⟨t1, t2, t3, t4, t5, t6⟩ := tab5 k (by omega)
  unfold start lenA lenB reach G
  split
  · rw [Nat.zero_add, Nat.mod_eq_of_lt (by omega)]
  · split
    · rw [t1, t2, Int.mul_neg, Int.neg_mul]; omega
    · split
      · rw [t3, t4, Int.mul_neg, Int.mul_neg, Int.neg_mul, Int.neg_mul]
      · rw [t5, t6, Int.mul_neg, Int.neg_mul]; omega
/-- The reach of any direction is at most the one of a direction in the quarter. -/
theorem reach_le (e n : Int) {d : Nat} (hd : d < 360) : ∃ k, k ≤ 90 ∧ reach e n d ≤ G (lenA e n) (lenB e n) k ∧ ((e < 0 ∧ 0 < sinN d ∨ n < 0 ∧ 0 < cosN d ∨ 0 < n ∧ cosN d < 0) → reach e n d < G (lenA e n) (lenB e n) k) := by
  have hr := red_le hd
  obtain ⟨t1, t2, t3, t4⟩ := tab3 d hd
  obtain ⟨u1, u2, _, _⟩ := tab4 (red d) (by omega)
  have hodd : start e n = 0 ∨ start e n = 90 ∨ start e n = 180 ∨ start e n = 270 := by unfold start; split <;> (try split) <;> (try split) <;> simp
  -- the reach with both lengths' signs taken away
  have key : ∀ a b : Int, (a = e ∨ a = -e) → (b = n ∨ b = -n) → 0 ≤ a → 0 ≤ b → reach e n d ≤ a * sinN (red d) + b * cosN (red d) ∧ ((e < 0 ∧ 0 < sinN d ∨ n < 0 ∧ 0 < cosN d ∨ 0 < n ∧ cosN d < 0) → reach e n d < a * sinN (red d) + b * cosN (red d)) := by
    intro a b ha hb a0 b0
    unfold reach
    rw [Nat.mod_eq_of_lt hd]
    generalize sinN (red d) = s at *
    generalize cosN (red d) = c at *
    generalize sinN d = S at *
    generalize cosN d = C at *
    have p1 : 0 ≤ a * s := Int.mul_nonneg a0 t3
    have p2 : 0 ≤ b * c := Int.mul_nonneg b0 t4
    have q1 : e * S = a * s ∨ e * S = -(a * s) := by
      rcases ha with rfl | rfl <;> rcases t1 with rfl | rfl
      · exact .inl rfl
      · exact .inr (Int.mul_neg _ _)
      · exact .inr (by rw [Int.neg_mul]; omega)
      · exact .inl (by rw [Int.neg_mul, Int.mul_neg])
    have q2 : n * C = b * c ∨ n * C = -(b * c) := by
      rcases hb with rfl | rfl <;> rcases t2 with rfl | rfl
      · exact .inl rfl
      · exact .inr (Int.mul_neg _ _)
      · exact .inr (by rw [Int.neg_mul]; omega)
      · exact .inl (by rw [Int.neg_mul, Int.mul_neg])
    refine ⟨by omega, fun h => ?_⟩
    rcases h with ⟨h1, h2⟩ | ⟨h1, h2⟩ | ⟨h1, h2⟩
    · have : e * S < 0 := Int.mul_neg_of_neg_of_pos h1 h2
      omega
    · have : n * C < 0 := Int.mul_neg_of_neg_of_pos h1 h2
      omega
    · have : n * C < 0 := Int.mul_neg_of_pos_of_neg h1 h2
      omega
  unfold lenA lenB
  split
  · rename_i h
    exact ⟨red d, hr, key e n (.inl rfl) (.inl rfl) h.1 h.2⟩
  · split
    · rename_i h0 h
      have := key e (-n) (.inl rfl) (.inr rfl) h (by omega)
      refine ⟨90 - red d, by omega, ?_⟩
      unfold G
      rw [u1, u2, Int.add_comm (-n * _)]
      exact this
    · split
      · rename_i h0 h1 h
        exact ⟨red d, hr, key (-e) (-n) (.inr rfl) (.inr rfl) (by omega) (by omega)⟩
      · rename_i h0 h1 h
        have := key (-e) n (.inr rfl) (.inl rfl) (by omega) (by omega)
        refine ⟨90 - red d, by omega, ?_⟩
        unfold G
        rw [u1, u2, Int.add_comm (n * _)]
        exact this
/-- What the program returns: the end of the search in the quarter, or 0 if north reaches as far. -/
theorem isBearing_of {e n : Int} {m : Nat} (hm : m ≤ 90) (h1 : m = 0 ∨ reach e n (start e n + (m - 1)) < reach e n (start e n + m)) (h2 : m = 90 ∨ reach e n (start e n + (m + 1)) ≤ reach e n (start e n + m)) :
    IsBearing e n (if reach e n (start e n + m) ≤ reach e n 0 then 0 else start e n + m) := by
  obtain ⟨a0, b0⟩ := len_pos e n
  rw [reach_start e n hm] at h1 h2
  have h1' : m = 0 ∨ G (lenA e n) (lenB e n) (m - 1) < G (lenA e n) (lenB e n) m := by
    rcases h1 with h | h
    · exact .inl h
    · rw [reach_start e n (by omega)] at h; exact .inr h
  have h2' : m = 90 ∨ G (lenA e n) (lenB e n) (m + 1) ≤ G (lenA e n) (lenB e n) m := by
    by_cases g : m = 90
    · exact .inl g
    · rcases h2 with h | h
      · exact .inl h
      · rw [reach_start e n (by omega)] at h; exact .inr h
  obtain ⟨p1, p2⟩ := G_peak a0 hm h1' h2'
  have top : ∀ j, j < 360 → reach e n j ≤ reach e n (start e n + m) := fun j hj => by
    obtain ⟨k, hk, hle, _⟩ := reach_le e n hj
    have := p2 k hk
    rw [reach_start e n hm]; omega
  have str : ∀ j, j < 360 → (e < 0 ∧ 0 < sinN j ∨ n < 0 ∧ 0 < cosN j ∨ 0 < n ∧ cosN j < 0) → reach e n j < reach e n (start e n + m) := fun j hj hs => by
    obtain ⟨k, hk, _, hlt⟩ := reach_le e n hj
    have := p2 k hk
    have := hlt hs
    rw [reach_start e n hm]; omega
  split
  · rename_i h
    exact ⟨by omega, fun j hj => by omega, fun j hj => Int.le_trans (top j hj) h⟩
  · rename_i h
    have hst : start e n + m < 360 := by
      by_cases g : start e n + m < 360
      · exact g
      · exfalso
        have e1 : start e n + m = 360 := by
          have : start e n ≤ 270 := by unfold start; split <;> (try split) <;> (try split) <;> omega
          omega
        rw [e1] at h
        exact h (Int.le_refl _)
    refine ⟨hst, fun j hj => ?_, top⟩
    by_cases hj2 : start e n ≤ j
    · have := p1 (j - start e n) (by omega)
      rw [← reach_start e n (by omega), ← reach_start e n hm, show start e n + (j - start e n) = j from by omega] at this
      exact this
    · by_cases hq : 0 ≤ e ∧ 0 ≤ n
      · exfalso; unfold start at hj2; rw [if_pos hq] at hj2; omega
      · by_cases hq2 : 0 ≤ e
        · have es : start e n = 90 := by unfold start; rw [if_neg hq, if_pos hq2]
          exact str j (by omega) (.inr (.inl ⟨by omega, tab7 j (by omega)⟩))
        · by_cases hj0 : j = 0
          · subst hj0; omega
          · by_cases hj3 : j < 180
            · exact str j (by omega) (.inl ⟨by omega, tab6 j hj3 (by omega)⟩)
            · by_cases hq3 : n ≤ 0
              · have es : start e n = 180 := by unfold start; rw [if_neg hq, if_neg hq2, if_pos hq3]
                omega
              · have es : start e n = 270 := by unfold start; rw [if_neg hq, if_neg hq2, if_neg hq3]
                exact str j (by omega) (.inr (.inr ⟨by omega, tab8 j (by omega) (by omega)⟩))
end Go.Proofs.Ytnambnddoebeiaa.Plain
