
/-
  Plain facts on how the losses of the surroundings grow, with no program in them.
-/
import Derived.Test.YtednfkjdidlenaaDoorLossP
namespace Go.Proofs.YtednfkjdidlenaaDoor.Plain
open Tab (tabV tab_bd)

/-- Quotients of growing fractions grow. -/
theorem ediv_mono {a b c d : Int} (hb : 0 < b) (hd : 0 < d) (h : a * d ≤ c * b) : a / b ≤ c / d := by
  refine (Int.le_ediv_iff_mul_le hd).2 ?_
  have h1 : a / b * b ≤ a := Int.ediv_mul_le a (by omega)
  have h2 : a / b * b * d ≤ a * d := Int.mul_le_mul_of_nonneg_right h1 (by omega)
  have h3 : a / b * d * b ≤ c * b := by
    rw [Int.mul_right_comm]
    omega
  exact Int.le_of_mul_le_mul_right h3 hb
theorem near_mono {a b c d : Int} (ha : 0 ≤ a) (hc : 0 ≤ c) (hb : 0 < b) (hd : 0 < d) (h : a * d ≤ c * b) : near a b ≤ near c d := by
  rw [near_div_pp a b hb ha, near_div_pp c d hd hc]
  refine ediv_mono (by omega) (by omega) ?_
  have e1 : (2 * a + b) * (2 * d) = 4 * (a * d) + 2 * (b * d) := by rw [Int.add_mul, Int.mul_assoc 2 a, Int.mul_left_comm a 2 d, Int.mul_left_comm b 2 d]; omega
  have e2 : (2 * c + d) * (2 * b) = 4 * (c * b) + 2 * (b * d) := by rw [Int.add_mul, Int.mul_assoc 2 c, Int.mul_left_comm c 2 b, Int.mul_left_comm d 2 b, Int.mul_comm d b]; omega
  rw [e1, e2]
  omega
theorem near_mono1 {a c b : Int} (ha : 0 ≤ a) (h : a ≤ c) (hb : 0 < b) : near a b ≤ near c b := near_mono ha (by omega) hb hb (Int.mul_le_mul_of_nonneg_right h (by omega))
theorem powN_mono {v u : Int} (h : v ≤ u) (hu : u ≤ 180000) : powN v ≤ powN u := by
  have h1 := powN_is (v := v) (by omega)
  have h2 := powN_is hu
  by_cases g : powN v ≤ powN u
  · exact g
  · have := h1.2.2 (powN u) h2.1 (by omega)
    have := h2.2.1
    omega
theorem powDb_mono {v u : Int} (h : v ≤ u) (hu : u ≤ 180000) : powDb v ≤ powDb u := by
  by_cases h0 : 0 ≤ v
  · rw [powDb_yes h0 (by omega), powDb_yes (by omega) hu]
    have := powN_mono h hu
    omega
  · rw [powDb_no (by omega)]
    exact (powDb_bd u).1
theorem rainX_mono {f r : Int} (h0 : 1 ≤ r) (h1 : r < 200) : rainX f r ≤ rainX f (r + 1) := by
  obtain ⟨g0, g1⟩ := rainG_bd f
  have hl := logDb_mono (a := r) (b := r + 1) h0 (by omega)
  obtain ⟨p0, _⟩ := rain_prod (f := f) (r := r) h0 (by omega)
  have := near_mono1 (b := 1000) p0 (Int.mul_le_mul_of_nonneg_left hl (by omega : 0 ≤ rainG f)) (by omega)
  unfold rainX
  omega
theorem rainS_mono {f r : Int} (h0 : 0 ≤ r) (h1 : r < 200) : rainS f r ≤ rainS f (r + 1) := by
  by_cases h : r = 0
  · subst h
    rw [rainS_zero]
    exact (rainS_bd (by omega) (by omega)).1
  · rw [rainS_some h, rainS_some (by omega)]
    have := rainX_bd (f := f) (r := r + 1) (by omega) (by omega)
    exact powDb_mono (rainX_mono (by omega) h1) (by omega)
theorem gasL_mono {f d : Int} (d0 : 1 ≤ d) (d1 : d < 283000) : gasL f d ≤ gasL f (d + 1) := by
  obtain ⟨g0, g1⟩ := gasS_bd f
  obtain ⟨p0, _⟩ := gas_prod (f := f) (d := d) d0 (by omega)
  exact near_mono1 p0 (Int.mul_le_mul_of_nonneg_left (by omega) (by omega)) (by omega)
theorem rainL_mono {f r d : Int} (h0 : 0 ≤ r) (h1 : r ≤ 200) (d0 : 1 ≤ d) (d1 : d < 283000) : rainL f r d ≤ rainL f r (d + 1) := by
  obtain ⟨_, p0, _⟩ := wet_prod (f := f) (d := d) h0 h1 d0 (by omega)
  obtain ⟨_, q0, _⟩ := wet_prod (f := f) (d := d + 1) h0 h1 (by omega) (by omega)
  obtain ⟨e0, e1⟩ := rainE_bd h0 h1
  obtain ⟨s0, _⟩ := rainS_bd (f := f) h0 h1
  unfold rainL
  generalize rainS f r = S at *
  generalize rainE r = E at *
  refine near_mono p0 q0 (by omega) (by omega) ?_
  have k : d * (d + 1 + E) ≤ (d + 1) * (d + E) := by
    have e1 : d * (d + 1 + E) = d * d + d + d * E := by rw [Int.mul_add, Int.mul_add, Int.mul_one]
    have e2 : (d + 1) * (d + E) = d * d + d * E + (d + E) := by rw [Int.add_mul, Int.mul_add, Int.one_mul]
    omega
  have k2 : S * E * (d * (d + 1 + E)) ≤ S * E * ((d + 1) * (d + E)) := Int.mul_le_mul_of_nonneg_left k (Int.mul_nonneg s0 (by omega))
  have a1 : S * d * E * (1000 * (d + 1 + E)) = 1000 * (S * E * (d * (d + 1 + E))) := by
    rw [Int.mul_left_comm, Int.mul_right_comm S d E, Int.mul_assoc (S * E) d]
  have a2 : S * (d + 1) * E * (1000 * (d + E)) = 1000 * (S * E * ((d + 1) * (d + E))) := by
    rw [Int.mul_left_comm, Int.mul_right_comm S (d + 1) E, Int.mul_assoc (S * E) (d + 1)]
  rw [a1, a2]
  omega
theorem clut_mono {c : Nat} {f a b : Int} (hc : c < 8) (a0 : 0 ≤ a) (h : a ≤ b) : clutV c f b ≤ clutV c f a := by
  by_cases g : highV c ≤ b
  · rw [clut_no g]
    exact (clut_bd hc a0).1
  · rw [clut_yes g, clut_yes (by omega)]
    obtain ⟨⟨s0, _⟩, p0, _⟩ := clut_prod (f := f) (a := b) hc (by omega) g
    refine near_mono1 p0 (Int.mul_le_mul_of_nonneg_left (by omega) s0) ?_
    omega
theorem clut_top {c : Nat} {f : Int} : clutV c f (highV c) = 0 := clut_no (Int.le_refl _)
theorem leaf_mono {f a b : Int} (a0 : 0 ≤ a) (h : a ≤ b) (hb : b ≤ 1000) : leafL f a ≤ leafL f b ∧ leafL f b ≤ 30000 := by
  obtain ⟨g0, g1⟩ := leaf_bd f
  obtain ⟨x0, x1⟩ := leafX_bd (f := f) (z := a) a0 (by omega)
  obtain ⟨y0, y1⟩ := leafX_bd (f := f) (z := b) (by omega) hb
  have hx : leafX f a ≤ leafX f b := Int.mul_le_mul_of_nonneg_left h (by omega)
  unfold leafL
  generalize leafX f a = x at *
  generalize leafX f b = y at *
  refine ⟨near_mono (by omega) (by omega) (by omega) (by omega) ?_, ?_⟩
  · have e1 : 30000 * x * (30000 + y) = 900000000 * x + 30000 * (x * y) := by rw [Int.mul_add, Int.mul_assoc 30000 x y]; omega
    have e2 : 30000 * y * (30000 + x) = 900000000 * y + 30000 * (x * y) := by rw [Int.mul_add, Int.mul_assoc 30000 y x, Int.mul_comm y x]; omega
    omega
  · rw [near_div_pp _ _ (by omega) (by omega)]
    exact Int.le_of_lt_add_one (Int.ediv_lt_of_lt_mul (by omega) (by omega))
end Go.Proofs.YtednfkjdidlenaaDoor.Plain
