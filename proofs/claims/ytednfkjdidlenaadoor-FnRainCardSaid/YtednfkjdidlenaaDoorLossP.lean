
/-
  Plain facts on the losses of the surroundings, with no program in them.
-/
import Derived.Test.YtednfkjdidlenaaDoorTab
import Derived.Test.YtednfkjdidlenaaDoorPowPlain
import Derived.Test.YtednfkjdidlenaaDoorFreePlain
namespace Go.Proofs.YtednfkjdidlenaaDoor.Plain
open Tab (tabV tab_bd)

def rainP : List Int := [1000, 6000, 10000, 20000, 40000, 80000, 100000]
def rainK : List Int := [-42000, -28000, -19500, -11200, -4000, 500, 900]
def rainA : List Int := [950, 1300, 1250, 1070, 920, 740, 700]
def gasP : List Int := [1000, 10000, 20000, 22000, 30000, 50000, 60000, 70000, 100000]
def gasV : List Int := [5, 14, 110, 190, 90, 500, 15000, 450, 480]
def leafP : List Int := [100, 1000, 10000, 100000]
def leafV : List Int := [30, 150, 900, 4000]
/-- Gases, per kilometre and along a path. -/
def gasS (f : Int) : Int := tabV gasP gasV (f / 1000)
def gasL (f d : Int) : Int := near (gasS f * d) 1000
theorem gasS_bd (f : Int) : 5 ≤ gasS f ∧ gasS f ≤ 15000 := tab_bd (by decide) (by decide) (by decide)
theorem gas_prod {f d : Int} (d0 : 1 ≤ d) (d1 : d ≤ 283000) : 0 ≤ gasS f * d ∧ gasS f * d ≤ 4245000000 := by
  obtain ⟨g0, g1⟩ := gasS_bd f
  have h1 : gasS f * d ≤ 15000 * d := Int.mul_le_mul_of_nonneg_right g1 (by omega)
  have h0 : 0 ≤ gasS f * d := Int.mul_nonneg (by omega) (by omega)
  omega
theorem near_nonneg {a b : Int} (ha : 0 ≤ a) (hb : 0 < b) : 0 ≤ near a b := by
  rw [near_div_pp a b hb ha]
  exact Int.ediv_nonneg (by omega) (by omega)
theorem gasL_bd {f d : Int} (d0 : 1 ≤ d) (d1 : d ≤ 283000) : 0 ≤ gasL f d ∧ gasL f d ≤ 4245000000 := by
  obtain ⟨g0, g1⟩ := gas_prod (f := f) d0 d1
  exact ⟨near_nonneg g0 (by omega), (near_le _ 1000 (by omega) 4245000000 (by omega) g1).2⟩
/-- Rain, per kilometre. -/
def rainF (f : Int) : Int := tabV rainP rainK (f / 1000)
def rainG (f : Int) : Int := tabV rainP rainA (f / 1000)
theorem rainF_bd (f : Int) : -42000 ≤ rainF f ∧ rainF f ≤ 900 := tab_bd (by decide) (by decide) (by decide)
theorem rainG_bd (f : Int) : 700 ≤ rainG f ∧ rainG f ≤ 1300 := tab_bd (by decide) (by decide) (by decide)
/-- The logarithm of the loss by rain, before it is raised. -/
def rainX (f r : Int) : Int := rainF f + 30000 + near (rainG f * logDb r) 1000
theorem logDb_rain {r : Int} (h0 : 1 ≤ r) (h1 : r ≤ 200) : 0 ≤ logDb r ∧ logDb r < 30000 := by
  obtain ⟨n, rfl⟩ := Int.eq_ofNat_of_zero_le (by omega : 0 ≤ r)
  have h2 := logDb_bd (n := (n : Int)) (by omega)
  rw [logDb_yes (by omega)] at *
  have := log_lt (n := n) (k := 3) (by omega) (by omega)
  omega
theorem rain_prod {f r : Int} (h0 : 1 ≤ r) (h1 : r ≤ 200) : 0 ≤ rainG f * logDb r ∧ rainG f * logDb r ≤ 39000000 := by
  obtain ⟨g0, g1⟩ := rainG_bd f
  obtain ⟨l0, l1⟩ := logDb_rain h0 h1
  have a : rainG f * logDb r ≤ 1300 * logDb r := Int.mul_le_mul_of_nonneg_right g1 l0
  have b : 0 ≤ rainG f * logDb r := Int.mul_nonneg (by omega) l0
  omega
theorem near_thousand {a : Int} (h0 : 0 ≤ a) (h1 : a ≤ 39000000) : 0 ≤ near a 1000 ∧ near a 1000 ≤ 39000 := by
  rw [near_div_pp a 1000 (by omega) h0]
  omega
theorem rainX_bd {f r : Int} (h0 : 1 ≤ r) (h1 : r ≤ 200) : -12000 ≤ rainX f r ∧ rainX f r ≤ 69900 := by
  obtain ⟨g0, g1⟩ := rainF_bd f
  obtain ⟨p0, p1⟩ := rain_prod (f := f) h0 h1
  obtain ⟨q0, q1⟩ := near_thousand p0 p1
  unfold rainX
  omega
noncomputable def rainS (f r : Int) : Int := if r = 0 then 0 else powDb (rainX f r)
theorem rainS_zero (f : Int) : rainS f 0 = 0 := if_pos rfl
theorem rainS_some {f r : Int} (h : r ≠ 0) : rainS f r = powDb (rainX f r) := if_neg h
theorem rainS_bd {f r : Int} (h0 : 0 ≤ r) (h1 : r ≤ 200) : 0 ≤ rainS f r ∧ rainS f r ≤ 10000000 := by
  by_cases h : r = 0
  · subst h; rw [rainS_zero]; omega
  · rw [rainS_some h]
    obtain ⟨x0, x1⟩ := rainX_bd (f := f) (r := r) (by omega) h1
    unfold powDb
    split
    · rename_i g
      have := powN_le (v := rainX f r) (k := 7) g.2 (by omega)
      simp at this
      omega
    · omega
/-- Rain, along a path. -/
def rainE (r : Int) : Int := near 35000000 (1000 + 15 * r)
theorem rainE_bd {r : Int} (h0 : 0 ≤ r) (h1 : r ≤ 200) : 8750 ≤ rainE r ∧ rainE r ≤ 35000 := by
  unfold rainE
  rw [near_div_pp _ _ (by omega) (by omega)]
  refine ⟨(Int.le_ediv_iff_mul_le (by omega)).2 (by omega), Int.le_of_lt_add_one (Int.ediv_lt_of_lt_mul (by omega) (by omega))⟩
theorem wet_prod {f r d : Int} (h0 : 0 ≤ r) (h1 : r ≤ 200) (d0 : 1 ≤ d) (d1 : d ≤ 283000) : (0 ≤ rainS f r * d ∧ rainS f r * d ≤ 2830000000000) ∧ 0 ≤ rainS f r * d * rainE r ∧ rainS f r * d * rainE r ≤ 99050000000000000 := by
  obtain ⟨s0, s1⟩ := rainS_bd (f := f) h0 h1
  obtain ⟨e0, e1⟩ := rainE_bd h0 h1
  have a0 : 0 ≤ rainS f r * d := Int.mul_nonneg s0 (by omega)
  have a1 : rainS f r * d ≤ 10000000 * d := Int.mul_le_mul_of_nonneg_right s1 (by omega)
  have b0 : 0 ≤ rainS f r * d * rainE r := Int.mul_nonneg a0 (by omega)
  have b1 : rainS f r * d * rainE r ≤ rainS f r * d * 35000 := Int.mul_le_mul_of_nonneg_left e1 a0
  omega
noncomputable def rainL (f r d : Int) : Int := near (rainS f r * d * rainE r) (1000 * (d + rainE r))
theorem rainL_bd {f r d : Int} (h0 : 0 ≤ r) (h1 : r ≤ 200) (d0 : 1 ≤ d) (d1 : d ≤ 283000) : 0 ≤ rainL f r d ∧ rainL f r d ≤ 99050000000000000 := by
  obtain ⟨_, p0, p1⟩ := wet_prod (f := f) h0 h1 d0 d1
  obtain ⟨e0, e1⟩ := rainE_bd h0 h1
  exact ⟨near_nonneg p0 (by omega), (near_le _ _ (by omega) 99050000000000000 (by omega) p1).2⟩
/-- Leaves. -/
def leafX (f z : Int) : Int := tabV leafP leafV (f / 1000) * z
theorem leaf_bd (f : Int) : 30 ≤ tabV leafP leafV (f / 1000) ∧ tabV leafP leafV (f / 1000) ≤ 4000 := tab_bd (by decide) (by decide) (by decide)
theorem leafX_bd {f z : Int} (h0 : 0 ≤ z) (h1 : z ≤ 1000) : 0 ≤ leafX f z ∧ leafX f z ≤ 4000000 := by
  obtain ⟨g0, g1⟩ := leaf_bd f
  have a : leafX f z ≤ 4000 * z := Int.mul_le_mul_of_nonneg_right g1 h0
  have b : 0 ≤ leafX f z := Int.mul_nonneg (by omega) h0
  omega
def leafL (f z : Int) : Int := near (30000 * leafX f z) (30000 + leafX f z)
/-- Clutter. -/
def highs : List Int := [0, 20, 10, 120, 70, 90, 160, 240]
def losts : List Int := [0, 1000, 500, 12000, 8000, 10000, 16000, 20000]
def highV (c : Nat) : Int := highs.getD c 0
def lostV (c : Nat) : Int := losts.getD c 0
theorem high_bd {c : Nat} (h : c < 8) : 0 ≤ highV c ∧ highV c ≤ 240 := by
  have := Tab.getD_all (p := fun v => 0 ≤ v ∧ v ≤ 240) (l := highs) (by decide) (k := c) (by simpa [highs] using h)
  exact this
theorem lost_bd {c : Nat} (h : c < 8) : 0 ≤ lostV c ∧ lostV c ≤ 20000 := by
  have := Tab.getD_all (p := fun v => 0 ≤ v ∧ v ≤ 20000) (l := losts) (by decide) (k := c) (by simpa [losts] using h)
  exact this
def shareV (f : Int) : Int := if f ≤ 300000 then 50 else if f ≤ 1000000 then 75 else if f ≤ 3000000 then 100 else if f ≤ 10000000 then 125 else 150
theorem share_bd (f : Int) : 50 ≤ shareV f ∧ shareV f ≤ 150 := by
  unfold shareV
  repeat' split
  all_goals omega
def clutV (c : Nat) (f a : Int) : Int := if highV c ≤ a then 0 else near (shareV f * lostV c * (highV c - a)) (100 * highV c)
theorem clut_no {c : Nat} {f a : Int} (h : highV c ≤ a) : clutV c f a = 0 := if_pos h
theorem clut_yes {c : Nat} {f a : Int} (h : ¬ highV c ≤ a) : clutV c f a = near (shareV f * lostV c * (highV c - a)) (100 * highV c) := if_neg h
theorem clut_prod {c : Nat} {f a : Int} (hc : c < 8) (a0 : 0 ≤ a) (h : ¬ highV c ≤ a) : (0 ≤ shareV f * lostV c ∧ shareV f * lostV c ≤ 3000000) ∧ 0 ≤ shareV f * lostV c * (highV c - a) ∧ shareV f * lostV c * (highV c - a) ≤ 720000000 := by
  obtain ⟨s0, s1⟩ := share_bd f
  obtain ⟨l0, l1⟩ := lost_bd hc
  obtain ⟨h0, h1⟩ := high_bd hc
  have p0 : 0 ≤ shareV f * lostV c := Int.mul_nonneg (by omega) l0
  have p1 : shareV f * lostV c ≤ 150 * lostV c := Int.mul_le_mul_of_nonneg_right s1 l0
  have q0 : 0 ≤ shareV f * lostV c * (highV c - a) := Int.mul_nonneg p0 (by omega)
  have q1 : shareV f * lostV c * (highV c - a) ≤ 3000000 * (highV c - a) := Int.mul_le_mul_of_nonneg_right (by omega) (by omega)
  omega
theorem clut_bd {c : Nat} {f a : Int} (hc : c < 8) (a0 : 0 ≤ a) : 0 ≤ clutV c f a ∧ clutV c f a ≤ 720000000 := by
  by_cases h : highV c ≤ a
  · rw [clut_no h]; omega
  · rw [clut_yes h]
    obtain ⟨_, q0, q1⟩ := clut_prod (f := f) hc a0 h
    exact ⟨near_nonneg q0 (by omega), (near_le _ _ (by omega) 720000000 (by omega) q1).2⟩
end Go.Proofs.YtednfkjdidlenaaDoor.Plain
