
/-
  The height at a point of a terrain: plain facts, and the model's. Conditions: each theorem's own.
-/
import Derived.Test.YtadoaenmmemjdaaTerrClut2
import Derived.Test.YtadoaenmmemjdaaTurn
namespace Go.Proofs.Ytadoaenmmemjdaa.Terr
open Go.RowKit
open Plain
open Ints (Ints Own)

theorem mb {a b A B : Int} (a0 : 0 ≤ a) (a1 : a ≤ A) (b0 : 0 ≤ b) (b1 : b ≤ B) : 0 ≤ a * b ∧ a * b ≤ A * B := by
  have h1 : a * b ≤ A * b := Int.mul_le_mul_of_nonneg_right a1 b0
  have h2 : A * b ≤ A * B := Int.mul_le_mul_of_nonneg_left b1 (by omega)
  exact ⟨Int.mul_nonneg a0 b0, by omega⟩
/-- The grid line before a coordinate. -/
def li (p s m : Int) : Int := Turn.gmin (p / s) (m - 2)
theorem smin_gmin (a b : Int) : Turn.smin a b = Turn.gmin a b := by unfold Turn.smin Turn.gmin; split <;> split <;> omega
theorem li_bd {p s m : Int} (s0 : 1 ≤ s) (s1 : s ≤ 10000) (m0 : 2 ≤ m) (m1 : m ≤ 24) (p0 : 0 ≤ p) (p1 : p ≤ (m - 1) * s) :
    (0 ≤ li p s m ∧ li p s m ≤ m - 2) ∧ (0 ≤ li p s m * s ∧ li p s m * s ≤ 230000) ∧ (0 ≤ p - li p s m * s ∧ p - li p s m * s ≤ s) ∧ (0 ≤ p / s ∧ p / s ≤ 230000) ∧ p ≤ 230000 := by
  have q1 : p / s * s ≤ p := Int.ediv_mul_le p (by omega)
  have q2 : p < (p / s + 1) * s := Int.lt_ediv_add_one_mul_self p (by omega)
  have q0 : 0 ≤ p / s := Int.ediv_nonneg p0 (by omega)
  have q3 : p / s ≤ p := Int.ediv_le_self _ p0
  have e1 : (p / s + 1) * s = p / s * s + s := by rw [Int.add_mul, Int.one_mul]
  have e2 : (m - 1) * s = (m - 2) * s + s := by rw [show m - 1 = (m - 2) + 1 from by omega, Int.add_mul, Int.one_mul]
  have z := prod_s (a := m - 1) (by omega) (by omega) s0 s1
  have z2 := prod_s (a := m - 2) (by omega) (by omega) s0 s1
  have z3 : 0 ≤ p / s * s := Int.mul_nonneg q0 (by omega)
  unfold li Turn.gmin
  split
  · rename_i h
    have h1 : (m - 2) * s ≤ p / s * s := Int.mul_le_mul_of_nonneg_right (by omega) (by omega)
    omega
  · omega
/-- The sum of four heights, weighed. -/
def hSum (h0 h1 h2 h3 s u v : Int) : Int := (h0 * (s - u) + h1 * u) * (s - v) + (h2 * (s - u) + h3 * u) * v
theorem hSum_flat (h0 h1 h2 h3 s u v : Int) : h0 * (s - u) * (s - v) + h1 * u * (s - v) + h2 * (s - u) * v + h3 * u * v = hSum h0 h1 h2 h3 s u v := by
  unfold hSum
  rw [Int.add_mul, Int.add_mul, ← Int.add_assoc]
def idx (s x y px py : Int) : Nat := (li py s y * x + li px s x).toNat
/-- The height. -/
def hgt (s x y : Int) (zs : List Int) (px py : Int) : Int :=
  near (hSum (zs.getD (idx s x y px py) 0) (zs.getD (idx s x y px py + 1) 0) (zs.getD (idx s x y px py + x.toNat) 0) (zs.getD (idx s x y px py + x.toNat + 1) 0) s (px - li px s x * s) (py - li py s y * s)) (s * s)
/-- What a walk is told of the lines before a point, the four heights and the weights. -/
structure Spot (s x y px py : Int) (zs : List Int) (n : Nat) (I K A X : Nat) (u v h0 h1 h2 h3 : Int) : Prop where
  hx : x = (X : Int)
  hI : li px s x = (I : Int)
  hK : li py s y = (K : Int)
  hI2 : (I : Int) ≤ x - 2
  hK2 : (K : Int) ≤ y - 2
  hA : (K : Int) * x + (I : Int) = (A : Int)
  hAn : A + X + 1 < n
  hu : px - (I : Int) * s = u
  hv : py - (K : Int) * s = v
  u0 : 0 ≤ u
  u1 : u ≤ s
  v0 : 0 ≤ v
  v1 : v ≤ s
  is0 : 0 ≤ (I : Int) * s
  is1 : (I : Int) * s ≤ 230000
  ks0 : 0 ≤ (K : Int) * s
  ks1 : (K : Int) * s ≤ 230000
  kx0 : 0 ≤ (K : Int) * x
  kx1 : (K : Int) * x ≤ 552
  g0 : zs.getD A 0 = h0
  g1 : zs.getD (A + 1) 0 = h1
  g2 : zs.getD (A + X) 0 = h2
  g3 : zs.getD (A + X + 1) 0 = h3
  b0 : 0 ≤ h0 ∧ h0 ≤ 90000
  b1 : 0 ≤ h1 ∧ h1 ≤ 90000
  b2 : 0 ≤ h2 ∧ h2 ≤ 90000
  b3 : 0 ≤ h3 ∧ h3 ≤ 90000
  out : hgt s x y zs px py = near (hSum h0 h1 h2 h3 s u v) (s * s)
theorem spot {s x y px py : Int} {zs cs : List Int} {n : Nat} (s0 : 1 ≤ s) (s1 : s ≤ 10000) (x0 : 2 ≤ x) (x1 : x ≤ 24) (y0 : 2 ≤ y) (y1 : y ≤ 24) (hi : inT s x y px py = true) (hn : (n : Int) = x * y) (hg : GTo zs cs n) :
    ∃ I K A X u v h0 h1 h2 h3, Spot s x y px py zs n I K A X u v h0 h1 h2 h3 := by
  obtain ⟨⟨p0, p1⟩, q0, q1⟩ := of_inT hi
  obtain ⟨⟨a0, a1⟩, ⟨a2, a3⟩, ⟨a4, a5⟩, -, -⟩ := li_bd s0 s1 x0 x1 p0 p1
  obtain ⟨⟨c0, c1⟩, ⟨c2, c3⟩, ⟨c4, c5⟩, -, -⟩ := li_bd s0 s1 y0 y1 q0 q1
  obtain ⟨X, hX⟩ := Int.eq_ofNat_of_zero_le (a := x) (by omega)
  obtain ⟨I, hI⟩ := Int.eq_ofNat_of_zero_le a0
  obtain ⟨K, hK⟩ := Int.eq_ofNat_of_zero_le c0
  rw [hI] at a1 a2 a3 a4 a5
  rw [hK] at c1 c2 c3 c4 c5
  obtain ⟨k0, k1⟩ := mb (a := (K : Int)) (b := x) (A := 23) (B := 24) (by omega) (by omega) (by omega) x1
  have k2 : (K : Int) * x ≤ (y - 2) * x := Int.mul_le_mul_of_nonneg_right c1 (by omega)
  have e : (y - 2) * x = x * y - 2 * x := by rw [Int.sub_mul, Int.mul_comm y x]
  obtain ⟨A, hA⟩ := Int.eq_ofNat_of_zero_le (a := (K : Int) * x + (I : Int)) (by omega)
  have hAn : A + X + 1 < n := by omega
  have hid : idx s x y px py = A := by unfold idx; rw [hI, hK, hA]; exact Int.toNat_natCast A
  have hXn : x.toNat = X := by rw [hX]; exact Int.toNat_natCast X
  have hh : ∀ j, j < n → 0 ≤ zs.getD j 0 ∧ zs.getD j 0 ≤ 90000 := fun j hj => by
    have := hg j hj
    unfold gB at this
    rw [Bool.and_eq_true] at this
    exact of_inB this.1
  refine ⟨I, K, A, X, px - (I : Int) * s, py - (K : Int) * s, zs.getD A 0, zs.getD (A + 1) 0, zs.getD (A + X) 0, zs.getD (A + X + 1) 0, ⟨hX, hI, hK, a1, c1, hA, hAn, rfl, rfl, a4, a5, c4, c5, a2, a3, c2, c3, k0, by omega, rfl, rfl, rfl, rfl, hh _ (by omega), hh _ (by omega), hh _ (by omega), hh _ (by omega), ?_⟩⟩
  unfold hgt
  rw [hid, hXn, hI, hK]
end Go.Proofs.Ytadoaenmmemjdaa.Terr
