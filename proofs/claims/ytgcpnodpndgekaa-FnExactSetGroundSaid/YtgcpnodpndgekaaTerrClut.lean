
/-
  The class of clutter at a point of a terrain, in the model and in the program. Conditions: each theorem's own.
-/
import Derived.Test.YtgcpnodpndgekaaTerrIn
namespace Go.Proofs.Ytgcpnodpndgekaa.Terr
open Go.RowKit
open Plain
open Ints (Ints Own)

/-- The number of the grid line that is nearest to a coordinate. -/
def cellOf (p s : Int) : Int := (2 * p + s) / (2 * s)
theorem cell_bd {p s m : Int} (s0 : 1 ≤ s) (p0 : 0 ≤ p) (p1 : p ≤ m * s) : 0 ≤ cellOf p s ∧ cellOf p s ≤ m := by
  have e : (m + 1) * (2 * s) = 2 * (m * s) + 2 * s := by rw [Int.add_mul, Int.one_mul, Int.mul_left_comm]
  refine ⟨Int.ediv_nonneg (by omega) (by omega), ?_⟩
  have : cellOf p s < m + 1 := Int.ediv_lt_of_lt_mul (by omega) (by rw [e]; omega)
  omega
/-- The index of the grid point that is nearest to a point. -/
def nearI (s x px py : Int) : Int := cellOf py s * x + cellOf px s
theorem near_bd {s x y px py : Int} (s0 : 1 ≤ s) (x0 : 2 ≤ x) (x1 : x ≤ 24) (y1 : y ≤ 24) (h : inT s x y px py = true) :
    (0 ≤ cellOf px s ∧ cellOf px s ≤ x - 1) ∧ (0 ≤ cellOf py s ∧ cellOf py s ≤ y - 1) ∧ (0 ≤ cellOf py s * x ∧ cellOf py s * x ≤ 552) ∧ 0 ≤ nearI s x px py ∧ nearI s x px py < x * y := by
  obtain ⟨⟨p0, p1⟩, q0, q1⟩ := of_inT h
  obtain ⟨c0, c1⟩ := cell_bd s0 p0 p1
  obtain ⟨r0, r1⟩ := cell_bd s0 q0 q1
  have h1 : cellOf py s * x ≤ (y - 1) * x := Int.mul_le_mul_of_nonneg_right r1 (by omega)
  have h2 : 0 ≤ cellOf py s * x := Int.mul_nonneg r0 (by omega)
  have h3 : cellOf py s * x ≤ cellOf py s * 24 := Int.mul_le_mul_of_nonneg_left x1 r0
  have e : (y - 1) * x = x * y - x := by rw [Int.sub_mul, Int.one_mul, Int.mul_comm]
  unfold nearI
  exact ⟨⟨c0, c1⟩, ⟨r0, r1⟩, ⟨h2, by omega⟩, by omega, by omega⟩
/-- The code of a terrain and a point, and what is returned with it. -/
def atC (s x y : Int) (zs cs : List Int) (px py : Int) : Int := if okT s x y zs cs = false then 1 else if inT s x y px py = false then 2 else 0
theorem at_no {s x y px py : Int} {zs cs : List Int} (h : okT s x y zs cs = false) : atC s x y zs cs px py = 1 := if_pos h
theorem at_far {s x y px py : Int} {zs cs : List Int} (h : okT s x y zs cs = true) (k : inT s x y px py = false) : atC s x y zs cs px py = 2 := by unfold atC; rw [h, if_neg (by simp), if_pos k]
theorem at_ok {s x y px py : Int} {zs cs : List Int} (h : okT s x y zs cs = true) (k : inT s x y px py = true) : atC s x y zs cs px py = 0 := by unfold atC; rw [h, if_neg (by simp), k, if_neg (by simp)]
theorem of_at {s x y px py : Int} {zs cs : List Int} (h : atC s x y zs cs px py = 0) : okT s x y zs cs = true ∧ inT s x y px py = true := by
  cases ho : okT s x y zs cs with
  | false => rw [at_no ho] at h; omega
  | true =>
    cases hi : inT s x y px py with
    | false => rw [at_far ho hi] at h; omega
    | true => exact ⟨rfl, rfl⟩
def clutV (s x y : Int) (zs cs : List Int) (px py : Int) : Int := if atC s x y zs cs px py = 0 then cs.getD (nearI s x px py).toNat 0 else 0
theorem impl_index (s x y c r : Int) (w : World) (r0 : 0 ≤ r * x) (r1 : r * x ≤ 1000) (c0 : 0 ≤ c) (c1 : c ≤ 1000) :
    Calls Try.prog 21 #[.agg #[.int .i64 s, .int .i64 x, .int .i64 y], .int .i64 c, .int .i64 r] w fun e w' => e = .returned (.int .i64 (r * x + c)) ∧ On w w' := by
  have e1 : IntKind.i64.wrap (r * x) = r * x := IntWalk.i64_in _ (by omega)
  go_enter Try.func21, Try.ntmps21
  go_wp2_with fail
  go_ret
  exact ⟨rfl, by repeat (first | with_reducible exact On.refl _ | apply On.alloc)⟩
end Go.Proofs.Ytgcpnodpndgekaa.Terr
