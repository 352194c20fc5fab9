
/-
  Offsets, lines and clearances at the points of a profile, whole, in the model and in the program. Condition: at most 1048576 heights.
-/
import Derived.Test.YtmmhekakihimfaaProfAt
namespace Go.Proofs.Ytmmhekakihimfaa.Prof
open Go.RowKit
open Plain
open Ints (Ints Own)

theorem ret_ii {a b c d : Int} (h1 : a = b) (h2 : c = d) : Ending.returned (.tuple #[.int .i64 a, .int .i64 c]) = .returned (.tuple #[.int .i64 b, .int .i64 d]) := by rw [h1, h2]
theorem of_ask {d f l i : Int} {zs : List Int} (h : askC d f l zs i = 0) : okP d f l zs = true ∧ 0 ≤ i ∧ i ≤ (zs.length : Int) - 1 ∧ ∃ n, zs.length = n + 1 ∧ 1 ≤ n ∧ n ≤ 64 := by
  cases ho : okP d f l zs with
  | false => rw [ask_no ho] at h; omega
  | true =>
    cases hi : inB i 0 ((zs.length : Int) - 1) with
    | false => rw [ask_far ho hi] at h; omega
    | true =>
      have h1 := of_inB hi
      have h2 := (of_okP ho).2.1
      exact ⟨rfl, h1.1, h1.2, zs.length - 1, by omega, by omega, by omega⟩
/-- The clearance. -/
def clr (d f l n i z : Int) : Int := lin f l n i - z - Earth.bulge (off d n i) (d - off d n i)
def offV (d f l : Int) (zs : List Int) (i : Int) : Int := if askC d f l zs i = 0 then off d ((zs.length : Int) - 1) i else 0
def linV (d f l : Int) (zs : List Int) (i : Int) : Int := if askC d f l zs i = 0 then lin f l ((zs.length : Int) - 1) i else 0
def clrV (d f l : Int) (zs : List Int) (i : Int) : Int := if askC d f l zs i = 0 then clr d f l ((zs.length : Int) - 1) i (zs.getD i.toNat 0) else 0
theorem bulge_bd {a b : Int} (a0 : 0 ≤ a) (a1 : a ≤ 283000) (b0 : 0 ≤ b) (b1 : b ≤ 283000) : -800890000000 ≤ Earth.bulge a b ∧ Earth.bulge a b ≤ 800890000000 := by
  obtain ⟨h1, h2⟩ := Earth.ten_bd a0 a1 b0 b1
  exact near_le _ _ (by omega) 800890000000 (by omega) (by omega)
end Go.Proofs.Ytmmhekakihimfaa.Prof
