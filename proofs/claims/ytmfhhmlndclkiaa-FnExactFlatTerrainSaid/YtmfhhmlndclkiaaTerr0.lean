
/-
  Terrains: what the laws' copy, comparison and count of them return. Condition: at most 1048576 heights and classes.
-/
import Derived.Test.YtmfhhmlndclkiaaInts
import Derived.Test.YtmfhhmlndclkiaaOn
namespace Go.Proofs.Ytmfhhmlndclkiaa.Terr
open Go.RowKit
open Ints (Ints Own)

theorem eqTerrain (s x y : Int) (v u v2 u2 : Value) (zs cs : List Int) (w : World) (hn : zs.length ≤ 1048576) (hm : cs.length ≤ 1048576) (h : Ints w v zs) (k : Ints w u cs) (h2 : Ints w v2 zs) (k2 : Ints w u2 cs) :
    Calls Try.prog 21 #[.agg #[.int .i64 s, .int .i64 x, .int .i64 y, v, u], .agg #[.int .i64 s, .int .i64 x, .int .i64 y, v2, u2]] w fun e w' => e = .returned (.bool true) ∧ On w w' := by
  have HI := Lib.hid h
  have HJ := Lib.hid h2
  have KI := Lib.hid k
  have KJ := Lib.hid k2
  obtain ⟨a, cap, rfl, -⟩ := h
  obtain ⟨a2, cap2, rfl, -⟩ := h2
  obtain ⟨b, dap, rfl, -⟩ := k
  obtain ⟨b2, dap2, rfl, -⟩ := k2
  have HC := Lib.hid (fun w' (hb : On w w') => Ints.eq _ _ zs w' hn (HI.out.below hb) (HJ.out.below hb))
  have HD := Lib.hid (fun w' (hb : On w w') => Ints.eq _ _ cs w' hm (KI.out.below hb) (KJ.out.below hb))
  go_enter Try.func21, Try.ntmps21
  go_wp2_with fail
  refine (HC.out _ (by repeat (first | exact On.refl _ | apply On.alloc))).mono ?_
  rintro e w1 ⟨rfl, n, rfl⟩
  go_wp2_with fail
  refine (HD.out _ (by repeat (first | exact On.refl _ | apply On.drewN | apply On.alloc))).mono ?_
  rintro e w1 ⟨rfl, n2, rfl⟩
  go_wp2_with fail
  go_ret
  exact ⟨rfl, by repeat (first | exact On.refl _ | apply On.alloc | apply On.drewN)⟩
/-- What is left of a count. -/
def rest (left len : Nat) : Int := if len ≤ left then ((left - len : Nat) : Int) else -1
theorem rest_bd {left len : Nat} (h : left ≤ 1048576) : -1 ≤ rest left len ∧ rest left len ≤ 1048576 := by unfold rest; split <;> omega
theorem rest_yes {left len : Nat} (h : len ≤ left) : rest left len = ((left - len : Nat) : Int) := if_pos h
theorem rest_no {left len : Nat} (h : ¬ len ≤ left) : rest left len = -1 := if_neg h
theorem szInts (left len : Nat) (a : Option Addr) (cap : Nat) (w : World) (h : left ≤ 1048576) (hl : len ≤ maxLen) :
    Calls Try.prog 68 #[.slice a len cap, .int .i64 left] w fun e w' => e = .returned (.int .i64 (rest left len)) ∧ w = w' := by
  unfold maxLen at hl
  by_cases hle : len ≤ left
  · have en := Lib.hid (show (left : Int) - (len : Int) = rest left len by rw [rest_yes hle]; omega)
    have h0 : ¬ (left : Int) - (len : Int) < 0 := by omega
    go_enter Try.func68, Try.ntmps68
    go_wp2_with fail
    go_ret
    exact ⟨ret_int en.out, rfl⟩
  · have en := Lib.hid (show (-1 : Int) = rest left len from (rest_no hle).symm)
    have h0 : (left : Int) - (len : Int) < 0 := by omega
    go_enter Try.func68, Try.ntmps68
    go_wp2_with fail
    go_ret
    exact ⟨ret_int en.out, rfl⟩
/-- What is left of a count behind a terrain. -/
def rest2 (left len men : Nat) : Int := if len ≤ left then rest (left - len) men else -1
end Go.Proofs.Ytmfhhmlndclkiaa.Terr
