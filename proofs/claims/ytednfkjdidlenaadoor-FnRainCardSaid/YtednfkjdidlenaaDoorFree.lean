
/-
  What the functions of free space are, in the model and in the program: losses, fields, levels, wavelengths. Condition: the program's variable of spans holds what its text lays.
-/
import Derived.Test.YtednfkjdidlenaaDoorFreePlain
import Derived.Test.YtednfkjdidlenaaDoorRatio
import Derived.Test.YtednfkjdidlenaaDoorSpan
namespace Go.Proofs.YtednfkjdidlenaaDoor.Free
open Go.RowKit
open Plain
open Span (SpanG)

def okV (b : Bool) (x : Int) : Int := if b = true then x else 0
def okC (b : Bool) : Int := if b = true then 0 else 2
theorem ok_no (x : Int) : okV false x = 0 ∧ okC false = 2 := ⟨rfl, rfl⟩
theorem ok_yes (x : Int) : okV true x = x ∧ okC true = 0 := ⟨rfl, rfl⟩
theorem ret_ii {a b c d : Int} (h1 : a = b) (h2 : c = d) : Ending.returned (.tuple #[.int .i64 a, .int .i64 c]) = .returned (.tuple #[.int .i64 b, .int .i64 d]) := by rw [h1, h2]
def smax (a b : Int) : Int := if b < a then a else b
theorem smax_gt {a b : Int} (h : b < a) : smax a b = a := if_pos h
theorem smax_le {a b : Int} (h : ¬ b < a) : smax a b = b := if_neg h
theorem free_spec (f d : Int) : smax 0 (2 * logDb d + 2 * logDb f - 87552) = freeV f d := by unfold smax freeV; split <;> split <;> omega
theorem free_impl (f d : Int) : Turn.gmax 0 (2 * logDb d + 2 * logDb f + -87552) = freeV f d := by unfold Turn.gmax freeV; split <;> split <;> omega

theorem square_metres (n : Int) (w : World) (n1 : n ≤ 9223372036854775807) :
    Calls Tryd.prog 32 #[.int .i64 n] w fun e w' => e = .returned (.int .i64 (2 * logDb n)) ∧ On w w' := by
  obtain ⟨l1, l2⟩ := logDb_bd n1
  have HL := Lib.hid (fun w => Log.impl_logDb n w n1)
  go_enter Tryd.func32, Tryd.ntmps32
  go_wp2_with fail
  refine (HL.out _).mono ?_
  rintro e w1 ⟨rfl, h1⟩
  go_wp2_with fail
  go_ret
  exact ⟨rfl, h1⟩
theorem square_kilohertz (n : Int) (w : World) (n1 : n ≤ 9223372036854775807) :
    Calls Tryd.prog 33 #[.int .i64 n] w fun e w' => e = .returned (.int .i64 (2 * logDb n)) ∧ On w w' := by
  obtain ⟨l1, l2⟩ := logDb_bd n1
  have HL := Lib.hid (fun w => Log.impl_logDb n w n1)
  go_enter Tryd.func33, Tryd.ntmps33
  go_wp2_with fail
  refine (HL.out _).mono ?_
  rintro e w1 ⟨rfl, h1⟩
  go_wp2_with fail
  go_ret
  exact ⟨rfl, h1⟩
theorem impl_loss (f d : Int) (w : World) (f0 : 1 ≤ f) (f1 : f ≤ 100000000) (d0 : 1 ≤ d) (d1 : d ≤ 283000) :
    Calls Tryd.prog 20 #[.int .i64 f, .int .i64 d] w fun e w' => e = .returned (.int .i64 (freeV f d)) ∧ On w w' := by
  obtain ⟨l1, l2⟩ := logDb_bd (n := f) (by omega)
  obtain ⟨l3, l4⟩ := logDb_bd (n := d) (by omega)
  have HF := Lib.hid (fun w => square_kilohertz f w (by omega))
  have HD := Lib.hid (fun w => square_metres d w (by omega))
  have en := Lib.hid (free_impl f d)
  go_enter Tryd.func20, Tryd.ntmps20
  go_wp2_with fail
  refine (HD.out _).mono ?_
  rintro e w1 ⟨rfl, h1⟩
  go_wp2_with fail
  refine (HF.out _).mono ?_
  rintro e w2 ⟨rfl, h2⟩
  go_wp2_with fail
  refine (Turn.impl_greatest _ _ _).mono ?_
  rintro e w3 ⟨rfl, rfl⟩
  go_wp2_with fail
  go_ret
  exact ⟨ret_int en.out, h1.trans h2⟩
theorem far_sq {z : Int} (z0 : 1 ≤ z) (z1 : z ≤ 100000) : 0 ≤ 2 * z * z ∧ 2 * z * z ≤ 20000000000 := by
  have h1 : 2 * z * z ≤ 200000 * z := Int.mul_le_mul_of_nonneg_right (by omega) (by omega)
  have h2 : 0 ≤ 2 * z * z := Int.mul_nonneg (by omega) (by omega)
  omega
theorem far_bd {z f : Int} (z0 : 1 ≤ z) (z1 : z ≤ 100000) (f0 : 1 ≤ f) (f1 : f ≤ 100000000) : 2 * z * z * f ≤ 2000000000000000000 := by
  obtain ⟨h0, h1⟩ := far_sq z0 z1
  have : 2 * z * z * f ≤ 20000000000 * f := Int.mul_le_mul_of_nonneg_right h1 (by omega)
  omega
/-- FreeLoss. -/
def okFreeLoss (f d : Int) : Bool := inB f 1 100000000 && inB d 1 283000
/-- FieldStrength. -/
def okFieldStrength (v d : Int) : Bool := inB v (-300000) 300000 && inB d 1 283000
/-- LevelOfField. -/
def okLevelOfField (v f : Int) : Bool := inB v (-300000) 300000 && inB f 1 100000000
/-- FieldOfLevel. -/
def okFieldOfLevel (v f : Int) : Bool := inB v (-300000) 300000 && inB f 1 100000000
/-- WavelengthOf. -/
def okWavelengthOf (f : Int) : Bool := inB f 1 100000000
/-- FarDistance. -/
def okFarDistance (f z : Int) : Bool := inB f 1 100000000 && inB z 1 100000
end Go.Proofs.YtednfkjdidlenaaDoor.Free
