/-
  For all two points Distance of the program returns what the model returns: the statement FnExactDistance, with no condition.
-/
import Derived.Test.YthknpnoceabmbaaRows
import Derived.Test.YthknpnoceabmbaaWayTo
import Derived.WalkKit
import Derived.ProofKit
import Derived.OpenShut
import Derived.ShutString
import Derived.Below
import Derived.Lib.SmallJoins
namespace Go.Proofs.Ythknpnoceabmbaa.fnExactDistance
open Go.ChangeShapes Go.WideShapes Go.ChangeAt Go.RowKit
open Go.ChangeMaps (open_string shut_string)
set_option linter.unusedVariables false

theorem own : ownKnob Try.prog.godebug = none := by kernel_rfl


/-- The walk. -/
theorem walk (w : World) (x0 y0 : Int) (wx0 : (Lit.int .i64 x0).wf = true) (wy0 : (Lit.int .i64 y0).wf = true) (x1 y1 : Int) (wx1 : (Lit.int .i64 x1).wf = true) (wy1 : (Lit.int .i64 y1).wf = true) :
    Calls Try.prog 4 #[.agg #[.int .i64 x0, .int .i64 y0], .agg #[.int .i64 x1, .int .i64 y1]] w fun e w' => e = .returned (.bool true) ∧ Below w.heap.size w w' := by
  go_enter Try.func4, Try.ntmps4
  go_wp2_with fail
  refine wp_region_on (by kernel_rfl) (by kernel_rfl) ?_
  repeat (refine wpQuiet_step (fun K hK => ?_); go_simp; first | (refine hK _ ?_; clear hK K) | (apply Exists.intro; refine ⟨fun v1 hv1 => ?_, hK _ ?_⟩; (first | exact rfl | exact ⟨rfl, rfl⟩ | exact Calls.on hv1 (Point.laws_toPoint _ _ _) | exact Calls.on hv1 (WayTo.spec_distance _ _ _ _ _) | (obtain ⟨hc, hf⟩ := bcell hv1; go_simp; first | exact rfl | exact ⟨rfl, rfl⟩)); clear hK K))
  refine wpQuiet_nil ?_
  intro w1 h1
  obtain ⟨hc1, hf1⟩ := bcell h1
  obtain ⟨z1, z1'⟩ : w.heap.size < w1.heap.size ∧ w.heap.size + 1 < w1.heap.size := by have := h1.size; simp at this; omega
  go_wp2_with fail
  refine wp_region_on (by kernel_rfl) (by kernel_rfl) ?_
  repeat (refine wpQuiet_step (fun K hK => ?_); go_simp; first | (refine hK _ ?_; clear hK K) | (apply Exists.intro; refine ⟨fun v1 hv1 => ?_, hK _ ?_⟩; (first | exact rfl | exact ⟨rfl, rfl⟩ | exact Calls.on hv1 (Point.laws_toPoint _ _ _) | exact Calls.on hv1 (WayTo.impl_distance _ _ _ _ _) | (obtain ⟨hc, hf⟩ := bcell hv1; go_simp; first | exact rfl | exact ⟨rfl, rfl⟩)); clear hK K))
  refine wpQuiet_nil ?_
  intro w2 h2
  go_wp2_with fail
  go_ret
  exact ⟨rfl, by repeat (first | exact On.refl _ | apply On.alloc | refine On.trans ?_ h2 | refine On.trans ?_ h1)⟩

set_option maxRecDepth 100000 in
/-- The row's step. -/
theorem lifted (os : Os) (started : os.Started) (H : Type) (enc : TypeId × Value → H) :
    ReturnsInHanded {} Try.checked os 4 .any (Rows.fnExactDistanceSpec.pre6 enc Try.prog Try.f4 Rows.fnExactDistanceRow.domain false) (Rows.fnExactDistanceSpec.post enc Try.prog Try.f4 false true false false) := by
  refine returnsInHanded_of_change (C := Try.checked) own started (by kernel_rfl) Try.func4
    (ChangeSpec.witness6 (enc := enc) (C := Try.checked) false ⟨#[], #[.agg #[.int .i64 0, .int .i64 0], .agg #[.int .i64 0, .int .i64 0]], []⟩ 8 (by kernel_rfl) (by kernel_rfl) (by kernel_rfl) (by kernel_rfl)) ?_
  intro W base args ds gs before hval0 hW hcnd _
  have hval : ∀ (j : Nat) t v, Try.f4.params[j]? = some t → args[j]? = some v → Value.okWide Try.prog W .any base t v := hval0
  have hW' := hW
  obtain ⟨p, q, hA0, hV, rfl, hfz, hnd⟩ := hW
  have hA : DataW.TrodAll enc Try.prog W 0 (fun _ => true) true Try.f4.params.toList args.toList ds p := hA0
  rw [Try.params4] at hA hval
  obtain ⟨v0, vs0, d0, ds0, p0, q0, hargs, rfl, rfl, h0, r0⟩ := trodAll_cons hA
  obtain ⟨v1, vs1, d1, ds1, p1, q1, rfl, rfl, rfl, h1, r1⟩ := trodAll_cons r0
  obtain ⟨rfl, rfl, rfl⟩ := trodAll_nil r1
  obtain rfl : args = #[v0, v1] := by cases args; simp_all
  obtain ⟨rfl, rfl⟩ := trodVars_none hV
  obtain ⟨cx0, cy0, dx0, dy0, n0, rfl, rfl, rfl, ex0, ey0⟩ := Joins.open_agg2 Try.underlying23 (by kernel_rfl) (by kernel_rfl) (hval 0 23 v0 rfl rfl) h0
  obtain ⟨x0, gx0, rfl, wx0⟩ := DataW.trod_int Try.underlying2 ex0
  obtain ⟨y0, gy0, rfl, wy0⟩ := DataW.trod_int Try.underlying2 ey0
  obtain rfl : cx0 = .int .i64 x0 := by simpa using gx0
  obtain rfl : cy0 = .int .i64 y0 := by simpa using gy0
  obtain ⟨cx1, cy1, dx1, dy1, n1, rfl, rfl, rfl, ex1, ey1⟩ := Joins.open_agg2 Try.underlying23 (by kernel_rfl) (by kernel_rfl) (hval 1 23 v1 rfl rfl) h1
  obtain ⟨x1, gx1, rfl, wx1⟩ := DataW.trod_int Try.underlying2 ex1
  obtain ⟨y1, gy1, rfl, wy1⟩ := DataW.trod_int Try.underlying2 ey1
  obtain rfl : cx1 = .int .i64 x1 := by simpa using gx1
  obtain rfl : cy1 = .int .i64 y1 := by simpa using gy1
  clear hA0
  refine (walk W x0 y0 wx0 wy0 x1 y1 wx1 wy1 ).mono fun e W' ⟨he, bel⟩ => ?_
  subst he
  exact ⟨_, rfl, _, _, _, [], _, [], hW', trodAll_mk1 (shut_bool Try.underlying4 _), (trodAll_cons_mk (Joins.shut_agg2 Try.underlying23 (by kernel_rfl) (by kernel_rfl) (Joins.field_of_Trod (shut_int Try.underlying2 wx0) rfl) (Joins.field_of_Trod (shut_int Try.underlying2 wy0) rfl)) (trodAll_cons_mk (Joins.shut_agg2 Try.underlying23 (by kernel_rfl) (by kernel_rfl) (Joins.field_of_Trod (shut_int Try.underlying2 wx1) rfl) (Joins.field_of_Trod (shut_int Try.underlying2 wy1) rfl)) trodAll_mk0)), rfl, bel.frame _, fun h => by cases h⟩

theorem proved : Rows.FnExactDistanceSaid :=
  OpenClaim.holds_of_wide 4 Try.f4 rfl rfl rfl rfl rfl rfl rfl ⟨rfl, rfl, rfl, rfl, rfl⟩ rfl rfl rfl rfl rfl (by kernel_rfl) Try.func4 (by kernel_rfl)
    (of_decide_eq_true (by kernel_rfl)) (by unfold Func.isWrapper; first | (rw [if_pos (by decide +kernel)]; kernel_rfl) | (rw [if_neg (by decide +kernel)]; exact ⟨rfl, rfl⟩))
    (fun os started H enc _ => lifted os started H enc)
end Go.Proofs.Ythknpnoceabmbaa.fnExactDistance
