/-
  For all lists of points and points NearestOf of the program returns what the model returns, and leaves the list alone: the statement FnExactNearestOf, with no condition (lists of more than 1048576 points are let pass by the statement itself).
-/
import Derived.Test.YtknggnchldcghaaRows
import Derived.Test.YtknggnchldcghaaNear
import Derived.WalkKit
import Derived.ProofKit
import Derived.OpenShut
import Derived.ShutString
import Derived.Below
import Derived.Lib.SmallJoins
import Derived.Test.YtknggnchldcghaaPts
namespace Go.Proofs.Ytknggnchldcghaa.fnExactNearestOf
open Go.ChangeShapes Go.WideShapes Go.ChangeAt Go.RowKit
open Go.ChangeMaps (open_string shut_string)
set_option linter.unusedVariables false

theorem own : ownKnob Try.prog.godebug = none := by kernel_rfl
theorem laidOut : laidOutB Try.prog = true := by kernel_rfl

set_option maxRecDepth 100000 in
set_option maxHeartbeats 4000000 in
/-- The walk. -/
theorem walk (w : World) (a0 : Option Addr) (len0 cap0 : Nat) (z0 : List (Int × Int)) (w0 : Pts.IsPts w a0 len0 cap0 z0) (x1 y1 : Int) (wx1 : (Lit.int .i64 x1).wf = true) (wy1 : (Lit.int .i64 y1).wf = true) :
    Calls Try.prog 14 #[.slice a0 len0 cap0, .agg #[.int .i64 x1, .int .i64 y1]] w fun e w' => e = .returned (.bool true) ∧ Below w.heap.size w w' := by
  obtain ⟨hi, hl⟩ := Pts.Pairs.of_arg w0
  have m0 : len0 ≤ maxLen := w0.cap
  have hz := fun w => Pts.szS 1048576 len0 a0 cap0 w (by omega) m0
  rw [show (((1048576 : Nat) : Int)) = 1048576 from rfl] at hz
  clear w0 m0 wx1 wy1
  by_cases hle : len0 ≤ 1048576
  · rw [Pts.restP_yes hle] at hz
    obtain ⟨r, hr⟩ : ∃ r : Nat, r = 1048576 - len0 := ⟨_, rfl⟩
    rw [← hr] at hz
    have hr0 : ¬ ((r : Int) < 0) := by omega
    have HZ := Lib.hid hz
    obtain ⟨zs, hzs⟩ : ∃ z, z = z0.take len0 := ⟨_, rfl⟩
    rw [← hzs] at hi hl
    clear hzs hz hr
    subst hl
    have H0 := Lib.hid hi
    clear hi
    have HC := Lib.hid (fun w' (hb : On w w') => Pts.copyS _ zs w' hle (H0.out.below hb))
    have hS := fun (v : Value) w' (h : Pts.Pairs w' v zs) => Near.spec_near v zs x1 y1 w' hle h
    have hI := fun (v : Value) w' (h : Pts.Pairs w' v zs) => Near.impl_near v zs x1 y1 w' hle h
    generalize Near.nearV zs x1 y1 = va at *
    generalize Near.nearC zs x1 y1 = co at *
    have HS := Lib.hid hS
    have HI := Lib.hid hI
    have hva : (va != va) = false := bne_self_eq_false va
    have hco : (co != co) = false := bne_self_eq_false co
    clear hS hI
    have hPf : ∀ v, On (w.alloc (.cells #[.int .i64 x1, .int .i64 y1] 55)) v → v.cell? ⟨w.heap.size, 0, none⟩ = some (.int .i64 x1) ∧ v.cell? ⟨w.heap.size, 1, none⟩ = some (.int .i64 y1) := fun v hO => ⟨(hO.cell (p := ⟨w.heap.size, 0, none⟩) (by simp)).trans (by simp [go_sem]), (hO.cell (p := ⟨w.heap.size, 1, none⟩) (by simp)).trans (by simp [go_sem])⟩
    go_enter Try.func14, Try.ntmps14
    go_wp2_with fail
    refine (HZ.out _).mono ?_
    rintro e w1 ⟨rfl, rfl⟩
    go_upto_region 5 with fail
    go_cut [6, 7] (fun s t wx => s = .int .i64 va ∧ t = .int .i64 co ∧ On (w.alloc (.cells #[.int .i64 x1, .int .i64 y1] 55)) wx)
    case first =>
      go_region_with (first
        | (go_at_call 57; refine (HC.out _ (by repeat (first | with_reducible exact On.refl _ | with_reducible exact Below.refl _ _ | apply On.drew | apply On.alloc))).mono ?_; rintro e w6 ⟨a6, c6, rfl, -, o6, h6⟩; (have h06 : On (w.alloc (.cells #[.int .i64 x1, .int .i64 y1] 55)) w6 := by refine On.trans ?_ h6; repeat (first | with_reducible exact On.refl _ | apply On.drew | apply On.alloc)); (have r0 : w6.cell? ⟨w.heap.size, 0, none⟩ = some (.int .i64 x1) := (h06.cell (by simp)).trans (by simp [go_sem])); (have r1 : w6.cell? ⟨w.heap.size, 1, none⟩ = some (.int .i64 y1) := (h06.cell (by simp)).trans (by simp [go_sem])); have A6 := Lib.hid o6.pairs; clear o6 h6)
        | (go_at_call 39; refine (Point.laws_toPoint _ _ _).mono ?_; rintro e w7 ⟨rfl, h7⟩; (have h67 : On w6 w7 := by refine On.trans ?_ h7; repeat (first | with_reducible exact On.refl _ | apply On.drew | apply On.alloc)); have A7 := Lib.hid (A6.out.below h67); clear h7)
        | (go_at_call 56; refine (HS.out _ _ (A7.out.below (by repeat (first | with_reducible exact On.refl _ | with_reducible exact Below.refl _ _ | apply On.drew | apply On.alloc)))).mono ?_; rintro e w8 ⟨rfl, h8⟩; (have h78 : On w7 w8 := by refine On.trans ?_ h8; repeat (first | with_reducible exact On.refl _ | apply On.drew | apply On.alloc)); clear h8))
      all_goals
        go_wp2_with fail
        go_meet
        exact ⟨rfl, rfl, On.trans ‹On _ w6› (On.trans ‹On w6 w7› ‹On w7 w8›)⟩
    case rest =>
      obtain ⟨rfl, rfl, hO⟩ := hcut
      have HO := Lib.hid (On.trans (On.alloc (On.refl w) _) hO)
      have HP := Lib.hid (hPf _ hO)
      clear hO
      go_wp2_with fail
      refine (HC.out _ HO.out).mono ?_
      rintro e w10 ⟨a10, c10, rfl, -, o10, h10⟩
      have hlt := World.block_lt_of_cell? _ _ HP.out.1
      have A10 := Lib.hid o10.pairs
      have HO10 := Lib.hid (HO.out.trans h10)
      obtain ⟨p0, p1⟩ : w10.cell? ⟨w.heap.size, 0, none⟩ = some (.int .i64 x1) ∧ w10.cell? ⟨w.heap.size, 1, none⟩ = some (.int .i64 y1) := ⟨(h10.cell (by exact hlt)).trans HP.out.1, (h10.cell (by exact hlt)).trans HP.out.2⟩
      clear o10 h10
      go_wp2_with fail
      refine (Point.laws_toPoint _ _ _).mono ?_
      rintro e w11 ⟨rfl, h11⟩
      have A11 := Lib.hid (A10.out.below h11)
      have HO11 := Lib.hid (HO10.out.trans h11)
      clear h11
      go_wp2_with fail
      refine (HI.out _ _ A11.out).mono ?_
      rintro e w12 ⟨rfl, h12⟩
      have A12 := Lib.hid (A11.out.below h12)
      have HO12 := Lib.hid (HO11.out.trans h12)
      clear h12
      go_wp2_with fail
      refine (HC.out _ HO12.out).mono ?_
      rintro e w13 ⟨a13, c13, rfl, -, o13, h13⟩
      have A13 := Lib.hid (A12.out.below h13)
      have B13 := Lib.hid o13.pairs
      have HO13 := Lib.hid (HO12.out.trans h13)
      clear o13 h13
      go_wp2_with fail
      refine (Pts.eqS _ _ zs _ hle A13.out B13.out).mono ?_
      rintro e w14 ⟨rfl, h14⟩
      go_wp2_with fail
      go_ret
      exact ⟨rfl, HO13.out.trans h14⟩
  · rw [Pts.restP_no hle] at hz
    have HZ := Lib.hid hz
    go_enter Try.func14, Try.ntmps14
    go_wp2_with fail
    refine (HZ.out _).mono ?_
    rintro e w1 ⟨rfl, rfl⟩
    go_wp2_with fail
    go_ret
    exact ⟨rfl, by repeat (first | with_reducible exact On.refl _ | apply On.alloc)⟩

set_option maxRecDepth 100000 in
/-- The row's step. -/
theorem lifted (os : Os) (started : os.Started) (H : Type) (enc : TypeId × Value → H) :
    ReturnsInHanded {} Try.checked os 14 .any (Rows.fnExactNearestOfSpec.pre6 enc Try.prog Try.f14 Rows.fnExactNearestOfRow.domain false) (Rows.fnExactNearestOfSpec.post enc Try.prog Try.f14 false true false false) := by
  refine returnsInHanded_of_change (C := Try.checked) own started (by kernel_rfl) Try.func14
    (ChangeSpec.witness6 (enc := enc) (C := Try.checked) false ⟨#[], #[.slice none 0 0, .agg #[.int .i64 0, .int .i64 0]], []⟩ 8 (by kernel_rfl) (by kernel_rfl) (by kernel_rfl) (by kernel_rfl)) ?_
  intro W base args ds gs before hval0 hW hcnd _
  have hval : ∀ (j : Nat) t v, Try.f14.params[j]? = some t → args[j]? = some v → Value.okWide Try.prog W .any base t v := hval0
  have hW' := hW
  obtain ⟨p, q, hA0, hV, rfl, hfz, hnd⟩ := hW
  have hA : DataW.TrodAll enc Try.prog W 0 (fun _ => true) true Try.f14.params.toList args.toList ds p := hA0
  rw [Try.params14] at hA hval
  obtain ⟨v0, vs0, d0, ds0, p0, q0, hargs, rfl, rfl, h0, r0⟩ := trodAll_cons hA
  obtain ⟨v1, vs1, d1, ds1, p1, q1, rfl, rfl, rfl, h1, r1⟩ := trodAll_cons r0
  obtain ⟨rfl, rfl, rfl⟩ := trodAll_nil r1
  obtain rfl : args = #[v0, v1] := by cases args; simp_all
  obtain ⟨rfl, rfl⟩ := trodVars_none hV
  obtain ⟨a0, len0, cap0, rfl⟩ := okWide_slice Try.underlying70 (hval 0 70 v0 rfl rfl)
  have k0 := h0
  have lt0 : ∀ x ∈ p0, x.block < W.heap.size := by obtain ⟨m, hm⟩ := k0; exact DataW.trod_lt m _ _ _ hm
  obtain ⟨z0, w0⟩ : ∃ zs, Pts.IsPts W a0 len0 cap0 zs := by
    obtain ⟨fuel, hf⟩ := h0
    obtain ⟨_, _, _, zs, he, hz⟩ := Pts.open_pts hf
    cases he
    exact ⟨zs, hz⟩
  obtain ⟨cx1, cy1, dx1, dy1, n1, rfl, rfl, rfl, ex1, ey1⟩ := Joins.open_agg2 Try.underlying55 (by kernel_rfl) (by kernel_rfl) (hval 1 55 v1 rfl rfl) h1
  obtain ⟨x1, gx1, rfl, wx1⟩ := DataW.trod_int Try.underlying2 ex1
  obtain ⟨y1, gy1, rfl, wy1⟩ := DataW.trod_int Try.underlying2 ey1
  obtain rfl : cx1 = .int .i64 x1 := by simpa using gx1
  obtain rfl : cy1 = .int .i64 y1 := by simpa using gy1
  clear hA0
  refine (walk W a0 len0 cap0 z0 w0 x1 y1 wx1 wy1 ).mono fun e W' ⟨he, bel⟩ => ?_
  subst he
  exact ⟨_, rfl, _, _, _, [], _, [], hW', trodAll_mk1 (shut_bool Try.underlying4 _), (trodAll_cons_mk (Below.trod laidOut (by kernel_rfl) (of_decide_eq_true (by kernel_rfl)) k0 bel lt0) (trodAll_cons_mk (Joins.shut_agg2 Try.underlying55 (by kernel_rfl) (by kernel_rfl) (Joins.field_of_Trod (shut_int Try.underlying2 wx1) rfl) (Joins.field_of_Trod (shut_int Try.underlying2 wy1) rfl)) trodAll_mk0)), rfl, bel.frame _, fun h => by cases h⟩

theorem proved : Rows.FnExactNearestOfSaid :=
  OpenClaim.holds_of_wide 14 Try.f14 rfl rfl rfl rfl rfl rfl rfl ⟨rfl, rfl, rfl, rfl, rfl⟩ rfl rfl rfl rfl rfl (by kernel_rfl) Try.func14 (by kernel_rfl)
    (of_decide_eq_true (by kernel_rfl)) (by unfold Func.isWrapper; first | (rw [if_pos (by decide +kernel)]; kernel_rfl) | (rw [if_neg (by decide +kernel)]; exact ⟨rfl, rfl⟩))
    (fun os started H enc _ => lifted os started H enc)
end Go.Proofs.Ytknggnchldcghaa.fnExactNearestOf
