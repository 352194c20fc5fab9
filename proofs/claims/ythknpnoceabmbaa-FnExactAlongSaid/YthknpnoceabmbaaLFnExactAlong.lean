/-
  For all two points and two numbers Along of the program returns what the model returns: the statement FnExactAlong, with no condition.
-/
import Derived.Test.YthknpnoceabmbaaRows
import Derived.Test.YthknpnoceabmbaaAlong
import Derived.Test.YthknpnoceabmbaaHeld
import Derived.WalkKit
import Derived.ProofKit
import Derived.OpenShut
import Derived.ShutString
import Derived.Below
import Derived.Lib.SmallJoins
namespace Go.Proofs.Ythknpnoceabmbaa.fnExactAlong
open Go.ChangeShapes Go.WideShapes Go.ChangeAt Go.RowKit
open Go.ChangeMaps (open_string shut_string)
set_option linter.unusedVariables false

theorem own : ownKnob Try.prog.godebug = none := by kernel_rfl


/-- The walk. -/
theorem walk (w : World) (x0 y0 : Int) (wx0 : (Lit.int .i64 x0).wf = true) (wy0 : (Lit.int .i64 y0).wf = true) (x1 y1 : Int) (wx1 : (Lit.int .i64 x1).wf = true) (wy1 : (Lit.int .i64 y1).wf = true) (a2 : Int) (w2 : (Lit.int .i64 a2).wf = true) (a3 : Int) (w3 : (Lit.int .i64 a3).wf = true) :
    Calls Try.prog 6 #[.agg #[.int .i64 x0, .int .i64 y0], .agg #[.int .i64 x1, .int .i64 y1], .int .i64 a2, .int .i64 a3] w fun e w' => e = .returned (.bool true) ∧ Below w.heap.size w w' := by
  have HS0 := fun w => Way.spec_along x0 y0 x1 y1 a2 a3 w
  have HI0 := fun w => Way.impl_along x0 y0 x1 y1 a2 a3 w
  obtain ⟨p, q, c, hR⟩ := Way.alongR_form x0 y0 x1 y1 a2 a3
  rw [hR] at HS0 HI0
  have HS := Lib.hid HS0
  have HI := Lib.hid HI0
  clear hR HS0 HI0 w2 w3 wx0 wy0 wx1 wy1
  obtain ⟨W, hW⟩ : ∃ W, W = (w.alloc (.cells #[.int .i64 x0, .int .i64 y0] 23)).alloc (.cells #[.int .i64 x1, .int .i64 y1] 23) := ⟨_, rfl⟩
  have hO : On w W := by rw [hW]; exact ((On.refl w).alloc _).alloc _
  have hz : w.heap.size + 1 < W.heap.size := by rw [hW]; simp
  have k0 : W.cell? ⟨w.heap.size, 0, none⟩ = some (.int .i64 x0) := by rw [hW]; simp [go_sem]
  have k1 : W.cell? ⟨w.heap.size, 1, none⟩ = some (.int .i64 y0) := by rw [hW]; simp [go_sem]
  have k2 : W.cell? ⟨w.heap.size + 1, 0, none⟩ = some (.int .i64 x1) := by rw [hW]; simp [go_sem]
  have k3 : W.cell? ⟨w.heap.size + 1, 1, none⟩ = some (.int .i64 y1) := by rw [hW]; simp [go_sem]
  have K0 := Lib.hid k0
  have K1 := Lib.hid k1
  have K2 := Lib.hid k2
  have K3 := Lib.hid k3
  have HO := Lib.hid hO
  have HW := Lib.hid hW
  clear k0 k1 k2 k3 hO hW
  go_enter Try.func6, Try.ntmps6
  go_upto_region 1 with fail
  rw [← HW.out]
  go_cut [9, 10] (fun sa sb wx => ∃ g : Nat, sa = .pointer (some ⟨g, 0, none⟩) ∧ sb = .int .i64 c ∧ W.heap.size ≤ g ∧ g < wx.heap.size ∧ wx.cell? ⟨g, 0, none⟩ = some (.int .i64 p) ∧ wx.cell? ⟨g, 1, none⟩ = some (.int .i64 q) ∧ On W wx)
  case first =>
    go_region_held3 (fun w' => On W w' ∧ w'.cell? ⟨w.heap.size, 0, none⟩ = some (.int .i64 x0) ∧ w'.cell? ⟨w.heap.size, 1, none⟩ = some (.int .i64 y0) ∧ w'.cell? ⟨w.heap.size + 1, 0, none⟩ = some (.int .i64 x1) ∧ w'.cell? ⟨w.heap.size + 1, 1, none⟩ = some (.int .i64 y1))
      ((refine held2 K0.out K1.out K2.out K3.out ?_; repeat (first | exact On.refl _ | assumption | apply On.alloc | apply On.drew | (obtain ⟨hOW, _⟩ := ‹On W _ ∧ _›; exact hOW) | (refine On.setCell ?_ (by (try simp) <;> omega) _) | (refine On.trans ?_ (by assumption)))))
      (first
        | (go_at_call 11; refine (Point.laws_toPoint _ _ _).mono ?_; rintro e w' ⟨rfl, hcall⟩; (try (with_reducible replace hcall := On.undrew hcall)); obtain ⟨hc, hf⟩ := bcell hcall; have hgr := hcall.lts; (try (have hl1 := hgr _ (by assumption))); (try (have hl0 := On.last hcall)); have hsz := hcall.size; (try simp at hsz))
        | (go_at_call 17; refine (HS.out _).mono ?_; rintro e w' ⟨rfl, hcall⟩; (try (with_reducible replace hcall := On.undrew hcall)); obtain ⟨hc, hf⟩ := bcell hcall; have hgr := hcall.lts; (try (have hl1 := hgr _ (by assumption))); (try (have hl0 := On.last hcall)); have hsz := hcall.size; (try simp at hsz)))
    all_goals
      go_wp2_with fail
      go_meet
      refine ⟨_, rfl, rfl, ?_, ?_, ?_, ?_, ?_⟩
      · (try simp) <;> omega
      · (try simp) <;> omega
      · go_simp
      · go_simp
      · repeat (first | exact On.refl _ | assumption | apply On.alloc | apply On.drew | (obtain ⟨hOW, _⟩ := ‹On W _ ∧ _›; exact hOW) | (refine On.setCell ?_ (by (try simp) <;> omega) _) | (refine On.trans ?_ (by assumption)))
  case rest =>
    obtain ⟨g, rfl, rfl, hg1, hg2, d0, d1, hO1⟩ := hcut
    obtain ⟨_, l0, l1, l2, l3⟩ := held2 K0.out K1.out K2.out K3.out hO1
    have L0 := Lib.hid l0
    have L1 := Lib.hid l1
    have L2 := Lib.hid l2
    have L3 := Lib.hid l3
    have D0 := Lib.hid d0
    have D1 := Lib.hid d1
    have HO1 := Lib.hid hO1
    clear l0 l1 l2 l3 d0 d1 hO1 hz
    go_upto_region 2 with fail
    go_cut [11, 12] (fun sa sb wx => ∃ g : Nat, sa = .pointer (some ⟨g, 0, none⟩) ∧ sb = .int .i64 c ∧ wc.heap.size ≤ g ∧ g < wx.heap.size ∧ wx.cell? ⟨g, 0, none⟩ = some (.int .i64 p) ∧ wx.cell? ⟨g, 1, none⟩ = some (.int .i64 q) ∧ On wc wx)
    case first =>
      go_region_held3 (fun w' => On wc w' ∧ w'.cell? ⟨w.heap.size, 0, none⟩ = some (.int .i64 x0) ∧ w'.cell? ⟨w.heap.size, 1, none⟩ = some (.int .i64 y0) ∧ w'.cell? ⟨w.heap.size + 1, 0, none⟩ = some (.int .i64 x1) ∧ w'.cell? ⟨w.heap.size + 1, 1, none⟩ = some (.int .i64 y1))
        ((refine held2 L0.out L1.out L2.out L3.out ?_; repeat (first | exact On.refl _ | assumption | apply On.alloc | apply On.drew | (obtain ⟨hOW, _⟩ := ‹On wc _ ∧ _›; exact hOW) | (refine On.setCell ?_ (by (try simp) <;> omega) _) | (refine On.trans ?_ (by assumption)))))
        (first
          | (go_at_call 11; refine (Point.laws_toPoint _ _ _).mono ?_; rintro e w' ⟨rfl, hcall⟩; (try (with_reducible replace hcall := On.undrew hcall)); obtain ⟨hc, hf⟩ := bcell hcall; have hgr := hcall.lts; (try (have hl1 := hgr _ (by assumption))); (try (have hl0 := On.last hcall)); have hsz := hcall.size; (try simp at hsz))
          | (go_at_call 18; refine (HI.out _).mono ?_; rintro e w' ⟨rfl, hcall⟩; (try (with_reducible replace hcall := On.undrew hcall)); obtain ⟨hc, hf⟩ := bcell hcall; have hgr := hcall.lts; (try (have hl1 := hgr _ (by assumption))); (try (have hl0 := On.last hcall)); have hsz := hcall.size; (try simp at hsz)))
      all_goals
        go_wp2_with fail
        go_meet
        refine ⟨_, rfl, rfl, ?_, ?_, ?_, ?_, ?_⟩
        · (try simp) <;> omega
        · (try simp) <;> omega
        · go_simp
        · go_simp
        · repeat (first | exact On.refl _ | assumption | apply On.alloc | apply On.drew | (obtain ⟨hOW, _⟩ := ‹On wc _ ∧ _›; exact hOW) | (refine On.setCell ?_ (by (try simp) <;> omega) _) | (refine On.trans ?_ (by assumption)))
    case rest =>
      obtain ⟨g2, rfl, rfl, hg3, hg4, d2, d3, hO2⟩ := hcut
      have f0 := (hO2.cell (p := ⟨g, 0, none⟩) (by exact hg2)).trans D0.out
      have f1 := (hO2.cell (p := ⟨g, 1, none⟩) (by exact hg2)).trans D1.out
      have HF := Lib.hid (On.trans (On.trans HO.out HO1.out) hO2)
      clear hO2
      go_wp2_with fail
      refine (Way.laws_eqPoint _ _ _).mono ?_
      rintro e w3 ⟨rfl, h3⟩
      go_wp2_with fail
      go_ret
      exact ⟨rfl, On.trans HF.out h3⟩

set_option maxRecDepth 100000 in
/-- The row's step. -/
theorem lifted (os : Os) (started : os.Started) (H : Type) (enc : TypeId × Value → H) :
    ReturnsInHanded {} Try.checked os 6 .any (Rows.fnExactAlongSpec.pre6 enc Try.prog Try.f6 Rows.fnExactAlongRow.domain false) (Rows.fnExactAlongSpec.post enc Try.prog Try.f6 false true false false) := by
  refine returnsInHanded_of_change (C := Try.checked) own started (by kernel_rfl) Try.func6
    (ChangeSpec.witness6 (enc := enc) (C := Try.checked) false ⟨#[], #[.agg #[.int .i64 0, .int .i64 0], .agg #[.int .i64 0, .int .i64 0], .int .i64 0, .int .i64 0], []⟩ 8 (by kernel_rfl) (by kernel_rfl) (by kernel_rfl) (by kernel_rfl)) ?_
  intro W base args ds gs before hval0 hW hcnd _
  have hval : ∀ (j : Nat) t v, Try.f6.params[j]? = some t → args[j]? = some v → Value.okWide Try.prog W .any base t v := hval0
  have hW' := hW
  obtain ⟨p, q, hA0, hV, rfl, hfz, hnd⟩ := hW
  have hA : DataW.TrodAll enc Try.prog W 0 (fun _ => true) true Try.f6.params.toList args.toList ds p := hA0
  rw [Try.params6] at hA hval
  obtain ⟨v0, vs0, d0, ds0, p0, q0, hargs, rfl, rfl, h0, r0⟩ := trodAll_cons hA
  obtain ⟨v1, vs1, d1, ds1, p1, q1, rfl, rfl, rfl, h1, r1⟩ := trodAll_cons r0
  obtain ⟨v2, vs2, d2, ds2, p2, q2, rfl, rfl, rfl, h2, r2⟩ := trodAll_cons r1
  obtain ⟨v3, vs3, d3, ds3, p3, q3, rfl, rfl, rfl, h3, r3⟩ := trodAll_cons r2
  obtain ⟨rfl, rfl, rfl⟩ := trodAll_nil r3
  obtain rfl : args = #[v0, v1, v2, v3] := by cases args; simp_all
  obtain ⟨rfl, rfl⟩ := trodVars_none hV
  obtain ⟨cx0, cy0, dx0, dy0, n0, rfl, rfl, rfl, ex0, ey0⟩ := Joins.open_agg2 Try.underlying23 (by kernel_rfl) (by kernel_rfl) (hval 0 23 v0 rfl rfl) h0
  obtain ⟨x0, gx0, rfl, wx0⟩ := DataW.trod_int Try.underlying2 ex0
  obtain ⟨y0, gy0, rfl, wy0⟩ := DataW.trod_int Try.underlying2 ey0
  obtain rfl : cx0 = .int .i64 x0 := by simpa using gx0
  obtain rfl : cy0 = .int .i64 y0 := by simpa using gy0
  obtain ⟨cx1, cy1, dx1, dy1, n1, rfl, rfl, rfl, ex1, ey1⟩ := Joins.open_agg2 Try.underlying23 (by kernel_rfl) (by kernel_rfl) (hval 1 23 v1 rfl rfl) h1
  obtain ⟨x1, gx1, rfl, wx1⟩ := DataW.trod_int Try.underlying2 ex1
  obtain ⟨y1, gy1, rfl, wy1⟩ := DataW.trod_int Try.underlying2 ey1
  obtain rfl : cx1 = .int .i64 x1 := by simpa using gx1
  obtain rfl : cy1 = .int .i64 y1 := by simpa using gy1
  obtain ⟨a2, rfl, rfl, rfl, w2⟩ := open_int Try.underlying2 (hval 2 2 v2 rfl rfl) h2
  obtain ⟨a3, rfl, rfl, rfl, w3⟩ := open_int Try.underlying2 (hval 3 2 v3 rfl rfl) h3
  clear hA0
  refine (walk W x0 y0 wx0 wy0 x1 y1 wx1 wy1 a2 w2 a3 w3 ).mono fun e W' ⟨he, bel⟩ => ?_
  subst he
  exact ⟨_, rfl, _, _, _, [], _, [], hW', trodAll_mk1 (shut_bool Try.underlying4 _), (trodAll_cons_mk (Joins.shut_agg2 Try.underlying23 (by kernel_rfl) (by kernel_rfl) (Joins.field_of_Trod (shut_int Try.underlying2 wx0) rfl) (Joins.field_of_Trod (shut_int Try.underlying2 wy0) rfl)) (trodAll_cons_mk (Joins.shut_agg2 Try.underlying23 (by kernel_rfl) (by kernel_rfl) (Joins.field_of_Trod (shut_int Try.underlying2 wx1) rfl) (Joins.field_of_Trod (shut_int Try.underlying2 wy1) rfl)) (trodAll_cons_mk (shut_int Try.underlying2 w2) (trodAll_cons_mk (shut_int Try.underlying2 w3) trodAll_mk0)))), rfl, bel.frame _, fun h => by cases h⟩

theorem proved : Rows.FnExactAlongSaid :=
  OpenClaim.holds_of_wide 6 Try.f6 rfl rfl rfl rfl rfl rfl rfl ⟨rfl, rfl, rfl, rfl, rfl⟩ rfl rfl rfl rfl rfl (by kernel_rfl) Try.func6 (by kernel_rfl)
    (of_decide_eq_true (by kernel_rfl)) (by unfold Func.isWrapper; first | (rw [if_pos (by decide +kernel)]; kernel_rfl) | (rw [if_neg (by decide +kernel)]; exact ⟨rfl, rfl⟩))
    (fun os started H enc _ => lifted os started H enc)
end Go.Proofs.Ythknpnoceabmbaa.fnExactAlong
