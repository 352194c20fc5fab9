/-
  For every two points and every number ProfilePlaces of the program returns what the model returns, points of its own memory, the same at a second call: the statement FnExactProfilePlaces, with no condition.
-/
import Derived.Test.YtadoaenmmemjdaaRows
import Derived.Test.YtadoaenmmemjdaaPlcE
import Derived.Test.YtadoaenmmemjdaaPtsM
import Derived.Deep.DeepCutAuto
import Derived.Deep.RegionWith
import Derived.Deep.RegionHeld3
import Derived.WalkKit
import Derived.ProofKit
import Derived.OpenShut
import Derived.ShutString
import Derived.Below
import Derived.Lib.SmallJoins
namespace Go.Proofs.Ytadoaenmmemjdaa.fnExactProfilePlaces
open Go.ChangeShapes Go.WideShapes Go.ChangeAt Go.RowKit
open Go.ChangeMaps (open_string shut_string)
set_option linter.unusedVariables false

theorem own : ownKnob Try.prog.godebug = none := by kernel_rfl


/-- The walk. -/
theorem walk (w : World) (x0 y0 : Int) (wx0 : (Lit.int .i64 x0).wf = true) (wy0 : (Lit.int .i64 y0).wf = true) (x1 y1 : Int) (wx1 : (Lit.int .i64 x1).wf = true) (wy1 : (Lit.int .i64 y1).wf = true) (a2 : Int) (w2 : (Lit.int .i64 a2).wf = true) :
    Calls Try.prog 3 #[.agg #[.int .i64 x0, .int .i64 y0], .agg #[.int .i64 x1, .int .i64 y1], .int .i64 a2] w fun e w' => e = .returned (.bool true) ∧ Below w.heap.size w w' := by
  have hS := fun w => Plc.spec_P x0 y0 x1 y1 a2 w
  have hI := fun w => Plc.impl_P x0 y0 x1 y1 a2 w
  have hlen : (Plc.plL x0 y0 x1 y1 a2).length ≤ 65 := Plc.plL_len x0 y0 x1 y1 a2
  have HT0 := Lib.hid (fun w => Point.laws_toPoint x0 y0 w)
  have HT1 := Lib.hid (fun w => Point.laws_toPoint x1 y1 w)
  generalize Plc.plL x0 y0 x1 y1 a2 = zs at *
  generalize Plc.plC x0 y0 x1 y1 a2 = co at *
  have hn : zs.length ≤ 1048576 := by omega
  have hcc : (co != co) = false := bne_self_eq_false co
  obtain ⟨q, hq⟩ : ∃ q : Int, q = ((1 + zs.length * 2 : Nat) : Int) := ⟨_, rfl⟩
  have hq0 : ¬ q < 0 := by omega
  have hqq : (q != q) = false := bne_self_eq_false q
  have hM := fun (B : Nat) (v : Value) (w : World) (h : Pts.OwnP B w v zs) => PtsM.mark B 1 v zs w hn (by decide) h
  have hH := fun (B : Nat) (v : Value) (w : World) (h : Pts.OwnP B w v (PtsM.marksP 1 zs.length)) => PtsM.held B 1 zs.length v w hn (by decide) h
  rw [← hq] at hM hH
  have HM := Lib.hid hM
  have HH := Lib.hid hH
  have HS := Lib.hid hS
  have HI := Lib.hid hI
  clear hS hI hM hH hq hlen wx0 wy0 wx1 wy1 w2
  go_enter Try.func3, Try.ntmps3
  go_upto_region 1 with fail
  obtain ⟨W0, hW0⟩ : ∃ W0, W0 = (w.alloc (.cells #[.int .i64 x0, .int .i64 y0] 23)).alloc (.cells #[.int .i64 x1, .int .i64 y1] 23) := ⟨_, rfl⟩
  have c0 : W0.cell? ⟨w.heap.size, 0, none⟩ = some (.int .i64 x0) := by rw [hW0]; simp [go_sem]
  have c1 : W0.cell? ⟨w.heap.size, 1, none⟩ = some (.int .i64 y0) := by rw [hW0]; simp [go_sem]
  have c2 : W0.cell? ⟨w.heap.size + 1, 0, none⟩ = some (.int .i64 x1) := by rw [hW0]; simp [go_sem]
  have c3 : W0.cell? ⟨w.heap.size + 1, 1, none⟩ = some (.int .i64 y1) := by rw [hW0]; simp [go_sem]
  have K0 := Lib.hid (And.intro c0 (And.intro c1 (And.intro c2 c3)))
  have O0 := Lib.hid (show On w W0 by rw [hW0]; exact On.alloc (On.alloc (On.refl _) _) _)
  rw [← hW0]
  clear hW0
  go_cut [7, 8] (fun s7 s8 wx => s8 = .int .i64 co ∧ Pts.Pairs wx s7 zs ∧ On W0 wx)
  case first =>
    go_region_held3 (fun w' => On W0 w' ∧ w'.cell? ⟨w.heap.size, 0, none⟩ = some (.int .i64 x0) ∧ w'.cell? ⟨w.heap.size, 1, none⟩ = some (.int .i64 y0) ∧ w'.cell? ⟨w.heap.size + 1, 0, none⟩ = some (.int .i64 x1) ∧ w'.cell? ⟨w.heap.size + 1, 1, none⟩ = some (.int .i64 y1))
      ((refine Plc.held_on K0.out ?_; repeat (first | with_reducible exact On.refl _ | with_reducible assumption | apply On.drew | (obtain ⟨hOW, _⟩ := ‹On W0 _ ∧ _›; exact hOW))))
      (first
        | (go_at_call 7; (first | with_reducible refine (HT0.out _).mono ?_ | with_reducible refine (HT1.out _).mono ?_); rintro e w' ⟨rfl, hcall⟩; (have hx : On W0 w' := by refine On.trans ?_ hcall; repeat (first | with_reducible exact On.refl _ | with_reducible assumption | apply On.drew | (obtain ⟨hOW, _⟩ := ‹On W0 _ ∧ _›; exact hOW))))
        | (go_at_call 6; refine (HS.out _).mono ?_; rintro e w' ⟨v1, rfl, hp, hcall⟩; (have hx : On W0 w' := by refine On.trans ?_ hcall; repeat (first | with_reducible exact On.refl _ | with_reducible assumption | apply On.drew | (obtain ⟨hOW, _⟩ := ‹On W0 _ ∧ _›; exact hOW)))))
    all_goals
      go_wp2_with fail
      go_meet
      exact ⟨rfl, hp, by obtain ⟨hOW, _⟩ := ‹On W0 _ ∧ _›; exact hOW⟩
  case rest =>
    obtain ⟨rfl, hp1, h01⟩ := hcut
    obtain ⟨c0, c1⟩ := Plc.heldP K0.out.1 K0.out.2.1 h01
    obtain ⟨c2, c3⟩ := Plc.heldP K0.out.2.2.1 K0.out.2.2.2 h01
    have K1 := Lib.hid (And.intro c0 (And.intro c1 (And.intro c2 c3)))
    obtain ⟨w1, hw1⟩ : ∃ w1, w1 = wc := ⟨_, rfl⟩
    subst hw1
    have O1 := Lib.hid (On.trans O0.out h01)
    have HP := Lib.hid hp1
    clear hp1 h01 K0 O0 c0 c1 c2 c3
    go_upto_region 2 with fail
    go_cut [9, 10] (fun s9 s10 wx => s10 = .int .i64 co ∧ Pts.OwnP w1.heap.size wx s9 zs ∧ On w1 wx)
    case first =>
      go_region_held3 (fun w' => On w1 w' ∧ w'.cell? ⟨w.heap.size, 0, none⟩ = some (.int .i64 x0) ∧ w'.cell? ⟨w.heap.size, 1, none⟩ = some (.int .i64 y0) ∧ w'.cell? ⟨w.heap.size + 1, 0, none⟩ = some (.int .i64 x1) ∧ w'.cell? ⟨w.heap.size + 1, 1, none⟩ = some (.int .i64 y1))
        ((refine Plc.held_on K1.out ?_; repeat (first | with_reducible exact On.refl _ | with_reducible assumption | apply On.drew | (obtain ⟨hOW, _⟩ := ‹On w1 _ ∧ _›; exact hOW))))
        (first
          | (go_at_call 7; (first | with_reducible refine (HT0.out _).mono ?_ | with_reducible refine (HT1.out _).mono ?_); rintro e w' ⟨rfl, hcall⟩; (have hx : On w1 w' := by refine On.trans ?_ hcall; repeat (first | with_reducible exact On.refl _ | with_reducible assumption | apply On.drew | (obtain ⟨hOW, _⟩ := ‹On w1 _ ∧ _›; exact hOW))))
          | (go_at_call 8; refine (HI.out _).mono ?_; rintro e w' ⟨v1, rfl, ho, hcall⟩; (have hx : On w1 w' := by refine On.trans ?_ hcall; repeat (first | with_reducible exact On.refl _ | with_reducible assumption | apply On.drew | (obtain ⟨hOW, _⟩ := ‹On w1 _ ∧ _›; exact hOW))); (have hown2 := ho.mono (B' := w1.heap.size) (by refine Below.size (B := w1.heap.size) (w := w1) (show On w1 _ from ?_); repeat (first | with_reducible exact On.refl _ | with_reducible assumption | apply On.drew | (obtain ⟨hOW, _⟩ := ‹On w1 _ ∧ _›; exact hOW))))))
      all_goals
        go_wp2_with fail
        go_meet
        exact ⟨rfl, hown2, by obtain ⟨hOW, _⟩ := ‹On w1 _ ∧ _›; exact hOW⟩
    case rest =>
      obtain ⟨rfl, ho2, h12⟩ := hcut
      have O2 := Lib.hid h12
      have HO2 := Lib.hid ho2
      clear ho2 h12
      go_wp2_with fail
      refine (Pts.eqS _ _ zs _ hn HO2.out.pairs (HP.out.below O2.out)).mono ?_
      rintro e w3 ⟨rfl, h3⟩
      have O3 := Lib.hid (On.trans O2.out h3)
      have HO3 := Lib.hid (HO2.out.below h3)
      clear h3
      go_wp2_with fail
      refine (HM.out _ _ _ HO3.out).mono ?_
      rintro e w4 ⟨rfl, h4, ho4⟩
      have O4 := Lib.hid (show On w1 w4 from Below.trans O3.out h4)
      have HO4 := Lib.hid ho4
      clear h4 ho4
      go_wp2_with fail
      refine (HH.out _ _ _ HO4.out).mono ?_
      rintro e w5 ⟨rfl, rfl⟩
      obtain ⟨c0, c1⟩ := Plc.heldP K1.out.1 K1.out.2.1 O4.out
      obtain ⟨c2, c3⟩ := Plc.heldP K1.out.2.2.1 K1.out.2.2.2 O4.out
      have K5 := Lib.hid (And.intro c0 (And.intro c1 (And.intro c2 c3)))
      clear c0 c1 c2 c3
      go_upto_region 13 with fail
      go_cut [13, 14] (fun s13 s14 wx => s14 = .int .i64 co ∧ Pts.OwnP w5.heap.size wx s13 zs ∧ On w5 wx)
      case first =>
        go_region_held3 (fun w' => On w5 w' ∧ w'.cell? ⟨w.heap.size, 0, none⟩ = some (.int .i64 x0) ∧ w'.cell? ⟨w.heap.size, 1, none⟩ = some (.int .i64 y0) ∧ w'.cell? ⟨w.heap.size + 1, 0, none⟩ = some (.int .i64 x1) ∧ w'.cell? ⟨w.heap.size + 1, 1, none⟩ = some (.int .i64 y1))
          ((refine Plc.held_on K5.out ?_; repeat (first | with_reducible exact On.refl _ | with_reducible assumption | apply On.drew | (obtain ⟨hOW, _⟩ := ‹On w5 _ ∧ _›; exact hOW))))
          (first
            | (go_at_call 7; (first | with_reducible refine (HT0.out _).mono ?_ | with_reducible refine (HT1.out _).mono ?_); rintro e w' ⟨rfl, hcall⟩; (have hx : On w5 w' := by refine On.trans ?_ hcall; repeat (first | with_reducible exact On.refl _ | with_reducible assumption | apply On.drew | (obtain ⟨hOW, _⟩ := ‹On w5 _ ∧ _›; exact hOW))))
            | (go_at_call 8; refine (HI.out _).mono ?_; rintro e w' ⟨v1, rfl, ho, hcall⟩; (have hx : On w5 w' := by refine On.trans ?_ hcall; repeat (first | with_reducible exact On.refl _ | with_reducible assumption | apply On.drew | (obtain ⟨hOW, _⟩ := ‹On w5 _ ∧ _›; exact hOW))); (have hown2 := ho.mono (B' := w5.heap.size) (by refine Below.size (B := w5.heap.size) (w := w5) (show On w5 _ from ?_); repeat (first | with_reducible exact On.refl _ | with_reducible assumption | apply On.drew | (obtain ⟨hOW, _⟩ := ‹On w5 _ ∧ _›; exact hOW))))))
        all_goals
          go_wp2_with fail
          go_meet
          exact ⟨rfl, hown2, by obtain ⟨hOW, _⟩ := ‹On w5 _ ∧ _›; exact hOW⟩
      case rest =>
        obtain ⟨rfl, ho6, h56⟩ := hcut
        have O6 := Lib.hid (On.trans O4.out h56)
        have HO6 := Lib.hid ho6
        have HM6 := Lib.hid (HO4.out.below h56)
        clear ho6 h56
        go_wp2_with fail
        refine (Pts.eqS _ _ zs _ hn HO6.out.pairs (HP.out.below O6.out)).mono ?_
        rintro e w7 ⟨rfl, h7⟩
        have O7 := Lib.hid (On.trans O6.out h7)
        have HM7 := Lib.hid (HM6.out.below h7)
        clear h7
        go_wp2_with fail
        refine (HH.out _ _ _ HM7.out).mono ?_
        rintro e w8 ⟨rfl, rfl⟩
        go_wp2_with fail
        go_ret
        exact ⟨rfl, On.trans O1.out O7.out⟩

set_option maxRecDepth 100000 in
/-- The row's step. -/
theorem lifted (os : Os) (started : os.Started) (H : Type) (enc : TypeId × Value → H) :
    ReturnsInHanded {} Try.checked os 3 .any (Rows.fnExactProfilePlacesSpec.pre6 enc Try.prog Try.f3 Rows.fnExactProfilePlacesRow.domain false) (Rows.fnExactProfilePlacesSpec.post enc Try.prog Try.f3 false true false false) := by
  refine returnsInHanded_of_change (C := Try.checked) own started (by kernel_rfl) Try.func3
    (ChangeSpec.witness6 (enc := enc) (C := Try.checked) false ⟨#[], #[.agg #[.int .i64 0, .int .i64 0], .agg #[.int .i64 0, .int .i64 0], .int .i64 0], []⟩ 8 (by kernel_rfl) (by kernel_rfl) (by kernel_rfl) (by kernel_rfl)) ?_
  intro W base args ds gs before hval0 hW hcnd _
  have hval : ∀ (j : Nat) t v, Try.f3.params[j]? = some t → args[j]? = some v → Value.okWide Try.prog W .any base t v := hval0
  have hW' := hW
  obtain ⟨p, q, hA0, hV, rfl, hfz, hnd⟩ := hW
  have hA : DataW.TrodAll enc Try.prog W 0 (fun _ => true) true Try.f3.params.toList args.toList ds p := hA0
  rw [Try.params3] at hA hval
  obtain ⟨v0, vs0, d0, ds0, p0, q0, hargs, rfl, rfl, h0, r0⟩ := trodAll_cons hA
  obtain ⟨v1, vs1, d1, ds1, p1, q1, rfl, rfl, rfl, h1, r1⟩ := trodAll_cons r0
  obtain ⟨v2, vs2, d2, ds2, p2, q2, rfl, rfl, rfl, h2, r2⟩ := trodAll_cons r1
  obtain ⟨rfl, rfl, rfl⟩ := trodAll_nil r2
  obtain rfl : args = #[v0, v1, v2] := by cases args; simp_all
  obtain ⟨rfl, rfl⟩ := trodVars_none hV
  obtain ⟨cx0, cy0, dx0, dy0, n0, rfl, rfl, rfl, ex0, ey0⟩ := Joins.open_agg2 Try.underlying23 (by kernel_rfl) (by kernel_rfl) (hval 0 23 v0 rfl rfl) h0
  obtain ⟨x0, gx0, rfl, wx0⟩ := DataW.trod_int Try.underlying2 ex0
  obtain ⟨y0, gy0, rfl, wy0⟩ := DataW.trod_int Try.underlying2 ey0
  obtain rfl : cx0 = .int .i64 x0 := by simpa using gx0
  obtain rfl : cy0 = .int .i64 y0 := by simpa using gy0
  obtain ⟨cx1, cy1, dx1, dy1, n1, rfl, rfl, rfl, ex1, ey1⟩ := Joins.open_agg2 Try.underlying23 (by kernel_rfl) (by kernel_rfl) (hval 1 23 v1 rfl rfl) h1
  obtain ⟨x1, gx1, rfl, wx1⟩ := DataW.trod_int Try.underlying2 ex1
  obtain ⟨y1, gy1, rfl, wy1⟩ := DataW.trod_int Try.underlying2 ey1
  obtain rfl : cx1 = .int .i64 x1 := by simpa using gx1
  obtain rfl : cy1 = .int .i64 y1 := by simpa using gy1
  obtain ⟨a2, rfl, rfl, rfl, w2⟩ := open_int Try.underlying2 (hval 2 2 v2 rfl rfl) h2
  clear hA0
  refine (walk W x0 y0 wx0 wy0 x1 y1 wx1 wy1 a2 w2 ).mono fun e W' ⟨he, bel⟩ => ?_
  subst he
  exact ⟨_, rfl, _, _, _, [], _, [], hW', trodAll_mk1 (shut_bool Try.underlying4 _), (trodAll_cons_mk (Joins.shut_agg2 Try.underlying23 (by kernel_rfl) (by kernel_rfl) (Joins.field_of_Trod (shut_int Try.underlying2 wx0) rfl) (Joins.field_of_Trod (shut_int Try.underlying2 wy0) rfl)) (trodAll_cons_mk (Joins.shut_agg2 Try.underlying23 (by kernel_rfl) (by kernel_rfl) (Joins.field_of_Trod (shut_int Try.underlying2 wx1) rfl) (Joins.field_of_Trod (shut_int Try.underlying2 wy1) rfl)) (trodAll_cons_mk (shut_int Try.underlying2 w2) trodAll_mk0))), rfl, bel.frame _, fun h => by cases h⟩

theorem proved : Rows.FnExactProfilePlacesSaid :=
  OpenClaim.holds_of_wide 3 Try.f3 rfl rfl rfl rfl rfl rfl rfl ⟨rfl, rfl, rfl, rfl, rfl⟩ rfl rfl rfl rfl rfl (by kernel_rfl) Try.func3 (by kernel_rfl)
    (of_decide_eq_true (by kernel_rfl)) (by unfold Func.isWrapper; first | (rw [if_pos (by decide +kernel)]; kernel_rfl) | (rw [if_neg (by decide +kernel)]; exact ⟨rfl, rfl⟩))
    (fun os started H enc _ => lifted os started H enc)
end Go.Proofs.Ytadoaenmmemjdaa.fnExactProfilePlaces
