/-
  For all bytes the functions of free space fit together: the statement FnFreeSpace, as a card. Its row lists the program's variable of spans, tied to the text by the card; no other condition (more than 1048576 bytes are let pass by the statement itself).
-/
import Derived.Test.YtnbkdekndflefaaDoorCards
import Derived.Test.YtnbkdekndflefaaDoorTie
import Derived.Test.YtnbkdekndflefaaDoorFreeLaw
import Derived.Test.YtnbkdekndflefaaDoorSpanTab
import Derived.Deep.DeepCutAuto
import Derived.WalkKit
import Derived.ProofKit
import Derived.OpenShut
import Derived.ShutString
import Derived.Below
import Derived.ChangeOld
import Derived.OpenVars
import Derived.ChangeVars
import Derived.Deep.DeepHandedRow
import Derived.Lib.LaidTab
namespace Go.Proofs.YtnbkdekndflefaaDoor.fnFreeSpace
open Go.ChangeShapes Go.WideShapes Go.ChangeAt Go.RowKit
open Go.ChangeMaps (open_string shut_string)
set_option linter.unusedVariables false

theorem own : ownKnob Tryd.prog.godebug = none := by kernel_rfl
theorem laidOut : laidOutB Tryd.prog = true := by kernel_rfl

/-- What the walk is told of a slice of integers that came in: it is nil; or it leads to a row of 'cap' cells, the numbers 'zs' (the first 'len' are its elements), each fitting its kind. -/
def IsRow (k : IntKind) (w : World) (a : Option Addr) (len cap : Nat) (zs : List Int) : Prop :=
  (a = none ∧ len = 0 ∧ cap = 0 ∧ zs = []) ∨
  ∃ x, a = some x ∧ len ≤ cap ∧ cap ≤ maxLen ∧ zs.length = cap ∧ (∀ i, i < zs.length → w.cell? (x.add i) = some (.int k (zs.getD i 0))) ∧ ∀ n ∈ zs, (Lit.int k n).wf = true

set_option maxRecDepth 100000 in
set_option maxHeartbeats 4000000 in
/-- The walk. -/
theorem walk (w : World) (a0 : Option Addr) (len0 cap0 : Nat) (z0 : List Int) (w0 : IsRow .u8 w a0 len0 cap0 z0) (a1 : Option Addr) (len1 cap1 : Nat) (z1 : List Int) (w1 : IsRow .u8 w a1 len1 cap1 z1) (hL : laidMetH Tryd.prog Rows.fnFreeSpaceRow.laid w) (hsh : w.ShapedOpen Tryd.prog) :
    Calls Tryd.prog 12 #[.slice a0 len0 cap0, .slice a1 len1 cap1] w fun e w' => e = .returned (.bool true) ∧ Below w.heap.size w w' := by
  have HT := Lib.hid (SpanTab.spanG (W := w) (l := Rows.fnFreeSpaceRow.laid) hL (.head _))
  clear hL hsh
  by_cases hl0 : 1048576 < len0
  · clear w0 w1
    go_enter Tryd.func12, Tryd.ntmps12
    go_wp2_with (go_at_call 35; first | (refine (Draw.short _ _ _ _ (by assumption)).mono ?_; rintro e w' ⟨rfl, rfl⟩) | (refine (Draw.long _ _ _ _ (by assumption)).mono ?_; rintro e w' ⟨rfl, rfl⟩))
    go_ret
    exact ⟨rfl, Below.refl _ _⟩
  · by_cases hl1 : 1048576 < len1
    · clear w0 w1
      go_enter Tryd.func12, Tryd.ntmps12
      go_wp2_with (go_at_call 35; first | (refine (Draw.short _ _ _ _ (by assumption)).mono ?_; rintro e w' ⟨rfl, rfl⟩) | (refine (Draw.long _ _ _ _ (by assumption)).mono ?_; rintro e w' ⟨rfl, rfl⟩))
      go_ret
      exact ⟨rfl, Below.refl _ _⟩
    · have HC0 := Lib.hid (Draw.code_of hl0 w0)
      have HC1 := Lib.hid (Draw.code_of hl1 w1)
      clear w0 w1
      go_enter Tryd.func12, Tryd.ntmps12
      go_wp2_with (go_at_call 35; refine (Draw.short _ _ _ _ (by assumption)).mono ?_; rintro e w' ⟨rfl, rfl⟩)
      refine (Draw.DrawRangeOfLoss _ _ HC0.out).mono ?_
      rintro e u1 ⟨f, z, rfl, f0, f1, z0, z1, k1⟩
      have B1 := Lib.hid (show On w u1 from k1)
      clear k1
      go_wp2_with fail
      refine (Far.impl_RangeOfLoss f z _ (HT.out.on B1.out)).mono ?_
      rintro e u2 ⟨rfl, k2⟩
      have B2 := Lib.hid (On.trans B1.out k2)
      clear k2
      have HR := Lib.hid (FreeLaw.range_cases f z)
      generalize Far.codeLoss f z = c at *
      generalize Far.valLoss f z = r at *
      go_upto_if 45 with fail
      go_cut [9, 10, 11, 12] (fun _ _ _ _ wx => ∃ WX : World, WX = wx ∧ On w WX)
      case first =>
        rcases HR.out with ⟨hc, k, k0, k1, hr, g0, g1, hle, hgt⟩ | hc
        · subst hc hr
          have HN := Lib.hid (fun w' (ho : On w w') => FreeLaw.free_yes f r w' (HT.out.on ho) g0 g1 k0 k1)
          have wr : IntKind.i64.wrap (r + 1) = r + 1 := IntWalk.i64_in _ (by omega)
          by_cases hk : r < 283000
          · have HM := Lib.hid (fun w' (ho : On w w') => FreeLaw.free_yes f (r + 1) w' (HT.out.on ho) g0 g1 (by omega) (by omega))
            have hg := hgt hk
            have hl : ¬ z < Plain.freeV f r := by omega
            have hm : ¬ Plain.freeV f (r + 1) ≤ z := by omega
            generalize Plain.freeV f r = x at *
            generalize Plain.freeV f (r + 1) = y at *
            clear hgt hg hle
            go_wp2_with fail
            refine (HN.out _ B2.out).mono ?_
            rintro e u3 ⟨rfl, k3⟩
            have B3 := Lib.hid (On.trans B2.out k3)
            clear k3
            go_wp2_with fail
            refine (HM.out _ B3.out).mono ?_
            rintro e u4 ⟨rfl, k4⟩
            have B4 := Lib.hid (On.trans B3.out k4)
            clear k4
            go_wp2_with fail
            go_meet
            exact ⟨_, rfl, B4.out⟩
          · have HM := Lib.hid (fun w' (ho : On w w') => FreeLaw.free_no f (r + 1) w' (HT.out.on ho) (.inr (Plain.inB_no (by omega))))
            have hl : ¬ z < Plain.freeV f r := by omega
            obtain rfl : r = 283000 := by omega
            generalize Plain.freeV f 283000 = x at *
            clear hgt hle
            go_wp2_with fail
            refine (HN.out _ B2.out).mono ?_
            rintro e u3 ⟨rfl, k3⟩
            have B3 := Lib.hid (On.trans B2.out k3)
            clear k3
            go_wp2_with fail
            refine (HM.out _ B3.out).mono ?_
            rintro e u4 ⟨rfl, k4⟩
            have B4 := Lib.hid (On.trans B3.out k4)
            clear k4
            go_wp2_with fail
            go_meet
            exact ⟨_, rfl, B4.out⟩
        · have hcb : (c == 0) = false := beq_eq_false_iff_ne.2 hc
          go_wp2_with fail
          go_meet
          exact ⟨_, rfl, B2.out⟩
      case rest =>
        obtain ⟨WX, hWX, kX⟩ := hcut
        have BX := Lib.hid (show On w WX from kX)
        rw [← hWX]
        clear hWX kX B1 B2 HR
        go_wp2_with fail
        refine (Draw.DrawFieldStrength _ _ (FreeLaw.code_up HC1.out BX.out)).mono ?_
        rintro e u3 ⟨v, d, rfl, v0, v1, d0, d1, k3⟩
        have B3 := Lib.hid (On.trans BX.out k3)
        clear k3
        cases gv : Plain.inB v (-300000) 300000 with
        | false =>
          have HF := Lib.hid (fun w' (ho : On w w') => FreeLaw.field_no v d w' (HT.out.on ho) (.inl gv))
          go_wp2_with fail
          refine (HF.out _ B3.out).mono ?_
          rintro e u4 ⟨rfl, k4⟩
          have B4 := Lib.hid (On.trans B3.out k4)
          clear k4
          go_wp2_with fail
          go_ret
          exact ⟨rfl, B4.out⟩
        | true =>
          cases gd : Plain.inB d 1 283000 with
          | false =>
            have HF := Lib.hid (fun w' (ho : On w w') => FreeLaw.field_no v d w' (HT.out.on ho) (.inr gd))
            go_wp2_with fail
            refine (HF.out _ B3.out).mono ?_
            rintro e u4 ⟨rfl, k4⟩
            have B4 := Lib.hid (On.trans B3.out k4)
            clear k4
            go_wp2_with fail
            go_ret
            exact ⟨rfl, B4.out⟩
          | true =>
            have HF := Lib.hid (fun w' (ho : On w w') => FreeLaw.field_yes v d w' (HT.out.on ho) gv gd)
            obtain ⟨v2, v3⟩ := Plain.of_inB gv
            obtain ⟨d2, d3⟩ := Plain.of_inB gd
            have HLV := Lib.hid (fun w' (ho : On w w') => Free.impl_LevelOfField (Plain.fieldV v d) f w' (HT.out.on ho))
            have HFL := Lib.hid (fun w' (ho : On w w') => Free.impl_FreeLoss f d w' (HT.out.on ho))
            have HFN := Lib.hid (fun w' (ho : On w w') => Free.impl_FreeLoss f (d + 1) w' (HT.out.on ho))
            have HAG := Lib.hid (fun w' (ho : On w w') h1 h2 h3 => FreeLaw.again (v := v) (d := d) (f := f) w' (HT.out.on ho) h1 h2 h3)
            have HRF := Lib.hid (fun w' (ho : On w w') => Far.impl_RangeOfField v (Plain.fieldV v d) w' (HT.out.on ho))
            have H17 := Lib.hid (FreeLaw.no_less (f := f) (d := d))
            have H19 := Lib.hid (FreeLaw.level_is (f := f) (d := d) (v := v))
            have H26 := Lib.hid (fun h1 h2 => FreeLaw.reach v2 v3 d2 d3 h1 h2)
            obtain ⟨x0, x1⟩ := Plain.fieldV_bd (e := v) (d := d) v2 v3 d3
            have hfr : -672444 ≤ Free.okV (Free.okFreeLoss f d) (Plain.freeV f d) ∧ Free.okV (Free.okFreeLoss f d) (Plain.freeV f d) ≤ 672444 := by
              cases hb : Free.okFreeLoss f d with
              | false => rw [(Free.ok_no _).1]; exact ⟨by decide, by decide⟩
              | true =>
                have q := FreeLaw.ok_free (f := f) (d := d) (by rw [hb]; rfl)
                have := Plain.freeV_bd (f := f) (d := d) q.1.2 q.2.2
                exact FreeLaw.ok_bd (by decide) (by decide) (by omega) (by omega)
            obtain ⟨y0, y1⟩ := hfr
            generalize Free.okV (Free.okLevelOfField (Plain.fieldV v d) f) (Plain.fieldV v d - 2 * Plain.logDb f - 17219) = L at *
            generalize Free.okC (Free.okLevelOfField (Plain.fieldV v d) f) = LC at *
            generalize Free.okV (Free.okFreeLoss f (d + 1)) (Plain.freeV f (d + 1)) = NX at *
            generalize Free.okC (Free.okFreeLoss f (d + 1)) = NC at *
            generalize Free.okV (Free.okFreeLoss f d) (Plain.freeV f d) = FR at *
            generalize Free.okC (Free.okFreeLoss f d) = FC at *
            generalize Far.codeField v (Plain.fieldV v d) = RC at *
            generalize Far.valField v (Plain.fieldV v d) = RV at *
            generalize Plain.fieldV v d = E at *
            have wv : IntKind.i64.wrap (v - FR) = v - FR := IntWalk.i64_in _ (by omega)
            have wd : IntKind.i64.wrap (d + 1) = d + 1 := IntWalk.i64_in _ (by omega)
            clear gv gd
            go_wp2_with fail
            refine (HF.out _ B3.out).mono ?_
            rintro e u4 ⟨rfl, k4⟩
            have B4 := Lib.hid (On.trans B3.out k4)
            clear k4
            go_wp2_with fail
            refine (HLV.out _ B4.out).mono ?_
            rintro e u5 ⟨rfl, k5⟩
            have B5 := Lib.hid (On.trans B4.out k5)
            clear k5
            go_wp2_with fail
            refine (HFL.out _ B5.out).mono ?_
            rintro e u6 ⟨rfl, k6⟩
            have B6 := Lib.hid (On.trans B5.out k6)
            clear k6
            go_wp2_with fail
            refine (HFN.out _ B6.out).mono ?_
            rintro e u7 ⟨rfl, k7⟩
            have B7 := Lib.hid (On.trans B6.out k7)
            clear k7 B3 B4 B5 B6
            go_upto_region 17 with fail
            go_cut [127] (fun s wx => s = .bool false ∧ ∃ WX : World, WX = wx ∧ On w WX)
            case first =>
              by_cases p1 : FC = 0
              · by_cases p2 : NC = 0
                · have p3 : ¬ NX < FR := fun q => H17.out ⟨p1, p2, q⟩
                  subst p1 p2
                  go_wp2_with fail
                  go_meet
                  exact ⟨rfl, _, rfl, B7.out⟩
                · have p2b : (NC == 0) = false := beq_eq_false_iff_ne.2 p2
                  subst p1
                  go_wp2_with fail
                  go_meet
                  exact ⟨rfl, _, rfl, B7.out⟩
              · have p1b : (FC == 0) = false := beq_eq_false_iff_ne.2 p1
                go_wp2_with fail
                go_meet
                exact ⟨rfl, _, rfl, B7.out⟩
            case rest =>
              obtain ⟨rfl, W8, hW8, k8⟩ := hcut
              have B8 := Lib.hid (show On w W8 from k8)
              rw [← hW8]
              clear hW8 k8 B7
              go_upto_region 19 with fail
              go_cut [144] (fun s wx => s = .bool false ∧ ∃ WX : World, WX = wx ∧ On w WX)
              case first =>
                by_cases p1 : LC = 0
                · by_cases p2 : FC = 0
                  · by_cases p3 : 0 < FR
                    · have p4 : L = v - FR := by
                        by_cases q : L = v - FR
                        · exact q
                        · exact absurd ⟨p1, p2, p3, q⟩ H19.out
                      subst p1 p2 p4
                      have p5 : ((v - FR) != (v - FR)) = false := bne_self_eq_false _
                      go_wp2_with fail
                      go_meet
                      exact ⟨rfl, _, rfl, B8.out⟩
                    · subst p1 p2
                      go_wp2_with fail
                      go_meet
                      exact ⟨rfl, _, rfl, B8.out⟩
                  · have p2b : (FC == 0) = false := beq_eq_false_iff_ne.2 p2
                    subst p1
                    go_wp2_with fail
                    go_meet
                    exact ⟨rfl, _, rfl, B8.out⟩
                · have p1b : (LC == 0) = false := beq_eq_false_iff_ne.2 p1
                  go_wp2_with fail
                  go_meet
                  exact ⟨rfl, _, rfl, B8.out⟩
              case rest =>
                obtain ⟨rfl, W9, hW9, k9⟩ := hcut
                have B9 := Lib.hid (show On w W9 from k9)
                rw [← hW9]
                clear hW9 k9 B8 H17 H19
                go_upto_region 21 with fail
                go_cut [154] (fun s wx => (∃ b : Bool, s = .bool b ∧ (b = true → LC = 0 ∧ -300000 ≤ L ∧ L ≤ 300000)) ∧ ∃ WX : World, WX = wx ∧ On w WX)
                case first =>
                  by_cases p1 : LC = 0
                  · by_cases p2 : -300000 ≤ L
                    · by_cases p3 : L ≤ 300000
                      · subst p1
                        go_wp2_with fail
                        go_meet
                        exact ⟨⟨true, rfl, fun _ => ⟨by trivial, p2, p3⟩⟩, _, rfl, B9.out⟩
                      · subst p1
                        go_wp2_with fail
                        go_meet
                        exact ⟨⟨false, rfl, fun h => by cases h⟩, _, rfl, B9.out⟩
                    · subst p1
                      go_wp2_with fail
                      go_meet
                      exact ⟨⟨false, rfl, fun h => by cases h⟩, _, rfl, B9.out⟩
                  · have p1b : (LC == 0) = false := beq_eq_false_iff_ne.2 p1
                    go_wp2_with fail
                    go_meet
                    exact ⟨⟨false, rfl, fun h => by cases h⟩, _, rfl, B9.out⟩
                case rest =>
                  obtain ⟨⟨b, rfl, hb⟩, WA, hWA, kA⟩ := hcut
                  have BA := Lib.hid (show On w WA from kA)
                  rw [← hWA]
                  clear hWA kA B9
                  cases b with
                  | true =>
                    obtain ⟨p1, p2, p3⟩ := hb rfl
                    have HG := Lib.hid (fun w' ho => HAG.out w' ho p1 p2 p3)
                    clear hb HAG
                    go_wp2_with fail
                    refine (HG.out _ BA.out).mono ?_
                    rintro e ub ⟨rfl, kb⟩
                    have BB := Lib.hid (On.trans BA.out kb)
                    clear kb
                    have he : (E != E) = false := bne_self_eq_false E
                    by_cases q1 : E < -300000
                    · go_wp2_with fail
                      refine (HRF.out _ BB.out).mono ?_
                      rintro e uc ⟨rfl, kc⟩
                      have BC := Lib.hid (On.trans BB.out kc)
                      clear kc
                      go_wp2_with fail
                      go_ret
                      exact ⟨rfl, BC.out⟩
                    · by_cases q2 : 300000 < E
                      · go_wp2_with fail
                        refine (HRF.out _ BB.out).mono ?_
                        rintro e uc ⟨rfl, kc⟩
                        have BC := Lib.hid (On.trans BB.out kc)
                        clear kc
                        go_wp2_with fail
                        go_ret
                        exact ⟨rfl, BC.out⟩
                      · obtain ⟨q3, q4⟩ := H26.out (by omega) (by omega)
                        subst q3
                        go_wp2_with fail
                        refine (HRF.out _ BB.out).mono ?_
                        rintro e uc ⟨rfl, kc⟩
                        have BC := Lib.hid (On.trans BB.out kc)
                        clear kc
                        go_wp2_with fail
                        go_ret
                        exact ⟨rfl, BC.out⟩
                  | false =>
                    clear hb HAG
                    have BB := Lib.hid BA.out
                    by_cases q1 : E < -300000
                    · go_wp2_with fail
                      refine (HRF.out _ BB.out).mono ?_
                      rintro e uc ⟨rfl, kc⟩
                      have BC := Lib.hid (On.trans BB.out kc)
                      clear kc
                      go_wp2_with fail
                      go_ret
                      exact ⟨rfl, BC.out⟩
                    · by_cases q2 : 300000 < E
                      · go_wp2_with fail
                        refine (HRF.out _ BB.out).mono ?_
                        rintro e uc ⟨rfl, kc⟩
                        have BC := Lib.hid (On.trans BB.out kc)
                        clear kc
                        go_wp2_with fail
                        go_ret
                        exact ⟨rfl, BC.out⟩
                      · obtain ⟨q3, q4⟩ := H26.out (by omega) (by omega)
                        subst q3
                        go_wp2_with fail
                        refine (HRF.out _ BB.out).mono ?_
                        rintro e uc ⟨rfl, kc⟩
                        have BC := Lib.hid (On.trans BB.out kc)
                        clear kc
                        go_wp2_with fail
                        go_ret
                        exact ⟨rfl, BC.out⟩

/-- How many blocks the settled world has. -/
noncomputable def low : Nat := (World.holding Tryd.prog default ⟨#[], #[], []⟩).heap.size
/-- A world for the witness: the settled one, each listed variable holding what the program's text lays. -/
noncomputable def laidWorld (os : Os) : World :=
  let w0 := World.holding Tryd.prog os ⟨#[], #[], []⟩
  let h0 := w0.heap.modify 0 fun
    | .cells _ t frozen => .cells #[.int .i64 1, .int .i64 100000000, .int .i64 1, .int .i64 283000, .int .i64 (-300000), .int .i64 300000, .int .i64 (-300000), .int .i64 300000, .int .i64 0, .int .i64 300000, .int .i64 1, .int .i64 100000, .int .i64 0, .int .i64 7, .int .i64 0, .int .i64 90000, .int .i64 0, .int .i64 200, .int .i64 0, .int .i64 1000, .int .i64 1, .int .i64 10000, .int .i64 1, .int .i64 20, .int .i64 0, .int .i64 1000000, .int .i64 25, .int .i64 400, .int .i64 0, .int .i64 100000] t frozen
    | o => o
  { w0 with heap := h0 }
theorem laid_met (os : Os) : laidMet Tryd.prog Rows.fnFreeSpaceRow.laid ((laidWorld os).forCall (fun _ _ => 0) ⟨#[], #[.slice none 0 0, .slice none 0 0], []⟩).memory :=
  laidMet_of_run' 8 (by kernel_rfl) (by kernel_rfl)
theorem witness_row (os : Os) {H : Type} (enc : TypeId × Value → H) :
    (OpenSpec.ofChange Rows.fnFreeSpaceSpec).preRow enc Tryd.prog Tryd.f12 Rows.fnFreeSpaceRow.domain false Rows.fnFreeSpaceRow.laid ((laidWorld os).forCall (fun _ _ => 0) ⟨#[], #[.slice none 0 0, .slice none 0 0], []⟩).memory #[.slice none 0 0, .slice none 0 0] := by
  have hw : (DataW.whole enc Tryd.prog ((laidWorld os).forCall (fun _ _ => 0) ⟨#[], #[.slice none 0 0, .slice none 0 0], []⟩).memory Tryd.f12.params.toList Rows.fnFreeSpaceSpec.vars false (#[.slice none 0 0, .slice none 0 0] : Array Value).toList 8).map (fun x => (x.1, x.2.1)) = some ([.nil, .nil], [Rows.laid_loop_example_g00925_impl_quantitySpans]) := by kernel_rfl
  obtain ⟨⟨x1, x2, x3⟩, hx, hx1⟩ := Option.map_eq_some_iff.1 hw
  simp only [Prod.mk.injEq] at hx1
  obtain ⟨rfl, rfl⟩ := hx1
  exact OpenSpec.preRow_of_cond 8 hx (by kernel_rfl) (fun k hk => by cases hk) (by kernel_rfl) (laid_met os)

set_option maxRecDepth 100000 in
/-- The row's step. -/
theorem lifted (os : Os) (started : os.Started) (H : Type) (enc : TypeId × Value → H) (F : Stop.Interp) :
    ReturnsInHanded {} Tryd.checked os 12 .any ((OpenSpec.ofChange Rows.fnFreeSpaceSpec).preRow enc Tryd.prog Tryd.f12 Rows.fnFreeSpaceRow.domain false Rows.fnFreeSpaceRow.laid) (((OpenSpec.ofChange Rows.fnFreeSpaceSpec).at F).post enc Tryd.prog Tryd.f12 false true false false) := by
  refine returnsInHanded_of_row (C := Tryd.checked) (s := OpenSpec.ofChange Rows.fnFreeSpaceSpec) own started (by kernel_rfl) Tryd.func12
    (witness_row_at (enc := enc) (C := Tryd.checked) false (laidWorld os) #[.slice none 0 0, .slice none 0 0] rfl (by kernel_rfl) (by kernel_rfl) (by kernel_rfl) (witness_row os enc)) ?_
  intro W base args ds gs before hval hW _ _ _ hL hsh _
  have hW' := hW
  obtain ⟨p, q, hA0, hV, rfl, hfz, hnd⟩ := hW
  have hA : DataW.TrodAll enc Tryd.prog W 0 (fun _ => true) true Tryd.f12.params.toList args.toList ds p := hA0
  rw [Tryd.params12] at hA hval
  obtain ⟨v0, vs0, d0, ds0, p0, q0, hargs, rfl, rfl, h0, r0⟩ := trodAll_cons hA
  obtain ⟨v1, vs1, d1, ds1, p1, q1, rfl, rfl, rfl, h1, r1⟩ := trodAll_cons r0
  obtain ⟨rfl, rfl, rfl⟩ := trodAll_nil r1
  obtain rfl : args = #[v0, v1] := by cases args; simp_all
  have hV1 := hV
  obtain ⟨_, _, _, _, dv, _, rfl, _⟩ := trodVars_one hV
  obtain ⟨a0, len0, cap0, rfl⟩ := okWide_slice Tryd.underlying34 (hval 0 34 v0 rfl rfl)
  have k0 := h0
  have lt0 : ∀ x ∈ p0, x.block < W.heap.size := by obtain ⟨m, hm⟩ := k0; exact DataW.trod_lt m _ _ _ hm
  obtain ⟨z0, w0⟩ : ∃ zs, IsRow .u8 W a0 len0 cap0 zs := by
    obtain ⟨fuel, hf⟩ := h0
    rcases open_ints Tryd.underlying34 Tryd.underlying5 (by kernel_rfl) hf with ⟨hcs, _⟩ | ⟨x, l, c, zs, hcs, _, hl, hm, hz, _, hcell, hwz⟩
    · simp [Value.cells] at hcs
      obtain ⟨rfl, rfl, rfl⟩ := hcs
      exact ⟨[], .inl ⟨rfl, rfl, rfl, rfl⟩⟩
    · simp [Value.cells] at hcs
      obtain ⟨rfl, rfl, rfl⟩ := hcs
      exact ⟨zs, .inr ⟨_, rfl, hl, hm, by simpa using hz, hcell, hwz⟩⟩
  obtain ⟨a1, len1, cap1, rfl⟩ := okWide_slice Tryd.underlying34 (hval 1 34 v1 rfl rfl)
  have k1 := h1
  have lt1 : ∀ x ∈ p1, x.block < W.heap.size := by obtain ⟨m, hm⟩ := k1; exact DataW.trod_lt m _ _ _ hm
  obtain ⟨z1, w1⟩ : ∃ zs, IsRow .u8 W a1 len1 cap1 zs := by
    obtain ⟨fuel, hf⟩ := h1
    rcases open_ints Tryd.underlying34 Tryd.underlying5 (by kernel_rfl) hf with ⟨hcs, _⟩ | ⟨x, l, c, zs, hcs, _, hl, hm, hz, _, hcell, hwz⟩
    · simp [Value.cells] at hcs
      obtain ⟨rfl, rfl, rfl⟩ := hcs
      exact ⟨[], .inl ⟨rfl, rfl, rfl, rfl⟩⟩
    · simp [Value.cells] at hcs
      obtain ⟨rfl, rfl, rfl⟩ := hcs
      exact ⟨zs, .inr ⟨_, rfl, hl, hm, by simpa using hz, hcell, hwz⟩⟩
  clear hA0
  refine (walk W a0 len0 cap0 z0 w0 a1 len1 cap1 z1 w1 hL hsh).mono fun e W' ⟨he, bel⟩ => ?_
  subst he
  exact ⟨_, rfl, _, _, _, [], _, q, hW', trodAll_mk1 (shut_bool Tryd.underlying4 _), (trodAll_cons_mk (Below.trod laidOut (by kernel_rfl) (of_decide_eq_true (by kernel_rfl)) k0 bel lt0) (trodAll_cons_mk (Below.trod laidOut (by kernel_rfl) (of_decide_eq_true (by kernel_rfl)) k1 bel lt1) trodAll_mk0)), (Below.trodVars laidOut bel (by kernel_rfl) hV1), bel.frame _, fun h => by cases h⟩

theorem said : Rows.FnFreeSpaceSaid :=
  OpenClaim.holds_of_cond 12 Tryd.f12 rfl rfl rfl rfl rfl rfl rfl ⟨rfl, rfl, rfl, rfl, rfl⟩ rfl rfl rfl rfl rfl (by kernel_rfl) Tryd.func12 (by kernel_rfl)
    (of_decide_eq_true (by kernel_rfl)) (by unfold Func.isWrapper; first | (rw [if_pos (by decide +kernel)]; kernel_rfl) | (rw [if_neg (by decide +kernel)]; exact ⟨rfl, rfl⟩))
    (fun os started H enc _ F => by rw [OpenClaim.pre_eq_preRow]; exact lifted os started H enc F)

theorem plain (f : FuncId) (fn : Func) (hf : Tryd.pinned.checked.prog.funcNamed "loop.example/g00925/laws.FnFreeSpace" = some f) (hfn : Tryd.pinned.checked.prog.funcs[f]? = some fn) :
    false = Tryd.pinned.checked.prog.looks [] ∧ ∀ (j : Nat) t, fn.params[j]? = some t → Tryd.pinned.checked.prog.wantsStandIn t = false := by
  obtain rfl : f = 12 := Option.some.inj ((show Tryd.prog.funcNamed "loop.example/g00925/laws.FnFreeSpace" = some 12 by kernel_rfl).symm.trans hf) |>.symm
  obtain rfl : fn = Tryd.f12 := (Option.some.inj (Tryd.func12.symm.trans hfn)).symm
  refine ⟨by kernel_rfl, fun j t ht => ?_⟩
  rw [Tryd.params12] at ht
  have ht' := Array.mem_of_getElem? ht
  simp at ht'
  obtain rfl : t = 34 := by simpa using ht'
  exact (show Tryd.prog.wantsStandIn 34 = false by kernel_rfl)

/-- The statement: the tied card. -/
theorem card : Rows.FnFreeSpaceCardSaid :=
  Claim7.holds_tied_plain_at .later [] _ _ _ _ said (fun _ h => by cases h) (by kernel_rfl) (fun _ h => by cases h) fnFreeSpace_row_tie rfl ⟨rfl, rfl⟩ (by kernel_rfl) rfl plain (by kernel_rfl)
end Go.Proofs.YtnbkdekndflefaaDoor.fnFreeSpace
