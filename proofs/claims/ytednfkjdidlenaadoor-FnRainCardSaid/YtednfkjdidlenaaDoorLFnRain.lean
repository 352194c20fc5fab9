/-
  For all bytes the losses of the surroundings grow with rain, depth and distance and are the same for exchanged ends: the statement FnRain, as a card. Its row lists the program's variables of spans and of surroundings, tied to the text by the card; no other condition (more than 1048576 bytes are let pass by the statement itself).
-/
import Derived.Test.YtednfkjdidlenaaDoorCards
import Derived.Test.YtednfkjdidlenaaDoorTie
import Derived.Test.YtednfkjdidlenaaDoorRainFive
import Derived.Test.YtednfkjdidlenaaDoorFreeLaw
import Derived.Test.YtednfkjdidlenaaDoorSpanTab
import Derived.Test.YtednfkjdidlenaaDoorSurrTab
import Derived.Deep.DeepCutAuto
import Derived.Deep.RegionHeld3
import Derived.WalkKit
import Derived.ProofKit
import Derived.OpenShut
import Derived.ShutString
import Derived.Below
import Derived.ChangeOld
import Derived.OpenVars
import Derived.ChangeVars
import Derived.Deep.DeepHandedRow
import Derived.Lib.LaidTab
namespace Go.Proofs.YtednfkjdidlenaaDoor.fnRain
open Go.ChangeShapes Go.WideShapes Go.ChangeAt Go.RowKit
open Go.ChangeMaps (open_string shut_string)
set_option linter.unusedVariables false

theorem own : ownKnob Tryd.prog.godebug = none := by kernel_rfl
theorem laidOut : laidOutB Tryd.prog = true := by kernel_rfl

/-- What the walk is told of a slice of integers that came in: it is nil; or it leads to a row of 'cap' cells, the numbers 'zs' (the first 'len' are its elements), each fitting its kind. -/
def IsRow (k : IntKind) (w : World) (a : Option Addr) (len cap : Nat) (zs : List Int) : Prop :=
  (a = none ∧ len = 0 ∧ cap = 0 ∧ zs = []) ∨
  ∃ x, a = some x ∧ len ≤ cap ∧ cap ≤ maxLen ∧ zs.length = cap ∧ (∀ i, i < zs.length → w.cell? (x.add i) = some (.int k (zs.getD i 0))) ∧ ∀ n ∈ zs, (Lit.int k n).wf = true

set_option maxRecDepth 100000 in
set_option maxHeartbeats 100000000 in
/-- The walk. -/
theorem walk (w : World) (a0 : Option Addr) (len0 cap0 : Nat) (z0 : List Int) (w0 : IsRow .u8 w a0 len0 cap0 z0) (a1 : Option Addr) (len1 cap1 : Nat) (z1 : List Int) (w1 : IsRow .u8 w a1 len1 cap1 z1) (hL : laidMetH Tryd.prog Rows.fnRainRow.laid w) (hsh : w.ShapedOpen Tryd.prog) :
    Calls Tryd.prog 3 #[.slice a0 len0 cap0, .slice a1 len1 cap1] w fun e w' => e = .returned (.bool true) ∧ Below w.heap.size w w' := by
  have HT := Lib.hid (SpanTab.spanG (W := w) (l := Rows.fnRainRow.laid) hL (.head _))
  have HU := Lib.hid (SurrTab.surrG (W := w) (l := Rows.fnRainRow.laid) hL (.tail _ (.head _)))
  clear hL hsh
  by_cases hl0 : 1048576 < len0
  · clear w0 w1
    go_enter Tryd.func3, Tryd.ntmps3
    go_wp2_with (go_at_call 4; first | (refine (Draw.short _ _ _ _ (by assumption)).mono ?_; rintro e w' ⟨rfl, rfl⟩) | (refine (Draw.long _ _ _ _ (by assumption)).mono ?_; rintro e w' ⟨rfl, rfl⟩))
    go_ret
    exact ⟨rfl, Below.refl _ _⟩
  · by_cases hl1 : 1048576 < len1
    · clear w0 w1
      go_enter Tryd.func3, Tryd.ntmps3
      go_wp2_with (go_at_call 4; first | (refine (Draw.short _ _ _ _ (by assumption)).mono ?_; rintro e w' ⟨rfl, rfl⟩) | (refine (Draw.long _ _ _ _ (by assumption)).mono ?_; rintro e w' ⟨rfl, rfl⟩))
      go_ret
      exact ⟨rfl, Below.refl _ _⟩
    · have HC0 := Lib.hid (Draw.code_of hl0 w0)
      have HC1 := Lib.hid (Draw.code_of hl1 w1)
      clear w0 w1
      go_enter Tryd.func3, Tryd.ntmps3
      go_wp2_with (go_at_call 4; refine (Draw.short _ _ _ _ (by assumption)).mono ?_; rintro e w' ⟨rfl, rfl⟩)
      refine (Draw.DrawLossesOf _ _ HC0.out).mono ?_
      rintro e u1 ⟨f, d, r, v1, v2, zs, hs, rfl, ⟨-, -, d8, d9, r8, r9⟩, i1, i2, l1, l2, k1⟩
      have B1 := Lib.hid (show On w u1 from k1)
      have I1 := Lib.hid i1
      have I2 := Lib.hid i2
      clear k1 i1 i2 HC0
      by_cases hc : Losses.codeL f d r zs hs = 0
      · obtain ⟨c0, c1, a0, a1, rfl, rfl, gf, gd, gr, g0, g1, q0, q1⟩ := RainLaw.of_code hc
        clear hc l1 l2
        obtain ⟨f0, f1⟩ := Plain.of_inB gf
        obtain ⟨d0, d1⟩ := Plain.of_inB gd
        obtain ⟨r0, r1⟩ := Plain.of_inB gr
        have j1 := I1.out
        have j2 := I2.out
        obtain ⟨aa, cap0, rfl, -⟩ := j1
        obtain ⟨bb, cap1, rfl, -⟩ := j2
        obtain ⟨b0, o0, rfl, hb0, hc0⟩ := Losses.slice_of I1.out rfl (by simp)
        obtain ⟨b1, o1, rfl, hb1, hc1⟩ := Losses.slice_of I2.out rfl (by simp)
        have X0 := Lib.hid (show u1.cell? ⟨b0, o0, none⟩ = some (.int .i64 c0) from hc0 0 (by simp))
        have X1 := Lib.hid (show u1.cell? ⟨b0, o0 + 1, none⟩ = some (.int .i64 c1) from hc0 1 (by simp))
        have Y0 := Lib.hid (show u1.cell? ⟨b1, o1, none⟩ = some (.int .i64 a0) from hc1 0 (by simp))
        have Y1 := Lib.hid (show u1.cell? ⟨b1, o1 + 1, none⟩ = some (.int .i64 a1) from hc1 1 (by simp))
        simp only [List.length_cons, List.length_nil, Nat.zero_add, Nat.reduceAdd] at *
        clear hc0 hc1
        obtain ⟨m0, m1⟩ : 0 ≤ Plain.clutV c0.toNat f a0 ∧ Plain.clutV c0.toNat f a0 ≤ 720000000 := Plain.clut_bd (by have := Plain.of_inB g0; omega) (Plain.of_inB q0).1
        obtain ⟨m2, m3⟩ : 0 ≤ Plain.clutV c1.toNat f a1 ∧ Plain.clutV c1.toNat f a1 ≤ 720000000 := Plain.clut_bd (by have := Plain.of_inB g1; omega) (Plain.of_inB q1).1
        have hk8 : c0.toNat < 8 := by have := Plain.of_inB g0; omega
        have HP := Lib.hid (fun w' (ho : On w w') (v0 v1 : Value) (h0 : Ints.Ints w' v0 [c0, c1]) (h1 : Ints.Ints w' v1 [a0, a1]) => show Calls Tryd.prog 6 #[.int .i64 f, .int .i64 d, .int .i64 r, v0, v1] w' fun e w'' => e = .returned (RainLaw.good f d r (Plain.clutV c0.toNat f a0 + Plain.clutV c1.toNat f a1)) ∧ On w' w'' from by
          have := Losses.impl_losses f d r v0 v1 [c0, c1] [a0, a1] w' h0 h1 (HT.out.on ho) (HU.out.on ho)
          rw [RainLaw.res_good gf gd gr g0 g1 q0 q1] at this; exact this)
        have HQ := Lib.hid (fun w' (ho : On w w') (v0 v1 : Value) (h0 : Ints.Ints w' v0 [c1, c0]) (h1 : Ints.Ints w' v1 [a1, a0]) => show Calls Tryd.prog 6 #[.int .i64 f, .int .i64 d, .int .i64 r, v0, v1] w' fun e w'' => e = .returned (RainLaw.good f d r (Plain.clutV c0.toNat f a0 + Plain.clutV c1.toNat f a1)) ∧ On w' w'' from by
          have := Losses.impl_losses f d r v0 v1 [c1, c0] [a1, a0] w' h0 h1 (HT.out.on ho) (HU.out.on ho)
          rw [RainLaw.res_good gf gd gr g1 g0 q1 q0, Int.add_comm] at this; exact this)
        have HN := Lib.hid (fun w' (ho : On w w') (v0 v1 : Value) (h0 : Ints.Ints w' v0 [c0, c1]) (h1 : Ints.Ints w' v1 [a0, a1]) (hd : d < 283000) => show Calls Tryd.prog 6 #[.int .i64 f, .int .i64 (d + 1), .int .i64 r, v0, v1] w' fun e w'' => e = .returned (RainLaw.good f (d + 1) r (Plain.clutV c0.toNat f a0 + Plain.clutV c1.toNat f a1)) ∧ On w' w'' from by
          have := Losses.impl_losses f (d + 1) r v0 v1 [c0, c1] [a0, a1] w' h0 h1 (HT.out.on ho) (HU.out.on ho)
          rw [RainLaw.res_good gf (Plain.inB_yes (by omega) (by omega)) gr g0 g1 q0 q1] at this; exact this)
        have M1 := Lib.hid (fun hd : d < 283000 => (⟨Plain.rainL_mono (f := f) r0 r1 d0 hd, Plain.gasL_mono (f := f) d0 hd, Plain.freeV_mono (f := f) d0 (by omega : d ≤ d + 1)⟩ : Plain.rainL f r d ≤ Plain.rainL f r (d + 1) ∧ Plain.gasL f d ≤ Plain.gasL f (d + 1) ∧ Plain.freeV f d ≤ Plain.freeV f (d + 1)))
        have M2 := Lib.hid (fun hr : r < 200 => Plain.rainS_mono (f := f) r0 hr)
        have R1 := Lib.hid (fun w' (ho : On w w') => RainLaw.rain_yes f r w' (HT.out.on ho) f0 f1 r0 r1)
        have R2 := Lib.hid (fun w' (ho : On w w') (hr : r < 200) => RainLaw.rain_yes f (r + 1) w' (HT.out.on ho) f0 f1 (by omega) (by omega))
        have HH := Lib.hid (fun w' (ho : On w w') => RainLaw.high_yes c0 w' (HT.out.on ho) (HU.out.on ho) g0)
        have HC := Lib.hid (fun (a : Int) w' (ho : On w w') (h0 : 0 ≤ a) (h1 : a ≤ 90000) => RainLaw.clut_yes c0 f a w' (HT.out.on ho) (HU.out.on ho) g0 f0 f1 h0 h1)
        have HV := Lib.hid (fun (z : Int) w' (ho : On w w') (h0 : 0 ≤ z) (h1 : z ≤ 1000) => RainLaw.veg_yes f z w' (HT.out.on ho) f0 f1 h0 h1)
        obtain ⟨e0, e1⟩ := Plain.freeV_bd (f := f) (d := d) (by omega) (by omega)
        obtain ⟨e2, e3⟩ := Plain.gasL_bd (f := f) d0 d1
        obtain ⟨e4, e5⟩ := Plain.rainL_bd (f := f) r0 r1 d0 d1
        obtain ⟨K, hK⟩ : ∃ K, K = Plain.clutV c0.toNat f a0 + Plain.clutV c1.toNat f a1 := ⟨_, rfl⟩
        have k0 : 0 ≤ K := by omega
        have k1 : K ≤ 1440000000 := by omega
        rw [← hK] at HP HQ HN
        clear hK m0 m1 m2 m3 gf gd gr g0 g1 q0 q1
        unfold RainLaw.good at HP HQ HN
        generalize Plain.freeV f d = FV at *
        generalize Plain.gasL f d = GV at *
        generalize Plain.rainL f r d = RV at *
        generalize Plain.freeV f (d + 1) = F2 at *
        generalize Plain.gasL f (d + 1) = G2 at *
        generalize Plain.rainL f r (d + 1) = R3 at *
        have wk2 : IntKind.i64.wrap (FV + GV) = FV + GV := IntWalk.i64_in _ (by omega)
        have wk3 : IntKind.i64.wrap (FV + GV + RV) = FV + GV + RV := IntWalk.i64_in _ (by omega)
        have wk4 : IntKind.i64.wrap (FV + GV + RV + K) = FV + GV + RV + K := IntWalk.i64_in _ (by omega)
        have wd : IntKind.i64.wrap (d + 1) = d + 1 := IntWalk.i64_in _ (by omega)
        have wr : IntKind.i64.wrap (r + 1) = r + 1 := IntWalk.i64_in _ (by omega)
        go_wp2_with fail
        refine (HP.out _ B1.out _ _ I1.out I2.out).mono ?_
        rintro e u2 ⟨rfl, k2⟩
        have B2 := Lib.hid (On.trans B1.out k2)
        obtain ⟨W, hW⟩ : ∃ W, W = u2.alloc (.cells #[.int .i64 FV, .int .i64 GV, .int .i64 RV, .int .i64 K, .int .i64 (FV + GV + RV + K)] 28) := ⟨_, rfl⟩
        have OW := Lib.hid (show On u1 W by rw [hW]; exact On.alloc k2 _)
        have BW := Lib.hid (On.trans B1.out OW.out)
        have x0 := (OW.out.cell (p := ⟨b0, o0, none⟩) (by exact hb0)).trans X0.out
        have x1 := (OW.out.cell (p := ⟨b0, o0 + 1, none⟩) (by exact hb0)).trans X1.out
        have y0 := (OW.out.cell (p := ⟨b1, o1, none⟩) (by exact hb1)).trans Y0.out
        have y1 := (OW.out.cell (p := ⟨b1, o1 + 1, none⟩) (by exact hb1)).trans Y1.out
        have hx : u2.heap.size < W.heap.size := by rw [hW]; simp
        have hy0 : b0 < W.heap.size := OW.out.lts _ hb0
        have hy1 : b1 < W.heap.size := OW.out.lts _ hb1
        have t0 : W.cell? ⟨u2.heap.size, 0, none⟩ = some (.int .i64 FV) := by rw [hW]; simp [go_sem]
        have t1 : W.cell? ⟨u2.heap.size, 1, none⟩ = some (.int .i64 GV) := by rw [hW]; simp [go_sem]
        have t2 : W.cell? ⟨u2.heap.size, 2, none⟩ = some (.int .i64 RV) := by rw [hW]; simp [go_sem]
        have t3 : W.cell? ⟨u2.heap.size, 3, none⟩ = some (.int .i64 K) := by rw [hW]; simp [go_sem]
        have t4 : W.cell? ⟨u2.heap.size, 4, none⟩ = some (.int .i64 (FV + GV + RV + K)) := by rw [hW]; simp [go_sem]
        have HW := Lib.hid hW
        clear hW k2 B1 B2
        have b9 : (FV + GV + RV + K != FV + GV + RV + K) = false := bne_self_eq_false _
        have b8 : (K != K) = false := bne_self_eq_false _
        go_upto_region 9 with fail
        rw [← HW.out]
        go_cut [12, 13] (fun sg sc wx => ∃ (WX : World) (g : Nat), WX = wx ∧ sg = .pointer (some ⟨g, 0, none⟩) ∧ sc = .int .i64 0 ∧ g < WX.heap.size ∧ WX.cell? ⟨g, 0, none⟩ = some (.int .i64 FV) ∧ WX.cell? ⟨g, 1, none⟩ = some (.int .i64 GV) ∧ WX.cell? ⟨g, 2, none⟩ = some (.int .i64 RV) ∧ WX.cell? ⟨g, 3, none⟩ = some (.int .i64 K) ∧ WX.cell? ⟨g, 4, none⟩ = some (.int .i64 (FV + GV + RV + K)) ∧ On W WX)
        case first => as_aux_lemma =>
          clear wk2 wk3 wk4 wd wr b9 b8 e0 e1 e2 e3 e4 e5 k0 k1 t0 t1 t2 t3 t4 d8 d9 r8 r9 f0 f1 d0 d1 r0 r1 hk8 HC1 X0 X1 Y0 Y1 I1 I2 HP HN M1 M2 R1 R2 HH HC HV hl0 hl1 hb0 hb1 HT HU
          go_region_held3 (fun w' => On W w' ∧ w'.cell? ⟨b0, o0, none⟩ = some (.int .i64 c0) ∧ w'.cell? ⟨b0, o0 + 1, none⟩ = some (.int .i64 c1) ∧ w'.cell? ⟨b1, o1, none⟩ = some (.int .i64 a0) ∧ w'.cell? ⟨b1, o1 + 1, none⟩ = some (.int .i64 a1))
            ((refine RainLaw.held4 x0 x1 y0 y1 ?_; repeat (first | with_reducible exact On.refl _ | with_reducible assumption | apply On.alloc | apply On.drew | (obtain ⟨hOW, _⟩ := ‹On W _ ∧ _›; exact hOW) | (focus (refine On.setCell ?_ ?_ _; rotate_left; ((try simp) <;> omega))) | (refine On.trans ?_ (by assumption)))))
            (first
              | (go_at_call 6; refine (HQ.out _ (On.trans BW.out (by repeat (first | with_reducible exact On.refl _ | with_reducible assumption | apply On.alloc | apply On.drew | (obtain ⟨hOW, _⟩ := ‹On W _ ∧ _›; exact hOW) | (focus (refine On.setCell ?_ ?_ _; rotate_left; ((try simp) <;> omega))) | (refine On.trans ?_ (by assumption))))) _ _ (RainLaw.ints2 (by first | go_simp | simp [go_sem]) (by first | go_simp | simp [go_sem])) (RainLaw.ints2 (by first | go_simp | simp [go_sem]) (by first | go_simp | simp [go_sem]))).mono ?_; rintro e w' ⟨rfl, hcall⟩; (try (with_reducible replace hcall := On.undrew hcall)); obtain ⟨hc, hf⟩ := bcell hcall; have hgr := hcall.lts; (try (have hl0 := On.last hcall)); have hsz := hcall.size; (try simp at hsz)))
          all_goals
            go_wp2_with fail
            go_meet
            obtain ⟨hOW, -⟩ := ‹On W _ ∧ _›
            refine ⟨_, _, rfl, rfl, rfl, ?_⟩
            first | with_reducible exact RainLaw.fresh5 hOW | exact RainLaw.five (RainLaw.zeros hc (by first | with_reducible exact RainLaw.z1 _ _ _ _ | with_reducible exact RainLaw.z2 _ _ _ _ | with_reducible exact RainLaw.z3 _ _ _ _)) hOW
        case rest => as_aux_lemma =>
          obtain ⟨WX, g, hWX, rfl, rfl, hg, s0, s1, s2, s3, s4, kX⟩ := hcut
          rw [← hWX]
          clear hWX HQ x0 x1 y0 y1
          have t0 := (kX.cell (p := ⟨u2.heap.size, 0, none⟩) (by exact hx)).trans t0
          have t1 := (kX.cell (p := ⟨u2.heap.size, 1, none⟩) (by exact hx)).trans t1
          have t2 := (kX.cell (p := ⟨u2.heap.size, 2, none⟩) (by exact hx)).trans t2
          have t3 := (kX.cell (p := ⟨u2.heap.size, 3, none⟩) (by exact hx)).trans t3
          have t4 := (kX.cell (p := ⟨u2.heap.size, 4, none⟩) (by exact hx)).trans t4
          have hx' := kX.lts _ hx
          have OX := Lib.hid (On.trans OW.out kX)
          have BX := Lib.hid (On.trans BW.out kX)
          clear kX OW BW HW
          go_upto_if 119 with fail
          go_cut [14, 15] (fun _ _ wx => ∃ WY : World, WY = wx ∧ On WX WY)
          case first => as_aux_lemma =>
            by_cases hd : d < 283000
            · obtain ⟨n0, n1, n2⟩ := M1.out hd
              have n0' : ¬ R3 < RV := by omega
              have n1' : ¬ G2 < GV := by omega
              have n2' : ¬ F2 < FV := by omega
              go_wp2_with fail
              refine (HN.out _ BX.out _ _ (I1.out.below OX.out) (I2.out.below OX.out) hd).mono ?_
              rintro e u3 ⟨rfl, k3⟩
              have hx3 := k3.lts _ hx'
              have nx : u2.heap.size ≠ u3.heap.size := Nat.ne_of_lt hx3
              have p0 := (k3.cell (p := ⟨u2.heap.size, 0, none⟩) (by exact hx')).trans t0
              have p1 := (k3.cell (p := ⟨u2.heap.size, 1, none⟩) (by exact hx')).trans t1
              have p2 := (k3.cell (p := ⟨u2.heap.size, 2, none⟩) (by exact hx')).trans t2
              have p3 := (k3.cell (p := ⟨u2.heap.size, 3, none⟩) (by exact hx')).trans t3
              have K3 := Lib.hid k3
              clear k3
              go_wp2_with fail
              go_meet
              exact ⟨_, rfl, On.alloc K3.out _⟩
            · go_wp2_with fail
              go_meet
              exact ⟨_, rfl, On.refl _⟩
          case rest => as_aux_lemma =>
            obtain ⟨WY, hWY, kY⟩ := hcut
            rw [← hWY]
            have OY := Lib.hid (On.trans OX.out kY)
            have BY := Lib.hid (On.trans BX.out kY)
            clear hWY kY OX BX t0 t1 t2 t3 t4 s0 s1 s2 s3 s4 hx hx' hg M1 HN HP
            go_upto_if 161 with fail
            go_cut [16, 17, 18, 19] (fun _ _ _ _ wx => ∃ WZ : World, WZ = wx ∧ On WY WZ)
            case first => as_aux_lemma =>
              by_cases hr : r < 200
              · have n0 := M2.out hr
                have n0' : ¬ Plain.rainS f (r + 1) < Plain.rainS f r := by omega
                generalize Plain.rainS f (r + 1) = S2 at *
                generalize Plain.rainS f r = S1 at *
                go_wp2_with fail
                refine (R1.out _ BY.out).mono ?_
                rintro e u3 ⟨rfl, k3⟩
                have K3 := Lib.hid k3
                clear k3
                go_wp2_with fail
                refine (R2.out _ (On.trans BY.out K3.out) hr).mono ?_
                rintro e u4 ⟨rfl, k4⟩
                have K4 := Lib.hid (On.trans K3.out k4)
                clear k4
                go_wp2_with fail
                go_meet
                exact ⟨_, rfl, K4.out⟩
              · go_wp2_with fail
                go_meet
                exact ⟨_, rfl, On.refl _⟩
            case rest => as_aux_lemma =>
              obtain ⟨WZ, hWZ, kZ⟩ := hcut
              rw [← hWZ]
              have OZ := Lib.hid (On.trans OY.out kZ)
              have BZ := Lib.hid (On.trans BY.out kZ)
              clear hWZ kZ OY BY R1 R2 M2
              have z0 := (OZ.out.cell (p := ⟨b0, o0, none⟩) (by exact hb0)).trans X0.out
              have zb := OZ.out.lts _ hb0
              go_wp2_with fail
              refine (HH.out _ BZ.out).mono ?_
              rintro e u3 ⟨rfl, k3⟩
              have K3 := Lib.hid (On.trans BZ.out k3)
              clear k3 z0
              have hh := Plain.high_bd hk8
              have HC3 := Lib.hid (fun w' (ho : On w w') => HC.out (Plain.highV c0.toNat) w' ho hh.1 (by omega))
              rw [Plain.clut_top] at HC3
              go_wp2_with fail
              refine (HC3.out _ K3.out).mono ?_
              rintro e u4 ⟨rfl, k4⟩
              have K4 := Lib.hid (On.trans K3.out k4)
              clear k4
              go_wp2_with fail
              refine (Draw.at_ _ _ 0 250 _ (FreeLaw.code_up HC1.out K4.out) (by decide) (by decide) (by decide) (by decide)).mono ?_
              rintro e u5 ⟨a, rfl, a2, a3, rfl⟩
              go_wp2_with fail
              refine (Draw.at_ _ _ 1 20 _ (FreeLaw.code_up HC1.out K4.out) (by decide) (by decide) (by decide) (by decide)).mono ?_
              rintro e u5 ⟨b, rfl, b2, b3, rfl⟩
              have wab : IntKind.i64.wrap (a + b) = a + b := IntWalk.i64_in _ (by omega)
              have HA := Lib.hid (fun w' (ho : On w w') => HC.out a w' ho a2 (by omega))
              have HB := Lib.hid (fun w' (ho : On w w') => HC.out (a + b) w' ho (by omega) (by omega))
              have VA := Lib.hid (fun w' (ho : On w w') => HV.out a w' ho a2 (by omega))
              have VB := Lib.hid (fun w' (ho : On w w') => HV.out (a + b) w' ho (by omega) (by omega))
              have n1 := Plain.clut_mono (f := f) (a := a) (b := a + b) hk8 a2 (by omega)
              have n2 := (Plain.clut_bd (f := f) (a := a) hk8 a2).1
              have n3 := Plain.leaf_mono (f := f) (a := a) (b := a + b) a2 (by omega) (by omega)
              have n1' : ¬ Plain.clutV c0.toNat f a < Plain.clutV c0.toNat f (a + b) := by omega
              have n2' : ¬ Plain.clutV c0.toNat f a < 0 := by omega
              obtain ⟨n4, n5⟩ := n3
              generalize Plain.clutV c0.toNat f (a + b) = CB at *
              generalize Plain.clutV c0.toNat f a = CA at *
              generalize Plain.leafL f (a + b) = LB at *
              generalize Plain.leafL f a = LA at *
              clear HC HV HC3 HH
              go_wp2_with fail
              refine (HA.out _ K4.out).mono ?_
              rintro e u6 ⟨rfl, k6⟩
              have K6 := Lib.hid (On.trans K4.out k6)
              clear k6
              go_wp2_with fail
              refine (HB.out _ K6.out).mono ?_
              rintro e u7 ⟨rfl, k7⟩
              have K7 := Lib.hid (On.trans K6.out k7)
              clear k7
              go_wp2_with fail
              refine (VA.out _ K7.out).mono ?_
              rintro e u8 ⟨rfl, k8⟩
              have K8 := Lib.hid (On.trans K7.out k8)
              clear k8
              go_wp2_with fail
              refine (VB.out _ K8.out).mono ?_
              rintro e u9 ⟨rfl, k9⟩
              have K9 := Lib.hid (On.trans K8.out k9)
              clear k9
              go_wp2_with fail
              go_ret
              exact ⟨rfl, K9.out⟩
      · obtain ⟨c, hcz, hres⟩ := RainLaw.res_err hc
        have HP := Lib.hid (fun w' (ho : On w w') (h0 : Ints.Ints w' v1 zs) (h1 : Ints.Ints w' v2 hs) => Losses.impl_losses f d r v1 v2 zs hs w' h0 h1 (HT.out.on ho) (HU.out.on ho))
        rw [hres] at HP
        have hcb : (c == 0) = false := beq_eq_false_iff_ne.2 hcz
        have hcn : (c != 0) = true := by simp [bne, hcb]
        clear hc hres
        go_wp2_with fail
        refine (HP.out _ B1.out I1.out I2.out).mono ?_
        rintro e u2 ⟨rfl, k2⟩
        have B2 := Lib.hid (On.trans B1.out k2)
        clear k2
        go_wp2_with fail
        go_ret
        exact ⟨rfl, On.alloc B2.out _⟩

/-- How many blocks the settled world has. -/
noncomputable def low : Nat := (World.holding Tryd.prog default ⟨#[], #[], []⟩).heap.size
/-- A world for the witness: the settled one, each listed variable holding what the program's text lays. -/
noncomputable def laidWorld (os : Os) : World :=
  let w0 := World.holding Tryd.prog os ⟨#[], #[], []⟩
  let h0 := w0.heap.modify 1 fun
    | .cells _ t frozen => .cells #[.int .i64 1, .int .i64 100000000, .int .i64 1, .int .i64 283000, .int .i64 (-300000), .int .i64 300000, .int .i64 (-300000), .int .i64 300000, .int .i64 0, .int .i64 300000, .int .i64 1, .int .i64 100000, .int .i64 0, .int .i64 7, .int .i64 0, .int .i64 90000, .int .i64 0, .int .i64 200, .int .i64 0, .int .i64 1000, .int .i64 1, .int .i64 10000, .int .i64 1, .int .i64 20, .int .i64 0, .int .i64 1000000, .int .i64 25, .int .i64 400, .int .i64 0, .int .i64 100000] t frozen
    | o => o
  let h1 := h0.modify 0 fun
    | .cells _ t frozen => .cells #[.string ⟨#[111, 112, 101, 110]⟩, .int .i64 0, .int .i64 0, .string ⟨#[102, 105, 101, 108, 100]⟩, .int .i64 20, .int .i64 1000, .string ⟨#[119, 97, 116, 101, 114]⟩, .int .i64 10, .int .i64 500, .string ⟨#[116, 114, 101, 101, 115]⟩, .int .i64 120, .int .i64 12000, .string ⟨#[118, 105, 108, 108, 97, 103, 101]⟩, .int .i64 70, .int .i64 8000, .string ⟨#[115, 117, 98, 117, 114, 98]⟩, .int .i64 90, .int .i64 10000, .string ⟨#[116, 111, 119, 110]⟩, .int .i64 160, .int .i64 16000, .string ⟨#[99, 105, 116, 121]⟩, .int .i64 240, .int .i64 20000] t frozen
    | o => o
  { w0 with heap := h1 }
theorem laid_met (os : Os) : laidMet Tryd.prog Rows.fnRainRow.laid ((laidWorld os).forCall (fun _ _ => 0) ⟨#[], #[.slice none 0 0, .slice none 0 0], []⟩).memory :=
  laidMet_of_run' 8 (by kernel_rfl) (by kernel_rfl)
theorem witness_row (os : Os) {H : Type} (enc : TypeId × Value → H) :
    (OpenSpec.ofChange Rows.fnRainSpec).preRow enc Tryd.prog Tryd.f3 Rows.fnRainRow.domain false Rows.fnRainRow.laid ((laidWorld os).forCall (fun _ _ => 0) ⟨#[], #[.slice none 0 0, .slice none 0 0], []⟩).memory #[.slice none 0 0, .slice none 0 0] := by
  have hw : (DataW.whole enc Tryd.prog ((laidWorld os).forCall (fun _ _ => 0) ⟨#[], #[.slice none 0 0, .slice none 0 0], []⟩).memory Tryd.f3.params.toList Rows.fnRainSpec.vars false (#[.slice none 0 0, .slice none 0 0] : Array Value).toList 8).map (fun x => (x.1, x.2.1)) = some ([.nil, .nil], [Rows.laid_loop_example_g00925_impl_quantitySpans, Rows.laid_loop_example_g00925_impl_surroundings]) := by kernel_rfl
  obtain ⟨⟨x1, x2, x3⟩, hx, hx1⟩ := Option.map_eq_some_iff.1 hw
  simp only [Prod.mk.injEq] at hx1
  obtain ⟨rfl, rfl⟩ := hx1
  exact OpenSpec.preRow_of_cond 8 hx (by kernel_rfl) (fun k hk => by cases hk) (by kernel_rfl) (laid_met os)

set_option maxRecDepth 100000 in
/-- The row's step. -/
theorem lifted (os : Os) (started : os.Started) (H : Type) (enc : TypeId × Value → H) (F : Stop.Interp) :
    ReturnsInHanded {} Tryd.checked os 3 .any ((OpenSpec.ofChange Rows.fnRainSpec).preRow enc Tryd.prog Tryd.f3 Rows.fnRainRow.domain false Rows.fnRainRow.laid) (((OpenSpec.ofChange Rows.fnRainSpec).at F).post enc Tryd.prog Tryd.f3 false true false false) := by
  refine returnsInHanded_of_row (C := Tryd.checked) (s := OpenSpec.ofChange Rows.fnRainSpec) own started (by kernel_rfl) Tryd.func3
    (witness_row_at (enc := enc) (C := Tryd.checked) false (laidWorld os) #[.slice none 0 0, .slice none 0 0] rfl (by kernel_rfl) (by kernel_rfl) (by kernel_rfl) (witness_row os enc)) ?_
  intro W base args ds gs before hval hW _ _ _ hL hsh _
  have hW' := hW
  obtain ⟨p, q, hA0, hV, rfl, hfz, hnd⟩ := hW
  have hA : DataW.TrodAll enc Tryd.prog W 0 (fun _ => true) true Tryd.f3.params.toList args.toList ds p := hA0
  rw [Tryd.params3] at hA hval
  obtain ⟨v0, vs0, d0, ds0, p0, q0, hargs, rfl, rfl, h0, r0⟩ := trodAll_cons hA
  obtain ⟨v1, vs1, d1, ds1, p1, q1, rfl, rfl, rfl, h1, r1⟩ := trodAll_cons r0
  obtain ⟨rfl, rfl, rfl⟩ := trodAll_nil r1
  obtain rfl : args = #[v0, v1] := by cases args; simp_all
  have hV1 := hV
  obtain ⟨_, _, _, _, dv0, _, _, _, _, _, dv1, _, rfl, _⟩ := trodVars_two hV
  obtain ⟨a0, len0, cap0, rfl⟩ := okWide_slice Tryd.underlying22 (hval 0 22 v0 rfl rfl)
  have k0 := h0
  have lt0 : ∀ x ∈ p0, x.block < W.heap.size := by obtain ⟨m, hm⟩ := k0; exact DataW.trod_lt m _ _ _ hm
  obtain ⟨z0, w0⟩ : ∃ zs, IsRow .u8 W a0 len0 cap0 zs := by
    obtain ⟨fuel, hf⟩ := h0
    rcases open_ints Tryd.underlying22 Tryd.underlying5 (by kernel_rfl) hf with ⟨hcs, _⟩ | ⟨x, l, c, zs, hcs, _, hl, hm, hz, _, hcell, hwz⟩
    · simp [Value.cells] at hcs
      obtain ⟨rfl, rfl, rfl⟩ := hcs
      exact ⟨[], .inl ⟨rfl, rfl, rfl, rfl⟩⟩
    · simp [Value.cells] at hcs
      obtain ⟨rfl, rfl, rfl⟩ := hcs
      exact ⟨zs, .inr ⟨_, rfl, hl, hm, by simpa using hz, hcell, hwz⟩⟩
  obtain ⟨a1, len1, cap1, rfl⟩ := okWide_slice Tryd.underlying22 (hval 1 22 v1 rfl rfl)
  have k1 := h1
  have lt1 : ∀ x ∈ p1, x.block < W.heap.size := by obtain ⟨m, hm⟩ := k1; exact DataW.trod_lt m _ _ _ hm
  obtain ⟨z1, w1⟩ : ∃ zs, IsRow .u8 W a1 len1 cap1 zs := by
    obtain ⟨fuel, hf⟩ := h1
    rcases open_ints Tryd.underlying22 Tryd.underlying5 (by kernel_rfl) hf with ⟨hcs, _⟩ | ⟨x, l, c, zs, hcs, _, hl, hm, hz, _, hcell, hwz⟩
    · simp [Value.cells] at hcs
      obtain ⟨rfl, rfl, rfl⟩ := hcs
      exact ⟨[], .inl ⟨rfl, rfl, rfl, rfl⟩⟩
    · simp [Value.cells] at hcs
      obtain ⟨rfl, rfl, rfl⟩ := hcs
      exact ⟨zs, .inr ⟨_, rfl, hl, hm, by simpa using hz, hcell, hwz⟩⟩
  clear hA0
  refine (walk W a0 len0 cap0 z0 w0 a1 len1 cap1 z1 w1 hL hsh).mono fun e W' ⟨he, bel⟩ => ?_
  subst he
  exact ⟨_, rfl, _, _, _, [], _, q, hW', trodAll_mk1 (shut_bool Tryd.underlying4 _), (trodAll_cons_mk (Below.trod laidOut (by kernel_rfl) (of_decide_eq_true (by kernel_rfl)) k0 bel lt0) (trodAll_cons_mk (Below.trod laidOut (by kernel_rfl) (of_decide_eq_true (by kernel_rfl)) k1 bel lt1) trodAll_mk0)), (Below.trodVars laidOut bel (by kernel_rfl) hV1), bel.frame _, fun h => by cases h⟩

theorem said : Rows.FnRainSaid :=
  OpenClaim.holds_of_cond 3 Tryd.f3 rfl rfl rfl rfl rfl rfl rfl ⟨rfl, rfl, rfl, rfl, rfl⟩ rfl rfl rfl rfl rfl (by kernel_rfl) Tryd.func3 (by kernel_rfl)
    (of_decide_eq_true (by kernel_rfl)) (by unfold Func.isWrapper; first | (rw [if_pos (by decide +kernel)]; kernel_rfl) | (rw [if_neg (by decide +kernel)]; exact ⟨rfl, rfl⟩))
    (fun os started H enc _ F => by rw [OpenClaim.pre_eq_preRow]; exact lifted os started H enc F)

theorem plain (f : FuncId) (fn : Func) (hf : Tryd.pinned.checked.prog.funcNamed "loop.example/g00925/laws.FnRain" = some f) (hfn : Tryd.pinned.checked.prog.funcs[f]? = some fn) :
    false = Tryd.pinned.checked.prog.looks [] ∧ ∀ (j : Nat) t, fn.params[j]? = some t → Tryd.pinned.checked.prog.wantsStandIn t = false := by
  obtain rfl : f = 3 := Option.some.inj ((show Tryd.prog.funcNamed "loop.example/g00925/laws.FnRain" = some 3 by kernel_rfl).symm.trans hf) |>.symm
  obtain rfl : fn = Tryd.f3 := (Option.some.inj (Tryd.func3.symm.trans hfn)).symm
  refine ⟨by kernel_rfl, fun j t ht => ?_⟩
  rw [Tryd.params3] at ht
  have ht' := Array.mem_of_getElem? ht
  simp at ht'
  obtain rfl : t = 22 := by simpa using ht'
  exact (show Tryd.prog.wantsStandIn 22 = false by kernel_rfl)

/-- The statement: the tied card. -/
theorem card : Rows.FnRainCardSaid :=
  Claim7.holds_tied_plain_at .later [] _ _ _ _ said (fun _ h => by cases h) (by kernel_rfl) (fun _ h => by cases h) fnRain_row_tie rfl ⟨rfl, rfl⟩ (by kernel_rfl) rfl plain (by kernel_rfl)
end Go.Proofs.YtednfkjdidlenaaDoor.fnRain
