/-
  For all two radios, gains and modes GreatestLoss of the program returns what the model returns, and leaves the radios alone: the statement FnExactGreatestLoss, as a card.
-/
import Derived.Test.YtknggnchldcghacDoorCards
import Derived.Test.YtknggnchldcghacDoorTie
import Derived.Test.YtknggnchldcghacDoorErrLaid
import Derived.Test.YtknggnchldcghacDoorGrt
import Derived.WalkKit
import Derived.ProofKit
import Derived.OpenShut
import Derived.ShutString
import Derived.Below
import Derived.ChangeOld
import Derived.OpenVars
import Derived.ChangeVars
import Derived.Deep.DeepHandedRow
import Derived.Lib.LaidTab
import Derived.LaidHandle
import Derived.Lib.SmallJoins
import Derived.Test.YtknggnchldcghacDoorAgg6
namespace Go.Proofs.YtknggnchldcghacDoor.fnExactGreatestLoss
open Go.ChangeShapes Go.WideShapes Go.ChangeAt Go.RowKit
open Go.ChangeMaps (open_string shut_string)
set_option linter.unusedVariables false

theorem own : ownKnob Tryd.prog.godebug = none := by kernel_rfl
theorem laidOut : laidOutB Tryd.prog = true := by kernel_rfl

set_option maxRecDepth 100000 in
set_option maxHeartbeats 4000000 in
/-- The walk. -/
theorem walk (w : World) (x0_0 : ByteArray) (wx0_0 : x0_0.size ≤ maxLen) (x0_1 : Int) (wx0_1 : (Lit.int .i64 x0_1).wf = true) (x0_2 : Int) (wx0_2 : (Lit.int .i64 x0_2).wf = true) (x0_3 : Int) (wx0_3 : (Lit.int .i64 x0_3).wf = true) (x0_4 : Int) (wx0_4 : (Lit.int .i64 x0_4).wf = true) (a0_5 : Option Addr) (len0_5 cap0_5 : Nat) (z0_5 : List (Int × Int)) (w0_5 : Modes.IsPts w a0_5 len0_5 cap0_5 z0_5) (a1 : Int) (w1 : (Lit.int .i64 a1).wf = true) (x2_0 : ByteArray) (wx2_0 : x2_0.size ≤ maxLen) (x2_1 : Int) (wx2_1 : (Lit.int .i64 x2_1).wf = true) (x2_2 : Int) (wx2_2 : (Lit.int .i64 x2_2).wf = true) (x2_3 : Int) (wx2_3 : (Lit.int .i64 x2_3).wf = true) (x2_4 : Int) (wx2_4 : (Lit.int .i64 x2_4).wf = true) (a2_5 : Option Addr) (len2_5 cap2_5 : Nat) (z2_5 : List (Int × Int)) (w2_5 : Modes.IsPts w a2_5 len2_5 cap2_5 z2_5) (a3 : Int) (w3 : (Lit.int .i64 a3).wf = true) (a4 : Int) (w4 : (Lit.int .i64 a4).wf = true) (hL : laidMetH Tryd.prog Rows.fnExactGreatestLossRow.laid w) (hsh : w.ShapedOpen Tryd.prog) :
    Calls Tryd.prog 11 #[.agg #[.string x0_0, .int .i64 x0_1, .int .i64 x0_2, .int .i64 x0_3, .int .i64 x0_4, .slice a0_5 len0_5 cap0_5], .int .i64 a1, .agg #[.string x2_0, .int .i64 x2_1, .int .i64 x2_2, .int .i64 x2_3, .int .i64 x2_4, .slice a2_5 len2_5 cap2_5], .int .i64 a3, .int .i64 a4] w fun e w' => e = .returned (.bool true) ∧ Below w.heap.size w w' := by
  have EV := Lib.hid (Err.errVar_of_laid hL)
  clear hL hsh
  obtain ⟨hi0_5, hl0_5⟩ := Modes.Pairs.of_arg w0_5
  have m0_5 : len0_5 ≤ maxLen := w0_5.cap
  obtain ⟨hi2_5, hl2_5⟩ := Modes.Pairs.of_arg w2_5
  have m2_5 : len2_5 ≤ maxLen := w2_5.cap
  have hz := fun w => Rad.count 1048576 x0_0 x0_1 x0_2 x0_3 x0_4 a0_5 len0_5 cap0_5 w (by omega) wx0_0 m0_5
  rw [show (((1048576 : Nat) : Int)) = 1048576 from rfl] at hz
  clear w0_5 w2_5 w1 w3 w4
  rcases Rad.restL_or [x0_0.size, len0_5] 1048576 with hr | ⟨r, hr, hrl, hall⟩
  · rw [hr] at hz
    have HZ := Lib.hid hz
    clear hz hr hi0_5 hl0_5 hi2_5 hl2_5
    go_enter Tryd.func11, Tryd.ntmps11
    go_wp2_with fail
    refine (HZ.out _).mono ?_
    rintro e w1 ⟨rfl, h1⟩
    go_wp2_with fail
    go_ret
    exact ⟨rfl, by repeat (first | with_reducible exact On.refl _ | apply On.alloc | refine On.trans ?_ h1)⟩
  · rw [hr] at hz
    have q0_0 : x0_0.size ≤ 1048576 := hall _ (by simp)
    have q0_5 : len0_5 ≤ 1048576 := hall _ (by simp)
    have hr0 : ¬ ((r : Int) < 0) := by omega
    have HZ := Lib.hid hz
    clear hz hr hall
    have hy := fun w => Rad.count r x2_0 x2_1 x2_2 x2_3 x2_4 a2_5 len2_5 cap2_5 w hrl wx2_0 m2_5
    clear wx0_0 wx0_1 wx0_2 wx0_3 wx0_4 wx2_0 wx2_1 wx2_2 wx2_3 wx2_4 m0_5 m2_5
    rcases Rad.restL_or [x2_0.size, len2_5] r with hs | ⟨s, hs, hsl, hall⟩
    · rw [hs] at hy
      have HY := Lib.hid hy
      clear hy hs hrl hi0_5 hl0_5 hi2_5 hl2_5 q0_0 q0_5
      go_enter Tryd.func11, Tryd.ntmps11
      go_wp2_with fail
      refine (HZ.out _).mono ?_
      rintro e w1 ⟨rfl, h1⟩
      have L1 : Rad.In w1 (w.heap.size + 1) x2_0 x2_1 x2_2 x2_3 x2_4 (.slice a2_5 len2_5 cap2_5) := Rad.In.on ⟨by simp [go_sem], by simp [go_sem], by simp [go_sem], by simp [go_sem], by simp [go_sem], by simp [go_sem]⟩ h1
      obtain ⟨l1_0, l1_1, l1_2, l1_3, l1_4, l1_5⟩ := L1
      have HO1 := Lib.hid (On.trans (On.alloc (On.alloc (On.refl w) _) _) h1)
      clear h1
      go_wp2_with fail
      refine (HY.out _).mono ?_
      rintro e w2 ⟨rfl, h2⟩
      go_wp2_with fail
      go_ret
      exact ⟨rfl, On.trans HO1.out h2⟩
    · rw [hs] at hy
      have q2_0 : x2_0.size ≤ 1048576 := Nat.le_trans (hall _ (by simp)) hrl
      have q2_5 : len2_5 ≤ 1048576 := Nat.le_trans (hall _ (by simp)) hrl
      have hs0 : ¬ ((s : Int) < 0) := by omega
      have HY := Lib.hid hy
      clear hy hs hall hrl hsl
      obtain ⟨z0_5x, hz0_5⟩ : ∃ z, z = z0_5.take len0_5 := ⟨_, rfl⟩
      rw [← hz0_5] at hi0_5 hl0_5
      clear hz0_5
      subst hl0_5
      have H0_5 := Lib.hid hi0_5
      clear hi0_5
      obtain ⟨z2_5x, hz2_5⟩ : ∃ z, z = z2_5.take len2_5 := ⟨_, rfl⟩
      rw [← hz2_5] at hi2_5 hl2_5
      clear hz2_5
      subst hl2_5
      have H2_5 := Lib.hid hi2_5
      clear hi2_5
      have C1 := Lib.hid (fun w' (hb : On w w') => Rad.copy x0_0 x0_1 x0_2 x0_3 x0_4 (.slice a0_5 z0_5x.length cap0_5) z0_5x w' q0_5 (H0_5.out.below hb))
      have C2 := Lib.hid (fun w' (hb : On w w') => Rad.copy x2_0 x2_1 x2_2 x2_3 x2_4 (.slice a2_5 z2_5x.length cap2_5) z2_5x w' q2_5 (H2_5.out.below hb))
      clear H0_5 H2_5
      go_enter Tryd.func11, Tryd.ntmps11
      go_wp2_with fail
      refine (HZ.out _).mono ?_
      rintro e w1 ⟨rfl, h1⟩
      have K1 : Rad.In w1 w.heap.size x0_0 x0_1 x0_2 x0_3 x0_4 (.slice a0_5 z0_5x.length cap0_5) := Rad.In.on ⟨by simp [go_sem], by simp [go_sem], by simp [go_sem], by simp [go_sem], by simp [go_sem], by simp [go_sem]⟩ h1
      have L1 : Rad.In w1 (w.heap.size + 1) x2_0 x2_1 x2_2 x2_3 x2_4 (.slice a2_5 z2_5x.length cap2_5) := Rad.In.on ⟨by simp [go_sem], by simp [go_sem], by simp [go_sem], by simp [go_sem], by simp [go_sem], by simp [go_sem]⟩ h1
      have HO1 := Lib.hid (On.trans (On.alloc (On.alloc (On.refl w) _) _) h1)
      have HK1 := Lib.hid K1
      have HL1 := Lib.hid L1
      obtain ⟨l1_0, l1_1, l1_2, l1_3, l1_4, l1_5⟩ := L1
      clear K1 h1 HZ
      go_wp2_with fail
      refine (HY.out _).mono ?_
      rintro e w2 ⟨rfl, h2⟩
      have K2 := HK1.out.on h2
      have L2 := HL1.out.on h2
      have HO2 := Lib.hid (On.trans HO1.out h2)
      have HK2 := Lib.hid K2
      have HL2 := Lib.hid L2
      obtain ⟨k2_0, k2_1, k2_2, k2_3, k2_4, k2_5⟩ := K2
      obtain ⟨l2_0, l2_1, l2_2, l2_3, l2_4, l2_5⟩ := L2
      clear l1_0 l1_1 l1_2 l1_3 l1_4 l1_5 h2 HY HO1 HK1 HL1
      go_upto_region 8 with fail
      go_cut [12, 13] (fun s6 s7 wx => s6 = .int .i64 (Rad.greV (Rad.okR x0_0 x0_1 x0_2 x0_3 x0_4 z0_5x && Rad.okR x2_0 x2_1 x2_2 x2_3 x2_4 z2_5x) (Rad.gB a1 && (Rad.gB a3 && Rad.moB z2_5x a4)) (Rad.lossN x0_1 x0_2 a1 a3 (Rad.leastV z2_5x a4 x2_2 x2_3 x2_4))) ∧ s7 = .int .i64 (Rad.greC (Rad.okR x0_0 x0_1 x0_2 x0_3 x0_4 z0_5x && Rad.okR x2_0 x2_1 x2_2 x2_3 x2_4 z2_5x) (Rad.gB a1 && (Rad.gB a3 && Rad.moB z2_5x a4)) (Rad.lossN x0_1 x0_2 a1 a3 (Rad.leastV z2_5x a4 x2_2 x2_3 x2_4))) ∧ On w2 wx)
      case first =>
        go_region_with (first
          | (go_at_call 16; refine (C2.out _ (On.trans HO2.out (On.trans ‹On w2 w6› (by repeat (first | with_reducible exact On.refl _ | with_reducible exact Below.refl _ _ | apply On.drew))))).mono ?_; rintro e w7 ⟨a7_5, c7_5, rfl, -, o7_5, h7⟩; (have h67 : On w6 w7 := by refine On.trans ?_ h7; repeat (first | with_reducible exact On.refl _ | apply On.drew)); have B7_5 := Lib.hid o7_5.pairs; clear o7_5; clear h7)
          | (go_at_call 16; refine (C1.out _ (On.trans HO2.out (by repeat (first | with_reducible exact On.refl _ | with_reducible exact Below.refl _ _ | apply On.drew)))).mono ?_; rintro e w6 ⟨a6_5, c6_5, rfl, -, o6_5, h6⟩; (have h26 : On w2 w6 := by refine On.trans ?_ h6; repeat (first | with_reducible exact On.refl _ | apply On.drew)); obtain ⟨r_0, r_1, r_2, r_3, r_4, r_5⟩ := HL2.out.on h26; have A6_5 := Lib.hid o6_5.pairs; clear o6_5; clear h6)
          | (go_at_call 35; refine (Rad.spec_GreatestLoss x0_0 x0_1 x0_2 x0_3 x0_4 _ z0_5x x2_0 x2_1 x2_2 x2_3 x2_4 _ z2_5x a1 a3 a4 _ q0_0 q0_5 q2_0 q2_5 (A6_5.out.below (On.trans ‹On w6 w7› (by repeat (first | with_reducible exact On.refl _ | with_reducible exact Below.refl _ _ | apply On.drew)))) (B7_5.out.below (by repeat (first | with_reducible exact On.refl _ | with_reducible exact Below.refl _ _ | apply On.drew)))).mono ?_; rintro e w8 ⟨rfl, h8⟩; (have h78 : On w7 w8 := by refine On.trans ?_ h8; repeat (first | with_reducible exact On.refl _ | apply On.drew)); clear h8))
        all_goals
          go_wp2_with fail
          go_meet
          exact ⟨rfl, rfl, On.trans ‹On w2 w6› (On.trans ‹On w6 w7› ‹On w7 w8›)⟩
      case rest =>
        obtain ⟨rfl, rfl, hO⟩ := hcut
        have KC := HK2.out.on hO
        have LC := HL2.out.on hO
        have HKC := Lib.hid KC
        have HLC := Lib.hid LC
        have HOC := Lib.hid (On.trans HO2.out hO)
        obtain ⟨kc_0, kc_1, kc_2, kc_3, kc_4, kc_5⟩ := KC
        clear k2_0 k2_1 k2_2 k2_3 k2_4 k2_5 l2_0 l2_1 l2_2 l2_3 l2_4 l2_5 LC hO HK2 HL2 HO2
        go_wp2_with fail
        refine (C1.out _ HOC.out).mono ?_
        rintro e w10 ⟨a10_5, c10_5, rfl, -, o10_5, h10⟩
        have A10_5 := Lib.hid o10_5.pairs; clear o10_5
        have HO10 := Lib.hid (On.trans HOC.out h10)
        have HK10 := Lib.hid (HKC.out.on h10)
        have L10 := HLC.out.on h10
        have HL10 := Lib.hid L10
        obtain ⟨l10_0, l10_1, l10_2, l10_3, l10_4, l10_5⟩ := L10
        have y10 := World.block_lt_of_cell? w10 _ l10_0
        clear kc_0 kc_1 kc_2 kc_3 kc_4 kc_5 h10 HOC HKC HLC
        go_wp2_with fail
        refine (C2.out _ (On.trans HO10.out (by repeat (first | with_reducible exact On.refl _ | with_reducible exact Below.refl _ _ | apply On.alloc | refine On.setCell ?_ (by (try simp) <;> omega) _)))).mono ?_
        rintro e w11 ⟨a11_5, c11_5, rfl, -, o11_5, h11⟩
        have P11 : Rad.In w11 w10.heap.size x0_0 x0_1 x0_2 x0_3 x0_4 (.slice a10_5 z0_5x.length c10_5) := Rad.In.on ⟨by simp [go_sem], by simp [go_sem], by simp [go_sem], by simp [go_sem], by simp [go_sem], by simp [go_sem]⟩ h11
        have h1011 : On w10 w11 := by refine On.trans ?_ h11; repeat (first | with_reducible exact On.refl _ | apply On.alloc | refine On.setCell ?_ (by (try simp) <;> omega) _)
        have A11_5 := Lib.hid (A10_5.out.below h1011)
        have B11_5 := Lib.hid o11_5.pairs; clear o11_5
        have HO11 := Lib.hid (On.trans HO10.out h1011)
        have HK11 := Lib.hid (HK10.out.on h1011)
        have HL11 := Lib.hid (HL10.out.on h1011)
        have HP11 := Lib.hid P11
        obtain ⟨p_0, p_1, p_2, p_3, p_4, p_5⟩ := P11
        have y11 := World.block_lt_of_cell? w11 _ p_0
        clear l10_0 l10_1 l10_2 l10_3 l10_4 l10_5 y10 h11 h1011 A10_5 HO10 HK10 HL10
        go_wp2_with fail
        refine (Rad.impl_GreatestLoss x0_0 x0_1 x0_2 x0_3 x0_4 _ z0_5x x2_0 x2_1 x2_2 x2_3 x2_4 _ z2_5x a1 a3 a4 _ q0_0 q0_5 q2_0 q2_5 (A11_5.out.below (by repeat (first | with_reducible exact On.refl _ | with_reducible exact Below.refl _ _ | apply On.alloc | refine On.setCell ?_ (by (try simp) <;> omega) _))) (B11_5.out.below (by repeat (first | with_reducible exact On.refl _ | with_reducible exact Below.refl _ _ | apply On.alloc | refine On.setCell ?_ (by (try simp) <;> omega) _))) (EV.out.on (HO11.out.trans (by repeat (first | with_reducible exact On.refl _ | with_reducible exact Below.refl _ _ | apply On.alloc | refine On.setCell ?_ (by (try simp) <;> omega) _))))).mono ?_
        rintro e w12 ⟨rfl, h12⟩
        have Q12 : Rad.In w12 w11.heap.size x2_0 x2_1 x2_2 x2_3 x2_4 (.slice a11_5 z2_5x.length c11_5) := Rad.In.on ⟨by simp [go_sem], by simp [go_sem], by simp [go_sem], by simp [go_sem], by simp [go_sem], by simp [go_sem]⟩ h12
        have h1112 : On w11 w12 := by refine On.trans ?_ h12; repeat (first | with_reducible exact On.refl _ | apply On.alloc | refine On.setCell ?_ (by (try simp) <;> omega) _)
        have A12_5 := Lib.hid (A11_5.out.below h1112)
        have B12_5 := Lib.hid (B11_5.out.below h1112)
        have HO12 := Lib.hid (On.trans HO11.out h1112)
        have HK12 := Lib.hid (HK11.out.on h1112)
        have HL12 := Lib.hid (HL11.out.on h1112)
        have HP12 := Lib.hid (HP11.out.on h1112)
        have HQ12 := Lib.hid Q12
        obtain ⟨k12_0, k12_1, k12_2, k12_3, k12_4, k12_5⟩ := HK12.out
        obtain ⟨p12_0, p12_1, p12_2, p12_3, p12_4, p12_5⟩ := HP12.out
        clear p_0 p_1 p_2 p_3 p_4 p_5 y11 h12 h1112 Q12 A11_5 B11_5 HO11 HK11 HL11 HP11
        go_upto_region 14 with fail
        go_cut [64] (fun s wx => s = .bool false ∧ On w12 wx)
        case first =>
          go_region_with (first
            | (go_at_call 16; refine (C1.out _ (On.trans HO12.out (by repeat (first | with_reducible exact On.refl _ | with_reducible exact Below.refl _ _ | apply On.drew)))).mono ?_; rintro e w6 ⟨a6_5, c6_5, rfl, -, o6_5, h6⟩; (have h126 : On w12 w6 := by refine On.trans ?_ h6; repeat (first | with_reducible exact On.refl _ | apply On.drew)); obtain ⟨r_0, r_1, r_2, r_3, r_4, r_5⟩ := HP12.out.on h126; have A6_5 := Lib.hid o6_5.pairs; clear o6_5; clear h6)
            | (go_at_call 18; refine (Rad.eq x0_0 x0_1 x0_2 x0_3 x0_4 _ _ z0_5x _ q0_5 ((A12_5.out.below ‹On w12 _›).below (by repeat (first | with_reducible exact On.refl _ | with_reducible exact Below.refl _ _ | apply On.drew))) (A6_5.out.below (by repeat (first | with_reducible exact On.refl _ | with_reducible exact Below.refl _ _ | apply On.drew)))).mono ?_; rintro e w7 ⟨rfl, h7⟩; (have h67 : On w6 w7 := by refine On.trans ?_ h7; repeat (first | with_reducible exact On.refl _ | apply On.drew)); clear h7))
          all_goals
            go_wp2_with fail
            go_meet
            exact ⟨rfl, On.trans ‹On w12 w6› ‹On w6 w7›⟩
        case rest =>
          obtain ⟨rfl, hO⟩ := hcut
          have BC_5 := Lib.hid (B12_5.out.below hO)
          have HOC := Lib.hid (On.trans HO12.out hO)
          have LC := HL12.out.on hO
          have QC := HQ12.out.on hO
          have HQC := Lib.hid QC
          obtain ⟨lc_0, lc_1, lc_2, lc_3, lc_4, lc_5⟩ := LC
          obtain ⟨qc_0, qc_1, qc_2, qc_3, qc_4, qc_5⟩ := QC
          clear k12_0 k12_1 k12_2 k12_3 k12_4 k12_5 p12_0 p12_1 p12_2 p12_3 p12_4 p12_5 hO A12_5 B12_5 HO12 HK12 HL12 HP12 HQ12
          go_wp2_with fail
          go_region_with (first
            | (go_at_call 16; refine (C2.out _ (On.trans HOC.out (by repeat (first | with_reducible exact On.refl _ | with_reducible exact Below.refl _ _ | apply On.drew)))).mono ?_; rintro e w6 ⟨a6_5, c6_5, rfl, -, o6_5, h6⟩; (have h56 : On wc w6 := by refine On.trans ?_ h6; repeat (first | with_reducible exact On.refl _ | apply On.drew)); obtain ⟨r_0, r_1, r_2, r_3, r_4, r_5⟩ := HQC.out.on h56; have A6_5 := Lib.hid o6_5.pairs; clear o6_5; clear h6)
            | (go_at_call 18; refine (Rad.eq x2_0 x2_1 x2_2 x2_3 x2_4 _ _ z2_5x _ q2_5 ((BC_5.out.below ‹On wc _›).below (by repeat (first | with_reducible exact On.refl _ | with_reducible exact Below.refl _ _ | apply On.drew))) (A6_5.out.below (by repeat (first | with_reducible exact On.refl _ | with_reducible exact Below.refl _ _ | apply On.drew)))).mono ?_; rintro e w7 ⟨rfl, h7⟩; (have h67 : On w6 w7 := by refine On.trans ?_ h7; repeat (first | with_reducible exact On.refl _ | apply On.drew)); clear h7))
          all_goals
            go_wp2_with fail
            go_ret
            exact ⟨rfl, On.trans HOC.out (On.trans ‹On wc w6› ‹On w6 w7›)⟩

/-- How many blocks the settled world has. -/
noncomputable def low : Nat := (World.holding Tryd.prog default ⟨#[], #[], []⟩).heap.size
/-- A world for the witness: the settled one, each listed variable holding what the program's text lays. -/
noncomputable def laidWorld (os : Os) : World :=
  let w0 := World.holding Tryd.prog os ⟨#[], #[], []⟩
  let h0 := w0.heap.modify 0 fun
    | .cells _ t frozen => .cells #[.iface 154 (.agg #[.pointer (some ⟨11, 58, none⟩)])] t frozen
    | o => o
  { w0 with heap := h0 }
theorem laid_met (os : Os) : laidMetH Tryd.prog Rows.fnExactGreatestLossRow.laid ((laidWorld os).forCall (fun _ _ => 0) ⟨#[], #[.agg #[.string ByteArray.empty, .int .i64 0, .int .i64 0, .int .i64 0, .int .i64 0, .slice none 0 0], .int .i64 0, .agg #[.string ByteArray.empty, .int .i64 0, .int .i64 0, .int .i64 0, .int .i64 0, .slice none 0 0], .int .i64 0, .int .i64 0], []⟩).memory :=
  laidMetH_of_parts (laidMet_nil _ _) (by kernel_rfl)
theorem witness_row (os : Os) {H : Type} (enc : TypeId × Value → H) :
    (OpenSpec.ofChange Rows.fnExactGreatestLossSpec).preRow enc Tryd.prog Tryd.f11 Rows.fnExactGreatestLossRow.domain false Rows.fnExactGreatestLossRow.laid ((laidWorld os).forCall (fun _ _ => 0) ⟨#[], #[.agg #[.string ByteArray.empty, .int .i64 0, .int .i64 0, .int .i64 0, .int .i64 0, .slice none 0 0], .int .i64 0, .agg #[.string ByteArray.empty, .int .i64 0, .int .i64 0, .int .i64 0, .int .i64 0, .slice none 0 0], .int .i64 0, .int .i64 0], []⟩).memory #[.agg #[.string ByteArray.empty, .int .i64 0, .int .i64 0, .int .i64 0, .int .i64 0, .slice none 0 0], .int .i64 0, .agg #[.string ByteArray.empty, .int .i64 0, .int .i64 0, .int .i64 0, .int .i64 0, .slice none 0 0], .int .i64 0, .int .i64 0] := by
  have hw : (DataW.whole enc Tryd.prog ((laidWorld os).forCall (fun _ _ => 0) ⟨#[], #[.agg #[.string ByteArray.empty, .int .i64 0, .int .i64 0, .int .i64 0, .int .i64 0, .slice none 0 0], .int .i64 0, .agg #[.string ByteArray.empty, .int .i64 0, .int .i64 0, .int .i64 0, .int .i64 0, .slice none 0 0], .int .i64 0, .int .i64 0], []⟩).memory Tryd.f11.params.toList Rows.fnExactGreatestLossSpec.vars false (#[.agg #[.string ByteArray.empty, .int .i64 0, .int .i64 0, .int .i64 0, .int .i64 0, .slice none 0 0], .int .i64 0, .agg #[.string ByteArray.empty, .int .i64 0, .int .i64 0, .int .i64 0, .int .i64 0, .slice none 0 0], .int .i64 0, .int .i64 0] : Array Value).toList 8).map (fun x => (x.1, x.2.1)) = some ([.agg [.lit (.string []), .lit (.int .i64 0), .lit (.int .i64 0), .lit (.int .i64 0), .lit (.int .i64 0), .nil], .lit (.int .i64 0), .agg [.lit (.string []), .lit (.int .i64 0), .lit (.int .i64 0), .lit (.int .i64 0), .lit (.int .i64 0), .nil], .lit (.int .i64 0), .lit (.int .i64 0)], []) := by kernel_rfl
  obtain ⟨⟨x1, x2, x3⟩, hx, hx1⟩ := Option.map_eq_some_iff.1 hw
  simp only [Prod.mk.injEq] at hx1
  obtain ⟨rfl, rfl⟩ := hx1
  exact OpenSpec.preRow_of_cond 8 hx (by kernel_rfl) (fun k hk => by cases hk) (by kernel_rfl) (laid_met os)

set_option maxRecDepth 100000 in
/-- The row's step. -/
theorem lifted (os : Os) (started : os.Started) (H : Type) (enc : TypeId × Value → H) (F : Stop.Interp) :
    ReturnsInHanded {} Tryd.checked os 11 .any ((OpenSpec.ofChange Rows.fnExactGreatestLossSpec).preRow enc Tryd.prog Tryd.f11 Rows.fnExactGreatestLossRow.domain false Rows.fnExactGreatestLossRow.laid) (((OpenSpec.ofChange Rows.fnExactGreatestLossSpec).at F).post enc Tryd.prog Tryd.f11 false true false false) := by
  refine returnsInHanded_of_row (C := Tryd.checked) (s := OpenSpec.ofChange Rows.fnExactGreatestLossSpec) own started (by kernel_rfl) Tryd.func11
    (witness_row_at (enc := enc) (C := Tryd.checked) false (laidWorld os) #[.agg #[.string ByteArray.empty, .int .i64 0, .int .i64 0, .int .i64 0, .int .i64 0, .slice none 0 0], .int .i64 0, .agg #[.string ByteArray.empty, .int .i64 0, .int .i64 0, .int .i64 0, .int .i64 0, .slice none 0 0], .int .i64 0, .int .i64 0] rfl (by kernel_rfl) (by kernel_rfl) (by kernel_rfl) (witness_row os enc)) ?_
  intro W base args ds gs before hval hW _ _ _ hL hsh _
  have hW' := hW
  obtain ⟨p, q, hA0, hV, rfl, hfz, hnd⟩ := hW
  have hA : DataW.TrodAll enc Tryd.prog W 0 (fun _ => true) true Tryd.f11.params.toList args.toList ds p := hA0
  rw [Tryd.params11] at hA hval
  obtain ⟨v0, vs0, d0, ds0, p0, q0, hargs, rfl, rfl, h0, r0⟩ := trodAll_cons hA
  obtain ⟨v1, vs1, d1, ds1, p1, q1, rfl, rfl, rfl, h1, r1⟩ := trodAll_cons r0
  obtain ⟨v2, vs2, d2, ds2, p2, q2, rfl, rfl, rfl, h2, r2⟩ := trodAll_cons r1
  obtain ⟨v3, vs3, d3, ds3, p3, q3, rfl, rfl, rfl, h3, r3⟩ := trodAll_cons r2
  obtain ⟨v4, vs4, d4, ds4, p4, q4, rfl, rfl, rfl, h4, r4⟩ := trodAll_cons r3
  obtain ⟨rfl, rfl, rfl⟩ := trodAll_nil r4
  obtain rfl : args = #[v0, v1, v2, v3, v4] := by cases args; simp_all
  obtain ⟨rfl, rfl⟩ := trodVars_none hV
  have k0 := h0
  have lt0 : ∀ x ∈ p0, x.block < W.heap.size := by obtain ⟨m, hm⟩ := k0; exact DataW.trod_lt m _ _ _ hm
  obtain ⟨c0_0, c0_1, c0_2, c0_3, c0_4, c0_5, y0_0, y0_1, y0_2, y0_3, y0_4, y0_5, n0, rfl, -, -, e0_0, e0_1, e0_2, e0_3, e0_4, e0_5⟩ := Agg.open_agg6 Tryd.underlying24 (by kernel_rfl) (by kernel_rfl) (hval 0 24 v0 rfl rfl) h0
  obtain ⟨x0_0, g0_0, -, wx0_0⟩ := DataW.trod_string Tryd.underlying9 e0_0
  obtain rfl : c0_0 = .string x0_0 := by simpa using g0_0
  obtain ⟨x0_1, g0_1, -, wx0_1⟩ := DataW.trod_int Tryd.underlying2 e0_1
  obtain rfl : c0_1 = .int .i64 x0_1 := by simpa using g0_1
  obtain ⟨x0_2, g0_2, -, wx0_2⟩ := DataW.trod_int Tryd.underlying2 e0_2
  obtain rfl : c0_2 = .int .i64 x0_2 := by simpa using g0_2
  obtain ⟨x0_3, g0_3, -, wx0_3⟩ := DataW.trod_int Tryd.underlying2 e0_3
  obtain rfl : c0_3 = .int .i64 x0_3 := by simpa using g0_3
  obtain ⟨x0_4, g0_4, -, wx0_4⟩ := DataW.trod_int Tryd.underlying2 e0_4
  obtain rfl : c0_4 = .int .i64 x0_4 := by simpa using g0_4
  obtain ⟨a0_5, len0_5, cap0_5, z0_5, hc0_5, w0_5⟩ := Modes.open_pts e0_5
  subst hc0_5
  obtain ⟨a1, rfl, rfl, rfl, w1⟩ := open_int Tryd.underlying2 (hval 1 2 v1 rfl rfl) h1
  have k2 := h2
  have lt2 : ∀ x ∈ p2, x.block < W.heap.size := by obtain ⟨m, hm⟩ := k2; exact DataW.trod_lt m _ _ _ hm
  obtain ⟨c2_0, c2_1, c2_2, c2_3, c2_4, c2_5, y2_0, y2_1, y2_2, y2_3, y2_4, y2_5, n2, rfl, -, -, e2_0, e2_1, e2_2, e2_3, e2_4, e2_5⟩ := Agg.open_agg6 Tryd.underlying24 (by kernel_rfl) (by kernel_rfl) (hval 2 24 v2 rfl rfl) h2
  obtain ⟨x2_0, g2_0, -, wx2_0⟩ := DataW.trod_string Tryd.underlying9 e2_0
  obtain rfl : c2_0 = .string x2_0 := by simpa using g2_0
  obtain ⟨x2_1, g2_1, -, wx2_1⟩ := DataW.trod_int Tryd.underlying2 e2_1
  obtain rfl : c2_1 = .int .i64 x2_1 := by simpa using g2_1
  obtain ⟨x2_2, g2_2, -, wx2_2⟩ := DataW.trod_int Tryd.underlying2 e2_2
  obtain rfl : c2_2 = .int .i64 x2_2 := by simpa using g2_2
  obtain ⟨x2_3, g2_3, -, wx2_3⟩ := DataW.trod_int Tryd.underlying2 e2_3
  obtain rfl : c2_3 = .int .i64 x2_3 := by simpa using g2_3
  obtain ⟨x2_4, g2_4, -, wx2_4⟩ := DataW.trod_int Tryd.underlying2 e2_4
  obtain rfl : c2_4 = .int .i64 x2_4 := by simpa using g2_4
  obtain ⟨a2_5, len2_5, cap2_5, z2_5, hc2_5, w2_5⟩ := Modes.open_pts e2_5
  subst hc2_5
  obtain ⟨a3, rfl, rfl, rfl, w3⟩ := open_int Tryd.underlying2 (hval 3 2 v3 rfl rfl) h3
  obtain ⟨a4, rfl, rfl, rfl, w4⟩ := open_int Tryd.underlying2 (hval 4 2 v4 rfl rfl) h4
  clear hA0
  refine (walk W x0_0 wx0_0 x0_1 wx0_1 x0_2 wx0_2 x0_3 wx0_3 x0_4 wx0_4 a0_5 len0_5 cap0_5 z0_5 w0_5 a1 w1 x2_0 wx2_0 x2_1 wx2_1 x2_2 wx2_2 x2_3 wx2_3 x2_4 wx2_4 a2_5 len2_5 cap2_5 z2_5 w2_5 a3 w3 a4 w4 hL hsh).mono fun e W' ⟨he, bel⟩ => ?_
  subst he
  exact ⟨_, rfl, _, _, _, [], _, [], hW', trodAll_mk1 (shut_bool Tryd.underlying4 _), (trodAll_cons_mk (Below.trod laidOut (by kernel_rfl) (of_decide_eq_true (by kernel_rfl)) k0 bel lt0) (trodAll_cons_mk (shut_int Tryd.underlying2 w1) (trodAll_cons_mk (Below.trod laidOut (by kernel_rfl) (of_decide_eq_true (by kernel_rfl)) k2 bel lt2) (trodAll_cons_mk (shut_int Tryd.underlying2 w3) (trodAll_cons_mk (shut_int Tryd.underlying2 w4) trodAll_mk0))))), rfl, bel.frame _, fun h => by cases h⟩

theorem said : Rows.FnExactGreatestLossSaid :=
  OpenClaim.holds_of_cond 11 Tryd.f11 rfl rfl rfl rfl rfl rfl rfl ⟨rfl, rfl, rfl, rfl, rfl⟩ rfl rfl rfl rfl rfl (by kernel_rfl) Tryd.func11 (by kernel_rfl)
    (of_decide_eq_true (by kernel_rfl)) (by unfold Func.isWrapper; first | (rw [if_pos (by decide +kernel)]; kernel_rfl) | (rw [if_neg (by decide +kernel)]; exact ⟨rfl, rfl⟩))
    (fun os started H enc _ F => by rw [OpenClaim.pre_eq_preRow]; exact lifted os started H enc F)

theorem plain (f : FuncId) (fn : Func) (hf : Tryd.pinned.checked.prog.funcNamed "loop.example/g00925/laws.FnExactGreatestLoss" = some f) (hfn : Tryd.pinned.checked.prog.funcs[f]? = some fn) :
    true = Tryd.pinned.checked.prog.looks [] ∧ ∀ (j : Nat) t, fn.params[j]? = some t → Tryd.pinned.checked.prog.wantsStandIn t = false := by
  obtain rfl : f = 11 := Option.some.inj ((show Tryd.prog.funcNamed "loop.example/g00925/laws.FnExactGreatestLoss" = some 11 by kernel_rfl).symm.trans hf) |>.symm
  obtain rfl : fn = Tryd.f11 := (Option.some.inj (Tryd.func11.symm.trans hfn)).symm
  refine ⟨by kernel_rfl, fun j t ht => ?_⟩
  rw [Tryd.params11] at ht
  have ht' := Array.mem_of_getElem? ht
  simp at ht'
  have s24 : Tryd.pinned.checked.prog.wantsStandIn 24 = false := (show Tryd.prog.wantsStandIn 24 = false by kernel_rfl)
  have s2 : Tryd.pinned.checked.prog.wantsStandIn 2 = false := (show Tryd.prog.wantsStandIn 2 = false by kernel_rfl)
  first | (rcases ht' with rfl | rfl <;> first | with_reducible exact s24 | with_reducible exact s2) | (rcases ht' with rfl | rfl | rfl <;> first | with_reducible exact s24 | with_reducible exact s2) | (rcases ht' with rfl | rfl | rfl | rfl <;> first | with_reducible exact s24 | with_reducible exact s2) | (rcases ht' with rfl | rfl | rfl | rfl | rfl <;> first | with_reducible exact s24 | with_reducible exact s2)

/-- The statement: the tied card. -/
theorem card : Rows.FnExactGreatestLossCardSaid :=
  Claim7.holds_tied_plain_at .later [] _ _ _ _ said (fun _ h => by cases h) (by kernel_rfl) (fun _ h => by cases h) fnExactGreatestLoss_row_tie rfl ⟨rfl, rfl⟩ (by kernel_rfl) rfl plain (by kernel_rfl)
end Go.Proofs.YtknggnchldcghacDoor.fnExactGreatestLoss
