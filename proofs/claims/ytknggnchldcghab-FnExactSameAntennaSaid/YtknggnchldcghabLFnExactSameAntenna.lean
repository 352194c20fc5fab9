/-
  For all two antennas SameAntenna of the program returns what the model returns, and leaves the antennas alone: the statement FnExactSameAntenna, with no condition (antennas of more than 1048576 bytes and losses are let pass by the statement itself).
-/
import Derived.Test.YtknggnchldcghabRows
import Derived.Test.YtknggnchldcghabAntSame
import Derived.WalkKit
import Derived.ProofKit
import Derived.OpenShut
import Derived.ShutString
import Derived.Below
import Derived.Lib.SmallJoins
namespace Go.Proofs.Ytknggnchldcghab.fnExactSameAntenna
open Go.ChangeShapes Go.WideShapes Go.ChangeAt Go.RowKit
open Go.ChangeMaps (open_string shut_string)
set_option linter.unusedVariables false

theorem own : ownKnob Try.prog.godebug = none := by kernel_rfl
theorem laidOut : laidOutB Try.prog = true := by kernel_rfl

/-- What the walk is told of a slice of integers that came in: it is nil; or it leads to a row of 'cap' cells, the numbers 'zs' (the first 'len' are its elements), each fitting its kind. -/
def IsRow (k : IntKind) (w : World) (a : Option Addr) (len cap : Nat) (zs : List Int) : Prop :=
  (a = none ∧ len = 0 ∧ cap = 0 ∧ zs = []) ∨
  ∃ x, a = some x ∧ len ≤ cap ∧ cap ≤ maxLen ∧ zs.length = cap ∧ (∀ i, i < zs.length → w.cell? (x.add i) = some (.int k (zs.getD i 0))) ∧ ∀ n ∈ zs, (Lit.int k n).wf = true

set_option maxRecDepth 100000 in
set_option maxHeartbeats 4000000 in
/-- The walk. -/
theorem walk (w : World) (x0_0 : ByteArray) (wx0_0 : x0_0.size ≤ maxLen) (x0_1 : Int) (wx0_1 : (Lit.int .i64 x0_1).wf = true) (a0_2 : Option Addr) (len0_2 cap0_2 : Nat) (z0_2 : List Int) (w0_2 : IsRow .i64 w a0_2 len0_2 cap0_2 z0_2) (a0_3 : Option Addr) (len0_3 cap0_3 : Nat) (z0_3 : List Int) (w0_3 : IsRow .i64 w a0_3 len0_3 cap0_3 z0_3) (x1_0 : ByteArray) (wx1_0 : x1_0.size ≤ maxLen) (x1_1 : Int) (wx1_1 : (Lit.int .i64 x1_1).wf = true) (a1_2 : Option Addr) (len1_2 cap1_2 : Nat) (z1_2 : List Int) (w1_2 : IsRow .i64 w a1_2 len1_2 cap1_2 z1_2) (a1_3 : Option Addr) (len1_3 cap1_3 : Nat) (z1_3 : List Int) (w1_3 : IsRow .i64 w a1_3 len1_3 cap1_3 z1_3) :
    Calls Try.prog 4 #[.agg #[.string x0_0, .int .i64 x0_1, .slice a0_2 len0_2 cap0_2, .slice a0_3 len0_3 cap0_3], .agg #[.string x1_0, .int .i64 x1_1, .slice a1_2 len1_2 cap1_2, .slice a1_3 len1_3 cap1_3]] w fun e w' => e = .returned (.bool true) ∧ Below w.heap.size w w' := by
  obtain ⟨hi0_2, hl0_2⟩ := Ints.Ints.of_arg w0_2
  have m0_2 : len0_2 ≤ maxLen := by
    rcases w0_2 with ⟨_, h, _, _⟩ | ⟨_, _, h1, h2, _⟩
    · rw [h]; exact Nat.zero_le _
    · exact Nat.le_trans h1 h2
  obtain ⟨hi0_3, hl0_3⟩ := Ints.Ints.of_arg w0_3
  have m0_3 : len0_3 ≤ maxLen := by
    rcases w0_3 with ⟨_, h, _, _⟩ | ⟨_, _, h1, h2, _⟩
    · rw [h]; exact Nat.zero_le _
    · exact Nat.le_trans h1 h2
  obtain ⟨hi1_2, hl1_2⟩ := Ints.Ints.of_arg w1_2
  have m1_2 : len1_2 ≤ maxLen := by
    rcases w1_2 with ⟨_, h, _, _⟩ | ⟨_, _, h1, h2, _⟩
    · rw [h]; exact Nat.zero_le _
    · exact Nat.le_trans h1 h2
  obtain ⟨hi1_3, hl1_3⟩ := Ints.Ints.of_arg w1_3
  have m1_3 : len1_3 ≤ maxLen := by
    rcases w1_3 with ⟨_, h, _, _⟩ | ⟨_, _, h1, h2, _⟩
    · rw [h]; exact Nat.zero_le _
    · exact Nat.le_trans h1 h2
  have hz := fun w => Ant.count 1048576 x0_0 x0_1 a0_2 len0_2 cap0_2 a0_3 len0_3 cap0_3 w (by omega) wx0_0 m0_2 m0_3
  rw [show (((1048576 : Nat) : Int)) = 1048576 from rfl] at hz
  clear w0_2 w0_3 w1_2 w1_3
  rcases Ant.restL_or [x0_0.size, len0_2, len0_3] 1048576 with hr | ⟨r, hr, hrl, hall⟩
  · rw [hr] at hz
    have HZ := Lib.hid hz
    clear hz hr hi0_2 hl0_2 hi0_3 hl0_3 hi1_2 hl1_2 hi1_3 hl1_3
    go_enter Try.func4, Try.ntmps4
    go_wp2_with fail
    refine (HZ.out _).mono ?_
    rintro e w1 ⟨rfl, h1⟩
    go_wp2_with fail
    go_ret
    exact ⟨rfl, by repeat (first | with_reducible exact On.refl _ | apply On.alloc | refine On.trans ?_ h1)⟩
  · rw [hr] at hz
    have q0_0 : x0_0.size ≤ 1048576 := hall _ (by simp)
    have q0_2 : len0_2 ≤ 1048576 := hall _ (by simp)
    have q0_3 : len0_3 ≤ 1048576 := hall _ (by simp)
    have hr0 : ¬ ((r : Int) < 0) := by omega
    have HZ := Lib.hid hz
    clear hz hr hall
    have hy := fun w => Ant.count r x1_0 x1_1 a1_2 len1_2 cap1_2 a1_3 len1_3 cap1_3 w hrl wx1_0 m1_2 m1_3
    clear wx0_0 wx0_1 wx1_0 wx1_1 m0_2 m0_3 m1_2 m1_3
    rcases Ant.restL_or [x1_0.size, len1_2, len1_3] r with hs | ⟨s, hs, hsl, hall⟩
    · rw [hs] at hy
      have HY := Lib.hid hy
      clear hy hs hrl hi0_2 hl0_2 hi0_3 hl0_3 hi1_2 hl1_2 hi1_3 hl1_3 q0_0 q0_2 q0_3
      go_enter Try.func4, Try.ntmps4
      go_wp2_with fail
      refine (HZ.out _).mono ?_
      rintro e w1 ⟨rfl, h1⟩
      have L1 : Ant.In w1 (w.heap.size + 1) x1_0 x1_1 (.slice a1_2 len1_2 cap1_2) (.slice a1_3 len1_3 cap1_3) := Ant.In.on ⟨by simp [go_sem], by simp [go_sem], by simp [go_sem], by simp [go_sem]⟩ h1
      obtain ⟨l1_0, l1_1, l1_2, l1_3⟩ := L1
      have HO1 := Lib.hid (On.trans (On.alloc (On.alloc (On.refl w) _) _) h1)
      clear h1
      go_wp2_with fail
      refine (HY.out _).mono ?_
      rintro e w2 ⟨rfl, h2⟩
      go_wp2_with fail
      go_ret
      exact ⟨rfl, On.trans HO1.out h2⟩
    · rw [hs] at hy
      have q1_0 : x1_0.size ≤ 1048576 := Nat.le_trans (hall _ (by simp)) hrl
      have q1_2 : len1_2 ≤ 1048576 := Nat.le_trans (hall _ (by simp)) hrl
      have q1_3 : len1_3 ≤ 1048576 := Nat.le_trans (hall _ (by simp)) hrl
      have hs0 : ¬ ((s : Int) < 0) := by omega
      have HY := Lib.hid hy
      clear hy hs hall hrl hsl
      obtain ⟨z0_2x, hz0_2⟩ : ∃ z, z = z0_2.take len0_2 := ⟨_, rfl⟩
      rw [← hz0_2] at hi0_2 hl0_2
      clear hz0_2
      subst hl0_2
      have H0_2 := Lib.hid hi0_2
      clear hi0_2
      obtain ⟨z0_3x, hz0_3⟩ : ∃ z, z = z0_3.take len0_3 := ⟨_, rfl⟩
      rw [← hz0_3] at hi0_3 hl0_3
      clear hz0_3
      subst hl0_3
      have H0_3 := Lib.hid hi0_3
      clear hi0_3
      obtain ⟨z1_2x, hz1_2⟩ : ∃ z, z = z1_2.take len1_2 := ⟨_, rfl⟩
      rw [← hz1_2] at hi1_2 hl1_2
      clear hz1_2
      subst hl1_2
      have H1_2 := Lib.hid hi1_2
      clear hi1_2
      obtain ⟨z1_3x, hz1_3⟩ : ∃ z, z = z1_3.take len1_3 := ⟨_, rfl⟩
      rw [← hz1_3] at hi1_3 hl1_3
      clear hz1_3
      subst hl1_3
      have H1_3 := Lib.hid hi1_3
      clear hi1_3
      have C1 := Lib.hid (fun w' (hb : On w w') => Ant.copy x0_0 x0_1 (.slice a0_2 z0_2x.length cap0_2) (.slice a0_3 z0_3x.length cap0_3) z0_2x z0_3x w' q0_2 q0_3 (H0_2.out.below hb) (H0_3.out.below hb))
      have C2 := Lib.hid (fun w' (hb : On w w') => Ant.copy x1_0 x1_1 (.slice a1_2 z1_2x.length cap1_2) (.slice a1_3 z1_3x.length cap1_3) z1_2x z1_3x w' q1_2 q1_3 (H1_2.out.below hb) (H1_3.out.below hb))
      clear H0_2 H0_3 H1_2 H1_3
      go_enter Try.func4, Try.ntmps4
      go_wp2_with fail
      refine (HZ.out _).mono ?_
      rintro e w1 ⟨rfl, h1⟩
      have K1 : Ant.In w1 w.heap.size x0_0 x0_1 (.slice a0_2 z0_2x.length cap0_2) (.slice a0_3 z0_3x.length cap0_3) := Ant.In.on ⟨by simp [go_sem], by simp [go_sem], by simp [go_sem], by simp [go_sem]⟩ h1
      have L1 : Ant.In w1 (w.heap.size + 1) x1_0 x1_1 (.slice a1_2 z1_2x.length cap1_2) (.slice a1_3 z1_3x.length cap1_3) := Ant.In.on ⟨by simp [go_sem], by simp [go_sem], by simp [go_sem], by simp [go_sem]⟩ h1
      have HO1 := Lib.hid (On.trans (On.alloc (On.alloc (On.refl w) _) _) h1)
      have HK1 := Lib.hid K1
      have HL1 := Lib.hid L1
      obtain ⟨l1_0, l1_1, l1_2, l1_3⟩ := L1
      clear K1 h1 HZ
      go_wp2_with fail
      refine (HY.out _).mono ?_
      rintro e w2 ⟨rfl, h2⟩
      have K2 := HK1.out.on h2
      have L2 := HL1.out.on h2
      have HO2 := Lib.hid (On.trans HO1.out h2)
      have HK2 := Lib.hid K2
      have HL2 := Lib.hid L2
      obtain ⟨k2_0, k2_1, k2_2, k2_3⟩ := K2
      obtain ⟨l2_0, l2_1, l2_2, l2_3⟩ := L2
      clear l1_0 l1_1 l1_2 l1_3 h2 HY HO1 HK1 HL1
      go_upto_region 8 with fail
      go_cut [6] (fun s6 wx => s6 = .bool (Ant.sameA x0_0 x0_1 z0_2x z0_3x x1_0 x1_1 z1_2x z1_3x) ∧ On w2 wx)
      case first =>
        go_region_with (first
          | (go_at_call 16; refine (C2.out _ (On.trans HO2.out (On.trans ‹On w2 w6› (by repeat (first | with_reducible exact On.refl _ | with_reducible exact Below.refl _ _ | apply On.drew))))).mono ?_; rintro e w7 ⟨a7_2, c7_2, a7_3, c7_3, rfl, -, o7_2, -, o7_3, h7⟩; (have h67 : On w6 w7 := by refine On.trans ?_ h7; repeat (first | with_reducible exact On.refl _ | apply On.drew)); have B7_2 := Lib.hid o7_2.ints; have B7_3 := Lib.hid o7_3.ints; clear o7_2 o7_3; clear h7)
          | (go_at_call 16; refine (C1.out _ (On.trans HO2.out (by repeat (first | with_reducible exact On.refl _ | with_reducible exact Below.refl _ _ | apply On.drew)))).mono ?_; rintro e w6 ⟨a6_2, c6_2, a6_3, c6_3, rfl, -, o6_2, -, o6_3, h6⟩; (have h26 : On w2 w6 := by refine On.trans ?_ h6; repeat (first | with_reducible exact On.refl _ | apply On.drew)); obtain ⟨r_0, r_1, r_2, r_3⟩ := HL2.out.on h26; have A6_2 := Lib.hid o6_2.ints; have A6_3 := Lib.hid o6_3.ints; clear o6_2 o6_3; clear h6)
          | (go_at_call 19; refine (Ant.spec_same x0_0 x0_1 _ _ z0_2x z0_3x x1_0 x1_1 _ _ z1_2x z1_3x _ q0_0 q0_2 q0_3 q1_0 q1_2 q1_3 (A6_2.out.below (On.trans ‹On w6 w7› (by repeat (first | with_reducible exact On.refl _ | with_reducible exact Below.refl _ _ | apply On.drew)))) (A6_3.out.below (On.trans ‹On w6 w7› (by repeat (first | with_reducible exact On.refl _ | with_reducible exact Below.refl _ _ | apply On.drew)))) (B7_2.out.below (by repeat (first | with_reducible exact On.refl _ | with_reducible exact Below.refl _ _ | apply On.drew))) (B7_3.out.below (by repeat (first | with_reducible exact On.refl _ | with_reducible exact Below.refl _ _ | apply On.drew)))).mono ?_; rintro e w8 ⟨rfl, h8⟩; (have h78 : On w7 w8 := by refine On.trans ?_ h8; repeat (first | with_reducible exact On.refl _ | apply On.drew)); clear h8))
        all_goals
          go_wp2_with fail
          go_meet
          exact ⟨rfl, On.trans ‹On w2 w6› (On.trans ‹On w6 w7› ‹On w7 w8›)⟩
      case rest =>
        obtain ⟨rfl, hO⟩ := hcut
        have KC := HK2.out.on hO
        have LC := HL2.out.on hO
        have HKC := Lib.hid KC
        have HLC := Lib.hid LC
        have HOC := Lib.hid (On.trans HO2.out hO)
        obtain ⟨kc_0, kc_1, kc_2, kc_3⟩ := KC
        clear k2_0 k2_1 k2_2 k2_3 l2_0 l2_1 l2_2 l2_3 LC hO HK2 HL2 HO2
        go_wp2_with fail
        refine (C1.out _ HOC.out).mono ?_
        rintro e w10 ⟨a10_2, c10_2, a10_3, c10_3, rfl, -, o10_2, -, o10_3, h10⟩
        have A10_2 := Lib.hid o10_2.ints; have A10_3 := Lib.hid o10_3.ints; clear o10_2 o10_3
        have HO10 := Lib.hid (On.trans HOC.out h10)
        have HK10 := Lib.hid (HKC.out.on h10)
        have L10 := HLC.out.on h10
        have HL10 := Lib.hid L10
        obtain ⟨l10_0, l10_1, l10_2, l10_3⟩ := L10
        have y10 := World.block_lt_of_cell? w10 _ l10_0
        clear kc_0 kc_1 kc_2 kc_3 h10 HOC HKC HLC
        go_wp2_with fail
        refine (C2.out _ (On.trans HO10.out (by repeat (first | with_reducible exact On.refl _ | with_reducible exact Below.refl _ _ | apply On.alloc | refine On.setCell ?_ (by (try simp) <;> omega) _)))).mono ?_
        rintro e w11 ⟨a11_2, c11_2, a11_3, c11_3, rfl, -, o11_2, -, o11_3, h11⟩
        have P11 : Ant.In w11 w10.heap.size x0_0 x0_1 (.slice a10_2 z0_2x.length c10_2) (.slice a10_3 z0_3x.length c10_3) := Ant.In.on ⟨by simp [go_sem], by simp [go_sem], by simp [go_sem], by simp [go_sem]⟩ h11
        have h1011 : On w10 w11 := by refine On.trans ?_ h11; repeat (first | with_reducible exact On.refl _ | apply On.alloc | refine On.setCell ?_ (by (try simp) <;> omega) _)
        have A11_2 := Lib.hid (A10_2.out.below h1011)
        have A11_3 := Lib.hid (A10_3.out.below h1011)
        have B11_2 := Lib.hid o11_2.ints; have B11_3 := Lib.hid o11_3.ints; clear o11_2 o11_3
        have HO11 := Lib.hid (On.trans HO10.out h1011)
        have HK11 := Lib.hid (HK10.out.on h1011)
        have HL11 := Lib.hid (HL10.out.on h1011)
        have HP11 := Lib.hid P11
        obtain ⟨p_0, p_1, p_2, p_3⟩ := P11
        have y11 := World.block_lt_of_cell? w11 _ p_0
        clear l10_0 l10_1 l10_2 l10_3 y10 h11 h1011 A10_2 A10_3 HO10 HK10 HL10
        go_wp2_with fail
        refine (Ant.impl_same x0_0 x0_1 _ _ z0_2x z0_3x x1_0 x1_1 _ _ z1_2x z1_3x _ q0_0 q0_2 q0_3 q1_0 q1_2 q1_3 (A11_2.out.below (by repeat (first | with_reducible exact On.refl _ | with_reducible exact Below.refl _ _ | apply On.alloc | refine On.setCell ?_ (by (try simp) <;> omega) _))) (A11_3.out.below (by repeat (first | with_reducible exact On.refl _ | with_reducible exact Below.refl _ _ | apply On.alloc | refine On.setCell ?_ (by (try simp) <;> omega) _))) (B11_2.out.below (by repeat (first | with_reducible exact On.refl _ | with_reducible exact Below.refl _ _ | apply On.alloc | refine On.setCell ?_ (by (try simp) <;> omega) _))) (B11_3.out.below (by repeat (first | with_reducible exact On.refl _ | with_reducible exact Below.refl _ _ | apply On.alloc | refine On.setCell ?_ (by (try simp) <;> omega) _)))).mono ?_
        rintro e w12 ⟨rfl, h12⟩
        have Q12 : Ant.In w12 w11.heap.size x1_0 x1_1 (.slice a11_2 z1_2x.length c11_2) (.slice a11_3 z1_3x.length c11_3) := Ant.In.on ⟨by simp [go_sem], by simp [go_sem], by simp [go_sem], by simp [go_sem]⟩ h12
        have h1112 : On w11 w12 := by refine On.trans ?_ h12; repeat (first | with_reducible exact On.refl _ | apply On.alloc | refine On.setCell ?_ (by (try simp) <;> omega) _)
        have A12_2 := Lib.hid (A11_2.out.below h1112)
        have B12_2 := Lib.hid (B11_2.out.below h1112)
        have A12_3 := Lib.hid (A11_3.out.below h1112)
        have B12_3 := Lib.hid (B11_3.out.below h1112)
        have HO12 := Lib.hid (On.trans HO11.out h1112)
        have HK12 := Lib.hid (HK11.out.on h1112)
        have HL12 := Lib.hid (HL11.out.on h1112)
        have HP12 := Lib.hid (HP11.out.on h1112)
        have HQ12 := Lib.hid Q12
        obtain ⟨k12_0, k12_1, k12_2, k12_3⟩ := HK12.out
        obtain ⟨p12_0, p12_1, p12_2, p12_3⟩ := HP12.out
        clear p_0 p_1 p_2 p_3 y11 h12 h1112 Q12 A11_2 B11_2 A11_3 B11_3 HO11 HK11 HL11 HP11
        go_upto_region 14 with fail
        go_cut [39] (fun s wx => s = .bool false ∧ On w12 wx)
        case first =>
          go_region_with (first
            | (go_at_call 16; refine (C1.out _ (On.trans HO12.out (by repeat (first | with_reducible exact On.refl _ | with_reducible exact Below.refl _ _ | apply On.drew)))).mono ?_; rintro e w6 ⟨a6_2, c6_2, a6_3, c6_3, rfl, -, o6_2, -, o6_3, h6⟩; (have h126 : On w12 w6 := by refine On.trans ?_ h6; repeat (first | with_reducible exact On.refl _ | apply On.drew)); obtain ⟨r_0, r_1, r_2, r_3⟩ := HP12.out.on h126; have A6_2 := Lib.hid o6_2.ints; have A6_3 := Lib.hid o6_3.ints; clear o6_2 o6_3; clear h6)
            | (go_at_call 18; refine (Ant.eq x0_0 x0_1 _ _ _ _ z0_2x z0_3x _ q0_2 q0_3 ((A12_2.out.below ‹On w12 _›).below (by repeat (first | with_reducible exact On.refl _ | with_reducible exact Below.refl _ _ | apply On.drew))) ((A12_3.out.below ‹On w12 _›).below (by repeat (first | with_reducible exact On.refl _ | with_reducible exact Below.refl _ _ | apply On.drew))) (A6_2.out.below (by repeat (first | with_reducible exact On.refl _ | with_reducible exact Below.refl _ _ | apply On.drew))) (A6_3.out.below (by repeat (first | with_reducible exact On.refl _ | with_reducible exact Below.refl _ _ | apply On.drew)))).mono ?_; rintro e w7 ⟨rfl, h7⟩; (have h67 : On w6 w7 := by refine On.trans ?_ h7; repeat (first | with_reducible exact On.refl _ | apply On.drew)); clear h7))
          all_goals
            go_wp2_with fail
            go_meet
            exact ⟨rfl, On.trans ‹On w12 w6› ‹On w6 w7›⟩
        case rest =>
          obtain ⟨rfl, hO⟩ := hcut
          have BC_2 := Lib.hid (B12_2.out.below hO)
          have BC_3 := Lib.hid (B12_3.out.below hO)
          have HOC := Lib.hid (On.trans HO12.out hO)
          have LC := HL12.out.on hO
          have QC := HQ12.out.on hO
          have HQC := Lib.hid QC
          obtain ⟨lc_0, lc_1, lc_2, lc_3⟩ := LC
          obtain ⟨qc_0, qc_1, qc_2, qc_3⟩ := QC
          clear k12_0 k12_1 k12_2 k12_3 p12_0 p12_1 p12_2 p12_3 hO A12_2 B12_2 A12_3 B12_3 HO12 HK12 HL12 HP12 HQ12
          go_wp2_with fail
          go_region_with (first
            | (go_at_call 16; refine (C2.out _ (On.trans HOC.out (by repeat (first | with_reducible exact On.refl _ | with_reducible exact Below.refl _ _ | apply On.drew)))).mono ?_; rintro e w6 ⟨a6_2, c6_2, a6_3, c6_3, rfl, -, o6_2, -, o6_3, h6⟩; (have h56 : On wc w6 := by refine On.trans ?_ h6; repeat (first | with_reducible exact On.refl _ | apply On.drew)); obtain ⟨r_0, r_1, r_2, r_3⟩ := HQC.out.on h56; have A6_2 := Lib.hid o6_2.ints; have A6_3 := Lib.hid o6_3.ints; clear o6_2 o6_3; clear h6)
            | (go_at_call 18; refine (Ant.eq x1_0 x1_1 _ _ _ _ z1_2x z1_3x _ q1_2 q1_3 ((BC_2.out.below ‹On wc _›).below (by repeat (first | with_reducible exact On.refl _ | with_reducible exact Below.refl _ _ | apply On.drew))) ((BC_3.out.below ‹On wc _›).below (by repeat (first | with_reducible exact On.refl _ | with_reducible exact Below.refl _ _ | apply On.drew))) (A6_2.out.below (by repeat (first | with_reducible exact On.refl _ | with_reducible exact Below.refl _ _ | apply On.drew))) (A6_3.out.below (by repeat (first | with_reducible exact On.refl _ | with_reducible exact Below.refl _ _ | apply On.drew)))).mono ?_; rintro e w7 ⟨rfl, h7⟩; (have h67 : On w6 w7 := by refine On.trans ?_ h7; repeat (first | with_reducible exact On.refl _ | apply On.drew)); clear h7))
          all_goals
            go_wp2_with fail
            go_ret
            exact ⟨rfl, On.trans HOC.out (On.trans ‹On wc w6› ‹On w6 w7›)⟩

set_option maxRecDepth 100000 in
/-- The row's step. -/
theorem lifted (os : Os) (started : os.Started) (H : Type) (enc : TypeId × Value → H) :
    ReturnsInHanded {} Try.checked os 4 .any (Rows.fnExactSameAntennaSpec.pre6 enc Try.prog Try.f4 Rows.fnExactSameAntennaRow.domain false) (Rows.fnExactSameAntennaSpec.post enc Try.prog Try.f4 false true false false) := by
  refine returnsInHanded_of_change (C := Try.checked) own started (by kernel_rfl) Try.func4
    (ChangeSpec.witness6 (enc := enc) (C := Try.checked) false ⟨#[], #[.agg #[.string ByteArray.empty, .int .i64 0, .slice none 0 0, .slice none 0 0], .agg #[.string ByteArray.empty, .int .i64 0, .slice none 0 0, .slice none 0 0]], []⟩ 8 (by kernel_rfl) (by kernel_rfl) (by kernel_rfl) (by kernel_rfl)) ?_
  intro W base args ds gs before hval0 hW hcnd _
  have hval : ∀ (j : Nat) t v, Try.f4.params[j]? = some t → args[j]? = some v → Value.okWide Try.prog W .any base t v := hval0
  have hW' := hW
  obtain ⟨p, q, hA0, hV, rfl, hfz, hnd⟩ := hW
  have hA : DataW.TrodAll enc Try.prog W 0 (fun _ => true) true Try.f4.params.toList args.toList ds p := hA0
  rw [Try.params4] at hA hval
  obtain ⟨v0, vs0, d0, ds0, p0, q0, hargs, rfl, rfl, h0, r0⟩ := trodAll_cons hA
  obtain ⟨v1, vs1, d1, ds1, p1, q1, rfl, rfl, rfl, h1, r1⟩ := trodAll_cons r0
  obtain ⟨rfl, rfl, rfl⟩ := trodAll_nil r1
  obtain rfl : args = #[v0, v1] := by cases args; simp_all
  obtain ⟨rfl, rfl⟩ := trodVars_none hV
  have k0 := h0
  have lt0 : ∀ x ∈ p0, x.block < W.heap.size := by obtain ⟨m, hm⟩ := k0; exact DataW.trod_lt m _ _ _ hm
  obtain ⟨c0_0, c0_1, c0_2, c0_3, y0_0, y0_1, y0_2, y0_3, n0, rfl, -, -, e0_0, e0_1, e0_2, e0_3⟩ := Joins.open_agg4 Try.underlying24 (by kernel_rfl) (by kernel_rfl) (hval 0 24 v0 rfl rfl) h0
  obtain ⟨x0_0, g0_0, -, wx0_0⟩ := DataW.trod_string Try.underlying9 e0_0
  obtain rfl : c0_0 = .string x0_0 := by simpa using g0_0
  obtain ⟨x0_1, g0_1, -, wx0_1⟩ := DataW.trod_int Try.underlying2 e0_1
  obtain rfl : c0_1 = .int .i64 x0_1 := by simpa using g0_1
  obtain ⟨a0_2, len0_2, cap0_2, z0_2, hc0_2, w0_2⟩ : ∃ a len cap zs, c0_2 = .slice a len cap ∧ IsRow .i64 W a len cap zs := by
    rcases open_ints Try.underlying22 Try.underlying2 (by kernel_rfl) e0_2 with ⟨hcs, _⟩ | ⟨x, l, c, zs, hcs, _, hl, hm, hz, _, hcell, hwz⟩
    · exact ⟨none, 0, 0, [], by simpa using hcs, .inl ⟨rfl, rfl, rfl, rfl⟩⟩
    · exact ⟨some x, l, c, zs, by simpa using hcs, .inr ⟨_, rfl, hl, hm, by simpa using hz, hcell, hwz⟩⟩
  subst hc0_2
  obtain ⟨a0_3, len0_3, cap0_3, z0_3, hc0_3, w0_3⟩ : ∃ a len cap zs, c0_3 = .slice a len cap ∧ IsRow .i64 W a len cap zs := by
    rcases open_ints Try.underlying22 Try.underlying2 (by kernel_rfl) e0_3 with ⟨hcs, _⟩ | ⟨x, l, c, zs, hcs, _, hl, hm, hz, _, hcell, hwz⟩
    · exact ⟨none, 0, 0, [], by simpa using hcs, .inl ⟨rfl, rfl, rfl, rfl⟩⟩
    · exact ⟨some x, l, c, zs, by simpa using hcs, .inr ⟨_, rfl, hl, hm, by simpa using hz, hcell, hwz⟩⟩
  subst hc0_3
  have k1 := h1
  have lt1 : ∀ x ∈ p1, x.block < W.heap.size := by obtain ⟨m, hm⟩ := k1; exact DataW.trod_lt m _ _ _ hm
  obtain ⟨c1_0, c1_1, c1_2, c1_3, y1_0, y1_1, y1_2, y1_3, n1, rfl, -, -, e1_0, e1_1, e1_2, e1_3⟩ := Joins.open_agg4 Try.underlying24 (by kernel_rfl) (by kernel_rfl) (hval 1 24 v1 rfl rfl) h1
  obtain ⟨x1_0, g1_0, -, wx1_0⟩ := DataW.trod_string Try.underlying9 e1_0
  obtain rfl : c1_0 = .string x1_0 := by simpa using g1_0
  obtain ⟨x1_1, g1_1, -, wx1_1⟩ := DataW.trod_int Try.underlying2 e1_1
  obtain rfl : c1_1 = .int .i64 x1_1 := by simpa using g1_1
  obtain ⟨a1_2, len1_2, cap1_2, z1_2, hc1_2, w1_2⟩ : ∃ a len cap zs, c1_2 = .slice a len cap ∧ IsRow .i64 W a len cap zs := by
    rcases open_ints Try.underlying22 Try.underlying2 (by kernel_rfl) e1_2 with ⟨hcs, _⟩ | ⟨x, l, c, zs, hcs, _, hl, hm, hz, _, hcell, hwz⟩
    · exact ⟨none, 0, 0, [], by simpa using hcs, .inl ⟨rfl, rfl, rfl, rfl⟩⟩
    · exact ⟨some x, l, c, zs, by simpa using hcs, .inr ⟨_, rfl, hl, hm, by simpa using hz, hcell, hwz⟩⟩
  subst hc1_2
  obtain ⟨a1_3, len1_3, cap1_3, z1_3, hc1_3, w1_3⟩ : ∃ a len cap zs, c1_3 = .slice a len cap ∧ IsRow .i64 W a len cap zs := by
    rcases open_ints Try.underlying22 Try.underlying2 (by kernel_rfl) e1_3 with ⟨hcs, _⟩ | ⟨x, l, c, zs, hcs, _, hl, hm, hz, _, hcell, hwz⟩
    · exact ⟨none, 0, 0, [], by simpa using hcs, .inl ⟨rfl, rfl, rfl, rfl⟩⟩
    · exact ⟨some x, l, c, zs, by simpa using hcs, .inr ⟨_, rfl, hl, hm, by simpa using hz, hcell, hwz⟩⟩
  subst hc1_3
  clear hA0
  refine (walk W x0_0 wx0_0 x0_1 wx0_1 a0_2 len0_2 cap0_2 z0_2 w0_2 a0_3 len0_3 cap0_3 z0_3 w0_3 x1_0 wx1_0 x1_1 wx1_1 a1_2 len1_2 cap1_2 z1_2 w1_2 a1_3 len1_3 cap1_3 z1_3 w1_3 ).mono fun e W' ⟨he, bel⟩ => ?_
  subst he
  exact ⟨_, rfl, _, _, _, [], _, [], hW', trodAll_mk1 (shut_bool Try.underlying4 _), (trodAll_cons_mk (Below.trod laidOut (by kernel_rfl) (of_decide_eq_true (by kernel_rfl)) k0 bel lt0) (trodAll_cons_mk (Below.trod laidOut (by kernel_rfl) (of_decide_eq_true (by kernel_rfl)) k1 bel lt1) trodAll_mk0)), rfl, bel.frame _, fun h => by cases h⟩

theorem proved : Rows.FnExactSameAntennaSaid :=
  OpenClaim.holds_of_wide 4 Try.f4 rfl rfl rfl rfl rfl rfl rfl ⟨rfl, rfl, rfl, rfl, rfl⟩ rfl rfl rfl rfl rfl (by kernel_rfl) Try.func4 (by kernel_rfl)
    (of_decide_eq_true (by kernel_rfl)) (by unfold Func.isWrapper; first | (rw [if_pos (by decide +kernel)]; kernel_rfl) | (rw [if_neg (by decide +kernel)]; exact ⟨rfl, rfl⟩))
    (fun os started H enc _ => lifted os started H enc)
end Go.Proofs.Ytknggnchldcghab.fnExactSameAntenna
