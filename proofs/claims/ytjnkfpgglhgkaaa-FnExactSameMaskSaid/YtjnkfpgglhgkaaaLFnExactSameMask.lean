/-
  For all two masks SameMask of the program returns what the model returns, and leaves the masks alone: the statement FnExactSameMask, with no condition (masks of more than 1048576 numbers are let pass by the statement itself).
-/
import Derived.Test.YtjnkfpgglhgkaaaRows
import Derived.Test.YtjnkfpgglhgkaaaMskSame
import Derived.WalkKit
import Derived.ProofKit
import Derived.OpenShut
import Derived.ShutString
import Derived.Below
import Derived.Lib.SmallJoins
namespace Go.Proofs.Ytjnkfpgglhgkaaa.fnExactSameMask
open Go.ChangeShapes Go.WideShapes Go.ChangeAt Go.RowKit
open Go.ChangeMaps (open_string shut_string)
set_option linter.unusedVariables false

theorem own : ownKnob Try.prog.godebug = none := by kernel_rfl
theorem laidOut : laidOutB Try.prog = true := by kernel_rfl

/-- What the walk is told of a slice of integers that came in: it is nil; or it leads to a row of 'cap' cells, the numbers 'zs' (the first 'len' are its elements), each fitting its kind. -/
def IsRow (k : IntKind) (w : World) (a : Option Addr) (len cap : Nat) (zs : List Int) : Prop :=
  (a = none ∧ len = 0 ∧ cap = 0 ∧ zs = []) ∨
  ∃ x, a = some x ∧ len ≤ cap ∧ cap ≤ maxLen ∧ zs.length = cap ∧ (∀ i, i < zs.length → w.cell? (x.add i) = some (.int k (zs.getD i 0))) ∧ ∀ n ∈ zs, (Lit.int k n).wf = true

set_option maxRecDepth 100000 in
set_option maxHeartbeats 4000000 in
/-- The walk. -/
theorem walk (w : World) (a0_0 : Option Addr) (len0_0 cap0_0 : Nat) (z0_0 : List Int) (w0_0 : IsRow .i64 w a0_0 len0_0 cap0_0 z0_0) (a0_1 : Option Addr) (len0_1 cap0_1 : Nat) (z0_1 : List Int) (w0_1 : IsRow .i64 w a0_1 len0_1 cap0_1 z0_1) (a1_0 : Option Addr) (len1_0 cap1_0 : Nat) (z1_0 : List Int) (w1_0 : IsRow .i64 w a1_0 len1_0 cap1_0 z1_0) (a1_1 : Option Addr) (len1_1 cap1_1 : Nat) (z1_1 : List Int) (w1_1 : IsRow .i64 w a1_1 len1_1 cap1_1 z1_1) :
    Calls Try.prog 4 #[.agg #[.slice a0_0 len0_0 cap0_0, .slice a0_1 len0_1 cap0_1], .agg #[.slice a1_0 len1_0 cap1_0, .slice a1_1 len1_1 cap1_1]] w fun e w' => e = .returned (.bool true) ∧ Below w.heap.size w w' := by
  obtain ⟨hi0_0, hl0_0⟩ := Ints.Ints.of_arg w0_0
  have m0_0 : len0_0 ≤ maxLen := by
    rcases w0_0 with ⟨_, h, _, _⟩ | ⟨_, _, h1, h2, _⟩
    · rw [h]; exact Nat.zero_le _
    · exact Nat.le_trans h1 h2
  obtain ⟨hi0_1, hl0_1⟩ := Ints.Ints.of_arg w0_1
  have m0_1 : len0_1 ≤ maxLen := by
    rcases w0_1 with ⟨_, h, _, _⟩ | ⟨_, _, h1, h2, _⟩
    · rw [h]; exact Nat.zero_le _
    · exact Nat.le_trans h1 h2
  obtain ⟨hi1_0, hl1_0⟩ := Ints.Ints.of_arg w1_0
  have m1_0 : len1_0 ≤ maxLen := by
    rcases w1_0 with ⟨_, h, _, _⟩ | ⟨_, _, h1, h2, _⟩
    · rw [h]; exact Nat.zero_le _
    · exact Nat.le_trans h1 h2
  obtain ⟨hi1_1, hl1_1⟩ := Ints.Ints.of_arg w1_1
  have m1_1 : len1_1 ≤ maxLen := by
    rcases w1_1 with ⟨_, h, _, _⟩ | ⟨_, _, h1, h2, _⟩
    · rw [h]; exact Nat.zero_le _
    · exact Nat.le_trans h1 h2
  have hz := fun w => Msk.count 1048576  a0_0 len0_0 cap0_0 a0_1 len0_1 cap0_1 w (by omega) m0_0 m0_1
  rw [show (((1048576 : Nat) : Int)) = 1048576 from rfl] at hz
  clear w0_0 w0_1 w1_0 w1_1
  rcases Msk.restL_or [len0_0, len0_1] 1048576 with hr | ⟨r, hr, hrl, hall⟩
  · rw [hr] at hz
    have HZ := Lib.hid hz
    clear hz hr hi0_0 hl0_0 hi0_1 hl0_1 hi1_0 hl1_0 hi1_1 hl1_1
    go_enter Try.func4, Try.ntmps4
    go_wp2_with fail
    refine (HZ.out _).mono ?_
    rintro e w1 ⟨rfl, h1⟩
    go_wp2_with fail
    go_ret
    exact ⟨rfl, by repeat (first | with_reducible exact On.refl _ | apply On.alloc | refine On.trans ?_ h1)⟩
  · rw [hr] at hz
    have q0_0 : len0_0 ≤ 1048576 := hall _ (by simp)
    have q0_1 : len0_1 ≤ 1048576 := hall _ (by simp)
    have hr0 : ¬ ((r : Int) < 0) := by omega
    have HZ := Lib.hid hz
    clear hz hr hall
    have hy := fun w => Msk.count r  a1_0 len1_0 cap1_0 a1_1 len1_1 cap1_1 w hrl m1_0 m1_1
    clear  m0_0 m0_1 m1_0 m1_1
    rcases Msk.restL_or [len1_0, len1_1] r with hs | ⟨s, hs, hsl, hall⟩
    · rw [hs] at hy
      have HY := Lib.hid hy
      clear hy hs hrl hi0_0 hl0_0 hi0_1 hl0_1 hi1_0 hl1_0 hi1_1 hl1_1 q0_0 q0_1
      go_enter Try.func4, Try.ntmps4
      go_wp2_with fail
      refine (HZ.out _).mono ?_
      rintro e w1 ⟨rfl, h1⟩
      have L1 : Msk.In w1 (w.heap.size + 1)  (.slice a1_0 len1_0 cap1_0) (.slice a1_1 len1_1 cap1_1) := Msk.In.on ⟨by simp [go_sem], by simp [go_sem]⟩ h1
      obtain ⟨l1_0, l1_1⟩ := L1
      have HO1 := Lib.hid (On.trans (On.alloc (On.alloc (On.refl w) _) _) h1)
      clear h1
      go_wp2_with fail
      refine (HY.out _).mono ?_
      rintro e w2 ⟨rfl, h2⟩
      go_wp2_with fail
      go_ret
      exact ⟨rfl, On.trans HO1.out h2⟩
    · rw [hs] at hy
      have q1_0 : len1_0 ≤ 1048576 := Nat.le_trans (hall _ (by simp)) hrl
      have q1_1 : len1_1 ≤ 1048576 := Nat.le_trans (hall _ (by simp)) hrl
      have hs0 : ¬ ((s : Int) < 0) := by omega
      have HY := Lib.hid hy
      clear hy hs hall hrl hsl
      obtain ⟨z0_0x, hz0_0⟩ : ∃ z, z = z0_0.take len0_0 := ⟨_, rfl⟩
      rw [← hz0_0] at hi0_0 hl0_0
      clear hz0_0
      subst hl0_0
      have H0_0 := Lib.hid hi0_0
      clear hi0_0
      obtain ⟨z0_1x, hz0_1⟩ : ∃ z, z = z0_1.take len0_1 := ⟨_, rfl⟩
      rw [← hz0_1] at hi0_1 hl0_1
      clear hz0_1
      subst hl0_1
      have H0_1 := Lib.hid hi0_1
      clear hi0_1
      obtain ⟨z1_0x, hz1_0⟩ : ∃ z, z = z1_0.take len1_0 := ⟨_, rfl⟩
      rw [← hz1_0] at hi1_0 hl1_0
      clear hz1_0
      subst hl1_0
      have H1_0 := Lib.hid hi1_0
      clear hi1_0
      obtain ⟨z1_1x, hz1_1⟩ : ∃ z, z = z1_1.take len1_1 := ⟨_, rfl⟩
      rw [← hz1_1] at hi1_1 hl1_1
      clear hz1_1
      subst hl1_1
      have H1_1 := Lib.hid hi1_1
      clear hi1_1
      have C1 := Lib.hid (fun w' (hb : On w w') => Msk.copy  (.slice a0_0 z0_0x.length cap0_0) (.slice a0_1 z0_1x.length cap0_1) z0_0x z0_1x w' q0_0 q0_1 (H0_0.out.below hb) (H0_1.out.below hb))
      have C2 := Lib.hid (fun w' (hb : On w w') => Msk.copy  (.slice a1_0 z1_0x.length cap1_0) (.slice a1_1 z1_1x.length cap1_1) z1_0x z1_1x w' q1_0 q1_1 (H1_0.out.below hb) (H1_1.out.below hb))
      clear H0_0 H0_1 H1_0 H1_1
      go_enter Try.func4, Try.ntmps4
      go_wp2_with fail
      refine (HZ.out _).mono ?_
      rintro e w1 ⟨rfl, h1⟩
      have K1 : Msk.In w1 w.heap.size  (.slice a0_0 z0_0x.length cap0_0) (.slice a0_1 z0_1x.length cap0_1) := Msk.In.on ⟨by simp [go_sem], by simp [go_sem]⟩ h1
      have L1 : Msk.In w1 (w.heap.size + 1)  (.slice a1_0 z1_0x.length cap1_0) (.slice a1_1 z1_1x.length cap1_1) := Msk.In.on ⟨by simp [go_sem], by simp [go_sem]⟩ h1
      have HO1 := Lib.hid (On.trans (On.alloc (On.alloc (On.refl w) _) _) h1)
      have HK1 := Lib.hid K1
      have HL1 := Lib.hid L1
      obtain ⟨l1_0, l1_1⟩ := L1
      clear K1 h1 HZ
      go_wp2_with fail
      refine (HY.out _).mono ?_
      rintro e w2 ⟨rfl, h2⟩
      have K2 := HK1.out.on h2
      have L2 := HL1.out.on h2
      have HO2 := Lib.hid (On.trans HO1.out h2)
      have HK2 := Lib.hid K2
      have HL2 := Lib.hid L2
      obtain ⟨k2_0, k2_1⟩ := K2
      obtain ⟨l2_0, l2_1⟩ := L2
      clear l1_0 l1_1 h2 HY HO1 HK1 HL1
      go_upto_region 8 with fail
      go_cut [6] (fun s6 wx => s6 = .bool (Msk.sameM z0_0x z0_1x z1_0x z1_1x) ∧ On w2 wx)
      case first =>
        go_region_with (first
          | (go_at_call 15; refine (C2.out _ (On.trans HO2.out (On.trans ‹On w2 w6› (by repeat (first | with_reducible exact On.refl _ | with_reducible exact Below.refl _ _ | apply On.drew))))).mono ?_; rintro e w7 ⟨a7_0, c7_0, a7_1, c7_1, rfl, -, o7_0, -, o7_1, h7⟩; (have h67 : On w6 w7 := by refine On.trans ?_ h7; repeat (first | with_reducible exact On.refl _ | apply On.drew)); have B7_0 := Lib.hid o7_0.ints; have B7_1 := Lib.hid o7_1.ints; clear o7_0 o7_1; clear h7)
          | (go_at_call 15; refine (C1.out _ (On.trans HO2.out (by repeat (first | with_reducible exact On.refl _ | with_reducible exact Below.refl _ _ | apply On.drew)))).mono ?_; rintro e w6 ⟨a6_0, c6_0, a6_1, c6_1, rfl, -, o6_0, -, o6_1, h6⟩; (have h26 : On w2 w6 := by refine On.trans ?_ h6; repeat (first | with_reducible exact On.refl _ | apply On.drew)); obtain ⟨r_0, r_1⟩ := HL2.out.on h26; have A6_0 := Lib.hid o6_0.ints; have A6_1 := Lib.hid o6_1.ints; clear o6_0 o6_1; clear h6)
          | (go_at_call 18; refine (Msk.spec_same _ _ _ _ z0_0x z0_1x z1_0x z1_1x _ q0_0 q0_1 (A6_0.out.below (On.trans ‹On w6 w7› (by repeat (first | with_reducible exact On.refl _ | with_reducible exact Below.refl _ _ | apply On.drew)))) (A6_1.out.below (On.trans ‹On w6 w7› (by repeat (first | with_reducible exact On.refl _ | with_reducible exact Below.refl _ _ | apply On.drew)))) (B7_0.out.below (by repeat (first | with_reducible exact On.refl _ | with_reducible exact Below.refl _ _ | apply On.drew))) (B7_1.out.below (by repeat (first | with_reducible exact On.refl _ | with_reducible exact Below.refl _ _ | apply On.drew)))).mono ?_; rintro e w8 ⟨rfl, h8⟩; (have h78 : On w7 w8 := by refine On.trans ?_ h8; repeat (first | with_reducible exact On.refl _ | apply On.drew)); clear h8))
        all_goals
          go_wp2_with fail
          go_meet
          exact ⟨rfl, On.trans ‹On w2 w6› (On.trans ‹On w6 w7› ‹On w7 w8›)⟩
      case rest =>
        obtain ⟨rfl, hO⟩ := hcut
        have KC := HK2.out.on hO
        have LC := HL2.out.on hO
        have HKC := Lib.hid KC
        have HLC := Lib.hid LC
        have HOC := Lib.hid (On.trans HO2.out hO)
        obtain ⟨kc_0, kc_1⟩ := KC
        clear k2_0 k2_1 l2_0 l2_1 LC hO HK2 HL2 HO2
        go_wp2_with fail
        refine (C1.out _ HOC.out).mono ?_
        rintro e w10 ⟨a10_0, c10_0, a10_1, c10_1, rfl, -, o10_0, -, o10_1, h10⟩
        have A10_0 := Lib.hid o10_0.ints; have A10_1 := Lib.hid o10_1.ints; clear o10_0 o10_1
        have HO10 := Lib.hid (On.trans HOC.out h10)
        have HK10 := Lib.hid (HKC.out.on h10)
        have L10 := HLC.out.on h10
        have HL10 := Lib.hid L10
        obtain ⟨l10_0, l10_1⟩ := L10
        have y10 := World.block_lt_of_cell? w10 _ l10_0
        clear kc_0 kc_1 h10 HOC HKC HLC
        go_wp2_with fail
        refine (C2.out _ (On.trans HO10.out (by repeat (first | with_reducible exact On.refl _ | with_reducible exact Below.refl _ _ | apply On.alloc | refine On.setCell ?_ (by (try simp) <;> omega) _)))).mono ?_
        rintro e w11 ⟨a11_0, c11_0, a11_1, c11_1, rfl, -, o11_0, -, o11_1, h11⟩
        have P11 : Msk.In w11 w10.heap.size  (.slice a10_0 z0_0x.length c10_0) (.slice a10_1 z0_1x.length c10_1) := Msk.In.on ⟨by simp [go_sem], by simp [go_sem]⟩ h11
        have h1011 : On w10 w11 := by refine On.trans ?_ h11; repeat (first | with_reducible exact On.refl _ | apply On.alloc | refine On.setCell ?_ (by (try simp) <;> omega) _)
        have A11_0 := Lib.hid (A10_0.out.below h1011)
        have A11_1 := Lib.hid (A10_1.out.below h1011)
        have B11_0 := Lib.hid o11_0.ints; have B11_1 := Lib.hid o11_1.ints; clear o11_0 o11_1
        have HO11 := Lib.hid (On.trans HO10.out h1011)
        have HK11 := Lib.hid (HK10.out.on h1011)
        have HL11 := Lib.hid (HL10.out.on h1011)
        have HP11 := Lib.hid P11
        obtain ⟨p_0, p_1⟩ := P11
        have y11 := World.block_lt_of_cell? w11 _ p_0
        clear l10_0 l10_1 y10 h11 h1011 A10_0 A10_1 HO10 HK10 HL10
        go_wp2_with fail
        refine (Msk.impl_same _ _ _ _ z0_0x z0_1x z1_0x z1_1x _ q0_0 q0_1 (A11_0.out.below (by repeat (first | with_reducible exact On.refl _ | with_reducible exact Below.refl _ _ | apply On.alloc | refine On.setCell ?_ (by (try simp) <;> omega) _))) (A11_1.out.below (by repeat (first | with_reducible exact On.refl _ | with_reducible exact Below.refl _ _ | apply On.alloc | refine On.setCell ?_ (by (try simp) <;> omega) _))) (B11_0.out.below (by repeat (first | with_reducible exact On.refl _ | with_reducible exact Below.refl _ _ | apply On.alloc | refine On.setCell ?_ (by (try simp) <;> omega) _))) (B11_1.out.below (by repeat (first | with_reducible exact On.refl _ | with_reducible exact Below.refl _ _ | apply On.alloc | refine On.setCell ?_ (by (try simp) <;> omega) _)))).mono ?_
        rintro e w12 ⟨rfl, h12⟩
        have Q12 : Msk.In w12 w11.heap.size  (.slice a11_0 z1_0x.length c11_0) (.slice a11_1 z1_1x.length c11_1) := Msk.In.on ⟨by simp [go_sem], by simp [go_sem]⟩ h12
        have h1112 : On w11 w12 := by refine On.trans ?_ h12; repeat (first | with_reducible exact On.refl _ | apply On.alloc | refine On.setCell ?_ (by (try simp) <;> omega) _)
        have A12_0 := Lib.hid (A11_0.out.below h1112)
        have B12_0 := Lib.hid (B11_0.out.below h1112)
        have A12_1 := Lib.hid (A11_1.out.below h1112)
        have B12_1 := Lib.hid (B11_1.out.below h1112)
        have HO12 := Lib.hid (On.trans HO11.out h1112)
        have HK12 := Lib.hid (HK11.out.on h1112)
        have HL12 := Lib.hid (HL11.out.on h1112)
        have HP12 := Lib.hid (HP11.out.on h1112)
        have HQ12 := Lib.hid Q12
        obtain ⟨k12_0, k12_1⟩ := HK12.out
        obtain ⟨p12_0, p12_1⟩ := HP12.out
        clear p_0 p_1 y11 h12 h1112 Q12 A11_0 B11_0 A11_1 B11_1 HO11 HK11 HL11 HP11
        go_upto_region 14 with fail
        go_cut [39] (fun s wx => s = .bool false ∧ On w12 wx)
        case first =>
          go_region_with (first
            | (go_at_call 15; refine (C1.out _ (On.trans HO12.out (by repeat (first | with_reducible exact On.refl _ | with_reducible exact Below.refl _ _ | apply On.drew)))).mono ?_; rintro e w6 ⟨a6_0, c6_0, a6_1, c6_1, rfl, -, o6_0, -, o6_1, h6⟩; (have h126 : On w12 w6 := by refine On.trans ?_ h6; repeat (first | with_reducible exact On.refl _ | apply On.drew)); obtain ⟨r_0, r_1⟩ := HP12.out.on h126; have A6_0 := Lib.hid o6_0.ints; have A6_1 := Lib.hid o6_1.ints; clear o6_0 o6_1; clear h6)
            | (go_at_call 17; refine (Msk.eq  _ _ _ _ z0_0x z0_1x _ q0_0 q0_1 ((A12_0.out.below ‹On w12 _›).below (by repeat (first | with_reducible exact On.refl _ | with_reducible exact Below.refl _ _ | apply On.drew))) ((A12_1.out.below ‹On w12 _›).below (by repeat (first | with_reducible exact On.refl _ | with_reducible exact Below.refl _ _ | apply On.drew))) (A6_0.out.below (by repeat (first | with_reducible exact On.refl _ | with_reducible exact Below.refl _ _ | apply On.drew))) (A6_1.out.below (by repeat (first | with_reducible exact On.refl _ | with_reducible exact Below.refl _ _ | apply On.drew)))).mono ?_; rintro e w7 ⟨rfl, h7⟩; (have h67 : On w6 w7 := by refine On.trans ?_ h7; repeat (first | with_reducible exact On.refl _ | apply On.drew)); clear h7))
          all_goals
            go_wp2_with fail
            go_meet
            exact ⟨rfl, On.trans ‹On w12 w6› ‹On w6 w7›⟩
        case rest =>
          obtain ⟨rfl, hO⟩ := hcut
          have BC_0 := Lib.hid (B12_0.out.below hO)
          have BC_1 := Lib.hid (B12_1.out.below hO)
          have HOC := Lib.hid (On.trans HO12.out hO)
          have LC := HL12.out.on hO
          have QC := HQ12.out.on hO
          have HQC := Lib.hid QC
          obtain ⟨lc_0, lc_1⟩ := LC
          obtain ⟨qc_0, qc_1⟩ := QC
          clear k12_0 k12_1 p12_0 p12_1 hO A12_0 B12_0 A12_1 B12_1 HO12 HK12 HL12 HP12 HQ12
          go_wp2_with fail
          go_region_with (first
            | (go_at_call 15; refine (C2.out _ (On.trans HOC.out (by repeat (first | with_reducible exact On.refl _ | with_reducible exact Below.refl _ _ | apply On.drew)))).mono ?_; rintro e w6 ⟨a6_0, c6_0, a6_1, c6_1, rfl, -, o6_0, -, o6_1, h6⟩; (have h56 : On wc w6 := by refine On.trans ?_ h6; repeat (first | with_reducible exact On.refl _ | apply On.drew)); obtain ⟨r_0, r_1⟩ := HQC.out.on h56; have A6_0 := Lib.hid o6_0.ints; have A6_1 := Lib.hid o6_1.ints; clear o6_0 o6_1; clear h6)
            | (go_at_call 17; refine (Msk.eq  _ _ _ _ z1_0x z1_1x _ q1_0 q1_1 ((BC_0.out.below ‹On wc _›).below (by repeat (first | with_reducible exact On.refl _ | with_reducible exact Below.refl _ _ | apply On.drew))) ((BC_1.out.below ‹On wc _›).below (by repeat (first | with_reducible exact On.refl _ | with_reducible exact Below.refl _ _ | apply On.drew))) (A6_0.out.below (by repeat (first | with_reducible exact On.refl _ | with_reducible exact Below.refl _ _ | apply On.drew))) (A6_1.out.below (by repeat (first | with_reducible exact On.refl _ | with_reducible exact Below.refl _ _ | apply On.drew)))).mono ?_; rintro e w7 ⟨rfl, h7⟩; (have h67 : On w6 w7 := by refine On.trans ?_ h7; repeat (first | with_reducible exact On.refl _ | apply On.drew)); clear h7))
          all_goals
            go_wp2_with fail
            go_ret
            exact ⟨rfl, On.trans HOC.out (On.trans ‹On wc w6› ‹On w6 w7›)⟩

set_option maxRecDepth 100000 in
/-- The row's step. -/
theorem lifted (os : Os) (started : os.Started) (H : Type) (enc : TypeId × Value → H) :
    ReturnsInHanded {} Try.checked os 4 .any (Rows.fnExactSameMaskSpec.pre6 enc Try.prog Try.f4 Rows.fnExactSameMaskRow.domain false) (Rows.fnExactSameMaskSpec.post enc Try.prog Try.f4 false true false false) := by
  refine returnsInHanded_of_change (C := Try.checked) own started (by kernel_rfl) Try.func4
    (ChangeSpec.witness6 (enc := enc) (C := Try.checked) false ⟨#[], #[.agg #[.slice none 0 0, .slice none 0 0], .agg #[.slice none 0 0, .slice none 0 0]], []⟩ 8 (by kernel_rfl) (by kernel_rfl) (by kernel_rfl) (by kernel_rfl)) ?_
  intro W base args ds gs before hval0 hW hcnd _
  have hval : ∀ (j : Nat) t v, Try.f4.params[j]? = some t → args[j]? = some v → Value.okWide Try.prog W .any base t v := hval0
  have hW' := hW
  obtain ⟨p, q, hA0, hV, rfl, hfz, hnd⟩ := hW
  have hA : DataW.TrodAll enc Try.prog W 0 (fun _ => true) true Try.f4.params.toList args.toList ds p := hA0
  rw [Try.params4] at hA hval
  obtain ⟨v0, vs0, d0, ds0, p0, q0, hargs, rfl, rfl, h0, r0⟩ := trodAll_cons hA
  obtain ⟨v1, vs1, d1, ds1, p1, q1, rfl, rfl, rfl, h1, r1⟩ := trodAll_cons r0
  obtain ⟨rfl, rfl, rfl⟩ := trodAll_nil r1
  obtain rfl : args = #[v0, v1] := by cases args; simp_all
  obtain ⟨rfl, rfl⟩ := trodVars_none hV
  have k0 := h0
  have lt0 : ∀ x ∈ p0, x.block < W.heap.size := by obtain ⟨m, hm⟩ := k0; exact DataW.trod_lt m _ _ _ hm
  obtain ⟨c0_0, c0_1, y0_0, y0_1, n0, rfl, -, -, e0_0, e0_1⟩ := Joins.open_agg2 Try.underlying24 (by kernel_rfl) (by kernel_rfl) (hval 0 24 v0 rfl rfl) h0
  obtain ⟨a0_0, len0_0, cap0_0, z0_0, hc0_0, w0_0⟩ : ∃ a len cap zs, c0_0 = .slice a len cap ∧ IsRow .i64 W a len cap zs := by
    rcases open_ints Try.underlying22 Try.underlying2 (by kernel_rfl) e0_0 with ⟨hcs, _⟩ | ⟨x, l, c, zs, hcs, _, hl, hm, hz, _, hcell, hwz⟩
    · exact ⟨none, 0, 0, [], by simpa using hcs, .inl ⟨rfl, rfl, rfl, rfl⟩⟩
    · exact ⟨some x, l, c, zs, by simpa using hcs, .inr ⟨_, rfl, hl, hm, by simpa using hz, hcell, hwz⟩⟩
  subst hc0_0
  obtain ⟨a0_1, len0_1, cap0_1, z0_1, hc0_1, w0_1⟩ : ∃ a len cap zs, c0_1 = .slice a len cap ∧ IsRow .i64 W a len cap zs := by
    rcases open_ints Try.underlying22 Try.underlying2 (by kernel_rfl) e0_1 with ⟨hcs, _⟩ | ⟨x, l, c, zs, hcs, _, hl, hm, hz, _, hcell, hwz⟩
    · exact ⟨none, 0, 0, [], by simpa using hcs, .inl ⟨rfl, rfl, rfl, rfl⟩⟩
    · exact ⟨some x, l, c, zs, by simpa using hcs, .inr ⟨_, rfl, hl, hm, by simpa using hz, hcell, hwz⟩⟩
  subst hc0_1
  have k1 := h1
  have lt1 : ∀ x ∈ p1, x.block < W.heap.size := by obtain ⟨m, hm⟩ := k1; exact DataW.trod_lt m _ _ _ hm
  obtain ⟨c1_0, c1_1, y1_0, y1_1, n1, rfl, -, -, e1_0, e1_1⟩ := Joins.open_agg2 Try.underlying24 (by kernel_rfl) (by kernel_rfl) (hval 1 24 v1 rfl rfl) h1
  obtain ⟨a1_0, len1_0, cap1_0, z1_0, hc1_0, w1_0⟩ : ∃ a len cap zs, c1_0 = .slice a len cap ∧ IsRow .i64 W a len cap zs := by
    rcases open_ints Try.underlying22 Try.underlying2 (by kernel_rfl) e1_0 with ⟨hcs, _⟩ | ⟨x, l, c, zs, hcs, _, hl, hm, hz, _, hcell, hwz⟩
    · exact ⟨none, 0, 0, [], by simpa using hcs, .inl ⟨rfl, rfl, rfl, rfl⟩⟩
    · exact ⟨some x, l, c, zs, by simpa using hcs, .inr ⟨_, rfl, hl, hm, by simpa using hz, hcell, hwz⟩⟩
  subst hc1_0
  obtain ⟨a1_1, len1_1, cap1_1, z1_1, hc1_1, w1_1⟩ : ∃ a len cap zs, c1_1 = .slice a len cap ∧ IsRow .i64 W a len cap zs := by
    rcases open_ints Try.underlying22 Try.underlying2 (by kernel_rfl) e1_1 with ⟨hcs, _⟩ | ⟨x, l, c, zs, hcs, _, hl, hm, hz, _, hcell, hwz⟩
    · exact ⟨none, 0, 0, [], by simpa using hcs, .inl ⟨rfl, rfl, rfl, rfl⟩⟩
    · exact ⟨some x, l, c, zs, by simpa using hcs, .inr ⟨_, rfl, hl, hm, by simpa using hz, hcell, hwz⟩⟩
  subst hc1_1
  clear hA0
  refine (walk W a0_0 len0_0 cap0_0 z0_0 w0_0 a0_1 len0_1 cap0_1 z0_1 w0_1 a1_0 len1_0 cap1_0 z1_0 w1_0 a1_1 len1_1 cap1_1 z1_1 w1_1 ).mono fun e W' ⟨he, bel⟩ => ?_
  subst he
  exact ⟨_, rfl, _, _, _, [], _, [], hW', trodAll_mk1 (shut_bool Try.underlying4 _), (trodAll_cons_mk (Below.trod laidOut (by kernel_rfl) (of_decide_eq_true (by kernel_rfl)) k0 bel lt0) (trodAll_cons_mk (Below.trod laidOut (by kernel_rfl) (of_decide_eq_true (by kernel_rfl)) k1 bel lt1) trodAll_mk0)), rfl, bel.frame _, fun h => by cases h⟩

theorem proved : Rows.FnExactSameMaskSaid :=
  OpenClaim.holds_of_wide 4 Try.f4 rfl rfl rfl rfl rfl rfl rfl ⟨rfl, rfl, rfl, rfl, rfl⟩ rfl rfl rfl rfl rfl (by kernel_rfl) Try.func4 (by kernel_rfl)
    (of_decide_eq_true (by kernel_rfl)) (by unfold Func.isWrapper; first | (rw [if_pos (by decide +kernel)]; kernel_rfl) | (rw [if_neg (by decide +kernel)]; exact ⟨rfl, rfl⟩))
    (fun os started H enc _ => lifted os started H enc)
end Go.Proofs.Ytjnkfpgglhgkaaa.fnExactSameMask
