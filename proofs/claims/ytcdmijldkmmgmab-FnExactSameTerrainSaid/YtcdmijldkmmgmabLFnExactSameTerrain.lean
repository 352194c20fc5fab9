/-
  For all two terrains SameTerrain of the program returns what the model returns, and leaves the terrains alone: the statement FnExactSameTerrain, with no condition (terrains of more than 1048576 heights and classes are let pass by the statement itself).
-/
import Derived.Test.YtcdmijldkmmgmabRows
import Derived.Test.YtcdmijldkmmgmabTerrSame
import Derived.Deep.RegionWith
import Derived.Deep.DeepCutAuto
import Derived.WalkKit
import Derived.ProofKit
import Derived.OpenShut
import Derived.ShutString
import Derived.Below
import Derived.Lib.SmallJoins
import Derived.Test.YtcdmijldkmmgmabAgg
namespace Go.Proofs.Ytcdmijldkmmgmab.fnExactSameTerrain
open Go.ChangeShapes Go.WideShapes Go.ChangeAt Go.RowKit
open Go.ChangeMaps (open_string shut_string)
set_option linter.unusedVariables false

theorem own : ownKnob Try.prog.godebug = none := by kernel_rfl
theorem laidOut : laidOutB Try.prog = true := by kernel_rfl

/-- What the walk is told of a slice of integers that came in: it is nil; or it leads to a row of 'cap' cells, the numbers 'zs' (the first 'len' are its elements), each fitting its kind. -/
def IsRow (k : IntKind) (w : World) (a : Option Addr) (len cap : Nat) (zs : List Int) : Prop :=
  (a = none ∧ len = 0 ∧ cap = 0 ∧ zs = []) ∨
  ∃ x, a = some x ∧ len ≤ cap ∧ cap ≤ maxLen ∧ zs.length = cap ∧ (∀ i, i < zs.length → w.cell? (x.add i) = some (.int k (zs.getD i 0))) ∧ ∀ n ∈ zs, (Lit.int k n).wf = true

set_option maxRecDepth 100000 in
set_option maxHeartbeats 4000000 in
/-- The walk. -/
theorem walk (w : World) (x0_0 : Int) (wx0_0 : (Lit.int .i64 x0_0).wf = true) (x0_1 : Int) (wx0_1 : (Lit.int .i64 x0_1).wf = true) (x0_2 : Int) (wx0_2 : (Lit.int .i64 x0_2).wf = true) (a0_3 : Option Addr) (len0_3 cap0_3 : Nat) (z0_3 : List Int) (w0_3 : IsRow .i64 w a0_3 len0_3 cap0_3 z0_3) (a0_4 : Option Addr) (len0_4 cap0_4 : Nat) (z0_4 : List Int) (w0_4 : IsRow .i64 w a0_4 len0_4 cap0_4 z0_4) (x1_0 : Int) (wx1_0 : (Lit.int .i64 x1_0).wf = true) (x1_1 : Int) (wx1_1 : (Lit.int .i64 x1_1).wf = true) (x1_2 : Int) (wx1_2 : (Lit.int .i64 x1_2).wf = true) (a1_3 : Option Addr) (len1_3 cap1_3 : Nat) (z1_3 : List Int) (w1_3 : IsRow .i64 w a1_3 len1_3 cap1_3 z1_3) (a1_4 : Option Addr) (len1_4 cap1_4 : Nat) (z1_4 : List Int) (w1_4 : IsRow .i64 w a1_4 len1_4 cap1_4 z1_4) :
    Calls Try.prog 7 #[.agg #[.int .i64 x0_0, .int .i64 x0_1, .int .i64 x0_2, .slice a0_3 len0_3 cap0_3, .slice a0_4 len0_4 cap0_4], .agg #[.int .i64 x1_0, .int .i64 x1_1, .int .i64 x1_2, .slice a1_3 len1_3 cap1_3, .slice a1_4 len1_4 cap1_4]] w fun e w' => e = .returned (.bool true) ∧ Below w.heap.size w w' := by
  obtain ⟨hi, hlen⟩ := Ints.Ints.of_arg w0_3
  obtain ⟨hj, hmen⟩ := Ints.Ints.of_arg w0_4
  obtain ⟨hi2, hlen2⟩ := Ints.Ints.of_arg w1_3
  obtain ⟨hj2, hmen2⟩ := Ints.Ints.of_arg w1_4
  have hmx03 : len0_3 ≤ maxLen := by
    rcases w0_3 with ⟨_, h, _, _⟩ | ⟨_, _, h1, h2, _⟩
    · rw [h]; exact Nat.zero_le _
    · exact Nat.le_trans h1 h2
  have hmx04 : len0_4 ≤ maxLen := by
    rcases w0_4 with ⟨_, h, _, _⟩ | ⟨_, _, h1, h2, _⟩
    · rw [h]; exact Nat.zero_le _
    · exact Nat.le_trans h1 h2
  have hmx13 : len1_3 ≤ maxLen := by
    rcases w1_3 with ⟨_, h, _, _⟩ | ⟨_, _, h1, h2, _⟩
    · rw [h]; exact Nat.zero_le _
    · exact Nat.le_trans h1 h2
  have hmx14 : len1_4 ≤ maxLen := by
    rcases w1_4 with ⟨_, h, _, _⟩ | ⟨_, _, h1, h2, _⟩
    · rw [h]; exact Nat.zero_le _
    · exact Nat.le_trans h1 h2
  have hz := fun w => Terr.szTerrain 1048576 len0_3 len0_4 x0_0 x0_1 x0_2 a0_3 a0_4 cap0_3 cap0_4 w (by omega) hmx03 hmx04
  rw [show (((1048576 : Nat) : Int)) = 1048576 from rfl] at hz
  clear w0_3 w0_4 w1_3 w1_4 hmx03 hmx04
  by_cases hl : len0_3 ≤ 1048576 ∧ len0_4 ≤ 1048576 - len0_3
  · obtain ⟨hl, hl1⟩ := hl
    obtain ⟨r, hr⟩ : ∃ r : Nat, r = 1048576 - len0_3 - len0_4 := ⟨_, rfl⟩
    rw [show Terr.rest2 1048576 len0_3 len0_4 = (r : Int) by unfold Terr.rest2; rw [if_pos hl, Terr.rest_yes hl1, hr]] at hz
    have hr0 : ¬ ((r : Int) < 0) := by omega
    have HZ := Lib.hid hz
    have hy := fun w => Terr.szTerrain r len1_3 len1_4 x1_0 x1_1 x1_2 a1_3 a1_4 cap1_3 cap1_4 w (by omega) hmx13 hmx14
    by_cases hl2 : len1_3 ≤ r ∧ len1_4 ≤ r - len1_3
    · obtain ⟨hl2, hl3⟩ := hl2
      obtain ⟨q, hq⟩ : ∃ q : Nat, q = r - len1_3 - len1_4 := ⟨_, rfl⟩
      rw [show Terr.rest2 r len1_3 len1_4 = (q : Int) by unfold Terr.rest2; rw [if_pos hl2, Terr.rest_yes hl3, hq]] at hy
      have hq0 : ¬ ((q : Int) < 0) := by omega
      have HY := Lib.hid hy
      have hn0 : len0_4 ≤ 1048576 := by omega
      have hm0 : len1_3 ≤ 1048576 := by omega
      have hm1 : len1_4 ≤ 1048576 := by omega
      clear hz hy hr hq hmx13 hmx14 hl1 hl2 hl3
      obtain ⟨zs, hzs⟩ : ∃ zs, zs = z0_3.take len0_3 := ⟨_, rfl⟩
      obtain ⟨cs, hcs⟩ : ∃ cs, cs = z0_4.take len0_4 := ⟨_, rfl⟩
      obtain ⟨ys, hys⟩ : ∃ ys, ys = z1_3.take len1_3 := ⟨_, rfl⟩
      obtain ⟨ds, hds⟩ : ∃ ds, ds = z1_4.take len1_4 := ⟨_, rfl⟩
      rw [← hzs] at hi hlen
      rw [← hcs] at hj hmen
      rw [← hys] at hi2 hlen2
      rw [← hds] at hj2 hmen2
      clear hzs hcs hys hds
      subst hlen hmen hlen2 hmen2
      have HI := Lib.hid hi
      have HJ := Lib.hid hj
      have HI2 := Lib.hid hi2
      have HJ2 := Lib.hid hj2
      have C1 := Lib.hid (fun w' (hb : On w w') => Terr.toTerrain x0_0 x0_1 x0_2 (.slice a0_3 zs.length cap0_3) (.slice a0_4 cs.length cap0_4) zs cs w' hl hn0 (HI.out.below hb) (HJ.out.below hb))
      have C2 := Lib.hid (fun w' (hb : On w w') => Terr.toTerrain x1_0 x1_1 x1_2 (.slice a1_3 ys.length cap1_3) (.slice a1_4 ds.length cap1_4) ys ds w' hm0 hm1 (HI2.out.below hb) (HJ2.out.below hb))
      clear hi hj hi2 hj2 HI HJ HI2 HJ2
      go_enter Try.func7, Try.ntmps7
      go_wp2_with fail
      refine (HZ.out _).mono ?_
      rintro e w1 ⟨rfl, h1⟩
      have K1 : Terr.TIn w1 w.heap.size x0_0 x0_1 x0_2 (.slice a0_3 zs.length cap0_3) (.slice a0_4 cs.length cap0_4) := Terr.TIn.on ⟨by simp [go_sem], by simp [go_sem], by simp [go_sem], by simp [go_sem], by simp [go_sem]⟩ h1
      have L1 : Terr.TIn w1 (w.heap.size + 1) x1_0 x1_1 x1_2 (.slice a1_3 ys.length cap1_3) (.slice a1_4 ds.length cap1_4) := Terr.TIn.on ⟨by simp [go_sem], by simp [go_sem], by simp [go_sem], by simp [go_sem], by simp [go_sem]⟩ h1
      have HO1 := Lib.hid (On.trans (On.alloc (On.alloc (On.refl w) _) _) h1)
      have HK1 := Lib.hid K1
      have HL1 := Lib.hid L1
      obtain ⟨l10, l11, l12, l13, l14⟩ := L1
      clear K1 h1 HZ
      go_wp2_with fail
      refine (HY.out _).mono ?_
      rintro e w2 ⟨rfl, h2⟩
      have K2 := HK1.out.on h2
      have L2 := HL1.out.on h2
      have HO2 := Lib.hid (On.trans HO1.out h2)
      have HK2 := Lib.hid K2
      have HL2 := Lib.hid L2
      obtain ⟨k20, k21, k22, k23, k24⟩ := K2
      obtain ⟨l20, l21, l22, l23, l24⟩ := L2
      clear l10 l11 l12 l13 l14 h2 HY HO1 HK1 HL1
      go_upto_region 8 with fail
      go_cut [6] (fun s6 wx => s6 = .bool (Terr.sameT x0_0 x0_1 x0_2 zs cs x1_0 x1_1 x1_2 ys ds) ∧ On w2 wx)
      case first =>
        go_region_with (first
          | (go_at_call 13; refine (C2.out _ (On.trans HO2.out (On.trans ‹On w2 w6› (by repeat (first | with_reducible exact On.refl _ | with_reducible exact Below.refl _ _ | apply On.drew))))).mono ?_; rintro e w7 ⟨a7, cap7, b7, dap7, rfl, ho7, hp7, h7⟩; (have h67 : On w6 w7 := by refine On.trans ?_ h7; repeat (first | with_reducible exact On.refl _ | apply On.drew)); have HB7 := Lib.hid ho7.ints; have HD7 := Lib.hid hp7.ints; clear ho7 hp7 h7)
          | (go_at_call 13; refine (C1.out _ (On.trans HO2.out (by repeat (first | with_reducible exact On.refl _ | with_reducible exact Below.refl _ _ | apply On.drew)))).mono ?_; rintro e w6 ⟨a6, cap6, b6, dap6, rfl, ho6, hp6, h6⟩; (have h26 : On w2 w6 := by refine On.trans ?_ h6; repeat (first | with_reducible exact On.refl _ | apply On.drew)); obtain ⟨q0, q1, q2, q3, q4⟩ := HL2.out.on h26; have HA6 := Lib.hid ho6.ints; have HC6 := Lib.hid hp6.ints; clear ho6 hp6 h6)
          | (go_at_call 23; refine (Terr.spec_sameT _ _ _ _ _ _ _ _ _ _ zs cs ys ds _ hl hn0 (HA6.out.below (On.trans ‹On w6 w7› (by repeat (first | with_reducible exact On.refl _ | with_reducible exact Below.refl _ _ | apply On.drew)))) (HC6.out.below (On.trans ‹On w6 w7› (by repeat (first | with_reducible exact On.refl _ | with_reducible exact Below.refl _ _ | apply On.drew)))) (HB7.out.below (by repeat (first | with_reducible exact On.refl _ | with_reducible exact Below.refl _ _ | apply On.drew))) (HD7.out.below (by repeat (first | with_reducible exact On.refl _ | with_reducible exact Below.refl _ _ | apply On.drew)))).mono ?_; rintro e w8 ⟨rfl, h8⟩; (have h78 : On w7 w8 := by refine On.trans ?_ h8; repeat (first | with_reducible exact On.refl _ | apply On.drew)); clear h8))
        all_goals
          go_wp2_with fail
          go_meet
          exact ⟨rfl, On.trans ‹On w2 w6› (On.trans ‹On w6 w7› ‹On w7 w8›)⟩
      case rest =>
        obtain ⟨rfl, hO⟩ := hcut
        have KC := HK2.out.on hO
        have LC := HL2.out.on hO
        have HKC := Lib.hid KC
        have HLC := Lib.hid LC
        have HOC := Lib.hid (On.trans HO2.out hO)
        obtain ⟨kc0, kc1, kc2, kc3, kc4⟩ := KC
        clear k20 k21 k22 k23 k24 l20 l21 l22 l23 l24 LC hO HK2 HL2 HO2
        go_wp2_with fail
        refine (C1.out _ HOC.out).mono ?_
        rintro e w10 ⟨a10, cap10, b10, dap10, rfl, ho10, hp10, h10⟩
        have HA10 := Lib.hid ho10.ints
        have HC10 := Lib.hid hp10.ints
        have HO10 := Lib.hid (On.trans HOC.out h10)
        have HK10 := Lib.hid (HKC.out.on h10)
        have L10 := HLC.out.on h10
        have HL10 := Lib.hid L10
        obtain ⟨l100, l101, l102, l103, l104⟩ := L10
        have y10 := World.block_lt_of_cell? w10 _ l100
        clear kc0 kc1 kc2 kc3 kc4 h10 ho10 hp10 HOC HKC HLC
        go_wp2_with fail
        refine (C2.out _ (On.trans HO10.out (by repeat (first | with_reducible exact On.refl _ | with_reducible exact Below.refl _ _ | apply On.alloc | refine On.setCell ?_ (by (try simp) <;> omega) _)))).mono ?_
        rintro e w11 ⟨a11, cap11, b11, dap11, rfl, ho11, hp11, h11⟩
        have P11 : Terr.TIn w11 w10.heap.size x0_0 x0_1 x0_2 (.slice a10 zs.length cap10) (.slice b10 cs.length dap10) := Terr.TIn.on ⟨by simp [go_sem], by simp [go_sem], by simp [go_sem], by simp [go_sem], by simp [go_sem]⟩ h11
        have h1011 : On w10 w11 := by refine On.trans ?_ h11; repeat (first | with_reducible exact On.refl _ | apply On.alloc | refine On.setCell ?_ (by (try simp) <;> omega) _)
        have HA11 := Lib.hid (HA10.out.below h1011)
        have HC11 := Lib.hid (HC10.out.below h1011)
        have HB11 := Lib.hid ho11.ints
        have HD11 := Lib.hid hp11.ints
        have HO11 := Lib.hid (On.trans HO10.out h1011)
        have HK11 := Lib.hid (HK10.out.on h1011)
        have HL11 := Lib.hid (HL10.out.on h1011)
        have HP11 := Lib.hid P11
        obtain ⟨p0, p1, p2, p3, p4⟩ := P11
        have y11 := World.block_lt_of_cell? w11 _ p0
        clear l100 l101 l102 l103 l104 y10 h11 ho11 hp11 h1011 HA10 HC10 HO10 HK10 HL10
        go_wp2_with fail
        refine (Terr.impl_sameT _ _ _ _ _ _ _ _ _ _ zs cs ys ds _ hl hn0 (HA11.out.below (by repeat (first | with_reducible exact On.refl _ | with_reducible exact Below.refl _ _ | apply On.alloc | refine On.setCell ?_ (by (try simp) <;> omega) _))) (HC11.out.below (by repeat (first | with_reducible exact On.refl _ | with_reducible exact Below.refl _ _ | apply On.alloc | refine On.setCell ?_ (by (try simp) <;> omega) _))) (HB11.out.below (by repeat (first | with_reducible exact On.refl _ | with_reducible exact Below.refl _ _ | apply On.alloc | refine On.setCell ?_ (by (try simp) <;> omega) _))) (HD11.out.below (by repeat (first | with_reducible exact On.refl _ | with_reducible exact Below.refl _ _ | apply On.alloc | refine On.setCell ?_ (by (try simp) <;> omega) _)))).mono ?_
        rintro e w12 ⟨rfl, h12⟩
        have Q12 : Terr.TIn w12 w11.heap.size x1_0 x1_1 x1_2 (.slice a11 ys.length cap11) (.slice b11 ds.length dap11) := Terr.TIn.on ⟨by simp [go_sem], by simp [go_sem], by simp [go_sem], by simp [go_sem], by simp [go_sem]⟩ h12
        have h1112 : On w11 w12 := by refine On.trans ?_ h12; repeat (first | with_reducible exact On.refl _ | apply On.alloc | refine On.setCell ?_ (by (try simp) <;> omega) _)
        have HA12 := Lib.hid (HA11.out.below h1112)
        have HC12 := Lib.hid (HC11.out.below h1112)
        have HB12 := Lib.hid (HB11.out.below h1112)
        have HD12 := Lib.hid (HD11.out.below h1112)
        have HO12 := Lib.hid (On.trans HO11.out h1112)
        have HK12 := Lib.hid (HK11.out.on h1112)
        have HL12 := Lib.hid (HL11.out.on h1112)
        have HP12 := Lib.hid (HP11.out.on h1112)
        have HQ12 := Lib.hid Q12
        obtain ⟨k120, k121, k122, k123, k124⟩ := HK12.out
        obtain ⟨p120, p121, p122, p123, p124⟩ := HP12.out
        clear p0 p1 p2 p3 p4 y11 h12 h1112 Q12 HA11 HC11 HB11 HD11 HO11 HK11 HL11 HP11
        go_upto_region 14 with fail
        go_cut [39] (fun s wx => s = .bool false ∧ On w12 wx)
        case first =>
          go_region_with (first
            | (go_at_call 13; refine (C1.out _ (On.trans HO12.out (by repeat (first | with_reducible exact On.refl _ | with_reducible exact Below.refl _ _ | apply On.drew)))).mono ?_; rintro e w6 ⟨a6, cap6, b6, dap6, rfl, ho6, hp6, h6⟩; (have h56 : On w12 w6 := by refine On.trans ?_ h6; repeat (first | with_reducible exact On.refl _ | apply On.drew)); obtain ⟨q0, q1, q2, q3, q4⟩ := HP12.out.on h56; have HA6 := Lib.hid ho6.ints; have HC6 := Lib.hid hp6.ints; clear ho6 hp6 h6)
            | (go_at_call 15; refine (Terr.eqTerrain _ _ _ _ _ _ _ zs cs _ hl hn0 ((HA12.out.below ‹On w12 _›).below (by repeat (first | with_reducible exact On.refl _ | with_reducible exact Below.refl _ _ | apply On.drew))) ((HC12.out.below ‹On w12 _›).below (by repeat (first | with_reducible exact On.refl _ | with_reducible exact Below.refl _ _ | apply On.drew))) (HA6.out.below (by repeat (first | with_reducible exact On.refl _ | with_reducible exact Below.refl _ _ | apply On.drew))) (HC6.out.below (by repeat (first | with_reducible exact On.refl _ | with_reducible exact Below.refl _ _ | apply On.drew)))).mono ?_; rintro e w7 ⟨rfl, h7⟩; (have h67 : On w6 w7 := by refine On.trans ?_ h7; repeat (first | with_reducible exact On.refl _ | apply On.drew)); clear h7))
          all_goals
            go_wp2_with fail
            go_meet
            exact ⟨rfl, On.trans ‹On w12 w6› ‹On w6 w7›⟩
        case rest =>
          obtain ⟨rfl, hO⟩ := hcut
          have HBC := Lib.hid (HB12.out.below hO)
          have HDC := Lib.hid (HD12.out.below hO)
          have HOC := Lib.hid (On.trans HO12.out hO)
          have LC := HL12.out.on hO
          have QC := HQ12.out.on hO
          have HQC := Lib.hid QC
          obtain ⟨lc0, lc1, lc2, lc3, lc4⟩ := LC
          obtain ⟨qc0, qc1, qc2, qc3, qc4⟩ := QC
          clear k120 k121 k122 k123 k124 p120 p121 p122 p123 p124 hO HA12 HC12 HB12 HD12 HO12 HK12 HL12 HP12 HQ12
          go_wp2_with fail
          go_region_with (first
            | (go_at_call 13; refine (C2.out _ (On.trans HOC.out (by repeat (first | with_reducible exact On.refl _ | with_reducible exact Below.refl _ _ | apply On.drew)))).mono ?_; rintro e w6 ⟨a6, cap6, b6, dap6, rfl, ho6, hp6, h6⟩; (have h56 : On wc w6 := by refine On.trans ?_ h6; repeat (first | with_reducible exact On.refl _ | apply On.drew)); obtain ⟨q0, q1, q2, q3, q4⟩ := HQC.out.on h56; have HA6 := Lib.hid ho6.ints; have HC6 := Lib.hid hp6.ints; clear ho6 hp6 h6)
            | (go_at_call 15; refine (Terr.eqTerrain _ _ _ _ _ _ _ ys ds _ hm0 hm1 ((HBC.out.below ‹On wc _›).below (by repeat (first | with_reducible exact On.refl _ | with_reducible exact Below.refl _ _ | apply On.drew))) ((HDC.out.below ‹On wc _›).below (by repeat (first | with_reducible exact On.refl _ | with_reducible exact Below.refl _ _ | apply On.drew))) (HA6.out.below (by repeat (first | with_reducible exact On.refl _ | with_reducible exact Below.refl _ _ | apply On.drew))) (HC6.out.below (by repeat (first | with_reducible exact On.refl _ | with_reducible exact Below.refl _ _ | apply On.drew)))).mono ?_; rintro e w7 ⟨rfl, h7⟩; (have h67 : On w6 w7 := by refine On.trans ?_ h7; repeat (first | with_reducible exact On.refl _ | apply On.drew)); clear h7))
          all_goals
            go_wp2_with fail
            go_ret
            exact ⟨rfl, On.trans HOC.out (On.trans ‹On wc w6› ‹On w6 w7›)⟩
    · rw [show Terr.rest2 r len1_3 len1_4 = -1 by unfold Terr.rest2 Terr.rest; split <;> (try split) <;> omega] at hy
      have HY := Lib.hid hy
      clear hz hy hi hj hi2 hj2 hlen hmen hlen2 hmen2 hr hmx13 hmx14 hl hl1 hl2
      go_enter Try.func7, Try.ntmps7
      go_wp2_with fail
      refine (HZ.out _).mono ?_
      rintro e w1 ⟨rfl, h1⟩
      obtain ⟨l10, l11, l12, l13, l14⟩ : Terr.TIn w1 (w.heap.size + 1) x1_0 x1_1 x1_2 (.slice a1_3 len1_3 cap1_3) (.slice a1_4 len1_4 cap1_4) := Terr.TIn.on ⟨by simp [go_sem], by simp [go_sem], by simp [go_sem], by simp [go_sem], by simp [go_sem]⟩ h1
      have HO1 := Lib.hid (On.trans (On.alloc (On.alloc (On.refl w) _) _) h1)
      clear h1
      go_wp2_with fail
      refine (HY.out _).mono ?_
      rintro e w2 ⟨rfl, h2⟩
      go_wp2_with fail
      go_ret
      exact ⟨rfl, On.trans HO1.out h2⟩
  · rw [show Terr.rest2 1048576 len0_3 len0_4 = -1 by unfold Terr.rest2 Terr.rest; split <;> (try split) <;> omega] at hz
    have HZ := Lib.hid hz
    clear hz hi hj hi2 hj2 hlen hmen hlen2 hmen2 hmx13 hmx14 hl
    go_enter Try.func7, Try.ntmps7
    go_wp2_with fail
    refine (HZ.out _).mono ?_
    rintro e w1 ⟨rfl, h1⟩
    go_wp2_with fail
    go_ret
    exact ⟨rfl, On.trans (On.alloc (On.alloc (On.refl w) _) _) h1⟩

set_option maxRecDepth 100000 in
/-- The row's step. -/
theorem lifted (os : Os) (started : os.Started) (H : Type) (enc : TypeId × Value → H) :
    ReturnsInHanded {} Try.checked os 7 .any (Rows.fnExactSameTerrainSpec.pre6 enc Try.prog Try.f7 Rows.fnExactSameTerrainRow.domain false) (Rows.fnExactSameTerrainSpec.post enc Try.prog Try.f7 false true false false) := by
  refine returnsInHanded_of_change (C := Try.checked) own started (by kernel_rfl) Try.func7
    (ChangeSpec.witness6 (enc := enc) (C := Try.checked) false ⟨#[], #[.agg #[.int .i64 0, .int .i64 0, .int .i64 0, .slice none 0 0, .slice none 0 0], .agg #[.int .i64 0, .int .i64 0, .int .i64 0, .slice none 0 0, .slice none 0 0]], []⟩ 8 (by kernel_rfl) (by kernel_rfl) (by kernel_rfl) (by kernel_rfl)) ?_
  intro W base args ds gs before hval0 hW hcnd _
  have hval : ∀ (j : Nat) t v, Try.f7.params[j]? = some t → args[j]? = some v → Value.okWide Try.prog W .any base t v := hval0
  have hW' := hW
  obtain ⟨p, q, hA0, hV, rfl, hfz, hnd⟩ := hW
  have hA : DataW.TrodAll enc Try.prog W 0 (fun _ => true) true Try.f7.params.toList args.toList ds p := hA0
  rw [Try.params7] at hA hval
  obtain ⟨v0, vs0, d0, ds0, p0, q0, hargs, rfl, rfl, h0, r0⟩ := trodAll_cons hA
  obtain ⟨v1, vs1, d1, ds1, p1, q1, rfl, rfl, rfl, h1, r1⟩ := trodAll_cons r0
  obtain ⟨rfl, rfl, rfl⟩ := trodAll_nil r1
  obtain rfl : args = #[v0, v1] := by cases args; simp_all
  obtain ⟨rfl, rfl⟩ := trodVars_none hV
  have k0 := h0
  have lt0 : ∀ x ∈ p0, x.block < W.heap.size := by obtain ⟨m, hm⟩ := k0; exact DataW.trod_lt m _ _ _ hm
  obtain ⟨c0_0, c0_1, c0_2, c0_3, c0_4, y0_0, y0_1, y0_2, y0_3, y0_4, n0, rfl, -, -, e0_0, e0_1, e0_2, e0_3, e0_4⟩ := Agg.open_agg5 Try.underlying24 (by kernel_rfl) (by kernel_rfl) (hval 0 24 v0 rfl rfl) h0
  obtain ⟨x0_0, g0_0, -, wx0_0⟩ := DataW.trod_int Try.underlying2 e0_0
  obtain rfl : c0_0 = .int .i64 x0_0 := by simpa using g0_0
  obtain ⟨x0_1, g0_1, -, wx0_1⟩ := DataW.trod_int Try.underlying2 e0_1
  obtain rfl : c0_1 = .int .i64 x0_1 := by simpa using g0_1
  obtain ⟨x0_2, g0_2, -, wx0_2⟩ := DataW.trod_int Try.underlying2 e0_2
  obtain rfl : c0_2 = .int .i64 x0_2 := by simpa using g0_2
  obtain ⟨a0_3, len0_3, cap0_3, z0_3, hc0_3, w0_3⟩ : ∃ a len cap zs, c0_3 = .slice a len cap ∧ IsRow .i64 W a len cap zs := by
    rcases open_ints Try.underlying22 Try.underlying2 (by kernel_rfl) e0_3 with ⟨hcs, _⟩ | ⟨x, l, c, zs, hcs, _, hl, hm, hz, _, hcell, hwz⟩
    · exact ⟨none, 0, 0, [], by simpa using hcs, .inl ⟨rfl, rfl, rfl, rfl⟩⟩
    · exact ⟨some x, l, c, zs, by simpa using hcs, .inr ⟨_, rfl, hl, hm, by simpa using hz, hcell, hwz⟩⟩
  subst hc0_3
  obtain ⟨a0_4, len0_4, cap0_4, z0_4, hc0_4, w0_4⟩ : ∃ a len cap zs, c0_4 = .slice a len cap ∧ IsRow .i64 W a len cap zs := by
    rcases open_ints Try.underlying22 Try.underlying2 (by kernel_rfl) e0_4 with ⟨hcs, _⟩ | ⟨x, l, c, zs, hcs, _, hl, hm, hz, _, hcell, hwz⟩
    · exact ⟨none, 0, 0, [], by simpa using hcs, .inl ⟨rfl, rfl, rfl, rfl⟩⟩
    · exact ⟨some x, l, c, zs, by simpa using hcs, .inr ⟨_, rfl, hl, hm, by simpa using hz, hcell, hwz⟩⟩
  subst hc0_4
  have k1 := h1
  have lt1 : ∀ x ∈ p1, x.block < W.heap.size := by obtain ⟨m, hm⟩ := k1; exact DataW.trod_lt m _ _ _ hm
  obtain ⟨c1_0, c1_1, c1_2, c1_3, c1_4, y1_0, y1_1, y1_2, y1_3, y1_4, n1, rfl, -, -, e1_0, e1_1, e1_2, e1_3, e1_4⟩ := Agg.open_agg5 Try.underlying24 (by kernel_rfl) (by kernel_rfl) (hval 1 24 v1 rfl rfl) h1
  obtain ⟨x1_0, g1_0, -, wx1_0⟩ := DataW.trod_int Try.underlying2 e1_0
  obtain rfl : c1_0 = .int .i64 x1_0 := by simpa using g1_0
  obtain ⟨x1_1, g1_1, -, wx1_1⟩ := DataW.trod_int Try.underlying2 e1_1
  obtain rfl : c1_1 = .int .i64 x1_1 := by simpa using g1_1
  obtain ⟨x1_2, g1_2, -, wx1_2⟩ := DataW.trod_int Try.underlying2 e1_2
  obtain rfl : c1_2 = .int .i64 x1_2 := by simpa using g1_2
  obtain ⟨a1_3, len1_3, cap1_3, z1_3, hc1_3, w1_3⟩ : ∃ a len cap zs, c1_3 = .slice a len cap ∧ IsRow .i64 W a len cap zs := by
    rcases open_ints Try.underlying22 Try.underlying2 (by kernel_rfl) e1_3 with ⟨hcs, _⟩ | ⟨x, l, c, zs, hcs, _, hl, hm, hz, _, hcell, hwz⟩
    · exact ⟨none, 0, 0, [], by simpa using hcs, .inl ⟨rfl, rfl, rfl, rfl⟩⟩
    · exact ⟨some x, l, c, zs, by simpa using hcs, .inr ⟨_, rfl, hl, hm, by simpa using hz, hcell, hwz⟩⟩
  subst hc1_3
  obtain ⟨a1_4, len1_4, cap1_4, z1_4, hc1_4, w1_4⟩ : ∃ a len cap zs, c1_4 = .slice a len cap ∧ IsRow .i64 W a len cap zs := by
    rcases open_ints Try.underlying22 Try.underlying2 (by kernel_rfl) e1_4 with ⟨hcs, _⟩ | ⟨x, l, c, zs, hcs, _, hl, hm, hz, _, hcell, hwz⟩
    · exact ⟨none, 0, 0, [], by simpa using hcs, .inl ⟨rfl, rfl, rfl, rfl⟩⟩
    · exact ⟨some x, l, c, zs, by simpa using hcs, .inr ⟨_, rfl, hl, hm, by simpa using hz, hcell, hwz⟩⟩
  subst hc1_4
  clear hA0
  refine (walk W x0_0 wx0_0 x0_1 wx0_1 x0_2 wx0_2 a0_3 len0_3 cap0_3 z0_3 w0_3 a0_4 len0_4 cap0_4 z0_4 w0_4 x1_0 wx1_0 x1_1 wx1_1 x1_2 wx1_2 a1_3 len1_3 cap1_3 z1_3 w1_3 a1_4 len1_4 cap1_4 z1_4 w1_4 ).mono fun e W' ⟨he, bel⟩ => ?_
  subst he
  exact ⟨_, rfl, _, _, _, [], _, [], hW', trodAll_mk1 (shut_bool Try.underlying4 _), (trodAll_cons_mk (Below.trod laidOut (by kernel_rfl) (of_decide_eq_true (by kernel_rfl)) k0 bel lt0) (trodAll_cons_mk (Below.trod laidOut (by kernel_rfl) (of_decide_eq_true (by kernel_rfl)) k1 bel lt1) trodAll_mk0)), rfl, bel.frame _, fun h => by cases h⟩

theorem proved : Rows.FnExactSameTerrainSaid :=
  OpenClaim.holds_of_wide 7 Try.f7 rfl rfl rfl rfl rfl rfl rfl ⟨rfl, rfl, rfl, rfl, rfl⟩ rfl rfl rfl rfl rfl (by kernel_rfl) Try.func7 (by kernel_rfl)
    (of_decide_eq_true (by kernel_rfl)) (by unfold Func.isWrapper; first | (rw [if_pos (by decide +kernel)]; kernel_rfl) | (rw [if_neg (by decide +kernel)]; exact ⟨rfl, rfl⟩))
    (fun os started H enc _ => lifted os started H enc)
end Go.Proofs.Ytcdmijldkmmgmab.fnExactSameTerrain
