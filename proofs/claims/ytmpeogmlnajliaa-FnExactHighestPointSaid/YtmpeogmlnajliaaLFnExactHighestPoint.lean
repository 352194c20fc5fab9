/-
  For every terrain HighestPoint of the program returns what the model returns, and leaves the terrain alone: the statement FnExactHighestPoint, with no condition (a terrain of more than 1048576 heights and classes is let pass by the statement itself).
-/
import Derived.Test.YtmpeogmlnajliaaRows
import Derived.Test.YtmpeogmlnajliaaHpI
import Derived.Test.YtmpeogmlnajliaaEqP
import Derived.Test.YtmpeogmlnajliaaBox
import Derived.Test.YtmpeogmlnajliaaAgg
import Derived.Deep.RegionWith
import Derived.WalkKit
import Derived.ProofKit
import Derived.OpenShut
import Derived.ShutString
import Derived.Below
import Derived.Lib.SmallJoins
import Derived.Test.YtmpeogmlnajliaaAgg
namespace Go.Proofs.Ytmpeogmlnajliaa.fnExactHighestPoint
open Go.ChangeShapes Go.WideShapes Go.ChangeAt Go.RowKit
open Go.ChangeMaps (open_string shut_string)
set_option linter.unusedVariables false

theorem own : ownKnob Try.prog.godebug = none := by kernel_rfl
theorem laidOut : laidOutB Try.prog = true := by kernel_rfl

/-- What the walk is told of a slice of integers that came in: it is nil; or it leads to a row of 'cap' cells, the numbers 'zs' (the first 'len' are its elements), each fitting its kind. -/
def IsRow (k : IntKind) (w : World) (a : Option Addr) (len cap : Nat) (zs : List Int) : Prop :=
  (a = none ∧ len = 0 ∧ cap = 0 ∧ zs = []) ∨
  ∃ x, a = some x ∧ len ≤ cap ∧ cap ≤ maxLen ∧ zs.length = cap ∧ (∀ i, i < zs.length → w.cell? (x.add i) = some (.int k (zs.getD i 0))) ∧ ∀ n ∈ zs, (Lit.int k n).wf = true

set_option maxRecDepth 100000 in
set_option maxHeartbeats 4000000 in
/-- The walk. -/
theorem walk (w : World) (x0_0 : Int) (wx0_0 : (Lit.int .i64 x0_0).wf = true) (x0_1 : Int) (wx0_1 : (Lit.int .i64 x0_1).wf = true) (x0_2 : Int) (wx0_2 : (Lit.int .i64 x0_2).wf = true) (a0_3 : Option Addr) (len0_3 cap0_3 : Nat) (z0_3 : List Int) (w0_3 : IsRow .i64 w a0_3 len0_3 cap0_3 z0_3) (a0_4 : Option Addr) (len0_4 cap0_4 : Nat) (z0_4 : List Int) (w0_4 : IsRow .i64 w a0_4 len0_4 cap0_4 z0_4) :
    Calls Try.prog 4 #[.agg #[.int .i64 x0_0, .int .i64 x0_1, .int .i64 x0_2, .slice a0_3 len0_3 cap0_3, .slice a0_4 len0_4 cap0_4]] w fun e w' => e = .returned (.bool true) ∧ Below w.heap.size w w' := by
  obtain ⟨hi, hlen⟩ := Ints.Ints.of_arg w0_3
  obtain ⟨hj, hmen⟩ := Ints.Ints.of_arg w0_4
  have hmx : len0_3 ≤ maxLen := by
    rcases w0_3 with ⟨_, h, _, _⟩ | ⟨_, _, h1, h2, _⟩
    · rw [h]; exact Nat.zero_le _
    · exact Nat.le_trans h1 h2
  have hmy : len0_4 ≤ maxLen := by
    rcases w0_4 with ⟨_, h, _, _⟩ | ⟨_, _, h1, h2, _⟩
    · rw [h]; exact Nat.zero_le _
    · exact Nat.le_trans h1 h2
  have hz := fun w => Terr.szTerrain 1048576 len0_3 len0_4 x0_0 x0_1 x0_2 a0_3 a0_4 cap0_3 cap0_4 w (by omega) hmx hmy
  rw [show (((1048576 : Nat) : Int)) = 1048576 from rfl] at hz
  clear w0_3 w0_4 hmx hmy
  by_cases hl : len0_3 ≤ 1048576 ∧ len0_4 ≤ 1048576 - len0_3
  · obtain ⟨hl, hl2⟩ := hl
    obtain ⟨r, hr⟩ : ∃ r : Nat, r = 1048576 - len0_3 - len0_4 := ⟨_, rfl⟩
    rw [show Terr.rest2 1048576 len0_3 len0_4 = (r : Int) by unfold Terr.rest2; rw [if_pos hl, Terr.rest_yes hl2, hr]] at hz
    have hr0 : ¬ ((r : Int) < 0) := by omega
    have HZ := Lib.hid hz
    clear hz hr
    obtain ⟨zs, hzs⟩ : ∃ zs, zs = z0_3.take len0_3 := ⟨_, rfl⟩
    obtain ⟨cs, hcs⟩ : ∃ cs, cs = z0_4.take len0_4 := ⟨_, rfl⟩
    rw [← hzs] at hi hlen
    rw [← hcs] at hj hmen
    clear hzs hcs
    subst hlen hmen
    have hn : zs.length ≤ 1048576 := hl
    have hm : cs.length ≤ 1048576 := by omega
    have HI := Lib.hid hi
    have HJ := Lib.hid hj
    have hSp := fun (w' : World) (a2 : Option Addr) (cap2 : Nat) (b2 : Option Addr) (dap2 : Nat) (i : Ints.Ints w' (.slice a2 zs.length cap2) zs) (j : Ints.Ints w' (.slice b2 cs.length dap2) cs) => Hp.spec_HighestPoint x0_0 x0_1 x0_2 a2 b2 zs.length cap2 cs.length dap2 zs cs w' rfl rfl hn hm i j
    have hIm := fun (w' : World) (a2 : Option Addr) (cap2 : Nat) (b2 : Option Addr) (dap2 : Nat) (i : Ints.Ints w' (.slice a2 zs.length cap2) zs) (j : Ints.Ints w' (.slice b2 cs.length dap2) cs) => Hp.impl_HighestPoint x0_0 x0_1 x0_2 a2 b2 zs.length cap2 cs.length dap2 zs cs w' rfl rfl hn hm i j
    generalize Hp.hpX x0_0 x0_1 x0_2 zs cs = rx at *
    generalize Hp.hpY x0_0 x0_1 x0_2 zs cs = ry at *
    generalize Hp.hpH x0_0 x0_1 x0_2 zs cs = rh at *
    generalize Hp.hpC x0_0 x0_1 x0_2 zs cs = rc at *
    have hc1 : (rh != rh) = false := bne_self_eq_false rh
    have hc2 : (rc != rc) = false := bne_self_eq_false rc
    have HS := Lib.hid hSp
    have HM := Lib.hid hIm
    clear hi hj hl hl2 hSp hIm
    go_enter Try.func4, Try.ntmps4
    go_wp2_with fail
    refine (HZ.out _).mono ?_
    rintro e w1 ⟨rfl, h1⟩
    have K1 : Terr.TIn w1 w.heap.size x0_0 x0_1 x0_2 (.slice a0_3 zs.length cap0_3) (.slice a0_4 cs.length cap0_4) := Terr.TIn.on ⟨by simp [go_sem], by simp [go_sem], by simp [go_sem], by simp [go_sem], by simp [go_sem]⟩ h1
    have HO1 := Lib.hid (On.trans (On.alloc (On.refl w) _) h1)
    have HK1 := Lib.hid K1
    obtain ⟨k10, k11, k12, k13, k14⟩ := K1
    clear h1 HZ
    go_wp2_with fail
    refine (Terr.toTerrain _ _ _ _ _ zs cs _ hn hm (HI.out.below HO1.out) (HJ.out.below HO1.out)).mono ?_
    rintro e w2 ⟨a2, cap2, b2, dap2, rfl, ho2, hp2, h2⟩
    have HA2 := Lib.hid ho2.ints
    have HB2 := Lib.hid hp2.ints
    have HO2 := Lib.hid (On.trans HO1.out h2)
    have K2 := HK1.out.on h2
    have HK2 := Lib.hid K2
    obtain ⟨k20, k21, k22, k23, k24⟩ := K2
    clear k10 k11 k12 k13 k14 h2 ho2 hp2 HK1 HO1
    go_wp2_with fail
    refine (HS.out _ a2 cap2 b2 dap2 HA2.out HB2.out).mono ?_
    rintro e w3 ⟨rfl, h3⟩
    have HO3 := Lib.hid (On.trans HO2.out h3)
    have K3 := HK2.out.on h3
    have HK3 := Lib.hid K3
    obtain ⟨k30, k31, k32, k33, k34⟩ := K3
    have y3 := World.block_lt_of_cell? w3 _ k30
    clear k20 k21 k22 k23 k24 h3 HK2 HO2 HA2 HB2
    go_wp2_with fail
    refine (Terr.toTerrain _ _ _ _ _ zs cs _ hn hm (HI.out.below (HO3.out.trans (by repeat (first | with_reducible exact On.refl _ | apply On.alloc | refine On.setCell ?_ (by (try simp) <;> omega) _)))) (HJ.out.below (HO3.out.trans (by repeat (first | with_reducible exact On.refl _ | apply On.alloc | refine On.setCell ?_ (by (try simp) <;> omega) _))))).mono ?_
    rintro e w4 ⟨a4, cap4, b4, dap4, rfl, ho4, hp4, h4⟩
    have HA4 := Lib.hid ho4.ints
    have HB4 := Lib.hid hp4.ints
    have BP := Lib.hid (show Bx.Box w4 w3.heap.size [.int .i64 rx, .int .i64 ry] from (Bx.Box.new _ _ _).on h4)
    have g34 : On w3 w4 := by refine On.trans ?_ h4; repeat (first | with_reducible exact On.refl _ | apply On.alloc | refine On.setCell ?_ (by (try simp) <;> omega) _)
    have HO4 := Lib.hid (On.trans HO3.out g34)
    have K4 := HK3.out.on g34
    have HK4 := Lib.hid K4
    obtain ⟨k40, k41, k42, k43, k44⟩ := K4
    have zb4 := BP.out.1
    have b40 := BP.out.2 0 _ rfl
    have b41 := BP.out.2 1 _ rfl
    clear y3 k30 k31 k32 k33 k34 h4 ho4 hp4 HK3 HO3 g34
    go_wp2_with fail
    refine (HM.out _ a4 cap4 b4 dap4 (HA4.out.below (by repeat (first | with_reducible exact On.refl _ | apply On.alloc | refine On.setCell ?_ (by (try simp) <;> omega) _))) (HB4.out.below (by repeat (first | with_reducible exact On.refl _ | apply On.alloc | refine On.setCell ?_ (by (try simp) <;> omega) _)))).mono ?_
    rintro e w5 ⟨rfl, h5⟩
    have P5 : Terr.TIn w5 w4.heap.size x0_0 x0_1 x0_2 (.slice a4 zs.length cap4) (.slice b4 cs.length dap4) := Terr.TIn.on ⟨by simp [go_sem], by simp [go_sem], by simp [go_sem], by simp [go_sem], by simp [go_sem]⟩ h5
    have h45 : On w4 w5 := by refine On.trans ?_ h5; repeat (first | with_reducible exact On.refl _ | apply On.alloc | refine On.setCell ?_ (by (try simp) <;> omega) _)
    have HA5 := Lib.hid (HA4.out.below h45)
    have HB5 := Lib.hid (HB4.out.below h45)
    have HO5 := Lib.hid (On.trans HO4.out h45)
    have K5 := HK4.out.on h45
    have HP5 := Lib.hid P5
    have HK5 := Lib.hid K5
    obtain ⟨k50, k51, k52, k53, k54⟩ := K5
    have BP5 := Lib.hid (BP.out.on h45)
    have zb5 := BP5.out.1
    have b50 := BP5.out.2 0 _ rfl
    have b51 := BP5.out.2 1 _ rfl
    clear zb4 b40 b41
    obtain ⟨p50, p51, p52, p53, p54⟩ := P5
    clear k40 k41 k42 k43 k44 h5 h45 HK4 HO4 HA4 HB4
    go_wp2_with fail
    refine (Hp.eqPoint rx ry _).mono ?_
    rintro e w6 ⟨rfl, h6⟩
    have g56 : On w5 w6 := by refine On.trans ?_ h6; repeat (first | with_reducible exact On.refl _ | apply On.alloc | refine On.setCell ?_ (by (try simp) <;> omega) _)
    have HA6 := Lib.hid (HA5.out.below g56)
    have HB6 := Lib.hid (HB5.out.below g56)
    have HO6 := Lib.hid (On.trans HO5.out g56)
    have HP6 := Lib.hid (HP5.out.on g56)
    clear p50 p51 p52 p53 p54 k50 k51 k52 k53 k54 zb5 b50 b51
    obtain ⟨k60, k61, k62, k63, k64⟩ := HK5.out.on g56
    obtain ⟨p60, p61, p62, p63, p64⟩ := HP6.out
    clear h6 g56
    go_wp2_with fail
    go_region_with (first
      | (go_at_call 14; refine (Terr.toTerrain _ _ _ _ _ zs cs _ hn hm (HI.out.below (On.trans HO6.out (by repeat (first | exact On.refl _ | apply On.drew)))) (HJ.out.below (On.trans HO6.out (by repeat (first | exact On.refl _ | apply On.drew))))).mono ?_; rintro e w7 ⟨a7, cap7, b7, dap7, rfl, ho7, hp7, h7⟩; (have h67 : On w6 w7 := by refine On.trans ?_ h7; repeat (first | exact On.refl _ | apply On.drew)); obtain ⟨q0, q1, q2, q3, q4⟩ := HP6.out.on h67; have HA7 := Lib.hid ho7.ints; have HB7 := Lib.hid hp7.ints; clear ho7 hp7 h7)
      | (go_at_call 17; refine (Terr.eqTerrain _ _ _ _ _ _ _ zs cs _ hn hm ((HA6.out.below ‹On w6 _›).below (by repeat (first | exact On.refl _ | apply On.drew))) ((HB6.out.below ‹On w6 _›).below (by repeat (first | exact On.refl _ | apply On.drew))) (HA7.out.below (by repeat (first | exact On.refl _ | apply On.drew))) (HB7.out.below (by repeat (first | exact On.refl _ | apply On.drew)))).mono ?_; rintro e w8 ⟨rfl, h8⟩))
    all_goals
      go_wp2_with fail
      go_ret
      exact ⟨rfl, On.trans HO6.out (On.trans ‹On w6 _› (On.trans (by repeat (first | exact On.refl _ | apply On.drew)) ‹On _ w8›))⟩
  · rw [show Terr.rest2 1048576 len0_3 len0_4 = -1 by unfold Terr.rest2 Terr.rest; split <;> (try split) <;> omega] at hz
    have HZ := Lib.hid hz
    clear hz hi hj hlen hmen hl
    go_enter Try.func4, Try.ntmps4
    go_wp2_with fail
    refine (HZ.out _).mono ?_
    rintro e w1 ⟨rfl, h1⟩
    go_wp2_with fail
    go_ret
    exact ⟨rfl, by repeat (first | with_reducible exact On.refl _ | apply On.alloc | refine On.trans ?_ h1)⟩

set_option maxRecDepth 100000 in
/-- The row's step. -/
theorem lifted (os : Os) (started : os.Started) (H : Type) (enc : TypeId × Value → H) :
    ReturnsInHanded {} Try.checked os 4 .any (Rows.fnExactHighestPointSpec.pre6 enc Try.prog Try.f4 Rows.fnExactHighestPointRow.domain false) (Rows.fnExactHighestPointSpec.post enc Try.prog Try.f4 false true false false) := by
  refine returnsInHanded_of_change (C := Try.checked) own started (by kernel_rfl) Try.func4
    (ChangeSpec.witness6 (enc := enc) (C := Try.checked) false ⟨#[], #[.agg #[.int .i64 0, .int .i64 0, .int .i64 0, .slice none 0 0, .slice none 0 0]], []⟩ 8 (by kernel_rfl) (by kernel_rfl) (by kernel_rfl) (by kernel_rfl)) ?_
  intro W base args ds gs before hval0 hW hcnd _
  have hval : ∀ (j : Nat) t v, Try.f4.params[j]? = some t → args[j]? = some v → Value.okWide Try.prog W .any base t v := hval0
  have hW' := hW
  obtain ⟨p, q, hA0, hV, rfl, hfz, hnd⟩ := hW
  have hA : DataW.TrodAll enc Try.prog W 0 (fun _ => true) true Try.f4.params.toList args.toList ds p := hA0
  rw [Try.params4] at hA hval
  obtain ⟨v0, vs0, d0, ds0, p0, q0, hargs, rfl, rfl, h0, r0⟩ := trodAll_cons hA
  obtain ⟨rfl, rfl, rfl⟩ := trodAll_nil r0
  obtain rfl : args = #[v0] := by cases args; simp_all
  obtain ⟨rfl, rfl⟩ := trodVars_none hV
  have k0 := h0
  have lt0 : ∀ x ∈ p0, x.block < W.heap.size := by obtain ⟨m, hm⟩ := k0; exact DataW.trod_lt m _ _ _ hm
  obtain ⟨c0_0, c0_1, c0_2, c0_3, c0_4, y0_0, y0_1, y0_2, y0_3, y0_4, n0, rfl, -, -, e0_0, e0_1, e0_2, e0_3, e0_4⟩ := Agg.open_agg5 Try.underlying34 (by kernel_rfl) (by kernel_rfl) (hval 0 34 v0 rfl rfl) h0
  obtain ⟨x0_0, g0_0, -, wx0_0⟩ := DataW.trod_int Try.underlying2 e0_0
  obtain rfl : c0_0 = .int .i64 x0_0 := by simpa using g0_0
  obtain ⟨x0_1, g0_1, -, wx0_1⟩ := DataW.trod_int Try.underlying2 e0_1
  obtain rfl : c0_1 = .int .i64 x0_1 := by simpa using g0_1
  obtain ⟨x0_2, g0_2, -, wx0_2⟩ := DataW.trod_int Try.underlying2 e0_2
  obtain rfl : c0_2 = .int .i64 x0_2 := by simpa using g0_2
  obtain ⟨a0_3, len0_3, cap0_3, z0_3, hc0_3, w0_3⟩ : ∃ a len cap zs, c0_3 = .slice a len cap ∧ IsRow .i64 W a len cap zs := by
    rcases open_ints Try.underlying22 Try.underlying2 (by kernel_rfl) e0_3 with ⟨hcs, _⟩ | ⟨x, l, c, zs, hcs, _, hl, hm, hz, _, hcell, hwz⟩
    · exact ⟨none, 0, 0, [], by simpa using hcs, .inl ⟨rfl, rfl, rfl, rfl⟩⟩
    · exact ⟨some x, l, c, zs, by simpa using hcs, .inr ⟨_, rfl, hl, hm, by simpa using hz, hcell, hwz⟩⟩
  subst hc0_3
  obtain ⟨a0_4, len0_4, cap0_4, z0_4, hc0_4, w0_4⟩ : ∃ a len cap zs, c0_4 = .slice a len cap ∧ IsRow .i64 W a len cap zs := by
    rcases open_ints Try.underlying22 Try.underlying2 (by kernel_rfl) e0_4 with ⟨hcs, _⟩ | ⟨x, l, c, zs, hcs, _, hl, hm, hz, _, hcell, hwz⟩
    · exact ⟨none, 0, 0, [], by simpa using hcs, .inl ⟨rfl, rfl, rfl, rfl⟩⟩
    · exact ⟨some x, l, c, zs, by simpa using hcs, .inr ⟨_, rfl, hl, hm, by simpa using hz, hcell, hwz⟩⟩
  subst hc0_4
  clear hA0
  refine (walk W x0_0 wx0_0 x0_1 wx0_1 x0_2 wx0_2 a0_3 len0_3 cap0_3 z0_3 w0_3 a0_4 len0_4 cap0_4 z0_4 w0_4 ).mono fun e W' ⟨he, bel⟩ => ?_
  subst he
  exact ⟨_, rfl, _, _, _, [], _, [], hW', trodAll_mk1 (shut_bool Try.underlying4 _), (trodAll_cons_mk (Below.trod laidOut (by kernel_rfl) (of_decide_eq_true (by kernel_rfl)) k0 bel lt0) trodAll_mk0), rfl, bel.frame _, fun h => by cases h⟩

theorem proved : Rows.FnExactHighestPointSaid :=
  OpenClaim.holds_of_wide 4 Try.f4 rfl rfl rfl rfl rfl rfl rfl ⟨rfl, rfl, rfl, rfl, rfl⟩ rfl rfl rfl rfl rfl (by kernel_rfl) Try.func4 (by kernel_rfl)
    (of_decide_eq_true (by kernel_rfl)) (by unfold Func.isWrapper; first | (rw [if_pos (by decide +kernel)]; kernel_rfl) | (rw [if_neg (by decide +kernel)]; exact ⟨rfl, rfl⟩))
    (fun os started H enc _ => lifted os started H enc)
end Go.Proofs.Ytmpeogmlnajliaa.fnExactHighestPoint
