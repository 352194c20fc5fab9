/-
  For every profile and every frequency DeygoutLoss of the program returns what the model returns, and leaves the profile alone: the statement FnExactDeygoutLoss, with no condition (a profile of more than 1048576 heights is let pass by the statement itself).
-/
import Derived.Test.YtmmhekakihimfaaRows
import Derived.Test.YtmmhekakihimfaaDeyL
import Derived.WalkKit
import Derived.ProofKit
import Derived.OpenShut
import Derived.ShutString
import Derived.Below
import Derived.Lib.SmallJoins
namespace Go.Proofs.Ytmmhekakihimfaa.fnExactDeygoutLoss
open Go.ChangeShapes Go.WideShapes Go.ChangeAt Go.RowKit
open Go.ChangeMaps (open_string shut_string)
set_option linter.unusedVariables false

theorem own : ownKnob Try.prog.godebug = none := by kernel_rfl
theorem laidOut : laidOutB Try.prog = true := by kernel_rfl

/-- What the walk is told of a slice of integers that came in: it is nil; or it leads to a row of 'cap' cells, the numbers 'zs' (the first 'len' are its elements), each fitting its kind. -/
def IsRow (k : IntKind) (w : World) (a : Option Addr) (len cap : Nat) (zs : List Int) : Prop :=
  (a = none ∧ len = 0 ∧ cap = 0 ∧ zs = []) ∨
  ∃ x, a = some x ∧ len ≤ cap ∧ cap ≤ maxLen ∧ zs.length = cap ∧ (∀ i, i < zs.length → w.cell? (x.add i) = some (.int k (zs.getD i 0))) ∧ ∀ n ∈ zs, (Lit.int k n).wf = true

set_option maxRecDepth 100000 in
set_option maxHeartbeats 4000000 in
/-- The walk. -/
theorem walk (w : World) (x0_0 : Int) (wx0_0 : (Lit.int .i64 x0_0).wf = true) (x0_1 : Int) (wx0_1 : (Lit.int .i64 x0_1).wf = true) (x0_2 : Int) (wx0_2 : (Lit.int .i64 x0_2).wf = true) (a0_3 : Option Addr) (len0_3 cap0_3 : Nat) (z0_3 : List Int) (w0_3 : IsRow .i64 w a0_3 len0_3 cap0_3 z0_3) (a1 : Int) (w1 : (Lit.int .i64 a1).wf = true) :
    Calls Try.prog 8 #[.agg #[.int .i64 x0_0, .int .i64 x0_1, .int .i64 x0_2, .slice a0_3 len0_3 cap0_3], .int .i64 a1] w fun e w' => e = .returned (.bool true) ∧ Below w.heap.size w w' := by
  obtain ⟨hi, hlen⟩ := Ints.Ints.of_arg w0_3
  have hmx : len0_3 ≤ maxLen := by
    rcases w0_3 with ⟨_, h, _, _⟩ | ⟨_, _, h1, h2, _⟩
    · rw [h]; exact Nat.zero_le _
    · exact Nat.le_trans h1 h2
  have hz := fun w => Prof.szProfile 1048576 len0_3 x0_0 x0_1 x0_2 a0_3 cap0_3 w (by omega) hmx
  rw [show (((1048576 : Nat) : Int)) = 1048576 from rfl] at hz
  clear w0_3 hmx w1
  by_cases hl : len0_3 ≤ 1048576
  · obtain ⟨r, hr⟩ : ∃ r : Nat, r = 1048576 - len0_3 := ⟨_, rfl⟩
    rw [Prof.rest_yes hl, ← hr] at hz
    have hr0 : ¬ ((r : Int) < 0) := by omega
    have HZ := Lib.hid hz
    clear hz hr
    obtain ⟨zs, hzs⟩ : ∃ zs, zs = z0_3.take len0_3 := ⟨_, rfl⟩
    rw [← hzs] at hi hlen
    clear hzs
    subst hlen
    have hn : zs.length ≤ 1048576 := hl
    have HI := Lib.hid hi
    clear hi hl
    go_enter Try.func8, Try.ntmps8
    go_wp2_with fail
    refine (HZ.out _).mono ?_
    rintro e w1 ⟨rfl, h1⟩
    have K1 : Prof.PIn w1 w.heap.size x0_0 x0_1 x0_2 (.slice a0_3 zs.length cap0_3) := Prof.PIn.on ⟨by simp [go_sem], by simp [go_sem], by simp [go_sem], by simp [go_sem]⟩ h1
    have HO1 := Lib.hid (On.trans (On.alloc (On.refl w) _) h1)
    have HK1 := Lib.hid K1
    obtain ⟨k10, k11, k12, k13⟩ := K1
    clear h1 HZ
    go_wp2_with fail
    refine (PRec.copy _ _ _ _ zs _ hn (HI.out.below HO1.out)).mono ?_
    rintro e w2 ⟨sa2, cap2, rfl, fc2, ho2, h2⟩
    have HA2 := Lib.hid ho2.ints
    have HO2 := Lib.hid (On.trans HO1.out h2)
    have K2 := HK1.out.on h2
    have HK2 := Lib.hid K2
    obtain ⟨k20, k21, k22, k23⟩ := K2
    clear k10 k11 k12 k13 h2 ho2 HK1 HO1
    go_wp2_with fail
    refine (Nu.spec_DeygoutLoss x0_0 x0_1 x0_2 a1 sa2 cap2 zs _ hn fc2 HA2.out).mono ?_
    rintro e w3 ⟨rfl, h3⟩
    have HO3 := Lib.hid (On.trans HO2.out h3)
    have K3 := HK2.out.on h3
    have HK3 := Lib.hid K3
    obtain ⟨k30, k31, k32, k33⟩ := K3
    clear k20 k21 k22 k23 h3 HK2 HO2 HA2
    go_wp2_with fail
    refine (PRec.copy _ _ _ _ zs _ hn (HI.out.below HO3.out)).mono ?_
    rintro e w4 ⟨sa4, cap4, rfl, fc4, ho4, h4⟩
    have HA4 := Lib.hid ho4.ints
    have HO4 := Lib.hid (On.trans HO3.out h4)
    have K4 := HK3.out.on h4
    have HK4 := Lib.hid K4
    obtain ⟨k40, k41, k42, k43⟩ := K4
    clear k30 k31 k32 k33 h4 ho4 HK3 HO3
    go_wp2_with fail
    refine (Nu.impl_DeygoutLoss x0_0 x0_1 x0_2 a1 sa4 cap4 zs _ hn fc4 (HA4.out.below (by repeat (first | exact On.refl _ | apply On.alloc | refine On.setCell ?_ (by (try simp) <;> omega) _)))).mono ?_
    rintro e w5 ⟨rfl, h5⟩
    have P5 : Prof.PIn w5 w4.heap.size x0_0 x0_1 x0_2 (.slice sa4 zs.length cap4) := Prof.PIn.on ⟨by simp [go_sem], by simp [go_sem], by simp [go_sem], by simp [go_sem]⟩ h5
    have h45 : On w4 w5 := by refine On.trans ?_ h5; repeat (first | exact On.refl _ | apply On.alloc | refine On.setCell ?_ (by (try simp) <;> omega) _)
    have HA5 := Lib.hid (HA4.out.below h45)
    have HO5 := Lib.hid (On.trans HO4.out h45)
    have K5 := HK4.out.on h45
    have HP5 := Lib.hid P5
    obtain ⟨k50, k51, k52, k53⟩ := K5
    obtain ⟨p50, p51, p52, p53⟩ := P5
    clear k40 k41 k42 k43 h5 h45 HK4 HO4 HA4
    go_wp2_with fail
    go_region_with (first
      | (go_at_call 17; refine (Prof.toProfile _ _ _ _ zs _ hn (HI.out.below (On.trans HO5.out (by repeat (first | exact On.refl _ | apply On.drew))))).mono ?_; rintro e w6 ⟨sa6, cap6, rfl, ho6, h6⟩; (have h56 : On w5 w6 := by refine On.trans ?_ h6; repeat (first | exact On.refl _ | apply On.drew)); obtain ⟨q0, q1, q2, q3⟩ := HP5.out.on h56; have HA6 := Lib.hid ho6.ints; clear ho6 h6)
      | (go_at_call 19; refine (Prof.eqProfile _ _ _ _ _ zs _ hn ((HA5.out.below ‹On w5 _›).below (by repeat (first | exact On.refl _ | apply On.drew))) (HA6.out.below (by repeat (first | exact On.refl _ | apply On.drew)))).mono ?_; rintro e w7 ⟨rfl, h7⟩))
    all_goals
      go_wp2_with fail
      go_ret
      exact ⟨rfl, On.trans HO5.out (On.trans ‹On w5 _› (On.trans (by repeat (first | exact On.refl _ | apply On.drew)) ‹On _ w7›))⟩
  · rw [Prof.rest_no hl] at hz
    have HZ := Lib.hid hz
    clear hz hi hlen hl
    go_enter Try.func8, Try.ntmps8
    go_wp2_with fail
    refine (HZ.out _).mono ?_
    rintro e w1 ⟨rfl, h1⟩
    go_wp2_with fail
    go_ret
    exact ⟨rfl, On.trans (On.alloc (On.refl w) _) h1⟩

set_option maxRecDepth 100000 in
/-- The row's step. -/
theorem lifted (os : Os) (started : os.Started) (H : Type) (enc : TypeId × Value → H) :
    ReturnsInHanded {} Try.checked os 8 .any (Rows.fnExactDeygoutLossSpec.pre6 enc Try.prog Try.f8 Rows.fnExactDeygoutLossRow.domain false) (Rows.fnExactDeygoutLossSpec.post enc Try.prog Try.f8 false true false false) := by
  refine returnsInHanded_of_change (C := Try.checked) own started (by kernel_rfl) Try.func8
    (ChangeSpec.witness6 (enc := enc) (C := Try.checked) false ⟨#[], #[.agg #[.int .i64 0, .int .i64 0, .int .i64 0, .slice none 0 0], .int .i64 0], []⟩ 8 (by kernel_rfl) (by kernel_rfl) (by kernel_rfl) (by kernel_rfl)) ?_
  intro W base args ds gs before hval0 hW hcnd _
  have hval : ∀ (j : Nat) t v, Try.f8.params[j]? = some t → args[j]? = some v → Value.okWide Try.prog W .any base t v := hval0
  have hW' := hW
  obtain ⟨p, q, hA0, hV, rfl, hfz, hnd⟩ := hW
  have hA : DataW.TrodAll enc Try.prog W 0 (fun _ => true) true Try.f8.params.toList args.toList ds p := hA0
  rw [Try.params8] at hA hval
  obtain ⟨v0, vs0, d0, ds0, p0, q0, hargs, rfl, rfl, h0, r0⟩ := trodAll_cons hA
  obtain ⟨v1, vs1, d1, ds1, p1, q1, rfl, rfl, rfl, h1, r1⟩ := trodAll_cons r0
  obtain ⟨rfl, rfl, rfl⟩ := trodAll_nil r1
  obtain rfl : args = #[v0, v1] := by cases args; simp_all
  obtain ⟨rfl, rfl⟩ := trodVars_none hV
  have k0 := h0
  have lt0 : ∀ x ∈ p0, x.block < W.heap.size := by obtain ⟨m, hm⟩ := k0; exact DataW.trod_lt m _ _ _ hm
  obtain ⟨c0_0, c0_1, c0_2, c0_3, y0_0, y0_1, y0_2, y0_3, n0, rfl, -, -, e0_0, e0_1, e0_2, e0_3⟩ := Joins.open_agg4 Try.underlying26 (by kernel_rfl) (by kernel_rfl) (hval 0 26 v0 rfl rfl) h0
  obtain ⟨x0_0, g0_0, -, wx0_0⟩ := DataW.trod_int Try.underlying2 e0_0
  obtain rfl : c0_0 = .int .i64 x0_0 := by simpa using g0_0
  obtain ⟨x0_1, g0_1, -, wx0_1⟩ := DataW.trod_int Try.underlying2 e0_1
  obtain rfl : c0_1 = .int .i64 x0_1 := by simpa using g0_1
  obtain ⟨x0_2, g0_2, -, wx0_2⟩ := DataW.trod_int Try.underlying2 e0_2
  obtain rfl : c0_2 = .int .i64 x0_2 := by simpa using g0_2
  obtain ⟨a0_3, len0_3, cap0_3, z0_3, hc0_3, w0_3⟩ : ∃ a len cap zs, c0_3 = .slice a len cap ∧ IsRow .i64 W a len cap zs := by
    rcases open_ints Try.underlying24 Try.underlying2 (by kernel_rfl) e0_3 with ⟨hcs, _⟩ | ⟨x, l, c, zs, hcs, _, hl, hm, hz, _, hcell, hwz⟩
    · exact ⟨none, 0, 0, [], by simpa using hcs, .inl ⟨rfl, rfl, rfl, rfl⟩⟩
    · exact ⟨some x, l, c, zs, by simpa using hcs, .inr ⟨_, rfl, hl, hm, by simpa using hz, hcell, hwz⟩⟩
  subst hc0_3
  obtain ⟨a1, rfl, rfl, rfl, w1⟩ := open_int Try.underlying2 (hval 1 2 v1 rfl rfl) h1
  clear hA0
  refine (walk W x0_0 wx0_0 x0_1 wx0_1 x0_2 wx0_2 a0_3 len0_3 cap0_3 z0_3 w0_3 a1 w1 ).mono fun e W' ⟨he, bel⟩ => ?_
  subst he
  exact ⟨_, rfl, _, _, _, [], _, [], hW', trodAll_mk1 (shut_bool Try.underlying4 _), (trodAll_cons_mk (Below.trod laidOut (by kernel_rfl) (of_decide_eq_true (by kernel_rfl)) k0 bel lt0) (trodAll_cons_mk (shut_int Try.underlying2 w1) trodAll_mk0)), rfl, bel.frame _, fun h => by cases h⟩

theorem proved : Rows.FnExactDeygoutLossSaid :=
  OpenClaim.holds_of_wide 8 Try.f8 rfl rfl rfl rfl rfl rfl rfl ⟨rfl, rfl, rfl, rfl, rfl⟩ rfl rfl rfl rfl rfl (by kernel_rfl) Try.func8 (by kernel_rfl)
    (of_decide_eq_true (by kernel_rfl)) (by unfold Func.isWrapper; first | (rw [if_pos (by decide +kernel)]; kernel_rfl) | (rw [if_neg (by decide +kernel)]; exact ⟨rfl, rfl⟩))
    (fun os started H enc _ => lifted os started H enc)
end Go.Proofs.Ytmmhekakihimfaa.fnExactDeygoutLoss
