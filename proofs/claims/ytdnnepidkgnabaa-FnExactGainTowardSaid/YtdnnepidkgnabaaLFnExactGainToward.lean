/-
  For every antenna and all four numbers GainToward of the program returns what the model returns, and leaves the antenna alone: the statement FnExactGainToward, with no condition (an antenna of more than 1048576 bytes and losses is let pass by the statement itself).
-/
import Derived.Test.YtdnnepidkgnabaaRows
import Derived.Test.YtdnnepidkgnabaaAntTow
import Derived.WalkKit
import Derived.ProofKit
import Derived.OpenShut
import Derived.ShutString
import Derived.Below
import Derived.Lib.SmallJoins
namespace Go.Proofs.Ytdnnepidkgnabaa.fnExactGainToward
open Go.ChangeShapes Go.WideShapes Go.ChangeAt Go.RowKit
open Go.ChangeMaps (open_string shut_string)
set_option linter.unusedVariables false

theorem own : ownKnob Try.prog.godebug = none := by kernel_rfl
theorem laidOut : laidOutB Try.prog = true := by kernel_rfl

/-- What the walk is told of a slice of integers that came in: it is nil; or it leads to a row of 'cap' cells, the numbers 'zs' (the first 'len' are its elements), each fitting its kind. -/
def IsRow (k : IntKind) (w : World) (a : Option Addr) (len cap : Nat) (zs : List Int) : Prop :=
  (a = none ∧ len = 0 ∧ cap = 0 ∧ zs = []) ∨
  ∃ x, a = some x ∧ len ≤ cap ∧ cap ≤ maxLen ∧ zs.length = cap ∧ (∀ i, i < zs.length → w.cell? (x.add i) = some (.int k (zs.getD i 0))) ∧ ∀ n ∈ zs, (Lit.int k n).wf = true

set_option maxRecDepth 100000 in
set_option maxHeartbeats 4000000 in
/-- The walk. -/
theorem walk (w : World) (x0_0 : ByteArray) (wx0_0 : x0_0.size ≤ maxLen) (x0_1 : Int) (wx0_1 : (Lit.int .i64 x0_1).wf = true) (a0_2 : Option Addr) (len0_2 cap0_2 : Nat) (z0_2 : List Int) (w0_2 : IsRow .i64 w a0_2 len0_2 cap0_2 z0_2) (a0_3 : Option Addr) (len0_3 cap0_3 : Nat) (z0_3 : List Int) (w0_3 : IsRow .i64 w a0_3 len0_3 cap0_3 z0_3) (a1 : Int) (w1 : (Lit.int .i64 a1).wf = true) (a2 : Int) (w2 : (Lit.int .i64 a2).wf = true) (a3 : Int) (w3 : (Lit.int .i64 a3).wf = true) (a4 : Int) (w4 : (Lit.int .i64 a4).wf = true) :
    Calls Try.prog 5 #[.agg #[.string x0_0, .int .i64 x0_1, .slice a0_2 len0_2 cap0_2, .slice a0_3 len0_3 cap0_3], .int .i64 a1, .int .i64 a2, .int .i64 a3, .int .i64 a4] w fun e w' => e = .returned (.bool true) ∧ Below w.heap.size w w' := by
  obtain ⟨hi2, hl2⟩ := Ints.Ints.of_arg w0_2
  have m2 : len0_2 ≤ maxLen := by
    rcases w0_2 with ⟨_, h, _, _⟩ | ⟨_, _, h1, h2, _⟩
    · rw [h]; exact Nat.zero_le _
    · exact Nat.le_trans h1 h2
  obtain ⟨hi3, hl3⟩ := Ints.Ints.of_arg w0_3
  have m3 : len0_3 ≤ maxLen := by
    rcases w0_3 with ⟨_, h, _, _⟩ | ⟨_, _, h1, h2, _⟩
    · rw [h]; exact Nat.zero_le _
    · exact Nat.le_trans h1 h2
  have hz := fun w => Ant.count 1048576 x0_0 x0_1 a0_2 len0_2 cap0_2 a0_3 len0_3 cap0_3 w (by omega) wx0_0 m2 m3
  rw [show (((1048576 : Nat) : Int)) = 1048576 from rfl] at hz
  clear w0_2 w0_3 wx0_0 wx0_1 m2 m3 w1 w2 w3 w4
  rcases Ant.restL_or [x0_0.size, len0_2, len0_3] 1048576 with hr | ⟨r, hr, -, hall⟩
  · rw [hr] at hz
    have HZ := Lib.hid hz
    clear hz hr hi2 hl2 hi3 hl3
    go_enter Try.func5, Try.ntmps5
    go_wp2_with fail
    refine (HZ.out _).mono ?_
    rintro e w1 ⟨rfl, h1⟩
    go_wp2_with fail
    go_ret
    exact ⟨rfl, by repeat (first | with_reducible exact On.refl _ | apply On.alloc | refine On.trans ?_ h1)⟩
  · rw [hr] at hz
    have q0 : x0_0.size ≤ 1048576 := hall _ (by simp)
    have q2 : len0_2 ≤ 1048576 := hall _ (by simp)
    have q3 : len0_3 ≤ 1048576 := hall _ (by simp)
    have hr0 : ¬ ((r : Int) < 0) := by omega
    have HZ := Lib.hid hz
    clear hz hr hall
    obtain ⟨z2, hz2⟩ : ∃ z, z = z0_2.take len0_2 := ⟨_, rfl⟩
    rw [← hz2] at hi2 hl2
    clear hz2
    subst hl2
    have H2 := Lib.hid hi2
    clear hi2
    obtain ⟨z3, hz3⟩ : ∃ z, z = z0_3.take len0_3 := ⟨_, rfl⟩
    rw [← hz3] at hi3 hl3
    clear hz3
    subst hl3
    have H3 := Lib.hid hi3
    clear hi3
    go_enter Try.func5, Try.ntmps5
    go_wp2_with fail
    refine (HZ.out _).mono ?_
    rintro e w1 ⟨rfl, h1⟩
    have K1 : Ant.In w1 w.heap.size x0_0 x0_1 (.slice a0_2 z2.length cap0_2) (.slice a0_3 z3.length cap0_3) := Ant.In.on ⟨by simp [go_sem], by simp [go_sem], by simp [go_sem], by simp [go_sem]⟩ h1
    have HO1 := Lib.hid (On.trans (On.alloc (On.refl w) _) h1)
    have HK1 := Lib.hid K1
    obtain ⟨k1_0, k1_1, k1_2, k1_3⟩ := K1
    clear h1 HZ
    go_wp2_with fail
    refine (Ant.copy x0_0 x0_1 _ _ z2 z3 _ q2 q3 (H2.out.below HO1.out) (H3.out.below HO1.out)).mono ?_
    rintro e w2 ⟨a2_2, c2_2, a2_3, c2_3, rfl, -, o2_2, -, o2_3, h2⟩
    have A2_2 := Lib.hid o2_2.ints
    have A2_3 := Lib.hid o2_3.ints
    have HO2 := Lib.hid (On.trans HO1.out h2)
    have K2 := HK1.out.on h2
    have HK2 := Lib.hid K2
    obtain ⟨k2_0, k2_1, k2_2, k2_3⟩ := K2
    clear k1_0 k1_1 k1_2 k1_3 h2 o2_2 o2_3 HK1 HO1
    go_wp2_with fail
    refine (Ant.spec_GainToward x0_0 x0_1 _ _ z2 z3 a1 a2 a3 a4 _ q0 q2 q3 A2_2.out A2_3.out).mono ?_
    rintro e w3 ⟨rfl, h3⟩
    have HO3 := Lib.hid (On.trans HO2.out h3)
    have K3 := HK2.out.on h3
    have HK3 := Lib.hid K3
    obtain ⟨k3_0, k3_1, k3_2, k3_3⟩ := K3
    clear k2_0 k2_1 k2_2 k2_3 h3 HK2 HO2 A2_2 A2_3
    go_wp2_with fail
    refine (Ant.copy x0_0 x0_1 _ _ z2 z3 _ q2 q3 (H2.out.below HO3.out) (H3.out.below HO3.out)).mono ?_
    rintro e w4 ⟨a4_2, c4_2, a4_3, c4_3, rfl, -, o4_2, -, o4_3, h4⟩
    have A4_2 := Lib.hid o4_2.ints
    have A4_3 := Lib.hid o4_3.ints
    have HO4 := Lib.hid (On.trans HO3.out h4)
    have K4 := HK3.out.on h4
    have HK4 := Lib.hid K4
    obtain ⟨k4_0, k4_1, k4_2, k4_3⟩ := K4
    clear k3_0 k3_1 k3_2 k3_3 h4 o4_2 o4_3 HK3 HO3
    go_wp2_with fail
    refine (Ant.impl_GainToward x0_0 x0_1 _ _ z2 z3 a1 a2 a3 a4 _ q0 q2 q3 (A4_2.out.below (by repeat (first | with_reducible exact On.refl _ | apply On.alloc | refine On.setCell ?_ (by (try simp) <;> omega) _))) (A4_3.out.below (by repeat (first | with_reducible exact On.refl _ | apply On.alloc | refine On.setCell ?_ (by (try simp) <;> omega) _)))).mono ?_
    rintro e w5 ⟨rfl, h5⟩
    have P5 : Ant.In w5 w4.heap.size x0_0 x0_1 (.slice a4_2 z2.length c4_2) (.slice a4_3 z3.length c4_3) := Ant.In.on ⟨by simp [go_sem], by simp [go_sem], by simp [go_sem], by simp [go_sem]⟩ h5
    have h45 : On w4 w5 := by refine On.trans ?_ h5; repeat (first | with_reducible exact On.refl _ | apply On.alloc | refine On.setCell ?_ (by (try simp) <;> omega) _)
    have A5_2 := Lib.hid (A4_2.out.below h45)
    have A5_3 := Lib.hid (A4_3.out.below h45)
    have HO5 := Lib.hid (On.trans HO4.out h45)
    have K5 := HK4.out.on h45
    have HP5 := Lib.hid P5
    obtain ⟨k5_0, k5_1, k5_2, k5_3⟩ := K5
    obtain ⟨p5_0, p5_1, p5_2, p5_3⟩ := P5
    clear k4_0 k4_1 k4_2 k4_3 h5 h45 HK4 HO4 A4_2 A4_3
    go_wp2_with fail
    go_region_with (first
      | (go_at_call 15; refine (Ant.copy x0_0 x0_1 _ _ z2 z3 _ q2 q3 (H2.out.below (On.trans HO5.out (by repeat (first | exact On.refl _ | apply On.drew)))) (H3.out.below (On.trans HO5.out (by repeat (first | exact On.refl _ | apply On.drew))))).mono ?_; rintro e w6 ⟨a6_2, c6_2, a6_3, c6_3, rfl, -, o6_2, -, o6_3, h6⟩; (have h56 : On w5 w6 := by refine On.trans ?_ h6; repeat (first | exact On.refl _ | apply On.drew)); obtain ⟨r0, r1, r2, r3⟩ := HP5.out.on h56; have A6_2 := Lib.hid o6_2.ints; have A6_3 := Lib.hid o6_3.ints; clear o6_2 o6_3 h6)
      | (go_at_call 17; refine (Ant.eq x0_0 x0_1 _ _ _ _ z2 z3 _ q2 q3 ((A5_2.out.below ‹On w5 _›).below (by repeat (first | exact On.refl _ | apply On.drew))) ((A5_3.out.below ‹On w5 _›).below (by repeat (first | exact On.refl _ | apply On.drew))) (A6_2.out.below (by repeat (first | exact On.refl _ | apply On.drew))) (A6_3.out.below (by repeat (first | exact On.refl _ | apply On.drew)))).mono ?_; rintro e w7 ⟨rfl, h7⟩))
    all_goals
      go_wp2_with fail
      go_ret
      exact ⟨rfl, On.trans HO5.out (On.trans ‹On w5 _› (On.trans (by repeat (first | exact On.refl _ | apply On.drew)) ‹On _ w7›))⟩

set_option maxRecDepth 100000 in
/-- The row's step. -/
theorem lifted (os : Os) (started : os.Started) (H : Type) (enc : TypeId × Value → H) :
    ReturnsInHanded {} Try.checked os 5 .any (Rows.fnExactGainTowardSpec.pre6 enc Try.prog Try.f5 Rows.fnExactGainTowardRow.domain false) (Rows.fnExactGainTowardSpec.post enc Try.prog Try.f5 false true false false) := by
  refine returnsInHanded_of_change (C := Try.checked) own started (by kernel_rfl) Try.func5
    (ChangeSpec.witness6 (enc := enc) (C := Try.checked) false ⟨#[], #[.agg #[.string ByteArray.empty, .int .i64 0, .slice none 0 0, .slice none 0 0], .int .i64 0, .int .i64 0, .int .i64 0, .int .i64 0], []⟩ 8 (by kernel_rfl) (by kernel_rfl) (by kernel_rfl) (by kernel_rfl)) ?_
  intro W base args ds gs before hval0 hW hcnd _
  have hval : ∀ (j : Nat) t v, Try.f5.params[j]? = some t → args[j]? = some v → Value.okWide Try.prog W .any base t v := hval0
  have hW' := hW
  obtain ⟨p, q, hA0, hV, rfl, hfz, hnd⟩ := hW
  have hA : DataW.TrodAll enc Try.prog W 0 (fun _ => true) true Try.f5.params.toList args.toList ds p := hA0
  rw [Try.params5] at hA hval
  obtain ⟨v0, vs0, d0, ds0, p0, q0, hargs, rfl, rfl, h0, r0⟩ := trodAll_cons hA
  obtain ⟨v1, vs1, d1, ds1, p1, q1, rfl, rfl, rfl, h1, r1⟩ := trodAll_cons r0
  obtain ⟨v2, vs2, d2, ds2, p2, q2, rfl, rfl, rfl, h2, r2⟩ := trodAll_cons r1
  obtain ⟨v3, vs3, d3, ds3, p3, q3, rfl, rfl, rfl, h3, r3⟩ := trodAll_cons r2
  obtain ⟨v4, vs4, d4, ds4, p4, q4, rfl, rfl, rfl, h4, r4⟩ := trodAll_cons r3
  obtain ⟨rfl, rfl, rfl⟩ := trodAll_nil r4
  obtain rfl : args = #[v0, v1, v2, v3, v4] := by cases args; simp_all
  obtain ⟨rfl, rfl⟩ := trodVars_none hV
  have k0 := h0
  have lt0 : ∀ x ∈ p0, x.block < W.heap.size := by obtain ⟨m, hm⟩ := k0; exact DataW.trod_lt m _ _ _ hm
  obtain ⟨c0_0, c0_1, c0_2, c0_3, y0_0, y0_1, y0_2, y0_3, n0, rfl, -, -, e0_0, e0_1, e0_2, e0_3⟩ := Joins.open_agg4 Try.underlying35 (by kernel_rfl) (by kernel_rfl) (hval 0 35 v0 rfl rfl) h0
  obtain ⟨x0_0, g0_0, -, wx0_0⟩ := DataW.trod_string Try.underlying9 e0_0
  obtain rfl : c0_0 = .string x0_0 := by simpa using g0_0
  obtain ⟨x0_1, g0_1, -, wx0_1⟩ := DataW.trod_int Try.underlying2 e0_1
  obtain rfl : c0_1 = .int .i64 x0_1 := by simpa using g0_1
  obtain ⟨a0_2, len0_2, cap0_2, z0_2, hc0_2, w0_2⟩ : ∃ a len cap zs, c0_2 = .slice a len cap ∧ IsRow .i64 W a len cap zs := by
    rcases open_ints Try.underlying24 Try.underlying2 (by kernel_rfl) e0_2 with ⟨hcs, _⟩ | ⟨x, l, c, zs, hcs, _, hl, hm, hz, _, hcell, hwz⟩
    · exact ⟨none, 0, 0, [], by simpa using hcs, .inl ⟨rfl, rfl, rfl, rfl⟩⟩
    · exact ⟨some x, l, c, zs, by simpa using hcs, .inr ⟨_, rfl, hl, hm, by simpa using hz, hcell, hwz⟩⟩
  subst hc0_2
  obtain ⟨a0_3, len0_3, cap0_3, z0_3, hc0_3, w0_3⟩ : ∃ a len cap zs, c0_3 = .slice a len cap ∧ IsRow .i64 W a len cap zs := by
    rcases open_ints Try.underlying24 Try.underlying2 (by kernel_rfl) e0_3 with ⟨hcs, _⟩ | ⟨x, l, c, zs, hcs, _, hl, hm, hz, _, hcell, hwz⟩
    · exact ⟨none, 0, 0, [], by simpa using hcs, .inl ⟨rfl, rfl, rfl, rfl⟩⟩
    · exact ⟨some x, l, c, zs, by simpa using hcs, .inr ⟨_, rfl, hl, hm, by simpa using hz, hcell, hwz⟩⟩
  subst hc0_3
  obtain ⟨a1, rfl, rfl, rfl, w1⟩ := open_int Try.underlying2 (hval 1 2 v1 rfl rfl) h1
  obtain ⟨a2, rfl, rfl, rfl, w2⟩ := open_int Try.underlying2 (hval 2 2 v2 rfl rfl) h2
  obtain ⟨a3, rfl, rfl, rfl, w3⟩ := open_int Try.underlying2 (hval 3 2 v3 rfl rfl) h3
  obtain ⟨a4, rfl, rfl, rfl, w4⟩ := open_int Try.underlying2 (hval 4 2 v4 rfl rfl) h4
  clear hA0
  refine (walk W x0_0 wx0_0 x0_1 wx0_1 a0_2 len0_2 cap0_2 z0_2 w0_2 a0_3 len0_3 cap0_3 z0_3 w0_3 a1 w1 a2 w2 a3 w3 a4 w4 ).mono fun e W' ⟨he, bel⟩ => ?_
  subst he
  exact ⟨_, rfl, _, _, _, [], _, [], hW', trodAll_mk1 (shut_bool Try.underlying4 _), (trodAll_cons_mk (Below.trod laidOut (by kernel_rfl) (of_decide_eq_true (by kernel_rfl)) k0 bel lt0) (trodAll_cons_mk (shut_int Try.underlying2 w1) (trodAll_cons_mk (shut_int Try.underlying2 w2) (trodAll_cons_mk (shut_int Try.underlying2 w3) (trodAll_cons_mk (shut_int Try.underlying2 w4) trodAll_mk0))))), rfl, bel.frame _, fun h => by cases h⟩

theorem proved : Rows.FnExactGainTowardSaid :=
  OpenClaim.holds_of_wide 5 Try.f5 rfl rfl rfl rfl rfl rfl rfl ⟨rfl, rfl, rfl, rfl, rfl⟩ rfl rfl rfl rfl rfl (by kernel_rfl) Try.func5 (by kernel_rfl)
    (of_decide_eq_true (by kernel_rfl)) (by unfold Func.isWrapper; first | (rw [if_pos (by decide +kernel)]; kernel_rfl) | (rw [if_neg (by decide +kernel)]; exact ⟨rfl, rfl⟩))
    (fun os started H enc _ => lifted os started H enc)
end Go.Proofs.Ytdnnepidkgnabaa.fnExactGainToward
