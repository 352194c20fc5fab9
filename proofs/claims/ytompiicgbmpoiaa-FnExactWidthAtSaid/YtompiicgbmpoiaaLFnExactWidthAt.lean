/-
  For all masks WidthAt of the program returns what the model returns, and leaves the mask alone: the statement FnExactWidthAt, with no condition (masks of more than 1048576 numbers are let pass by the statement itself).
-/
import Derived.Test.YtompiicgbmpoiaaRows
import Derived.Test.YtompiicgbmpoiaaMskWid
import Derived.WalkKit
import Derived.ProofKit
import Derived.OpenShut
import Derived.ShutString
import Derived.Below
import Derived.Lib.SmallJoins
namespace Go.Proofs.Ytompiicgbmpoiaa.fnExactWidthAt
open Go.ChangeShapes Go.WideShapes Go.ChangeAt Go.RowKit
open Go.ChangeMaps (open_string shut_string)
set_option linter.unusedVariables false

theorem own : ownKnob Try.prog.godebug = none := by kernel_rfl
theorem laidOut : laidOutB Try.prog = true := by kernel_rfl

/-- What the walk is told of a slice of integers that came in: it is nil; or it leads to a row of 'cap' cells, the numbers 'zs' (the first 'len' are its elements), each fitting its kind. -/
def IsRow (k : IntKind) (w : World) (a : Option Addr) (len cap : Nat) (zs : List Int) : Prop :=
  (a = none ∧ len = 0 ∧ cap = 0 ∧ zs = []) ∨
  ∃ x, a = some x ∧ len ≤ cap ∧ cap ≤ maxLen ∧ zs.length = cap ∧ (∀ i, i < zs.length → w.cell? (x.add i) = some (.int k (zs.getD i 0))) ∧ ∀ n ∈ zs, (Lit.int k n).wf = true

set_option maxRecDepth 100000 in
set_option maxHeartbeats 4000000 in
/-- The walk. -/
theorem walk (w : World) (a0_0 : Option Addr) (len0_0 cap0_0 : Nat) (z0_0 : List Int) (w0_0 : IsRow .i64 w a0_0 len0_0 cap0_0 z0_0) (a0_1 : Option Addr) (len0_1 cap0_1 : Nat) (z0_1 : List Int) (w0_1 : IsRow .i64 w a0_1 len0_1 cap0_1 z0_1) (a1 : Int) (w1 : (Lit.int .i64 a1).wf = true) :
    Calls Try.prog 4 #[.agg #[.slice a0_0 len0_0 cap0_0, .slice a0_1 len0_1 cap0_1], .int .i64 a1] w fun e w' => e = .returned (.bool true) ∧ Below w.heap.size w w' := by
  obtain ⟨hi0, hl0⟩ := Ints.Ints.of_arg w0_0
  have m0 : len0_0 ≤ maxLen := by
    rcases w0_0 with ⟨_, h, _, _⟩ | ⟨_, _, h1, h2, _⟩
    · rw [h]; exact Nat.zero_le _
    · exact Nat.le_trans h1 h2
  obtain ⟨hi1, hl1⟩ := Ints.Ints.of_arg w0_1
  have m1 : len0_1 ≤ maxLen := by
    rcases w0_1 with ⟨_, h, _, _⟩ | ⟨_, _, h1, h2, _⟩
    · rw [h]; exact Nat.zero_le _
    · exact Nat.le_trans h1 h2
  have hz := fun w => Msk.count 1048576  a0_0 len0_0 cap0_0 a0_1 len0_1 cap0_1 w (by omega) m0 m1
  rw [show (((1048576 : Nat) : Int)) = 1048576 from rfl] at hz
  clear w0_0 w0_1  m0 m1 w1
  rcases Msk.restL_or [len0_0, len0_1] 1048576 with hr | ⟨r, hr, -, hall⟩
  · rw [hr] at hz
    have HZ := Lib.hid hz
    clear hz hr hi0 hl0 hi1 hl1
    go_enter Try.func4, Try.ntmps4
    go_wp2_with fail
    refine (HZ.out _).mono ?_
    rintro e w1 ⟨rfl, h1⟩
    go_wp2_with fail
    go_ret
    exact ⟨rfl, by repeat (first | with_reducible exact On.refl _ | apply On.alloc | refine On.trans ?_ h1)⟩
  · rw [hr] at hz
    have q0 : len0_0 ≤ 1048576 := hall _ (by simp)
    have q1 : len0_1 ≤ 1048576 := hall _ (by simp)
    have hr0 : ¬ ((r : Int) < 0) := by omega
    have HZ := Lib.hid hz
    clear hz hr hall
    obtain ⟨z0, hz0⟩ : ∃ z, z = z0_0.take len0_0 := ⟨_, rfl⟩
    rw [← hz0] at hi0 hl0
    clear hz0
    subst hl0
    have H0 := Lib.hid hi0
    clear hi0
    obtain ⟨z1, hz1⟩ : ∃ z, z = z0_1.take len0_1 := ⟨_, rfl⟩
    rw [← hz1] at hi1 hl1
    clear hz1
    subst hl1
    have H1 := Lib.hid hi1
    clear hi1
    go_enter Try.func4, Try.ntmps4
    go_wp2_with fail
    refine (HZ.out _).mono ?_
    rintro e w1 ⟨rfl, h1⟩
    have K1 : Msk.In w1 w.heap.size  (.slice a0_0 z0.length cap0_0) (.slice a0_1 z1.length cap0_1) := Msk.In.on ⟨by simp [go_sem], by simp [go_sem]⟩ h1
    have HO1 := Lib.hid (On.trans (On.alloc (On.refl w) _) h1)
    have HK1 := Lib.hid K1
    obtain ⟨k1_0, k1_1⟩ := K1
    clear h1 HZ
    go_wp2_with fail
    refine (Msk.copy  _ _ z0 z1 _ q0 q1 (H0.out.below HO1.out) (H1.out.below HO1.out)).mono ?_
    rintro e w2 ⟨a2_0, c2_0, a2_1, c2_1, rfl, -, o2_0, -, o2_1, h2⟩
    have A2_0 := Lib.hid o2_0.ints
    have A2_1 := Lib.hid o2_1.ints
    have HO2 := Lib.hid (On.trans HO1.out h2)
    have K2 := HK1.out.on h2
    have HK2 := Lib.hid K2
    obtain ⟨k2_0, k2_1⟩ := K2
    clear k1_0 k1_1 h2 o2_0 o2_1 HK1 HO1
    go_wp2_with fail
    refine (Msk.spec_WidthAt _ _ z0 z1 a1 _ q0 q1 A2_0.out A2_1.out).mono ?_
    rintro e w3 ⟨rfl, h3⟩
    have HO3 := Lib.hid (On.trans HO2.out h3)
    have K3 := HK2.out.on h3
    have HK3 := Lib.hid K3
    obtain ⟨k3_0, k3_1⟩ := K3
    clear k2_0 k2_1 h3 HK2 HO2 A2_0 A2_1
    go_wp2_with fail
    refine (Msk.copy  _ _ z0 z1 _ q0 q1 (H0.out.below HO3.out) (H1.out.below HO3.out)).mono ?_
    rintro e w4 ⟨a4_0, c4_0, a4_1, c4_1, rfl, -, o4_0, -, o4_1, h4⟩
    have A4_0 := Lib.hid o4_0.ints
    have A4_1 := Lib.hid o4_1.ints
    have HO4 := Lib.hid (On.trans HO3.out h4)
    have K4 := HK3.out.on h4
    have HK4 := Lib.hid K4
    obtain ⟨k4_0, k4_1⟩ := K4
    clear k3_0 k3_1 h4 o4_0 o4_1 HK3 HO3
    go_wp2_with fail
    refine (Msk.impl_WidthAt _ _ z0 z1 a1 _ q0 q1 (A4_0.out.below (by repeat (first | with_reducible exact On.refl _ | apply On.alloc | refine On.setCell ?_ (by (try simp) <;> omega) _))) (A4_1.out.below (by repeat (first | with_reducible exact On.refl _ | apply On.alloc | refine On.setCell ?_ (by (try simp) <;> omega) _)))).mono ?_
    rintro e w5 ⟨rfl, h5⟩
    have P5 : Msk.In w5 w4.heap.size  (.slice a4_0 z0.length c4_0) (.slice a4_1 z1.length c4_1) := Msk.In.on ⟨by simp [go_sem], by simp [go_sem]⟩ h5
    have h45 : On w4 w5 := by refine On.trans ?_ h5; repeat (first | with_reducible exact On.refl _ | apply On.alloc | refine On.setCell ?_ (by (try simp) <;> omega) _)
    have A5_0 := Lib.hid (A4_0.out.below h45)
    have A5_1 := Lib.hid (A4_1.out.below h45)
    have HO5 := Lib.hid (On.trans HO4.out h45)
    have K5 := HK4.out.on h45
    have HP5 := Lib.hid P5
    obtain ⟨k5_0, k5_1⟩ := K5
    obtain ⟨p5_0, p5_1⟩ := P5
    clear k4_0 k4_1 h5 h45 HK4 HO4 A4_0 A4_1
    go_wp2_with fail
    go_region_with (first
      | (go_at_call 10; refine (Msk.copy  _ _ z0 z1 _ q0 q1 (H0.out.below (On.trans HO5.out (by repeat (first | exact On.refl _ | apply On.drew)))) (H1.out.below (On.trans HO5.out (by repeat (first | exact On.refl _ | apply On.drew))))).mono ?_; rintro e w6 ⟨a6_0, c6_0, a6_1, c6_1, rfl, -, o6_0, -, o6_1, h6⟩; (have h56 : On w5 w6 := by refine On.trans ?_ h6; repeat (first | exact On.refl _ | apply On.drew)); obtain ⟨r0, r1⟩ := HP5.out.on h56; have A6_0 := Lib.hid o6_0.ints; have A6_1 := Lib.hid o6_1.ints; clear o6_0 o6_1 h6)
      | (go_at_call 12; refine (Msk.eq  _ _ _ _ z0 z1 _ q0 q1 ((A5_0.out.below ‹On w5 _›).below (by repeat (first | exact On.refl _ | apply On.drew))) ((A5_1.out.below ‹On w5 _›).below (by repeat (first | exact On.refl _ | apply On.drew))) (A6_0.out.below (by repeat (first | exact On.refl _ | apply On.drew))) (A6_1.out.below (by repeat (first | exact On.refl _ | apply On.drew)))).mono ?_; rintro e w7 ⟨rfl, h7⟩))
    all_goals
      go_wp2_with fail
      go_ret
      exact ⟨rfl, On.trans HO5.out (On.trans ‹On w5 _› (On.trans (by repeat (first | exact On.refl _ | apply On.drew)) ‹On _ w7›))⟩

set_option maxRecDepth 100000 in
/-- The row's step. -/
theorem lifted (os : Os) (started : os.Started) (H : Type) (enc : TypeId × Value → H) :
    ReturnsInHanded {} Try.checked os 4 .any (Rows.fnExactWidthAtSpec.pre6 enc Try.prog Try.f4 Rows.fnExactWidthAtRow.domain false) (Rows.fnExactWidthAtSpec.post enc Try.prog Try.f4 false true false false) := by
  refine returnsInHanded_of_change (C := Try.checked) own started (by kernel_rfl) Try.func4
    (ChangeSpec.witness6 (enc := enc) (C := Try.checked) false ⟨#[], #[.agg #[.slice none 0 0, .slice none 0 0], .int .i64 0], []⟩ 8 (by kernel_rfl) (by kernel_rfl) (by kernel_rfl) (by kernel_rfl)) ?_
  intro W base args ds gs before hval0 hW hcnd _
  have hval : ∀ (j : Nat) t v, Try.f4.params[j]? = some t → args[j]? = some v → Value.okWide Try.prog W .any base t v := hval0
  have hW' := hW
  obtain ⟨p, q, hA0, hV, rfl, hfz, hnd⟩ := hW
  have hA : DataW.TrodAll enc Try.prog W 0 (fun _ => true) true Try.f4.params.toList args.toList ds p := hA0
  rw [Try.params4] at hA hval
  obtain ⟨v0, vs0, d0, ds0, p0, q0, hargs, rfl, rfl, h0, r0⟩ := trodAll_cons hA
  obtain ⟨v1, vs1, d1, ds1, p1, q1, rfl, rfl, rfl, h1, r1⟩ := trodAll_cons r0
  obtain ⟨rfl, rfl, rfl⟩ := trodAll_nil r1
  obtain rfl : args = #[v0, v1] := by cases args; simp_all
  obtain ⟨rfl, rfl⟩ := trodVars_none hV
  have k0 := h0
  have lt0 : ∀ x ∈ p0, x.block < W.heap.size := by obtain ⟨m, hm⟩ := k0; exact DataW.trod_lt m _ _ _ hm
  obtain ⟨c0_0, c0_1, y0_0, y0_1, n0, rfl, -, -, e0_0, e0_1⟩ := Joins.open_agg2 Try.underlying24 (by kernel_rfl) (by kernel_rfl) (hval 0 24 v0 rfl rfl) h0
  obtain ⟨a0_0, len0_0, cap0_0, z0_0, hc0_0, w0_0⟩ : ∃ a len cap zs, c0_0 = .slice a len cap ∧ IsRow .i64 W a len cap zs := by
    rcases open_ints Try.underlying22 Try.underlying2 (by kernel_rfl) e0_0 with ⟨hcs, _⟩ | ⟨x, l, c, zs, hcs, _, hl, hm, hz, _, hcell, hwz⟩
    · exact ⟨none, 0, 0, [], by simpa using hcs, .inl ⟨rfl, rfl, rfl, rfl⟩⟩
    · exact ⟨some x, l, c, zs, by simpa using hcs, .inr ⟨_, rfl, hl, hm, by simpa using hz, hcell, hwz⟩⟩
  subst hc0_0
  obtain ⟨a0_1, len0_1, cap0_1, z0_1, hc0_1, w0_1⟩ : ∃ a len cap zs, c0_1 = .slice a len cap ∧ IsRow .i64 W a len cap zs := by
    rcases open_ints Try.underlying22 Try.underlying2 (by kernel_rfl) e0_1 with ⟨hcs, _⟩ | ⟨x, l, c, zs, hcs, _, hl, hm, hz, _, hcell, hwz⟩
    · exact ⟨none, 0, 0, [], by simpa using hcs, .inl ⟨rfl, rfl, rfl, rfl⟩⟩
    · exact ⟨some x, l, c, zs, by simpa using hcs, .inr ⟨_, rfl, hl, hm, by simpa using hz, hcell, hwz⟩⟩
  subst hc0_1
  obtain ⟨a1, rfl, rfl, rfl, w1⟩ := open_int Try.underlying2 (hval 1 2 v1 rfl rfl) h1
  clear hA0
  refine (walk W a0_0 len0_0 cap0_0 z0_0 w0_0 a0_1 len0_1 cap0_1 z0_1 w0_1 a1 w1 ).mono fun e W' ⟨he, bel⟩ => ?_
  subst he
  exact ⟨_, rfl, _, _, _, [], _, [], hW', trodAll_mk1 (shut_bool Try.underlying4 _), (trodAll_cons_mk (Below.trod laidOut (by kernel_rfl) (of_decide_eq_true (by kernel_rfl)) k0 bel lt0) (trodAll_cons_mk (shut_int Try.underlying2 w1) trodAll_mk0)), rfl, bel.frame _, fun h => by cases h⟩

theorem proved : Rows.FnExactWidthAtSaid :=
  OpenClaim.holds_of_wide 4 Try.f4 rfl rfl rfl rfl rfl rfl rfl ⟨rfl, rfl, rfl, rfl, rfl⟩ rfl rfl rfl rfl rfl (by kernel_rfl) Try.func4 (by kernel_rfl)
    (of_decide_eq_true (by kernel_rfl)) (by unfold Func.isWrapper; first | (rw [if_pos (by decide +kernel)]; kernel_rfl) | (rw [if_neg (by decide +kernel)]; exact ⟨rfl, rfl⟩))
    (fun os started H enc _ => lifted os started H enc)
end Go.Proofs.Ytompiicgbmpoiaa.fnExactWidthAt
