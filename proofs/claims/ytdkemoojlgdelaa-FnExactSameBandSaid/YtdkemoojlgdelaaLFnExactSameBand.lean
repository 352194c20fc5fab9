/-
  For all arguments SameBand of the program returns what the model returns: the statement FnExactSameBand. Its row, where it is a card, lists the program's variable of spans, tied to the text by the card; no other condition.
-/
import Derived.Test.YtdkemoojlgdelaaRows
import Derived.Test.YtdkemoojlgdelaaBndSame
import Derived.Test.YtdkemoojlgdelaaAgg
import Derived.Test.YtdkemoojlgdelaaOnH
import Derived.WalkKit
import Derived.ProofKit
import Derived.OpenShut
import Derived.ShutString
import Derived.Below
import Derived.Lib.SmallJoins
import Derived.Test.YtdkemoojlgdelaaAgg
namespace Go.Proofs.Ytdkemoojlgdelaa.fnExactSameBand
open Go.ChangeShapes Go.WideShapes Go.ChangeAt Go.RowKit
open Go.ChangeMaps (open_string shut_string)
set_option linter.unusedVariables false

theorem own : ownKnob Try.prog.godebug = none := by kernel_rfl
theorem laidOut : laidOutB Try.prog = true := by kernel_rfl

set_option maxRecDepth 100000 in
set_option maxHeartbeats 4000000 in
/-- The walk. -/
theorem walk (w : World) (x0_0 : ByteArray) (wx0_0 : x0_0.size ≤ maxLen) (x0_1 : Int) (wx0_1 : (Lit.int .i64 x0_1).wf = true) (x0_2 : Int) (wx0_2 : (Lit.int .i64 x0_2).wf = true) (x0_3 : Int) (wx0_3 : (Lit.int .i64 x0_3).wf = true) (x0_4 : Int) (wx0_4 : (Lit.int .i64 x0_4).wf = true) (x1_0 : ByteArray) (wx1_0 : x1_0.size ≤ maxLen) (x1_1 : Int) (wx1_1 : (Lit.int .i64 x1_1).wf = true) (x1_2 : Int) (wx1_2 : (Lit.int .i64 x1_2).wf = true) (x1_3 : Int) (wx1_3 : (Lit.int .i64 x1_3).wf = true) (x1_4 : Int) (wx1_4 : (Lit.int .i64 x1_4).wf = true) :
    Calls Try.prog 3 #[.agg #[.string x0_0, .int .i64 x0_1, .int .i64 x0_2, .int .i64 x0_3, .int .i64 x0_4], .agg #[.string x1_0, .int .i64 x1_1, .int .i64 x1_2, .int .i64 x1_3, .int .i64 x1_4]] w fun e w' => e = .returned (.bool true) ∧ Below w.heap.size w w' := by
  have hz0 := fun w => Bnd.count 1048576 x0_0 x0_1 x0_2 x0_3 x0_4 w (by omega) wx0_0
  rw [show (((1048576 : Nat) : Int)) = 1048576 from rfl] at hz0
  rcases Bnd.left_or 1048576 x0_0.size with hr0 | ⟨c0, hr0, cm0, q0⟩
  · rw [hr0] at hz0
    have HZ0 := Lib.hid hz0
    clear hz0 hr0
    go_enter Try.func3, Try.ntmps3
    go_wp2_with fail
    refine (HZ0.out _).mono ?_
    rintro e w9 ⟨rfl, h9⟩
    go_wp2_with fail
    go_ret
    exact ⟨rfl, by repeat (first | with_reducible exact On.refl _ | apply On.alloc | apply On.drewN | apply On.drew | refine On.setCell ?_ (by (try simp) <;> omega) _ | refine On.trans ?_ h9)⟩
  · rw [hr0] at hz0
    have pos0 : ¬ ((c0 : Nat) : Int) < 0 := by omega
    have HZ0 := Lib.hid hz0
    clear hz0 hr0
    have hz1 := fun w => Bnd.count c0 x1_0 x1_1 x1_2 x1_3 x1_4 w (by omega) wx1_0
    rcases Bnd.left_or c0 x1_0.size with hr1 | ⟨c1, hr1, cm1, q1⟩
    · rw [hr1] at hz1
      have HZ1 := Lib.hid hz1
      clear hz1 hr1
      go_enter Try.func3, Try.ntmps3
      go_wp2_with fail
      refine (HZ0.out _).mono ?_
      rintro e w1 ⟨rfl, h1⟩
      have K1_0 : Bnd.In w1 (w.heap.size) x0_0 x0_1 x0_2 x0_3 x0_4 := Bnd.In.on ⟨by simp [go_sem], by simp [go_sem], by simp [go_sem], by simp [go_sem], by simp [go_sem]⟩ h1
      have HK1_0 := Lib.hid K1_0
      have z1_0 := K1_0.lt
      obtain ⟨k1_0_0, k1_0_1, k1_0_2, k1_0_3, k1_0_4⟩ := K1_0
      have K1_1 : Bnd.In w1 (w.heap.size + 1) x1_0 x1_1 x1_2 x1_3 x1_4 := Bnd.In.on ⟨by simp [go_sem], by simp [go_sem], by simp [go_sem], by simp [go_sem], by simp [go_sem]⟩ h1
      have HK1_1 := Lib.hid K1_1
      have z1_1 := K1_1.lt
      obtain ⟨k1_1_0, k1_1_1, k1_1_2, k1_1_3, k1_1_4⟩ := K1_1
      have HO1 := Lib.hid (show On w w1 by repeat (first | with_reducible exact On.refl _ | apply On.alloc | apply On.drewN | apply On.drew | refine On.setCell ?_ (by (try simp) <;> omega) _ | refine On.trans ?_ h1 | refine On.trans ?_ h1))
      clear h1
      go_wp2_with fail
      refine (HZ1.out _).mono ?_
      rintro e w9 ⟨rfl, h9⟩
      go_wp2_with fail
      go_ret
      exact ⟨rfl, by repeat (first | with_reducible exact On.refl _ | apply On.alloc | apply On.drewN | apply On.drew | refine On.setCell ?_ (by (try simp) <;> omega) _ | refine On.trans ?_ h9 | refine On.trans ?_ HO1.out)⟩
    · rw [hr1] at hz1
      have pos1 : ¬ ((c1 : Nat) : Int) < 0 := by omega
      have HZ1 := Lib.hid hz1
      clear hz1 hr1
      replace q1 := Nat.le_trans q1 cm0
      clear cm0 cm1 wx0_0 wx0_1 wx0_2 wx0_3 wx0_4 wx1_0 wx1_1 wx1_2 wx1_3 wx1_4
      go_enter Try.func3, Try.ntmps3
      go_wp2_with fail
      refine (HZ0.out _).mono ?_
      rintro e w1 ⟨rfl, h1⟩
      have K1_0 : Bnd.In w1 (w.heap.size) x0_0 x0_1 x0_2 x0_3 x0_4 := Bnd.In.on ⟨by simp [go_sem], by simp [go_sem], by simp [go_sem], by simp [go_sem], by simp [go_sem]⟩ h1
      have HK1_0 := Lib.hid K1_0
      have z1_0 := K1_0.lt
      obtain ⟨k1_0_0, k1_0_1, k1_0_2, k1_0_3, k1_0_4⟩ := K1_0
      have K1_1 : Bnd.In w1 (w.heap.size + 1) x1_0 x1_1 x1_2 x1_3 x1_4 := Bnd.In.on ⟨by simp [go_sem], by simp [go_sem], by simp [go_sem], by simp [go_sem], by simp [go_sem]⟩ h1
      have HK1_1 := Lib.hid K1_1
      have z1_1 := K1_1.lt
      obtain ⟨k1_1_0, k1_1_1, k1_1_2, k1_1_3, k1_1_4⟩ := K1_1
      have HO1 := Lib.hid (show On w w1 by repeat (first | with_reducible exact On.refl _ | apply On.alloc | apply On.drewN | apply On.drew | refine On.setCell ?_ (by (try simp) <;> omega) _ | refine On.trans ?_ h1 | refine On.trans ?_ h1))
      clear h1
      go_wp2_with fail
      refine (HZ1.out _).mono ?_
      rintro e w2 ⟨rfl, h2⟩
      have K2_0 := HK1_0.out.on h2
      have HK2_0 := Lib.hid K2_0
      have z2_0 := K2_0.lt
      obtain ⟨k2_0_0, k2_0_1, k2_0_2, k2_0_3, k2_0_4⟩ := K2_0
      have K2_1 := HK1_1.out.on h2
      have HK2_1 := Lib.hid K2_1
      have z2_1 := K2_1.lt
      obtain ⟨k2_1_0, k2_1_1, k2_1_2, k2_1_3, k2_1_4⟩ := K2_1
      have HO2 := Lib.hid (show On w w2 by repeat (first | with_reducible exact On.refl _ | apply On.alloc | apply On.drewN | apply On.drew | refine On.setCell ?_ (by (try simp) <;> omega) _ | refine On.trans ?_ h2 | refine On.trans ?_ HO1.out))
      clear h2 k1_0_0 k1_0_1 k1_0_2 k1_0_3 k1_0_4 k1_1_0 k1_1_1 k1_1_2 k1_1_3 k1_1_4 z1_0 z1_1
      have HS := Lib.hid (fun w' => Bnd.spec_Same x0_0 x0_1 x0_2 x0_3 x0_4 x1_0 x1_1 x1_2 x1_3 x1_4 w')
      have HI := Lib.hid (fun w' (ho : On w w') => Bnd.impl_Same x0_0 x0_1 x0_2 x0_3 x0_4 x1_0 x1_1 x1_2 x1_3 x1_4 w')
      have HC0 := Lib.hid (fun w' => Bnd.copy x0_0 x0_1 x0_2 x0_3 x0_4 w')
      have HC1 := Lib.hid (fun w' => Bnd.copy x1_0 x1_1 x1_2 x1_3 x1_4 w')
      clear q0 q1
      go_wp2_with fail
      refine wp_region_onh (by kernel_rfl) (by kernel_rfl) ?_
      repeat (refine rest_step (fun K hK => ?_); go_simp; first | (refine hK _ ?_; clear hK K) | (apply Exists.intro; refine ⟨fun v1 hv1 => ?_, hK _ ?_⟩; (first | with_reducible exact rfl | with_reducible exact ⟨rfl, rfl⟩ | with_reducible exact Calls.on hv1 (HC0.out _) | with_reducible exact Calls.on hv1 (HC1.out _) | with_reducible exact Calls.on hv1 (HS.out _) | (obtain ⟨hc, hf⟩ := bcell hv1; go_simp; first | with_reducible exact rfl | with_reducible exact ⟨rfl, rfl⟩ | exact rfl | exact ⟨rfl, rfl⟩)); clear hK K))
      refine rest_nil ?_
      intro w3 h3
      have K3_0 := HK2_0.out.on h3
      have HK3_0 := Lib.hid K3_0
      have z3_0 := K3_0.lt
      obtain ⟨k3_0_0, k3_0_1, k3_0_2, k3_0_3, k3_0_4⟩ := K3_0
      have K3_1 := HK2_1.out.on h3
      have HK3_1 := Lib.hid K3_1
      have z3_1 := K3_1.lt
      obtain ⟨k3_1_0, k3_1_1, k3_1_2, k3_1_3, k3_1_4⟩ := K3_1
      have HO3 := Lib.hid (On.trans HO2.out h3)
      clear h3 k2_0_0 k2_0_1 k2_0_2 k2_0_3 k2_0_4 k2_1_0 k2_1_1 k2_1_2 k2_1_3 k2_1_4 z2_0 z2_1
      go_wp2_with fail
      refine wp_region_onh (by kernel_rfl) (by kernel_rfl) ?_
      repeat (refine rest_step (fun K hK => ?_); go_simp; first | (refine hK _ ?_; clear hK K) | (apply Exists.intro; refine ⟨fun v1 hv1 => ?_, hK _ ?_⟩; (first | with_reducible exact rfl | with_reducible exact ⟨rfl, rfl⟩ | with_reducible exact Calls.on hv1 (HC0.out _) | with_reducible exact Calls.on hv1 (HC1.out _) | with_reducible exact Calls.on hv1 (HI.out _ (On.trans HO3.out hv1)) | (obtain ⟨hc, hf⟩ := bcell hv1; go_simp; first | with_reducible exact rfl | with_reducible exact ⟨rfl, rfl⟩ | exact rfl | exact ⟨rfl, rfl⟩)); clear hK K))
      refine rest_nil ?_
      intro w4 h4
      have K4_0 := HK3_0.out.on h4
      have HK4_0 := Lib.hid K4_0
      have z4_0 := K4_0.lt
      obtain ⟨k4_0_0, k4_0_1, k4_0_2, k4_0_3, k4_0_4⟩ := K4_0
      have K4_1 := HK3_1.out.on h4
      have HK4_1 := Lib.hid K4_1
      have z4_1 := K4_1.lt
      obtain ⟨k4_1_0, k4_1_1, k4_1_2, k4_1_3, k4_1_4⟩ := K4_1
      have HO4 := Lib.hid (On.trans HO3.out h4)
      clear h4 k3_0_0 k3_0_1 k3_0_2 k3_0_3 k3_0_4 k3_1_0 k3_1_1 k3_1_2 k3_1_3 k3_1_4 z3_0 z3_1
      go_wp2_with fail
      go_ret
      exact ⟨rfl, HO4.out⟩

set_option maxRecDepth 100000 in
/-- The row's step. -/
theorem lifted (os : Os) (started : os.Started) (H : Type) (enc : TypeId × Value → H) :
    ReturnsInHanded {} Try.checked os 3 .any (Rows.fnExactSameBandSpec.pre6 enc Try.prog Try.f3 Rows.fnExactSameBandRow.domain false) (Rows.fnExactSameBandSpec.post enc Try.prog Try.f3 false true false false) := by
  refine returnsInHanded_of_change (C := Try.checked) own started (by kernel_rfl) Try.func3
    (ChangeSpec.witness6 (enc := enc) (C := Try.checked) false ⟨#[], #[.agg #[.string ByteArray.empty, .int .i64 0, .int .i64 0, .int .i64 0, .int .i64 0], .agg #[.string ByteArray.empty, .int .i64 0, .int .i64 0, .int .i64 0, .int .i64 0]], []⟩ 8 (by kernel_rfl) (by kernel_rfl) (by kernel_rfl) (by kernel_rfl)) ?_
  intro W base args ds gs before hval0 hW hcnd _
  have hval : ∀ (j : Nat) t v, Try.f3.params[j]? = some t → args[j]? = some v → Value.okWide Try.prog W .any base t v := hval0
  have hW' := hW
  obtain ⟨p, q, hA0, hV, rfl, hfz, hnd⟩ := hW
  have hA : DataW.TrodAll enc Try.prog W 0 (fun _ => true) true Try.f3.params.toList args.toList ds p := hA0
  rw [Try.params3] at hA hval
  obtain ⟨v0, vs0, d0, ds0, p0, q0, hargs, rfl, rfl, h0, r0⟩ := trodAll_cons hA
  obtain ⟨v1, vs1, d1, ds1, p1, q1, rfl, rfl, rfl, h1, r1⟩ := trodAll_cons r0
  obtain ⟨rfl, rfl, rfl⟩ := trodAll_nil r1
  obtain rfl : args = #[v0, v1] := by cases args; simp_all
  obtain ⟨rfl, rfl⟩ := trodVars_none hV
  have k0 := h0
  have lt0 : ∀ x ∈ p0, x.block < W.heap.size := by obtain ⟨m, hm⟩ := k0; exact DataW.trod_lt m _ _ _ hm
  obtain ⟨c0_0, c0_1, c0_2, c0_3, c0_4, y0_0, y0_1, y0_2, y0_3, y0_4, n0, rfl, -, -, e0_0, e0_1, e0_2, e0_3, e0_4⟩ := Agg.open_agg5 Try.underlying23 (by kernel_rfl) (by kernel_rfl) (hval 0 23 v0 rfl rfl) h0
  obtain ⟨x0_0, g0_0, -, wx0_0⟩ := DataW.trod_string Try.underlying9 e0_0
  obtain rfl : c0_0 = .string x0_0 := by simpa using g0_0
  obtain ⟨x0_1, g0_1, -, wx0_1⟩ := DataW.trod_int Try.underlying2 e0_1
  obtain rfl : c0_1 = .int .i64 x0_1 := by simpa using g0_1
  obtain ⟨x0_2, g0_2, -, wx0_2⟩ := DataW.trod_int Try.underlying2 e0_2
  obtain rfl : c0_2 = .int .i64 x0_2 := by simpa using g0_2
  obtain ⟨x0_3, g0_3, -, wx0_3⟩ := DataW.trod_int Try.underlying2 e0_3
  obtain rfl : c0_3 = .int .i64 x0_3 := by simpa using g0_3
  obtain ⟨x0_4, g0_4, -, wx0_4⟩ := DataW.trod_int Try.underlying2 e0_4
  obtain rfl : c0_4 = .int .i64 x0_4 := by simpa using g0_4
  have k1 := h1
  have lt1 : ∀ x ∈ p1, x.block < W.heap.size := by obtain ⟨m, hm⟩ := k1; exact DataW.trod_lt m _ _ _ hm
  obtain ⟨c1_0, c1_1, c1_2, c1_3, c1_4, y1_0, y1_1, y1_2, y1_3, y1_4, n1, rfl, -, -, e1_0, e1_1, e1_2, e1_3, e1_4⟩ := Agg.open_agg5 Try.underlying23 (by kernel_rfl) (by kernel_rfl) (hval 1 23 v1 rfl rfl) h1
  obtain ⟨x1_0, g1_0, -, wx1_0⟩ := DataW.trod_string Try.underlying9 e1_0
  obtain rfl : c1_0 = .string x1_0 := by simpa using g1_0
  obtain ⟨x1_1, g1_1, -, wx1_1⟩ := DataW.trod_int Try.underlying2 e1_1
  obtain rfl : c1_1 = .int .i64 x1_1 := by simpa using g1_1
  obtain ⟨x1_2, g1_2, -, wx1_2⟩ := DataW.trod_int Try.underlying2 e1_2
  obtain rfl : c1_2 = .int .i64 x1_2 := by simpa using g1_2
  obtain ⟨x1_3, g1_3, -, wx1_3⟩ := DataW.trod_int Try.underlying2 e1_3
  obtain rfl : c1_3 = .int .i64 x1_3 := by simpa using g1_3
  obtain ⟨x1_4, g1_4, -, wx1_4⟩ := DataW.trod_int Try.underlying2 e1_4
  obtain rfl : c1_4 = .int .i64 x1_4 := by simpa using g1_4
  clear hA0
  refine (walk W x0_0 wx0_0 x0_1 wx0_1 x0_2 wx0_2 x0_3 wx0_3 x0_4 wx0_4 x1_0 wx1_0 x1_1 wx1_1 x1_2 wx1_2 x1_3 wx1_3 x1_4 wx1_4 ).mono fun e W' ⟨he, bel⟩ => ?_
  subst he
  exact ⟨_, rfl, _, _, _, [], _, [], hW', trodAll_mk1 (shut_bool Try.underlying4 _), (trodAll_cons_mk (Below.trod laidOut (by kernel_rfl) (of_decide_eq_true (by kernel_rfl)) k0 bel lt0) (trodAll_cons_mk (Below.trod laidOut (by kernel_rfl) (of_decide_eq_true (by kernel_rfl)) k1 bel lt1) trodAll_mk0)), rfl, bel.frame _, fun h => by cases h⟩

theorem proved : Rows.FnExactSameBandSaid :=
  OpenClaim.holds_of_wide 3 Try.f3 rfl rfl rfl rfl rfl rfl rfl ⟨rfl, rfl, rfl, rfl, rfl⟩ rfl rfl rfl rfl rfl (by kernel_rfl) Try.func3 (by kernel_rfl)
    (of_decide_eq_true (by kernel_rfl)) (by unfold Func.isWrapper; first | (rw [if_pos (by decide +kernel)]; kernel_rfl) | (rw [if_neg (by decide +kernel)]; exact ⟨rfl, rfl⟩))
    (fun os started H enc _ => lifted os started H enc)
end Go.Proofs.Ytdkemoojlgdelaa.fnExactSameBand
