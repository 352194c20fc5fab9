/-
  For all arguments CommonPart of the program returns what the model returns: the statement FnExactCommonPart. Its row, where it is a card, lists the program's variable of spans, tied to the text by the card; no other condition.
-/
import Derived.Test.YtdkemoojlgdelabDoorCards
import Derived.Test.YtdkemoojlgdelabDoorTie
import Derived.Test.YtdkemoojlgdelabDoorBndO
import Derived.Test.YtdkemoojlgdelabDoorSpanTab
import Derived.Test.YtdkemoojlgdelabDoorAgg
import Derived.WalkKit
import Derived.ProofKit
import Derived.OpenShut
import Derived.ShutString
import Derived.Below
import Derived.ChangeOld
import Derived.OpenVars
import Derived.ChangeVars
import Derived.Deep.DeepHandedRow
import Derived.Lib.LaidTab
import Derived.Lib.SmallJoins
import Derived.Test.YtdkemoojlgdelabDoorAgg
namespace Go.Proofs.YtdkemoojlgdelabDoor.fnExactCommonPart
open Go.ChangeShapes Go.WideShapes Go.ChangeAt Go.RowKit
open Go.ChangeMaps (open_string shut_string)
set_option linter.unusedVariables false

theorem own : ownKnob Tryd.prog.godebug = none := by kernel_rfl
theorem laidOut : laidOutB Tryd.prog = true := by kernel_rfl

set_option maxRecDepth 100000 in
set_option maxHeartbeats 4000000 in
/-- The walk. -/
theorem walk (w : World) (x0_0 : ByteArray) (wx0_0 : x0_0.size ≤ maxLen) (x0_1 : Int) (wx0_1 : (Lit.int .i64 x0_1).wf = true) (x0_2 : Int) (wx0_2 : (Lit.int .i64 x0_2).wf = true) (x0_3 : Int) (wx0_3 : (Lit.int .i64 x0_3).wf = true) (x0_4 : Int) (wx0_4 : (Lit.int .i64 x0_4).wf = true) (x1_0 : ByteArray) (wx1_0 : x1_0.size ≤ maxLen) (x1_1 : Int) (wx1_1 : (Lit.int .i64 x1_1).wf = true) (x1_2 : Int) (wx1_2 : (Lit.int .i64 x1_2).wf = true) (x1_3 : Int) (wx1_3 : (Lit.int .i64 x1_3).wf = true) (x1_4 : Int) (wx1_4 : (Lit.int .i64 x1_4).wf = true) (hL : laidMetH Tryd.prog Rows.fnExactCommonPartRow.laid w) (hsh : w.ShapedOpen Tryd.prog) :
    Calls Tryd.prog 6 #[.agg #[.string x0_0, .int .i64 x0_1, .int .i64 x0_2, .int .i64 x0_3, .int .i64 x0_4], .agg #[.string x1_0, .int .i64 x1_1, .int .i64 x1_2, .int .i64 x1_3, .int .i64 x1_4]] w fun e w' => e = .returned (.bool true) ∧ Below w.heap.size w w' := by
  have HT := Lib.hid (SpanTab.spanG (W := w) (l := Rows.fnExactCommonPartRow.laid) hL (.head _))
  clear hL hsh
  have hz0 := fun w => Bnd.count 1048576 x0_0 x0_1 x0_2 x0_3 x0_4 w (by omega) wx0_0
  rw [show (((1048576 : Nat) : Int)) = 1048576 from rfl] at hz0
  rcases Bnd.left_or 1048576 x0_0.size with hr0 | ⟨c0, hr0, cm0, q0⟩
  · rw [hr0] at hz0
    have HZ0 := Lib.hid hz0
    clear hz0 hr0
    go_enter Tryd.func6, Tryd.ntmps6
    go_wp2_with fail
    refine (HZ0.out _).mono ?_
    rintro e w9 ⟨rfl, h9⟩
    go_wp2_with fail
    go_ret
    exact ⟨rfl, by repeat (first | with_reducible exact On.refl _ | apply On.alloc | apply On.drewN | apply On.drew | refine On.setCell ?_ (by (try simp) <;> omega) _ | refine On.trans ?_ h9)⟩
  · rw [hr0] at hz0
    have pos0 : ¬ ((c0 : Nat) : Int) < 0 := by omega
    have HZ0 := Lib.hid hz0
    clear hz0 hr0
    have hz1 := fun w => Bnd.count c0 x1_0 x1_1 x1_2 x1_3 x1_4 w (by omega) wx1_0
    rcases Bnd.left_or c0 x1_0.size with hr1 | ⟨c1, hr1, cm1, q1⟩
    · rw [hr1] at hz1
      have HZ1 := Lib.hid hz1
      clear hz1 hr1
      go_enter Tryd.func6, Tryd.ntmps6
      go_wp2_with fail
      refine (HZ0.out _).mono ?_
      rintro e w1 ⟨rfl, h1⟩
      have K1_0 : Bnd.In w1 (w.heap.size) x0_0 x0_1 x0_2 x0_3 x0_4 := Bnd.In.on ⟨by simp [go_sem], by simp [go_sem], by simp [go_sem], by simp [go_sem], by simp [go_sem]⟩ h1
      have HK1_0 := Lib.hid K1_0
      have z1_0 := K1_0.lt
      obtain ⟨k1_0_0, k1_0_1, k1_0_2, k1_0_3, k1_0_4⟩ := K1_0
      have K1_1 : Bnd.In w1 (w.heap.size + 1) x1_0 x1_1 x1_2 x1_3 x1_4 := Bnd.In.on ⟨by simp [go_sem], by simp [go_sem], by simp [go_sem], by simp [go_sem], by simp [go_sem]⟩ h1
      have HK1_1 := Lib.hid K1_1
      have z1_1 := K1_1.lt
      obtain ⟨k1_1_0, k1_1_1, k1_1_2, k1_1_3, k1_1_4⟩ := K1_1
      have HO1 := Lib.hid (show On w w1 by repeat (first | with_reducible exact On.refl _ | apply On.alloc | apply On.drewN | apply On.drew | refine On.setCell ?_ (by (try simp) <;> omega) _ | refine On.trans ?_ h1 | refine On.trans ?_ h1))
      clear h1
      go_wp2_with fail
      refine (HZ1.out _).mono ?_
      rintro e w9 ⟨rfl, h9⟩
      go_wp2_with fail
      go_ret
      exact ⟨rfl, by repeat (first | with_reducible exact On.refl _ | apply On.alloc | apply On.drewN | apply On.drew | refine On.setCell ?_ (by (try simp) <;> omega) _ | refine On.trans ?_ h9 | refine On.trans ?_ HO1.out)⟩
    · rw [hr1] at hz1
      have pos1 : ¬ ((c1 : Nat) : Int) < 0 := by omega
      have HZ1 := Lib.hid hz1
      clear hz1 hr1
      replace q1 := Nat.le_trans q1 cm0
      clear cm0 cm1 wx0_0 wx0_1 wx0_2 wx0_3 wx0_4 wx1_0 wx1_1 wx1_2 wx1_3 wx1_4
      go_enter Tryd.func6, Tryd.ntmps6
      go_wp2_with fail
      refine (HZ0.out _).mono ?_
      rintro e w1 ⟨rfl, h1⟩
      have K1_0 : Bnd.In w1 (w.heap.size) x0_0 x0_1 x0_2 x0_3 x0_4 := Bnd.In.on ⟨by simp [go_sem], by simp [go_sem], by simp [go_sem], by simp [go_sem], by simp [go_sem]⟩ h1
      have HK1_0 := Lib.hid K1_0
      have z1_0 := K1_0.lt
      obtain ⟨k1_0_0, k1_0_1, k1_0_2, k1_0_3, k1_0_4⟩ := K1_0
      have K1_1 : Bnd.In w1 (w.heap.size + 1) x1_0 x1_1 x1_2 x1_3 x1_4 := Bnd.In.on ⟨by simp [go_sem], by simp [go_sem], by simp [go_sem], by simp [go_sem], by simp [go_sem]⟩ h1
      have HK1_1 := Lib.hid K1_1
      have z1_1 := K1_1.lt
      obtain ⟨k1_1_0, k1_1_1, k1_1_2, k1_1_3, k1_1_4⟩ := K1_1
      have HO1 := Lib.hid (show On w w1 by repeat (first | with_reducible exact On.refl _ | apply On.alloc | apply On.drewN | apply On.drew | refine On.setCell ?_ (by (try simp) <;> omega) _ | refine On.trans ?_ h1 | refine On.trans ?_ h1))
      clear h1
      go_wp2_with fail
      refine (HZ1.out _).mono ?_
      rintro e w2 ⟨rfl, h2⟩
      have K2_0 := HK1_0.out.on h2
      have HK2_0 := Lib.hid K2_0
      have z2_0 := K2_0.lt
      obtain ⟨k2_0_0, k2_0_1, k2_0_2, k2_0_3, k2_0_4⟩ := K2_0
      have K2_1 := HK1_1.out.on h2
      have HK2_1 := Lib.hid K2_1
      have z2_1 := K2_1.lt
      obtain ⟨k2_1_0, k2_1_1, k2_1_2, k2_1_3, k2_1_4⟩ := K2_1
      have HO2 := Lib.hid (show On w w2 by repeat (first | with_reducible exact On.refl _ | apply On.alloc | apply On.drewN | apply On.drew | refine On.setCell ?_ (by (try simp) <;> omega) _ | refine On.trans ?_ h2 | refine On.trans ?_ HO1.out))
      clear h2 k1_0_0 k1_0_1 k1_0_2 k1_0_3 k1_0_4 k1_1_0 k1_1_1 k1_1_2 k1_1_3 k1_1_4 z1_0 z1_1
      have HS := Lib.hid (fun w' => Bnd.spec_CommonPart x0_0 x0_1 x0_2 x0_3 x0_4 x1_0 x1_1 x1_2 x1_3 x1_4 w' q0 q1)
      have HI := Lib.hid (fun w' (ho : On w w') => Bnd.impl_CommonPart x0_0 x0_1 x0_2 x0_3 x0_4 x1_0 x1_1 x1_2 x1_3 x1_4 w' q0 q1 (HT.out.on ho))
      have HC0 := Lib.hid (fun w' => Bnd.copy x0_0 x0_1 x0_2 x0_3 x0_4 w')
      have HC1 := Lib.hid (fun w' => Bnd.copy x1_0 x1_1 x1_2 x1_3 x1_4 w')
      clear q0 q1
      go_wp2_with fail
      refine wp_region_onh (by kernel_rfl) (by kernel_rfl) ?_
      repeat (refine rest_step (fun K hK => ?_); go_simp; first | (refine hK _ ?_; clear hK K) | (apply Exists.intro; refine ⟨fun v1 hv1 => ?_, hK _ ?_⟩; (first | with_reducible exact rfl | with_reducible exact ⟨rfl, rfl⟩ | with_reducible exact Calls.on hv1 (HC0.out _) | with_reducible exact Calls.on hv1 (HC1.out _) | with_reducible exact Calls.on hv1 (HS.out _) | (obtain ⟨hc, hf⟩ := bcell hv1; go_simp; first | with_reducible exact rfl | with_reducible exact ⟨rfl, rfl⟩ | exact rfl | exact ⟨rfl, rfl⟩)); clear hK K))
      refine rest_nil ?_
      intro w3 h3
      have K3_0 := HK2_0.out.on h3
      have HK3_0 := Lib.hid K3_0
      have z3_0 := K3_0.lt
      obtain ⟨k3_0_0, k3_0_1, k3_0_2, k3_0_3, k3_0_4⟩ := K3_0
      have K3_1 := HK2_1.out.on h3
      have HK3_1 := Lib.hid K3_1
      have z3_1 := K3_1.lt
      obtain ⟨k3_1_0, k3_1_1, k3_1_2, k3_1_3, k3_1_4⟩ := K3_1
      have HO3 := Lib.hid (On.trans HO2.out h3)
      clear h3 k2_0_0 k2_0_1 k2_0_2 k2_0_3 k2_0_4 k2_1_0 k2_1_1 k2_1_2 k2_1_3 k2_1_4 z2_0 z2_1
      go_wp2_with fail
      refine wp_region_onh (by kernel_rfl) (by kernel_rfl) ?_
      repeat (refine rest_step (fun K hK => ?_); go_simp; first | (refine hK _ ?_; clear hK K) | (apply Exists.intro; refine ⟨fun v1 hv1 => ?_, hK _ ?_⟩; (first | with_reducible exact rfl | with_reducible exact ⟨rfl, rfl⟩ | with_reducible exact Calls.on hv1 (HC0.out _) | with_reducible exact Calls.on hv1 (HC1.out _) | with_reducible exact Calls.on hv1 (HI.out _ (On.trans HO3.out hv1)) | (obtain ⟨hc, hf⟩ := bcell hv1; go_simp; first | with_reducible exact rfl | with_reducible exact ⟨rfl, rfl⟩ | exact rfl | exact ⟨rfl, rfl⟩)); clear hK K))
      refine rest_nil ?_
      intro w4 h4
      have K4_0 := HK3_0.out.on h4
      have HK4_0 := Lib.hid K4_0
      have z4_0 := K4_0.lt
      obtain ⟨k4_0_0, k4_0_1, k4_0_2, k4_0_3, k4_0_4⟩ := K4_0
      have K4_1 := HK3_1.out.on h4
      have HK4_1 := Lib.hid K4_1
      have z4_1 := K4_1.lt
      obtain ⟨k4_1_0, k4_1_1, k4_1_2, k4_1_3, k4_1_4⟩ := K4_1
      have HO4 := Lib.hid (On.trans HO3.out h4)
      clear h4 k3_0_0 k3_0_1 k3_0_2 k3_0_3 k3_0_4 k3_1_0 k3_1_1 k3_1_2 k3_1_3 k3_1_4 z3_0 z3_1
      go_wp2_with fail
      go_ret
      exact ⟨rfl, HO4.out⟩

/-- How many blocks the settled world has. -/
noncomputable def low : Nat := (World.holding Tryd.prog default ⟨#[], #[], []⟩).heap.size
/-- A world for the witness: the settled one, each listed variable holding what the program's text lays. -/
noncomputable def laidWorld (os : Os) : World :=
  let w0 := World.holding Tryd.prog os ⟨#[], #[], []⟩
  let h0 := w0.heap.modify 0 fun
    | .cells _ t frozen => .cells #[.int .i64 1, .int .i64 100000000, .int .i64 1, .int .i64 283000, .int .i64 (-300000), .int .i64 300000, .int .i64 (-300000), .int .i64 300000, .int .i64 0, .int .i64 300000, .int .i64 1, .int .i64 100000, .int .i64 0, .int .i64 7, .int .i64 0, .int .i64 90000, .int .i64 0, .int .i64 200, .int .i64 0, .int .i64 1000, .int .i64 1, .int .i64 10000, .int .i64 1, .int .i64 20, .int .i64 0, .int .i64 1000000, .int .i64 25, .int .i64 400, .int .i64 0, .int .i64 100000] t frozen
    | o => o
  { w0 with heap := h0 }
theorem laid_met (os : Os) : laidMet Tryd.prog Rows.fnExactCommonPartRow.laid ((laidWorld os).forCall (fun _ _ => 0) ⟨#[], #[.agg #[.string ByteArray.empty, .int .i64 0, .int .i64 0, .int .i64 0, .int .i64 0], .agg #[.string ByteArray.empty, .int .i64 0, .int .i64 0, .int .i64 0, .int .i64 0]], []⟩).memory :=
  laidMet_of_run' 8 (by kernel_rfl) (by kernel_rfl)
theorem witness_row (os : Os) {H : Type} (enc : TypeId × Value → H) :
    (OpenSpec.ofChange Rows.fnExactCommonPartSpec).preRow enc Tryd.prog Tryd.f6 Rows.fnExactCommonPartRow.domain false Rows.fnExactCommonPartRow.laid ((laidWorld os).forCall (fun _ _ => 0) ⟨#[], #[.agg #[.string ByteArray.empty, .int .i64 0, .int .i64 0, .int .i64 0, .int .i64 0], .agg #[.string ByteArray.empty, .int .i64 0, .int .i64 0, .int .i64 0, .int .i64 0]], []⟩).memory #[.agg #[.string ByteArray.empty, .int .i64 0, .int .i64 0, .int .i64 0, .int .i64 0], .agg #[.string ByteArray.empty, .int .i64 0, .int .i64 0, .int .i64 0, .int .i64 0]] := by
  have hw : (DataW.whole enc Tryd.prog ((laidWorld os).forCall (fun _ _ => 0) ⟨#[], #[.agg #[.string ByteArray.empty, .int .i64 0, .int .i64 0, .int .i64 0, .int .i64 0], .agg #[.string ByteArray.empty, .int .i64 0, .int .i64 0, .int .i64 0, .int .i64 0]], []⟩).memory Tryd.f6.params.toList Rows.fnExactCommonPartSpec.vars false (#[.agg #[.string ByteArray.empty, .int .i64 0, .int .i64 0, .int .i64 0, .int .i64 0], .agg #[.string ByteArray.empty, .int .i64 0, .int .i64 0, .int .i64 0, .int .i64 0]] : Array Value).toList 8).map (fun x => (x.1, x.2.1)) = some ([.agg [.lit (.string []), .lit (.int .i64 0), .lit (.int .i64 0), .lit (.int .i64 0), .lit (.int .i64 0)], .agg [.lit (.string []), .lit (.int .i64 0), .lit (.int .i64 0), .lit (.int .i64 0), .lit (.int .i64 0)]], [Rows.laid_loop_example_g00925_impl_quantitySpans]) := by kernel_rfl
  obtain ⟨⟨x1, x2, x3⟩, hx, hx1⟩ := Option.map_eq_some_iff.1 hw
  simp only [Prod.mk.injEq] at hx1
  obtain ⟨rfl, rfl⟩ := hx1
  exact OpenSpec.preRow_of_cond 8 hx (by kernel_rfl) (fun k hk => by cases hk) (by kernel_rfl) (laid_met os)

set_option maxRecDepth 100000 in
/-- The row's step. -/
theorem lifted (os : Os) (started : os.Started) (H : Type) (enc : TypeId × Value → H) (F : Stop.Interp) :
    ReturnsInHanded {} Tryd.checked os 6 .any ((OpenSpec.ofChange Rows.fnExactCommonPartSpec).preRow enc Tryd.prog Tryd.f6 Rows.fnExactCommonPartRow.domain false Rows.fnExactCommonPartRow.laid) (((OpenSpec.ofChange Rows.fnExactCommonPartSpec).at F).post enc Tryd.prog Tryd.f6 false true false false) := by
  refine returnsInHanded_of_row (C := Tryd.checked) (s := OpenSpec.ofChange Rows.fnExactCommonPartSpec) own started (by kernel_rfl) Tryd.func6
    (witness_row_at (enc := enc) (C := Tryd.checked) false (laidWorld os) #[.agg #[.string ByteArray.empty, .int .i64 0, .int .i64 0, .int .i64 0, .int .i64 0], .agg #[.string ByteArray.empty, .int .i64 0, .int .i64 0, .int .i64 0, .int .i64 0]] rfl (by kernel_rfl) (by kernel_rfl) (by kernel_rfl) (witness_row os enc)) ?_
  intro W base args ds gs before hval hW _ _ _ hL hsh _
  have hW' := hW
  obtain ⟨p, q, hA0, hV, rfl, hfz, hnd⟩ := hW
  have hA : DataW.TrodAll enc Tryd.prog W 0 (fun _ => true) true Tryd.f6.params.toList args.toList ds p := hA0
  rw [Tryd.params6] at hA hval
  obtain ⟨v0, vs0, d0, ds0, p0, q0, hargs, rfl, rfl, h0, r0⟩ := trodAll_cons hA
  obtain ⟨v1, vs1, d1, ds1, p1, q1, rfl, rfl, rfl, h1, r1⟩ := trodAll_cons r0
  obtain ⟨rfl, rfl, rfl⟩ := trodAll_nil r1
  obtain rfl : args = #[v0, v1] := by cases args; simp_all
  have hV1 := hV
  obtain ⟨_, _, _, _, dv, _, rfl, _⟩ := trodVars_one hV
  have k0 := h0
  have lt0 : ∀ x ∈ p0, x.block < W.heap.size := by obtain ⟨m, hm⟩ := k0; exact DataW.trod_lt m _ _ _ hm
  obtain ⟨c0_0, c0_1, c0_2, c0_3, c0_4, y0_0, y0_1, y0_2, y0_3, y0_4, n0, rfl, -, -, e0_0, e0_1, e0_2, e0_3, e0_4⟩ := Agg.open_agg5 Tryd.underlying23 (by kernel_rfl) (by kernel_rfl) (hval 0 23 v0 rfl rfl) h0
  obtain ⟨x0_0, g0_0, -, wx0_0⟩ := DataW.trod_string Tryd.underlying9 e0_0
  obtain rfl : c0_0 = .string x0_0 := by simpa using g0_0
  obtain ⟨x0_1, g0_1, -, wx0_1⟩ := DataW.trod_int Tryd.underlying2 e0_1
  obtain rfl : c0_1 = .int .i64 x0_1 := by simpa using g0_1
  obtain ⟨x0_2, g0_2, -, wx0_2⟩ := DataW.trod_int Tryd.underlying2 e0_2
  obtain rfl : c0_2 = .int .i64 x0_2 := by simpa using g0_2
  obtain ⟨x0_3, g0_3, -, wx0_3⟩ := DataW.trod_int Tryd.underlying2 e0_3
  obtain rfl : c0_3 = .int .i64 x0_3 := by simpa using g0_3
  obtain ⟨x0_4, g0_4, -, wx0_4⟩ := DataW.trod_int Tryd.underlying2 e0_4
  obtain rfl : c0_4 = .int .i64 x0_4 := by simpa using g0_4
  have k1 := h1
  have lt1 : ∀ x ∈ p1, x.block < W.heap.size := by obtain ⟨m, hm⟩ := k1; exact DataW.trod_lt m _ _ _ hm
  obtain ⟨c1_0, c1_1, c1_2, c1_3, c1_4, y1_0, y1_1, y1_2, y1_3, y1_4, n1, rfl, -, -, e1_0, e1_1, e1_2, e1_3, e1_4⟩ := Agg.open_agg5 Tryd.underlying23 (by kernel_rfl) (by kernel_rfl) (hval 1 23 v1 rfl rfl) h1
  obtain ⟨x1_0, g1_0, -, wx1_0⟩ := DataW.trod_string Tryd.underlying9 e1_0
  obtain rfl : c1_0 = .string x1_0 := by simpa using g1_0
  obtain ⟨x1_1, g1_1, -, wx1_1⟩ := DataW.trod_int Tryd.underlying2 e1_1
  obtain rfl : c1_1 = .int .i64 x1_1 := by simpa using g1_1
  obtain ⟨x1_2, g1_2, -, wx1_2⟩ := DataW.trod_int Tryd.underlying2 e1_2
  obtain rfl : c1_2 = .int .i64 x1_2 := by simpa using g1_2
  obtain ⟨x1_3, g1_3, -, wx1_3⟩ := DataW.trod_int Tryd.underlying2 e1_3
  obtain rfl : c1_3 = .int .i64 x1_3 := by simpa using g1_3
  obtain ⟨x1_4, g1_4, -, wx1_4⟩ := DataW.trod_int Tryd.underlying2 e1_4
  obtain rfl : c1_4 = .int .i64 x1_4 := by simpa using g1_4
  clear hA0
  refine (walk W x0_0 wx0_0 x0_1 wx0_1 x0_2 wx0_2 x0_3 wx0_3 x0_4 wx0_4 x1_0 wx1_0 x1_1 wx1_1 x1_2 wx1_2 x1_3 wx1_3 x1_4 wx1_4 hL hsh).mono fun e W' ⟨he, bel⟩ => ?_
  subst he
  exact ⟨_, rfl, _, _, _, [], _, q, hW', trodAll_mk1 (shut_bool Tryd.underlying4 _), (trodAll_cons_mk (Below.trod laidOut (by kernel_rfl) (of_decide_eq_true (by kernel_rfl)) k0 bel lt0) (trodAll_cons_mk (Below.trod laidOut (by kernel_rfl) (of_decide_eq_true (by kernel_rfl)) k1 bel lt1) trodAll_mk0)), (Below.trodVars laidOut bel (by kernel_rfl) hV1), bel.frame _, fun h => by cases h⟩

theorem said : Rows.FnExactCommonPartSaid :=
  OpenClaim.holds_of_cond 6 Tryd.f6 rfl rfl rfl rfl rfl rfl rfl ⟨rfl, rfl, rfl, rfl, rfl⟩ rfl rfl rfl rfl rfl (by kernel_rfl) Tryd.func6 (by kernel_rfl)
    (of_decide_eq_true (by kernel_rfl)) (by unfold Func.isWrapper; first | (rw [if_pos (by decide +kernel)]; kernel_rfl) | (rw [if_neg (by decide +kernel)]; exact ⟨rfl, rfl⟩))
    (fun os started H enc _ F => by rw [OpenClaim.pre_eq_preRow]; exact lifted os started H enc F)

theorem plain (f : FuncId) (fn : Func) (hf : Tryd.pinned.checked.prog.funcNamed "loop.example/g00925/laws.FnExactCommonPart" = some f) (hfn : Tryd.pinned.checked.prog.funcs[f]? = some fn) :
    false = Tryd.pinned.checked.prog.looks [] ∧ ∀ (j : Nat) t, fn.params[j]? = some t → Tryd.pinned.checked.prog.wantsStandIn t = false := by
  obtain rfl : f = 6 := Option.some.inj ((show Tryd.prog.funcNamed "loop.example/g00925/laws.FnExactCommonPart" = some 6 by kernel_rfl).symm.trans hf) |>.symm
  obtain rfl : fn = Tryd.f6 := (Option.some.inj (Tryd.func6.symm.trans hfn)).symm
  refine ⟨by kernel_rfl, fun j t ht => ?_⟩
  rw [Tryd.params6] at ht
  have ht' := Array.mem_of_getElem? ht
  simp at ht'
  obtain rfl : t = 23 := by simpa using ht'
  exact (show Tryd.prog.wantsStandIn 23 = false by kernel_rfl)

/-- The statement: the tied card. -/
theorem card : Rows.FnExactCommonPartCardSaid :=
  Claim7.holds_tied_plain_at .later [] _ _ _ _ said (fun _ h => by cases h) (by kernel_rfl) (fun _ h => by cases h) fnExactCommonPart_row_tie rfl ⟨rfl, rfl⟩ (by kernel_rfl) rfl plain (by kernel_rfl)
end Go.Proofs.YtdkemoojlgdelabDoor.fnExactCommonPart
