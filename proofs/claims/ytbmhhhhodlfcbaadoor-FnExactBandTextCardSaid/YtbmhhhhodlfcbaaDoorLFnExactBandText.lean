/-
  For all arguments BandText of the program returns what the model returns: the statement FnExactBandText. Its row, where it is a card, lists the program's variable of spans, tied to the text by the card; no other condition.
-/
import Derived.Test.YtbmhhhhodlfcbaaDoorCards
import Derived.Test.YtbmhhhhodlfcbaaDoorTie
import Derived.Test.YtbmhhhhodlfcbaaDoorBndT
import Derived.Test.YtbmhhhhodlfcbaaDoorSpanTab
import Derived.Test.YtbmhhhhodlfcbaaDoorAgg
import Derived.Test.YtbmhhhhodlfcbaaDoorTabs
import Derived.WalkKit
import Derived.ProofKit
import Derived.OpenShut
import Derived.ShutString
import Derived.Below
import Derived.ChangeOld
import Derived.OpenVars
import Derived.ChangeVars
import Derived.Deep.DeepHandedRow
import Derived.Lib.LaidTab
import Derived.Lib.SmallJoins
import Derived.Test.YtbmhhhhodlfcbaaDoorAgg
namespace Go.Proofs.YtbmhhhhodlfcbaaDoor.fnExactBandText
open Go.ChangeShapes Go.WideShapes Go.ChangeAt Go.RowKit
open Go.ChangeMaps (open_string shut_string)
set_option linter.unusedVariables false

theorem own : ownKnob Tryd.prog.godebug = none := by kernel_rfl
theorem laidOut : laidOutB Tryd.prog = true := by kernel_rfl

set_option maxRecDepth 100000 in
set_option maxHeartbeats 4000000 in
/-- The walk. -/
theorem walk (w : World) (x0_0 : ByteArray) (wx0_0 : x0_0.size ≤ maxLen) (x0_1 : Int) (wx0_1 : (Lit.int .i64 x0_1).wf = true) (x0_2 : Int) (wx0_2 : (Lit.int .i64 x0_2).wf = true) (x0_3 : Int) (wx0_3 : (Lit.int .i64 x0_3).wf = true) (x0_4 : Int) (wx0_4 : (Lit.int .i64 x0_4).wf = true) (hL : laidMetH Tryd.prog Rows.fnExactBandTextRow.laid w) (hsh : w.ShapedOpen Tryd.prog) :
    Calls Tryd.prog 3 #[.agg #[.string x0_0, .int .i64 x0_1, .int .i64 x0_2, .int .i64 x0_3, .int .i64 x0_4]] w fun e w' => e = .returned (.bool true) ∧ Below w.heap.size w w' := by
  have HT := Lib.hid (SpanTab.spanG (W := w) (l := Rows.fnExactBandTextRow.laid) hL (.tail _ (.tail _ (.tail _ (.head _)))))
  have HTB := Lib.hid (Tabs.pow10 (W := w) (l := Rows.fnExactBandTextRow.laid) hL (.tail _ (.tail _ (.head _))))
  clear hL hsh
  have hz0 := fun w => Bnd.count 1048576 x0_0 x0_1 x0_2 x0_3 x0_4 w (by omega) wx0_0
  rw [show (((1048576 : Nat) : Int)) = 1048576 from rfl] at hz0
  rcases Bnd.left_or 1048576 x0_0.size with hr0 | ⟨c0, hr0, cm0, q0⟩
  · rw [hr0] at hz0
    have HZ0 := Lib.hid hz0
    clear hz0 hr0
    go_enter Tryd.func3, Tryd.ntmps3
    go_wp2_with fail
    refine (HZ0.out _).mono ?_
    rintro e w9 ⟨rfl, h9⟩
    go_wp2_with fail
    go_ret
    exact ⟨rfl, by repeat (first | with_reducible exact On.refl _ | apply On.alloc | apply On.drewN | apply On.drew | refine On.setCell ?_ (by (try simp) <;> omega) _ | refine On.trans ?_ h9)⟩
  · rw [hr0] at hz0
    have pos0 : ¬ ((c0 : Nat) : Int) < 0 := by omega
    have HZ0 := Lib.hid hz0
    clear hz0 hr0
    clear cm0 wx0_0 wx0_1 wx0_2 wx0_3 wx0_4
    go_enter Tryd.func3, Tryd.ntmps3
    go_wp2_with fail
    refine (HZ0.out _).mono ?_
    rintro e w1 ⟨rfl, h1⟩
    have K1_0 : Bnd.In w1 (w.heap.size) x0_0 x0_1 x0_2 x0_3 x0_4 := Bnd.In.on ⟨by simp [go_sem], by simp [go_sem], by simp [go_sem], by simp [go_sem], by simp [go_sem]⟩ h1
    have HK1_0 := Lib.hid K1_0
    have z1_0 := K1_0.lt
    obtain ⟨k1_0_0, k1_0_1, k1_0_2, k1_0_3, k1_0_4⟩ := K1_0
    have HO1 := Lib.hid (show On w w1 by repeat (first | with_reducible exact On.refl _ | apply On.alloc | apply On.drewN | apply On.drew | refine On.setCell ?_ (by (try simp) <;> omega) _ | refine On.trans ?_ h1 | refine On.trans ?_ h1))
    clear h1
    go_wp2_with fail
    refine (Bnd.copy x0_0 x0_1 x0_2 x0_3 x0_4 _).mono ?_
    rintro e w2 ⟨rfl, h2⟩
    have K2_0 := HK1_0.out.on h2
    have HK2_0 := Lib.hid K2_0
    have z2_0 := K2_0.lt
    obtain ⟨k2_0_0, k2_0_1, k2_0_2, k2_0_3, k2_0_4⟩ := K2_0
    have HO2 := Lib.hid (On.trans HO1.out h2)
    clear h2 k1_0_0 k1_0_1 k1_0_2 k1_0_3 k1_0_4 z1_0
    go_wp2_with fail
    refine (Bnd.spec_BandText x0_0 x0_1 x0_2 x0_3 x0_4 _ q0).mono ?_
    rintro e w3 ⟨rfl, h3⟩
    have K3_0 := HK2_0.out.on h3
    have HK3_0 := Lib.hid K3_0
    have z3_0 := K3_0.lt
    obtain ⟨k3_0_0, k3_0_1, k3_0_2, k3_0_3, k3_0_4⟩ := K3_0
    have HO3 := Lib.hid (On.trans HO2.out h3)
    clear h3 k2_0_0 k2_0_1 k2_0_2 k2_0_3 k2_0_4 z2_0
    go_wp2_with fail
    refine (Bnd.copy x0_0 x0_1 x0_2 x0_3 x0_4 _).mono ?_
    rintro e w4 ⟨rfl, h4⟩
    have K4_0 := HK3_0.out.on h4
    have HK4_0 := Lib.hid K4_0
    have z4_0 := K4_0.lt
    obtain ⟨k4_0_0, k4_0_1, k4_0_2, k4_0_3, k4_0_4⟩ := K4_0
    have HO4 := Lib.hid (On.trans HO3.out h4)
    clear h4 k3_0_0 k3_0_1 k3_0_2 k3_0_3 k3_0_4 z3_0
    go_wp2_with fail
    refine (Bnd.impl_BandText x0_0 x0_1 x0_2 x0_3 x0_4 _ q0 (HT.out.on HO4.out) (fun w'' hb => HTB.out w'' (On.trans HO4.out hb))).mono ?_
    rintro e w5 ⟨rfl, h5⟩
    have K5_0 := HK4_0.out.on h5
    have HK5_0 := Lib.hid K5_0
    have z5_0 := K5_0.lt
    obtain ⟨k5_0_0, k5_0_1, k5_0_2, k5_0_3, k5_0_4⟩ := K5_0
    have HO5 := Lib.hid (On.trans HO4.out h5)
    clear h5 k4_0_0 k4_0_1 k4_0_2 k4_0_3 k4_0_4 z4_0
    go_wp2_with fail
    go_ret
    exact ⟨rfl, HO5.out⟩

/-- How many blocks the settled world has. -/
noncomputable def low : Nat := (World.holding Tryd.prog default ⟨#[], #[], []⟩).heap.size
/-- A world for the witness: the settled one, each listed variable holding what the program's text lays. -/
noncomputable def laidWorld (os : Os) : World :=
  let w0 := World.holding Tryd.prog os ⟨#[], #[], []⟩
  let h0 := w0.heap.modify 5 fun
    | .cells _ t frozen => .cells #[.int .u8 0, .int .u8 1, .int .u8 28, .int .u8 2, .int .u8 29, .int .u8 14, .int .u8 24, .int .u8 3, .int .u8 30, .int .u8 22, .int .u8 20, .int .u8 15, .int .u8 25, .int .u8 17, .int .u8 4, .int .u8 8, .int .u8 31, .int .u8 27, .int .u8 13, .int .u8 23, .int .u8 21, .int .u8 19, .int .u8 16, .int .u8 7, .int .u8 26, .int .u8 12, .int .u8 18, .int .u8 6, .int .u8 11, .int .u8 5, .int .u8 10, .int .u8 9] t frozen
    | o => o
  let h1 := h0.modify 6 fun
    | .cells _ t frozen => .cells #[.int .u8 0, .int .u8 1, .int .u8 56, .int .u8 2, .int .u8 57, .int .u8 49, .int .u8 28, .int .u8 3, .int .u8 61, .int .u8 58, .int .u8 42, .int .u8 50, .int .u8 38, .int .u8 29, .int .u8 17, .int .u8 4, .int .u8 62, .int .u8 47, .int .u8 59, .int .u8 36, .int .u8 45, .int .u8 43, .int .u8 51, .int .u8 22, .int .u8 53, .int .u8 39, .int .u8 33, .int .u8 30, .int .u8 24, .int .u8 18, .int .u8 12, .int .u8 5, .int .u8 63, .int .u8 55, .int .u8 48, .int .u8 27, .int .u8 60, .int .u8 41, .int .u8 37, .int .u8 16, .int .u8 46, .int .u8 35, .int .u8 44, .int .u8 21, .int .u8 52, .int .u8 32, .int .u8 23, .int .u8 11, .int .u8 54, .int .u8 26, .int .u8 40, .int .u8 15, .int .u8 34, .int .u8 20, .int .u8 31, .int .u8 10, .int .u8 25, .int .u8 14, .int .u8 19, .int .u8 9, .int .u8 13, .int .u8 8, .int .u8 7, .int .u8 6] t frozen
    | o => o
  let h2 := h1.modify 2 fun
    | .cells _ t frozen => .cells #[.int .u64 1, .int .u64 10, .int .u64 100, .int .u64 1000, .int .u64 10000, .int .u64 100000, .int .u64 1000000, .int .u64 10000000, .int .u64 100000000, .int .u64 1000000000, .int .u64 10000000000, .int .u64 100000000000, .int .u64 1000000000000, .int .u64 10000000000000, .int .u64 100000000000000, .int .u64 1000000000000000, .int .u64 10000000000000000, .int .u64 100000000000000000, .int .u64 1000000000000000000, .int .u64 10000000000000000000] t frozen
    | o => o
  let h3 := h2.modify 0 fun
    | .cells _ t frozen => .cells #[.int .i64 1, .int .i64 100000000, .int .i64 1, .int .i64 283000, .int .i64 (-300000), .int .i64 300000, .int .i64 (-300000), .int .i64 300000, .int .i64 0, .int .i64 300000, .int .i64 1, .int .i64 100000, .int .i64 0, .int .i64 7, .int .i64 0, .int .i64 90000, .int .i64 0, .int .i64 200, .int .i64 0, .int .i64 1000, .int .i64 1, .int .i64 10000, .int .i64 1, .int .i64 20, .int .i64 0, .int .i64 1000000, .int .i64 25, .int .i64 400, .int .i64 0, .int .i64 100000] t frozen
    | o => o
  { w0 with heap := h3 }
theorem laid_met (os : Os) : laidMet Tryd.prog Rows.fnExactBandTextRow.laid ((laidWorld os).forCall (fun _ _ => 0) ⟨#[], #[.agg #[.string ByteArray.empty, .int .i64 0, .int .i64 0, .int .i64 0, .int .i64 0]], []⟩).memory :=
  laidMet_of_run' 8 (by kernel_rfl) (by kernel_rfl)
theorem witness_row (os : Os) {H : Type} (enc : TypeId × Value → H) :
    (OpenSpec.ofChange Rows.fnExactBandTextSpec).preRow enc Tryd.prog Tryd.f3 Rows.fnExactBandTextRow.domain false Rows.fnExactBandTextRow.laid ((laidWorld os).forCall (fun _ _ => 0) ⟨#[], #[.agg #[.string ByteArray.empty, .int .i64 0, .int .i64 0, .int .i64 0, .int .i64 0]], []⟩).memory #[.agg #[.string ByteArray.empty, .int .i64 0, .int .i64 0, .int .i64 0, .int .i64 0]] := by
  have hw : (DataW.whole enc Tryd.prog ((laidWorld os).forCall (fun _ _ => 0) ⟨#[], #[.agg #[.string ByteArray.empty, .int .i64 0, .int .i64 0, .int .i64 0, .int .i64 0]], []⟩).memory Tryd.f3.params.toList Rows.fnExactBandTextSpec.vars false (#[.agg #[.string ByteArray.empty, .int .i64 0, .int .i64 0, .int .i64 0, .int .i64 0]] : Array Value).toList 8).map (fun x => (x.1, x.2.1)) = some ([.agg [.lit (.string []), .lit (.int .i64 0), .lit (.int .i64 0), .lit (.int .i64 0), .lit (.int .i64 0)]], [Rows.laid_loop_example_g00925_impl_quantitySpans]) := by kernel_rfl
  obtain ⟨⟨x1, x2, x3⟩, hx, hx1⟩ := Option.map_eq_some_iff.1 hw
  simp only [Prod.mk.injEq] at hx1
  obtain ⟨rfl, rfl⟩ := hx1
  exact OpenSpec.preRow_of_cond 8 hx (by kernel_rfl) (fun k hk => by cases hk) (by kernel_rfl) (laid_met os)

set_option maxRecDepth 100000 in
/-- The row's step. -/
theorem lifted (os : Os) (started : os.Started) (H : Type) (enc : TypeId × Value → H) (F : Stop.Interp) :
    ReturnsInHanded {} Tryd.checked os 3 .any ((OpenSpec.ofChange Rows.fnExactBandTextSpec).preRow enc Tryd.prog Tryd.f3 Rows.fnExactBandTextRow.domain false Rows.fnExactBandTextRow.laid) (((OpenSpec.ofChange Rows.fnExactBandTextSpec).at F).post enc Tryd.prog Tryd.f3 false true false false) := by
  refine returnsInHanded_of_row (C := Tryd.checked) (s := OpenSpec.ofChange Rows.fnExactBandTextSpec) own started (by kernel_rfl) Tryd.func3
    (witness_row_at (enc := enc) (C := Tryd.checked) false (laidWorld os) #[.agg #[.string ByteArray.empty, .int .i64 0, .int .i64 0, .int .i64 0, .int .i64 0]] rfl (by kernel_rfl) (by kernel_rfl) (by kernel_rfl) (witness_row os enc)) ?_
  intro W base args ds gs before hval hW _ _ _ hL hsh _
  have hW' := hW
  obtain ⟨p, q, hA0, hV, rfl, hfz, hnd⟩ := hW
  have hA : DataW.TrodAll enc Tryd.prog W 0 (fun _ => true) true Tryd.f3.params.toList args.toList ds p := hA0
  rw [Tryd.params3] at hA hval
  obtain ⟨v0, vs0, d0, ds0, p0, q0, hargs, rfl, rfl, h0, r0⟩ := trodAll_cons hA
  obtain ⟨rfl, rfl, rfl⟩ := trodAll_nil r0
  obtain rfl : args = #[v0] := by cases args; simp_all
  have hV1 := hV
  obtain ⟨_, _, _, _, dv, _, rfl, _⟩ := trodVars_one hV
  have k0 := h0
  have lt0 : ∀ x ∈ p0, x.block < W.heap.size := by obtain ⟨m, hm⟩ := k0; exact DataW.trod_lt m _ _ _ hm
  obtain ⟨c0_0, c0_1, c0_2, c0_3, c0_4, y0_0, y0_1, y0_2, y0_3, y0_4, n0, rfl, -, -, e0_0, e0_1, e0_2, e0_3, e0_4⟩ := Agg.open_agg5 Tryd.underlying23 (by kernel_rfl) (by kernel_rfl) (hval 0 23 v0 rfl rfl) h0
  obtain ⟨x0_0, g0_0, -, wx0_0⟩ := DataW.trod_string Tryd.underlying9 e0_0
  obtain rfl : c0_0 = .string x0_0 := by simpa using g0_0
  obtain ⟨x0_1, g0_1, -, wx0_1⟩ := DataW.trod_int Tryd.underlying2 e0_1
  obtain rfl : c0_1 = .int .i64 x0_1 := by simpa using g0_1
  obtain ⟨x0_2, g0_2, -, wx0_2⟩ := DataW.trod_int Tryd.underlying2 e0_2
  obtain rfl : c0_2 = .int .i64 x0_2 := by simpa using g0_2
  obtain ⟨x0_3, g0_3, -, wx0_3⟩ := DataW.trod_int Tryd.underlying2 e0_3
  obtain rfl : c0_3 = .int .i64 x0_3 := by simpa using g0_3
  obtain ⟨x0_4, g0_4, -, wx0_4⟩ := DataW.trod_int Tryd.underlying2 e0_4
  obtain rfl : c0_4 = .int .i64 x0_4 := by simpa using g0_4
  clear hA0
  refine (walk W x0_0 wx0_0 x0_1 wx0_1 x0_2 wx0_2 x0_3 wx0_3 x0_4 wx0_4 hL hsh).mono fun e W' ⟨he, bel⟩ => ?_
  subst he
  exact ⟨_, rfl, _, _, _, [], _, q, hW', trodAll_mk1 (shut_bool Tryd.underlying4 _), (trodAll_cons_mk (Below.trod laidOut (by kernel_rfl) (of_decide_eq_true (by kernel_rfl)) k0 bel lt0) trodAll_mk0), (Below.trodVars laidOut bel (by kernel_rfl) hV1), bel.frame _, fun h => by cases h⟩

theorem said : Rows.FnExactBandTextSaid :=
  OpenClaim.holds_of_cond 3 Tryd.f3 rfl rfl rfl rfl rfl rfl rfl ⟨rfl, rfl, rfl, rfl, rfl⟩ rfl rfl rfl rfl rfl (by kernel_rfl) Tryd.func3 (by kernel_rfl)
    (of_decide_eq_true (by kernel_rfl)) (by unfold Func.isWrapper; first | (rw [if_pos (by decide +kernel)]; kernel_rfl) | (rw [if_neg (by decide +kernel)]; exact ⟨rfl, rfl⟩))
    (fun os started H enc _ F => by rw [OpenClaim.pre_eq_preRow]; exact lifted os started H enc F)

theorem plain (f : FuncId) (fn : Func) (hf : Tryd.pinned.checked.prog.funcNamed "loop.example/g00925/laws.FnExactBandText" = some f) (hfn : Tryd.pinned.checked.prog.funcs[f]? = some fn) :
    true = Tryd.pinned.checked.prog.looks [] ∧ ∀ (j : Nat) t, fn.params[j]? = some t → Tryd.pinned.checked.prog.wantsStandIn t = false := by
  obtain rfl : f = 3 := Option.some.inj ((show Tryd.prog.funcNamed "loop.example/g00925/laws.FnExactBandText" = some 3 by kernel_rfl).symm.trans hf) |>.symm
  obtain rfl : fn = Tryd.f3 := (Option.some.inj (Tryd.func3.symm.trans hfn)).symm
  refine ⟨by kernel_rfl, fun j t ht => ?_⟩
  rw [Tryd.params3] at ht
  have ht' := Array.mem_of_getElem? ht
  simp at ht'
  obtain rfl : t = 23 := by simpa using ht'
  exact (show Tryd.prog.wantsStandIn 23 = false by kernel_rfl)

/-- The statement: the tied card. -/
theorem card : Rows.FnExactBandTextCardSaid :=
  Claim7.holds_tied_plain_at .later [] _ _ _ _ said (fun _ h => by cases h) (by kernel_rfl) (fun _ h => by cases h) fnExactBandText_row_tie rfl ⟨rfl, rfl⟩ (by kernel_rfl) rfl plain (by kernel_rfl)
end Go.Proofs.YtbmhhhhodlfcbaaDoor.fnExactBandText
