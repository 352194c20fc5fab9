/-
  For every band and range ChannelsWithin of the program returns what the model returns, a slice of its own memory, the same at a second call: the statement FnExactChannelsWithin. Its row lists the program's variable of spans, tied to the text by the card; no other condition.
-/
import Derived.Test.YtdkemoojlgdelabDoorCards
import Derived.Test.YtdkemoojlgdelabDoorTie
import Derived.Test.YtdkemoojlgdelabDoorBndW
import Derived.Test.YtdkemoojlgdelabDoorSpanTab
import Derived.Test.YtdkemoojlgdelabDoorAgg
import Derived.Test.YtdkemoojlgdelabDoorMark
import Derived.WalkKit
import Derived.ProofKit
import Derived.OpenShut
import Derived.ShutString
import Derived.Below
import Derived.ChangeOld
import Derived.OpenVars
import Derived.ChangeVars
import Derived.Deep.DeepHandedRow
import Derived.Lib.LaidTab
import Derived.Lib.SmallJoins
import Derived.Test.YtdkemoojlgdelabDoorAgg
namespace Go.Proofs.YtdkemoojlgdelabDoor.fnExactChannelsWithin
open Go.ChangeShapes Go.WideShapes Go.ChangeAt Go.RowKit
open Go.ChangeMaps (open_string shut_string)
set_option linter.unusedVariables false

theorem own : ownKnob Tryd.prog.godebug = none := by kernel_rfl
theorem laidOut : laidOutB Tryd.prog = true := by kernel_rfl

set_option maxRecDepth 100000 in
set_option maxHeartbeats 4000000 in
/-- The walk. -/
theorem walk (w : World) (x0_0 : ByteArray) (wx0_0 : x0_0.size ≤ maxLen) (x0_1 : Int) (wx0_1 : (Lit.int .i64 x0_1).wf = true) (x0_2 : Int) (wx0_2 : (Lit.int .i64 x0_2).wf = true) (x0_3 : Int) (wx0_3 : (Lit.int .i64 x0_3).wf = true) (x0_4 : Int) (wx0_4 : (Lit.int .i64 x0_4).wf = true) (a1 : Int) (w1 : (Lit.int .i64 a1).wf = true) (a2 : Int) (w2 : (Lit.int .i64 a2).wf = true) (hL : laidMetH Tryd.prog Rows.fnExactChannelsWithinRow.laid w) (hsh : w.ShapedOpen Tryd.prog) :
    Calls Tryd.prog 3 #[.agg #[.string x0_0, .int .i64 x0_1, .int .i64 x0_2, .int .i64 x0_3, .int .i64 x0_4], .int .i64 a1, .int .i64 a2] w fun e w' => e = .returned (.bool true) ∧ Below w.heap.size w w' := by
  have HT := Lib.hid (SpanTab.spanG (W := w) (l := Rows.fnExactChannelsWithinRow.laid) hL (.head _))
  clear hL hsh w1 w2
  have hz0 := fun w => Bnd.count 1048576 x0_0 x0_1 x0_2 x0_3 x0_4 w (by omega) wx0_0
  rw [show (((1048576 : Nat) : Int)) = 1048576 from rfl] at hz0
  rcases Bnd.left_or 1048576 x0_0.size with hr0 | ⟨c0, hr0, cm0, q0⟩
  · rw [hr0] at hz0
    have HZ0 := Lib.hid hz0
    clear hz0 hr0
    go_enter Tryd.func3, Tryd.ntmps3
    go_wp2_with fail
    refine (HZ0.out _).mono ?_
    rintro e w9 ⟨rfl, h9⟩
    go_wp2_with fail
    go_ret
    exact ⟨rfl, by repeat (first | with_reducible exact On.refl _ | apply On.alloc | apply On.drewN | apply On.drew | refine On.setCell ?_ (by (try simp) <;> omega) _ | refine On.trans ?_ h9)⟩
  · rw [hr0] at hz0
    have pos0 : ¬ ((c0 : Nat) : Int) < 0 := by omega
    have HZ0 := Lib.hid hz0
    have hI := fun w' (hb : On w w') => Bnd.impl_Within x0_0 x0_1 x0_2 x0_3 x0_4 a1 a2 w' q0 (HT.out.on hb)
    have hR := fun w' => Bnd.spec_Within x0_0 x0_1 x0_2 x0_3 x0_4 a1 a2 w' q0
    have hlen := Bnd.wi_len (x := x0_0) (l := x0_1) (h := x0_2) (r := x0_3) (d := x0_4) (lo := a1) (hi := a2)
    generalize Bnd.wiV (Bnd.okB x0_0 x0_1 x0_2 x0_3 x0_4) x0_1 x0_2 x0_3 a1 a2 = zs at *
    generalize Bnd.wiC (Bnd.okB x0_0 x0_1 x0_2 x0_3 x0_4) a1 a2 = c at *
    have HI := Lib.hid hI
    have HR := Lib.hid hR
    have hn : zs.length ≤ 1048576 := by omega
    have hcc : (c != c) = false := bne_self_eq_false c
    obtain ⟨q, hq⟩ : ∃ q : Int, q = ((1 + zs.length : Nat) : Int) := ⟨_, rfl⟩
    have hq0 : ¬ q < 0 := by omega
    have hM := fun (B : Nat) (v : Value) (w : World) (h : Ints.Own B w v zs) => Mark.mark B 1 v zs w hn (by decide) h
    have hH := fun (B : Nat) (v : Value) (w : World) (h : Ints.Own B w v (Mark.marks 1 zs.length)) => Mark.held B 1 zs.length v w hn (by decide) h
    rw [← hq] at hM hH
    have HM := Lib.hid hM
    have HH := Lib.hid hH
    clear hz0 hr0 cm0 hI hR hM hH hq hlen wx0_0 wx0_1 wx0_2 wx0_3 wx0_4 q0
    go_enter Tryd.func3, Tryd.ntmps3
    go_wp2_with fail
    refine (HZ0.out _).mono ?_
    rintro e w1 ⟨rfl, h1⟩
    have K1 : Bnd.In w1 w.heap.size x0_0 x0_1 x0_2 x0_3 x0_4 := Bnd.In.on ⟨by simp [go_sem], by simp [go_sem], by simp [go_sem], by simp [go_sem], by simp [go_sem]⟩ h1
    have HK1 := Lib.hid K1
    have zk := K1.lt
    obtain ⟨k0, k1, k2, k3, k4⟩ := K1
    have O1 : On w w1 := by repeat (first | with_reducible exact On.refl _ | apply On.alloc | apply On.drewN | apply On.drew | refine On.setCell ?_ (by (try simp) <;> omega) _ | refine On.trans ?_ h1)
    clear h1
    go_wp2_with fail
    refine (Bnd.copy x0_0 x0_1 x0_2 x0_3 x0_4 _).mono ?_
    rintro e w2 ⟨rfl, h2⟩
    clear k0 k1 k2 k3 k4 zk
    go_wp2_with fail
    refine (HR.out _).mono ?_
    rintro e w3 ⟨v1, rfl, hi3, h3⟩
    have O13 : On w1 w3 := h2.trans h3
    clear h2 h3
    have K3 := HK1.out.on O13
    obtain ⟨k0, k1, k2, k3, k4⟩ := K3
    have zk := World.block_lt_of_cell? _ _ k0
    go_wp2_with fail
    refine (Bnd.copy x0_0 x0_1 x0_2 x0_3 x0_4 _).mono ?_
    rintro e w4 ⟨rfl, h4⟩
    clear k0 k1 k2 k3 k4 zk
    go_wp2_with fail
    refine (HI.out _ ((O1.trans O13).trans h4)).mono ?_
    rintro e w5 ⟨a5, c5, rfl, ho5, h5⟩
    have O35 : On w3 w5 := h4.trans h5
    have HO5 := Lib.hid ho5
    have s35 := h4.size
    clear h4 h5 ho5
    go_wp2_with fail
    refine (Ints.eq _ _ zs _ hn HO5.out.ints (hi3.below O35)).mono ?_
    rintro e w6 ⟨rfl, n6, hw6⟩
    have h6 : On w5 w6 := by rw [hw6]; exact Ints.below_drewN _ _
    clear hw6
    have HI3 := Lib.hid hi3
    have HO6 := Lib.hid ((HO5.out.below h6).mono (B' := w3.heap.size) s35)
    have O36 : On w3 w6 := O35.trans h6
    clear hi3 h6 O35 HO5 s35
    go_wp2_with fail
    refine (HM.out _ _ _ HO6.out).mono ?_
    rintro e w7 ⟨rfl, h7, ho7⟩
    have B37 : Below w3.heap.size w3 w7 := Below.trans O36 h7
    have HO7 := Lib.hid ho7
    have O17 : On w1 w7 := O13.trans B37
    clear ho7 HO6
    go_wp2_with fail
    refine (HH.out _ _ _ HO7.out).mono ?_
    rintro e w8 ⟨rfl, rfl⟩
    have K7 := HK1.out.on O17
    obtain ⟨k0, k1, k2, k3, k4⟩ := K7
    have zk := World.block_lt_of_cell? _ _ k0
    go_wp2_with fail
    refine (Bnd.copy x0_0 x0_1 x0_2 x0_3 x0_4 _).mono ?_
    rintro e w8 ⟨rfl, h8⟩
    clear k0 k1 k2 k3 k4 zk
    go_wp2_with fail
    refine (HI.out _ ((O1.trans O17).trans h8)).mono ?_
    rintro e w9 ⟨a9, c9, rfl, ho9, h9⟩
    have O79 := On.trans h8 h9
    have HO9 := Lib.hid ho9
    have HI9 := Lib.hid ((HI3.out.below B37).below O79)
    have HM9 := Lib.hid (HO7.out.below O79)
    have O19 : On w1 w9 := O17.trans O79
    clear h8 h9 ho9 HI3 HO7
    go_wp2_with fail
    refine (Ints.eq _ _ zs _ hn HO9.out.ints HI9.out).mono ?_
    rintro e w10 ⟨rfl, n10, hw10⟩
    have h10 : On w9 w10 := by rw [hw10]; exact Ints.below_drewN _ _
    clear hw10
    have HM10 := Lib.hid (HM9.out.below h10)
    have O10 : On w w10 := O1.trans (O19.trans h10)
    go_wp2_with fail
    refine (HH.out _ _ _ HM10.out).mono ?_
    rintro e w11 ⟨rfl, rfl⟩
    go_wp2_with fail
    go_ret
    exact ⟨rfl, O10⟩

/-- How many blocks the settled world has. -/
noncomputable def low : Nat := (World.holding Tryd.prog default ⟨#[], #[], []⟩).heap.size
/-- A world for the witness: the settled one, each listed variable holding what the program's text lays. -/
noncomputable def laidWorld (os : Os) : World :=
  let w0 := World.holding Tryd.prog os ⟨#[], #[], []⟩
  let h0 := w0.heap.modify 0 fun
    | .cells _ t frozen => .cells #[.int .i64 1, .int .i64 100000000, .int .i64 1, .int .i64 283000, .int .i64 (-300000), .int .i64 300000, .int .i64 (-300000), .int .i64 300000, .int .i64 0, .int .i64 300000, .int .i64 1, .int .i64 100000, .int .i64 0, .int .i64 7, .int .i64 0, .int .i64 90000, .int .i64 0, .int .i64 200, .int .i64 0, .int .i64 1000, .int .i64 1, .int .i64 10000, .int .i64 1, .int .i64 20, .int .i64 0, .int .i64 1000000, .int .i64 25, .int .i64 400, .int .i64 0, .int .i64 100000] t frozen
    | o => o
  { w0 with heap := h0 }
theorem laid_met (os : Os) : laidMet Tryd.prog Rows.fnExactChannelsWithinRow.laid ((laidWorld os).forCall (fun _ _ => 0) ⟨#[], #[.agg #[.string ByteArray.empty, .int .i64 0, .int .i64 0, .int .i64 0, .int .i64 0], .int .i64 0, .int .i64 0], []⟩).memory :=
  laidMet_of_run' 8 (by kernel_rfl) (by kernel_rfl)
theorem witness_row (os : Os) {H : Type} (enc : TypeId × Value → H) :
    (OpenSpec.ofChange Rows.fnExactChannelsWithinSpec).preRow enc Tryd.prog Tryd.f3 Rows.fnExactChannelsWithinRow.domain false Rows.fnExactChannelsWithinRow.laid ((laidWorld os).forCall (fun _ _ => 0) ⟨#[], #[.agg #[.string ByteArray.empty, .int .i64 0, .int .i64 0, .int .i64 0, .int .i64 0], .int .i64 0, .int .i64 0], []⟩).memory #[.agg #[.string ByteArray.empty, .int .i64 0, .int .i64 0, .int .i64 0, .int .i64 0], .int .i64 0, .int .i64 0] := by
  have hw : (DataW.whole enc Tryd.prog ((laidWorld os).forCall (fun _ _ => 0) ⟨#[], #[.agg #[.string ByteArray.empty, .int .i64 0, .int .i64 0, .int .i64 0, .int .i64 0], .int .i64 0, .int .i64 0], []⟩).memory Tryd.f3.params.toList Rows.fnExactChannelsWithinSpec.vars false (#[.agg #[.string ByteArray.empty, .int .i64 0, .int .i64 0, .int .i64 0, .int .i64 0], .int .i64 0, .int .i64 0] : Array Value).toList 8).map (fun x => (x.1, x.2.1)) = some ([.agg [.lit (.string []), .lit (.int .i64 0), .lit (.int .i64 0), .lit (.int .i64 0), .lit (.int .i64 0)], .lit (.int .i64 0), .lit (.int .i64 0)], [Rows.laid_loop_example_g00925_impl_quantitySpans]) := by kernel_rfl
  obtain ⟨⟨x1, x2, x3⟩, hx, hx1⟩ := Option.map_eq_some_iff.1 hw
  simp only [Prod.mk.injEq] at hx1
  obtain ⟨rfl, rfl⟩ := hx1
  exact OpenSpec.preRow_of_cond 8 hx (by kernel_rfl) (fun k hk => by cases hk) (by kernel_rfl) (laid_met os)

set_option maxRecDepth 100000 in
/-- The row's step. -/
theorem lifted (os : Os) (started : os.Started) (H : Type) (enc : TypeId × Value → H) (F : Stop.Interp) :
    ReturnsInHanded {} Tryd.checked os 3 .any ((OpenSpec.ofChange Rows.fnExactChannelsWithinSpec).preRow enc Tryd.prog Tryd.f3 Rows.fnExactChannelsWithinRow.domain false Rows.fnExactChannelsWithinRow.laid) (((OpenSpec.ofChange Rows.fnExactChannelsWithinSpec).at F).post enc Tryd.prog Tryd.f3 false true false false) := by
  refine returnsInHanded_of_row (C := Tryd.checked) (s := OpenSpec.ofChange Rows.fnExactChannelsWithinSpec) own started (by kernel_rfl) Tryd.func3
    (witness_row_at (enc := enc) (C := Tryd.checked) false (laidWorld os) #[.agg #[.string ByteArray.empty, .int .i64 0, .int .i64 0, .int .i64 0, .int .i64 0], .int .i64 0, .int .i64 0] rfl (by kernel_rfl) (by kernel_rfl) (by kernel_rfl) (witness_row os enc)) ?_
  intro W base args ds gs before hval hW _ _ _ hL hsh _
  have hW' := hW
  obtain ⟨p, q, hA0, hV, rfl, hfz, hnd⟩ := hW
  have hA : DataW.TrodAll enc Tryd.prog W 0 (fun _ => true) true Tryd.f3.params.toList args.toList ds p := hA0
  rw [Tryd.params3] at hA hval
  obtain ⟨v0, vs0, d0, ds0, p0, q0, hargs, rfl, rfl, h0, r0⟩ := trodAll_cons hA
  obtain ⟨v1, vs1, d1, ds1, p1, q1, rfl, rfl, rfl, h1, r1⟩ := trodAll_cons r0
  obtain ⟨v2, vs2, d2, ds2, p2, q2, rfl, rfl, rfl, h2, r2⟩ := trodAll_cons r1
  obtain ⟨rfl, rfl, rfl⟩ := trodAll_nil r2
  obtain rfl : args = #[v0, v1, v2] := by cases args; simp_all
  have hV1 := hV
  obtain ⟨_, _, _, _, dv, _, rfl, _⟩ := trodVars_one hV
  have k0 := h0
  have lt0 : ∀ x ∈ p0, x.block < W.heap.size := by obtain ⟨m, hm⟩ := k0; exact DataW.trod_lt m _ _ _ hm
  obtain ⟨c0_0, c0_1, c0_2, c0_3, c0_4, y0_0, y0_1, y0_2, y0_3, y0_4, n0, rfl, -, -, e0_0, e0_1, e0_2, e0_3, e0_4⟩ := Agg.open_agg5 Tryd.underlying23 (by kernel_rfl) (by kernel_rfl) (hval 0 23 v0 rfl rfl) h0
  obtain ⟨x0_0, g0_0, -, wx0_0⟩ := DataW.trod_string Tryd.underlying9 e0_0
  obtain rfl : c0_0 = .string x0_0 := by simpa using g0_0
  obtain ⟨x0_1, g0_1, -, wx0_1⟩ := DataW.trod_int Tryd.underlying2 e0_1
  obtain rfl : c0_1 = .int .i64 x0_1 := by simpa using g0_1
  obtain ⟨x0_2, g0_2, -, wx0_2⟩ := DataW.trod_int Tryd.underlying2 e0_2
  obtain rfl : c0_2 = .int .i64 x0_2 := by simpa using g0_2
  obtain ⟨x0_3, g0_3, -, wx0_3⟩ := DataW.trod_int Tryd.underlying2 e0_3
  obtain rfl : c0_3 = .int .i64 x0_3 := by simpa using g0_3
  obtain ⟨x0_4, g0_4, -, wx0_4⟩ := DataW.trod_int Tryd.underlying2 e0_4
  obtain rfl : c0_4 = .int .i64 x0_4 := by simpa using g0_4
  obtain ⟨a1, rfl, rfl, rfl, w1⟩ := open_int Tryd.underlying2 (hval 1 2 v1 rfl rfl) h1
  obtain ⟨a2, rfl, rfl, rfl, w2⟩ := open_int Tryd.underlying2 (hval 2 2 v2 rfl rfl) h2
  clear hA0
  refine (walk W x0_0 wx0_0 x0_1 wx0_1 x0_2 wx0_2 x0_3 wx0_3 x0_4 wx0_4 a1 w1 a2 w2 hL hsh).mono fun e W' ⟨he, bel⟩ => ?_
  subst he
  exact ⟨_, rfl, _, _, _, [], _, q, hW', trodAll_mk1 (shut_bool Tryd.underlying4 _), (trodAll_cons_mk (Below.trod laidOut (by kernel_rfl) (of_decide_eq_true (by kernel_rfl)) k0 bel lt0) (trodAll_cons_mk (shut_int Tryd.underlying2 w1) (trodAll_cons_mk (shut_int Tryd.underlying2 w2) trodAll_mk0))), (Below.trodVars laidOut bel (by kernel_rfl) hV1), bel.frame _, fun h => by cases h⟩

theorem said : Rows.FnExactChannelsWithinSaid :=
  OpenClaim.holds_of_cond 3 Tryd.f3 rfl rfl rfl rfl rfl rfl rfl ⟨rfl, rfl, rfl, rfl, rfl⟩ rfl rfl rfl rfl rfl (by kernel_rfl) Tryd.func3 (by kernel_rfl)
    (of_decide_eq_true (by kernel_rfl)) (by unfold Func.isWrapper; first | (rw [if_pos (by decide +kernel)]; kernel_rfl) | (rw [if_neg (by decide +kernel)]; exact ⟨rfl, rfl⟩))
    (fun os started H enc _ F => by rw [OpenClaim.pre_eq_preRow]; exact lifted os started H enc F)

theorem plain (f : FuncId) (fn : Func) (hf : Tryd.pinned.checked.prog.funcNamed "loop.example/g00925/laws.FnExactChannelsWithin" = some f) (hfn : Tryd.pinned.checked.prog.funcs[f]? = some fn) :
    false = Tryd.pinned.checked.prog.looks [] ∧ ∀ (j : Nat) t, fn.params[j]? = some t → Tryd.pinned.checked.prog.wantsStandIn t = false := by
  obtain rfl : f = 3 := Option.some.inj ((show Tryd.prog.funcNamed "loop.example/g00925/laws.FnExactChannelsWithin" = some 3 by kernel_rfl).symm.trans hf) |>.symm
  obtain rfl : fn = Tryd.f3 := (Option.some.inj (Tryd.func3.symm.trans hfn)).symm
  refine ⟨by kernel_rfl, fun j t ht => ?_⟩
  rw [Tryd.params3] at ht
  have ht' := Array.mem_of_getElem? ht
  simp at ht'
  have s23 : Tryd.pinned.checked.prog.wantsStandIn 23 = false := (show Tryd.prog.wantsStandIn 23 = false by kernel_rfl)
  have s2 : Tryd.pinned.checked.prog.wantsStandIn 2 = false := (show Tryd.prog.wantsStandIn 2 = false by kernel_rfl)
  first | (rcases ht' with rfl | rfl <;> first | with_reducible exact s23 | with_reducible exact s2) | (rcases ht' with rfl | rfl | rfl <;> first | with_reducible exact s23 | with_reducible exact s2)

/-- The statement: the tied card. -/
theorem card : Rows.FnExactChannelsWithinCardSaid :=
  Claim7.holds_tied_plain_at .later [] _ _ _ _ said (fun _ h => by cases h) (by kernel_rfl) (fun _ h => by cases h) fnExactChannelsWithin_row_tie rfl ⟨rfl, rfl⟩ (by kernel_rfl) rfl plain (by kernel_rfl)
end Go.Proofs.YtdkemoojlgdelabDoor.fnExactChannelsWithin
