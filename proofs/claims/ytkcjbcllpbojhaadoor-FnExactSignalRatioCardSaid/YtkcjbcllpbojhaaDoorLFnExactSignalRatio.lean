/-
  For all lists and numbers SignalRatio of the program returns what the model returns, and leaves the lists as they were: the statement FnExactSignalRatio. Its row lists the program's variable of spans, tied to the text by the card; no other condition.
-/
import Derived.Test.YtkcjbcllpbojhaaDoorCards
import Derived.Test.YtkcjbcllpbojhaaDoorTie
import Derived.Test.YtkcjbcllpbojhaaDoorSig
import Derived.Test.YtkcjbcllpbojhaaDoorSpanTab
import Derived.WalkKit
import Derived.ProofKit
import Derived.OpenShut
import Derived.ShutString
import Derived.Below
import Derived.ChangeOld
import Derived.OpenVars
import Derived.ChangeVars
import Derived.Deep.DeepHandedRow
import Derived.Lib.LaidTab
namespace Go.Proofs.YtkcjbcllpbojhaaDoor.fnExactSignalRatio
open Go.ChangeShapes Go.WideShapes Go.ChangeAt Go.RowKit
open Go.ChangeMaps (open_string shut_string)
set_option linter.unusedVariables false

theorem own : ownKnob Tryd.prog.godebug = none := by kernel_rfl
theorem laidOut : laidOutB Tryd.prog = true := by kernel_rfl

/-- What the walk is told of a slice of integers that came in: it is nil; or it leads to a row of 'cap' cells, the numbers 'zs' (the first 'len' are its elements), each fitting its kind. -/
def IsRow (k : IntKind) (w : World) (a : Option Addr) (len cap : Nat) (zs : List Int) : Prop :=
  (a = none ∧ len = 0 ∧ cap = 0 ∧ zs = []) ∨
  ∃ x, a = some x ∧ len ≤ cap ∧ cap ≤ maxLen ∧ zs.length = cap ∧ (∀ i, i < zs.length → w.cell? (x.add i) = some (.int k (zs.getD i 0))) ∧ ∀ n ∈ zs, (Lit.int k n).wf = true

/-- The walk. -/
theorem walk (w : World) (a0 : Option Addr) (len0 cap0 : Nat) (z0 : List Int) (w0 : IsRow .i64 w a0 len0 cap0 z0) (a1 : Option Addr) (len1 cap1 : Nat) (z1 : List Int) (w1 : IsRow .i64 w a1 len1 cap1 z1) (a2 : Option Addr) (len2 cap2 : Nat) (z2 : List Int) (w2 : IsRow .i64 w a2 len2 cap2 z2) (a3 : Int) (w3 : (Lit.int .i64 a3).wf = true) (hL : laidMetH Tryd.prog Rows.fnExactSignalRatioRow.laid w) (hsh : w.ShapedOpen Tryd.prog) :
    Calls Tryd.prog 4 #[.slice a0 len0 cap0, .slice a1 len1 cap1, .slice a2 len2 cap2, .int .i64 a3] w fun e w' => e = .returned (.bool true) ∧ Below w.heap.size w w' := by
  have HT := Lib.hid (SpanTab.spanG (W := w) (l := Rows.fnExactSignalRatioRow.laid) hL (.head _))
  clear hL hsh
  obtain ⟨hi0, hlen0⟩ := Ints.Ints.of_arg w0
  obtain ⟨hi1, hlen1⟩ := Ints.Ints.of_arg w1
  obtain ⟨hi2, hlen2⟩ := Ints.Ints.of_arg w2
  clear w0 w1 w2
  by_cases hl0 : 1048576 < len0
  · clear hi0 hlen0 hi1 hlen1 hi2 hlen2
    have hl2 : (1048576 : Int) < len0 := by omega
    go_enter Tryd.func4, Tryd.ntmps4
    go_wp2_with fail
    go_ret
    exact ⟨rfl, Below.refl _ _⟩
  have hn0 : (z0.take len0).length ≤ 1048576 := by omega
  have hl20 : ¬ (1048576 : Int) < len0 := by omega
  obtain ⟨y0, hy0⟩ : ∃ zs, zs = z0.take len0 := ⟨_, rfl⟩
  rw [← hy0] at hi0 hn0
  by_cases hl1 : 1048576 < len1
  · clear hi0 hlen0 hi1 hlen1 hi2 hlen2
    have hl2 : (1048576 : Int) < len1 := by omega
    go_enter Tryd.func4, Tryd.ntmps4
    go_wp2_with fail
    go_ret
    exact ⟨rfl, Below.refl _ _⟩
  have hn1 : (z1.take len1).length ≤ 1048576 := by omega
  have hl21 : ¬ (1048576 : Int) < len1 := by omega
  obtain ⟨y1, hy1⟩ : ∃ zs, zs = z1.take len1 := ⟨_, rfl⟩
  rw [← hy1] at hi1 hn1
  by_cases hl2 : 1048576 < len2
  · clear hi0 hlen0 hi1 hlen1 hi2 hlen2
    have hl2 : (1048576 : Int) < len2 := by omega
    go_enter Tryd.func4, Tryd.ntmps4
    go_wp2_with fail
    go_ret
    exact ⟨rfl, Below.refl _ _⟩
  have hn2 : (z2.take len2).length ≤ 1048576 := by omega
  have hl22 : ¬ (1048576 : Int) < len2 := by omega
  obtain ⟨y2, hy2⟩ : ∃ zs, zs = z2.take len2 := ⟨_, rfl⟩
  rw [← hy2] at hi2 hn2
  have HI0 := Lib.hid hi0
  have HI1 := Lib.hid hi1
  have HI2 := Lib.hid hi2
  clear hi0 hlen0 hl0 hy0 hi1 hlen1 hl1 hy1 hi2 hlen2 hl2 hy2
  go_enter Tryd.func4, Tryd.ntmps4
  go_wp2_with fail
  refine (Ints.copy _ y0 _ hn0 (HI0.out.below (On.refl _))).mono ?_
  rintro e u1 ⟨v1, rfl, hc1, hb1⟩
  have C1 := Lib.hid hc1
  have O1 := Lib.hid (On.trans (On.refl _) (show On _ _ from hb1))
  clear hc1 hb1
  go_wp2_with fail
  refine (Ints.copy _ y1 _ hn1 (HI1.out.below O1.out)).mono ?_
  rintro e u2 ⟨v2, rfl, hc2, hb2⟩
  have C2 := Lib.hid hc2
  have O2 := Lib.hid (On.trans O1.out (show On _ _ from hb2))
  have C1 := Lib.hid (C1.out.below hb2)
  clear hc2 hb2
  go_wp2_with fail
  refine (Ints.copy _ y2 _ hn2 (HI2.out.below O2.out)).mono ?_
  rintro e u3 ⟨v3, rfl, hc3, hb3⟩
  have C3 := Lib.hid hc3
  have O3 := Lib.hid (On.trans O2.out (show On _ _ from hb3))
  have C1 := Lib.hid (C1.out.below hb3)
  have C2 := Lib.hid (C2.out.below hb3)
  clear hc3 hb3
  go_wp2_with fail
  refine (Sig.spec_Signal _ _ _ y0 y1 y2 a3 _ hn0 hn1 hn2 C1.out C2.out C3.out).mono ?_
  rintro e u4 ⟨rfl, hb4⟩
  have O4 := Lib.hid (On.trans O3.out hb4)
  clear hb4
  go_wp2_with fail
  refine (Ints.copy _ y0 _ hn0 (HI0.out.below O4.out)).mono ?_
  rintro e u5 ⟨v5, rfl, hc5, hb5⟩
  have C5 := Lib.hid hc5
  have O5 := Lib.hid (On.trans O4.out (show On _ _ from hb5))
  clear hc5 hb5
  go_wp2_with fail
  refine (Ints.copy _ y1 _ hn1 (HI1.out.below O5.out)).mono ?_
  rintro e u6 ⟨v6, rfl, hc6, hb6⟩
  have C6 := Lib.hid hc6
  have O6 := Lib.hid (On.trans O5.out (show On _ _ from hb6))
  have C5 := Lib.hid (C5.out.below hb6)
  clear hc6 hb6
  go_wp2_with fail
  refine (Ints.copy _ y2 _ hn2 (HI2.out.below O6.out)).mono ?_
  rintro e u7 ⟨v7, rfl, hc7, hb7⟩
  have C7 := Lib.hid hc7
  have O7 := Lib.hid (On.trans O6.out (show On _ _ from hb7))
  have C5 := Lib.hid (C5.out.below hb7)
  have C6 := Lib.hid (C6.out.below hb7)
  clear hc7 hb7
  go_wp2_with fail
  refine (Sig.impl_Signal _ _ _ y0 y1 y2 a3 _ hn0 hn1 hn2 C5.out C6.out C7.out (HT.out.on O7.out)).mono ?_
  rintro e u8 ⟨rfl, hb8⟩
  have O8 := Lib.hid (On.trans O7.out hb8)
  have C5 := Lib.hid (C5.out.below hb8)
  have C6 := Lib.hid (C6.out.below hb8)
  have C7 := Lib.hid (C7.out.below hb8)
  clear hb8
  have hr0 : (Sig.sigV y0 y1 y2 a3 == Sig.sigV y0 y1 y2 a3) = true := beq_self_eq_true _
  have hs0 : (Sig.sigV y0 y1 y2 a3 != Sig.sigV y0 y1 y2 a3) = false := bne_self_eq_false _
  generalize Sig.sigV y0 y1 y2 a3 = r0 at *
  have hr1 : (Sig.sigC y0 y1 y2 a3 == Sig.sigC y0 y1 y2 a3) = true := beq_self_eq_true _
  have hs1 : (Sig.sigC y0 y1 y2 a3 != Sig.sigC y0 y1 y2 a3) = false := bne_self_eq_false _
  generalize Sig.sigC y0 y1 y2 a3 = r1 at *
  go_wp2_with fail
  refine (Ints.copy _ y0 _ hn0 (HI0.out.below O8.out)).mono ?_
  rintro e u9 ⟨v9, rfl, hc9, hb9⟩
  have C9 := Lib.hid hc9
  have O9 := Lib.hid (On.trans O8.out (show On _ _ from hb9))
  have C5 := Lib.hid (C5.out.below hb9)
  have C6 := Lib.hid (C6.out.below hb9)
  have C7 := Lib.hid (C7.out.below hb9)
  clear hc9 hb9
  go_wp2_with fail
  refine (Ints.eq _ _ y0 _ hn0 C5.out C9.out).mono ?_
  rintro e u10 ⟨rfl, q10, hq10⟩
  have hb10 : On _ u10 := hq10 ▸ Ints.below_drewN _ q10
  have O10 := Lib.hid (On.trans O9.out hb10)
  have C6 := Lib.hid (C6.out.below hb10)
  have C7 := Lib.hid (C7.out.below hb10)
  clear hb10 hq10
  go_wp2_with fail
  refine (Ints.copy _ y1 _ hn1 (HI1.out.below O10.out)).mono ?_
  rintro e u11 ⟨v11, rfl, hc11, hb11⟩
  have C11 := Lib.hid hc11
  have O11 := Lib.hid (On.trans O10.out (show On _ _ from hb11))
  have C6 := Lib.hid (C6.out.below hb11)
  have C7 := Lib.hid (C7.out.below hb11)
  clear hc11 hb11
  go_wp2_with fail
  refine (Ints.eq _ _ y1 _ hn1 C6.out C11.out).mono ?_
  rintro e u12 ⟨rfl, q12, hq12⟩
  have hb12 : On _ u12 := hq12 ▸ Ints.below_drewN _ q12
  have O12 := Lib.hid (On.trans O11.out hb12)
  have C7 := Lib.hid (C7.out.below hb12)
  clear hb12 hq12
  go_wp2_with fail
  refine (Ints.copy _ y2 _ hn2 (HI2.out.below O12.out)).mono ?_
  rintro e u13 ⟨v13, rfl, hc13, hb13⟩
  have C13 := Lib.hid hc13
  have O13 := Lib.hid (On.trans O12.out (show On _ _ from hb13))
  have C7 := Lib.hid (C7.out.below hb13)
  clear hc13 hb13
  go_wp2_with fail
  refine (Ints.eq _ _ y2 _ hn2 C7.out C13.out).mono ?_
  rintro e u14 ⟨rfl, q14, hq14⟩
  have hb14 : On _ u14 := hq14 ▸ Ints.below_drewN _ q14
  have O14 := Lib.hid (On.trans O13.out hb14)
  clear hb14 hq14
  go_wp2_with fail
  go_ret
  exact ⟨rfl, O14.out⟩

/-- How many blocks the settled world has. -/
noncomputable def low : Nat := (World.holding Tryd.prog default ⟨#[], #[], []⟩).heap.size
/-- A world for the witness: the settled one, each listed variable holding what the program's text lays. -/
noncomputable def laidWorld (os : Os) : World :=
  let w0 := World.holding Tryd.prog os ⟨#[], #[], []⟩
  let h0 := w0.heap.modify 0 fun
    | .cells _ t frozen => .cells #[.int .i64 1, .int .i64 100000000, .int .i64 1, .int .i64 283000, .int .i64 (-300000), .int .i64 300000, .int .i64 (-300000), .int .i64 300000, .int .i64 0, .int .i64 300000, .int .i64 1, .int .i64 100000, .int .i64 0, .int .i64 7, .int .i64 0, .int .i64 90000, .int .i64 0, .int .i64 200, .int .i64 0, .int .i64 1000, .int .i64 1, .int .i64 10000, .int .i64 1, .int .i64 20, .int .i64 0, .int .i64 1000000, .int .i64 25, .int .i64 400, .int .i64 0, .int .i64 100000] t frozen
    | o => o
  { w0 with heap := h0 }
theorem laid_met (os : Os) : laidMet Tryd.prog Rows.fnExactSignalRatioRow.laid ((laidWorld os).forCall (fun _ _ => 0) ⟨#[], #[.slice none 0 0, .slice none 0 0, .slice none 0 0, .int .i64 0], []⟩).memory :=
  laidMet_of_run' 8 (by kernel_rfl) (by kernel_rfl)
theorem witness_row (os : Os) {H : Type} (enc : TypeId × Value → H) :
    (OpenSpec.ofChange Rows.fnExactSignalRatioSpec).preRow enc Tryd.prog Tryd.f4 Rows.fnExactSignalRatioRow.domain false Rows.fnExactSignalRatioRow.laid ((laidWorld os).forCall (fun _ _ => 0) ⟨#[], #[.slice none 0 0, .slice none 0 0, .slice none 0 0, .int .i64 0], []⟩).memory #[.slice none 0 0, .slice none 0 0, .slice none 0 0, .int .i64 0] := by
  have hw : (DataW.whole enc Tryd.prog ((laidWorld os).forCall (fun _ _ => 0) ⟨#[], #[.slice none 0 0, .slice none 0 0, .slice none 0 0, .int .i64 0], []⟩).memory Tryd.f4.params.toList Rows.fnExactSignalRatioSpec.vars false (#[.slice none 0 0, .slice none 0 0, .slice none 0 0, .int .i64 0] : Array Value).toList 8).map (fun x => (x.1, x.2.1)) = some ([.nil, .nil, .nil, .lit (.int .i64 0)], [Rows.laid_loop_example_g00925_impl_quantitySpans]) := by kernel_rfl
  obtain ⟨⟨x1, x2, x3⟩, hx, hx1⟩ := Option.map_eq_some_iff.1 hw
  simp only [Prod.mk.injEq] at hx1
  obtain ⟨rfl, rfl⟩ := hx1
  exact OpenSpec.preRow_of_cond 8 hx (by kernel_rfl) (fun k hk => by cases hk) (by kernel_rfl) (laid_met os)

set_option maxRecDepth 100000 in
/-- The row's step. -/
theorem lifted (os : Os) (started : os.Started) (H : Type) (enc : TypeId × Value → H) (F : Stop.Interp) :
    ReturnsInHanded {} Tryd.checked os 4 .any ((OpenSpec.ofChange Rows.fnExactSignalRatioSpec).preRow enc Tryd.prog Tryd.f4 Rows.fnExactSignalRatioRow.domain false Rows.fnExactSignalRatioRow.laid) (((OpenSpec.ofChange Rows.fnExactSignalRatioSpec).at F).post enc Tryd.prog Tryd.f4 false true false false) := by
  refine returnsInHanded_of_row (C := Tryd.checked) (s := OpenSpec.ofChange Rows.fnExactSignalRatioSpec) own started (by kernel_rfl) Tryd.func4
    (witness_row_at (enc := enc) (C := Tryd.checked) false (laidWorld os) #[.slice none 0 0, .slice none 0 0, .slice none 0 0, .int .i64 0] rfl (by kernel_rfl) (by kernel_rfl) (by kernel_rfl) (witness_row os enc)) ?_
  intro W base args ds gs before hval hW _ _ _ hL hsh _
  have hW' := hW
  obtain ⟨p, q, hA0, hV, rfl, hfz, hnd⟩ := hW
  have hA : DataW.TrodAll enc Tryd.prog W 0 (fun _ => true) true Tryd.f4.params.toList args.toList ds p := hA0
  rw [Tryd.params4] at hA hval
  obtain ⟨v0, vs0, d0, ds0, p0, q0, hargs, rfl, rfl, h0, r0⟩ := trodAll_cons hA
  obtain ⟨v1, vs1, d1, ds1, p1, q1, rfl, rfl, rfl, h1, r1⟩ := trodAll_cons r0
  obtain ⟨v2, vs2, d2, ds2, p2, q2, rfl, rfl, rfl, h2, r2⟩ := trodAll_cons r1
  obtain ⟨v3, vs3, d3, ds3, p3, q3, rfl, rfl, rfl, h3, r3⟩ := trodAll_cons r2
  obtain ⟨rfl, rfl, rfl⟩ := trodAll_nil r3
  obtain rfl : args = #[v0, v1, v2, v3] := by cases args; simp_all
  have hV1 := hV
  obtain ⟨_, _, _, _, dv, _, rfl, _⟩ := trodVars_one hV
  obtain ⟨a0, len0, cap0, rfl⟩ := okWide_slice Tryd.underlying27 (hval 0 27 v0 rfl rfl)
  have k0 := h0
  have lt0 : ∀ x ∈ p0, x.block < W.heap.size := by obtain ⟨m, hm⟩ := k0; exact DataW.trod_lt m _ _ _ hm
  obtain ⟨z0, w0⟩ : ∃ zs, IsRow .i64 W a0 len0 cap0 zs := by
    obtain ⟨fuel, hf⟩ := h0
    rcases open_ints Tryd.underlying27 Tryd.underlying2 (by kernel_rfl) hf with ⟨hcs, _⟩ | ⟨x, l, c, zs, hcs, _, hl, hm, hz, _, hcell, hwz⟩
    · simp [Value.cells] at hcs
      obtain ⟨rfl, rfl, rfl⟩ := hcs
      exact ⟨[], .inl ⟨rfl, rfl, rfl, rfl⟩⟩
    · simp [Value.cells] at hcs
      obtain ⟨rfl, rfl, rfl⟩ := hcs
      exact ⟨zs, .inr ⟨_, rfl, hl, hm, by simpa using hz, hcell, hwz⟩⟩
  obtain ⟨a1, len1, cap1, rfl⟩ := okWide_slice Tryd.underlying27 (hval 1 27 v1 rfl rfl)
  have k1 := h1
  have lt1 : ∀ x ∈ p1, x.block < W.heap.size := by obtain ⟨m, hm⟩ := k1; exact DataW.trod_lt m _ _ _ hm
  obtain ⟨z1, w1⟩ : ∃ zs, IsRow .i64 W a1 len1 cap1 zs := by
    obtain ⟨fuel, hf⟩ := h1
    rcases open_ints Tryd.underlying27 Tryd.underlying2 (by kernel_rfl) hf with ⟨hcs, _⟩ | ⟨x, l, c, zs, hcs, _, hl, hm, hz, _, hcell, hwz⟩
    · simp [Value.cells] at hcs
      obtain ⟨rfl, rfl, rfl⟩ := hcs
      exact ⟨[], .inl ⟨rfl, rfl, rfl, rfl⟩⟩
    · simp [Value.cells] at hcs
      obtain ⟨rfl, rfl, rfl⟩ := hcs
      exact ⟨zs, .inr ⟨_, rfl, hl, hm, by simpa using hz, hcell, hwz⟩⟩
  obtain ⟨a2, len2, cap2, rfl⟩ := okWide_slice Tryd.underlying27 (hval 2 27 v2 rfl rfl)
  have k2 := h2
  have lt2 : ∀ x ∈ p2, x.block < W.heap.size := by obtain ⟨m, hm⟩ := k2; exact DataW.trod_lt m _ _ _ hm
  obtain ⟨z2, w2⟩ : ∃ zs, IsRow .i64 W a2 len2 cap2 zs := by
    obtain ⟨fuel, hf⟩ := h2
    rcases open_ints Tryd.underlying27 Tryd.underlying2 (by kernel_rfl) hf with ⟨hcs, _⟩ | ⟨x, l, c, zs, hcs, _, hl, hm, hz, _, hcell, hwz⟩
    · simp [Value.cells] at hcs
      obtain ⟨rfl, rfl, rfl⟩ := hcs
      exact ⟨[], .inl ⟨rfl, rfl, rfl, rfl⟩⟩
    · simp [Value.cells] at hcs
      obtain ⟨rfl, rfl, rfl⟩ := hcs
      exact ⟨zs, .inr ⟨_, rfl, hl, hm, by simpa using hz, hcell, hwz⟩⟩
  obtain ⟨a3, rfl, rfl, rfl, w3⟩ := open_int Tryd.underlying2 (hval 3 2 v3 rfl rfl) h3
  clear hA0
  refine (walk W a0 len0 cap0 z0 w0 a1 len1 cap1 z1 w1 a2 len2 cap2 z2 w2 a3 w3 hL hsh).mono fun e W' ⟨he, bel⟩ => ?_
  subst he
  exact ⟨_, rfl, _, _, _, [], _, q, hW', trodAll_mk1 (shut_bool Tryd.underlying4 _), (trodAll_cons_mk (Below.trod laidOut (by kernel_rfl) (of_decide_eq_true (by kernel_rfl)) k0 bel lt0) (trodAll_cons_mk (Below.trod laidOut (by kernel_rfl) (of_decide_eq_true (by kernel_rfl)) k1 bel lt1) (trodAll_cons_mk (Below.trod laidOut (by kernel_rfl) (of_decide_eq_true (by kernel_rfl)) k2 bel lt2) (trodAll_cons_mk (shut_int Tryd.underlying2 w3) trodAll_mk0)))), (Below.trodVars laidOut bel (by kernel_rfl) hV1), bel.frame _, fun h => by cases h⟩

theorem said : Rows.FnExactSignalRatioSaid :=
  OpenClaim.holds_of_cond 4 Tryd.f4 rfl rfl rfl rfl rfl rfl rfl ⟨rfl, rfl, rfl, rfl, rfl⟩ rfl rfl rfl rfl rfl (by kernel_rfl) Tryd.func4 (by kernel_rfl)
    (of_decide_eq_true (by kernel_rfl)) (by unfold Func.isWrapper; first | (rw [if_pos (by decide +kernel)]; kernel_rfl) | (rw [if_neg (by decide +kernel)]; exact ⟨rfl, rfl⟩))
    (fun os started H enc _ F => by rw [OpenClaim.pre_eq_preRow]; exact lifted os started H enc F)

theorem plain (f : FuncId) (fn : Func) (hf : Tryd.pinned.checked.prog.funcNamed "loop.example/g00925/laws.FnExactSignalRatio" = some f) (hfn : Tryd.pinned.checked.prog.funcs[f]? = some fn) :
    true = Tryd.pinned.checked.prog.looks [] ∧ ∀ (j : Nat) t, fn.params[j]? = some t → Tryd.pinned.checked.prog.wantsStandIn t = false := by
  obtain rfl : f = 4 := Option.some.inj ((show Tryd.prog.funcNamed "loop.example/g00925/laws.FnExactSignalRatio" = some 4 by kernel_rfl).symm.trans hf) |>.symm
  obtain rfl : fn = Tryd.f4 := (Option.some.inj (Tryd.func4.symm.trans hfn)).symm
  refine ⟨by kernel_rfl, fun j t ht => ?_⟩
  rw [Tryd.params4] at ht
  have ht' := Array.mem_of_getElem? ht
  simp at ht'
  have s27 : Tryd.pinned.checked.prog.wantsStandIn 27 = false := (show Tryd.prog.wantsStandIn 27 = false by kernel_rfl)
  have s2 : Tryd.pinned.checked.prog.wantsStandIn 2 = false := (show Tryd.prog.wantsStandIn 2 = false by kernel_rfl)
  first | (rcases ht' with rfl | rfl <;> first | with_reducible exact s27 | with_reducible exact s2) | (rcases ht' with rfl | rfl | rfl <;> first | with_reducible exact s27 | with_reducible exact s2) | (rcases ht' with rfl | rfl | rfl | rfl <;> first | with_reducible exact s27 | with_reducible exact s2)

/-- The statement: the tied card. -/
theorem card : Rows.FnExactSignalRatioCardSaid :=
  Claim7.holds_tied_plain_at .later [] _ _ _ _ said (fun _ h => by cases h) (by kernel_rfl) (fun _ h => by cases h) fnExactSignalRatio_row_tie rfl ⟨rfl, rfl⟩ (by kernel_rfl) rfl plain (by kernel_rfl)
end Go.Proofs.YtkcjbcllpbojhaaDoor.fnExactSignalRatio
