/-
  For every list of rows ValidRows of the program returns what the model returns, and leaves the rows as they were: the statement FnExactValidRows. Its row lists the program's variable of spans, tied to the text by the card; no other condition.
-/
import Derived.Test.YtkcjbcllpbojhaaDoorCards
import Derived.Test.YtkcjbcllpbojhaaDoorTie
import Derived.Test.YtkcjbcllpbojhaaDoorVRows
import Derived.Test.YtkcjbcllpbojhaaDoorMatsC
import Derived.Test.YtkcjbcllpbojhaaDoorSpanTab
import Derived.WalkKit
import Derived.ProofKit
import Derived.OpenShut
import Derived.ShutString
import Derived.Below
import Derived.ChangeOld
import Derived.OpenVars
import Derived.ChangeVars
import Derived.Deep.DeepHandedRow
import Derived.Lib.LaidTab
namespace Go.Proofs.YtkcjbcllpbojhaaDoor.fnExactValidRows
open Go.ChangeShapes Go.WideShapes Go.ChangeAt Go.RowKit
open Go.ChangeMaps (open_string shut_string)
set_option linter.unusedVariables false

theorem own : ownKnob Tryd.prog.godebug = none := by kernel_rfl
theorem laidOut : laidOutB Tryd.prog = true := by kernel_rfl

/-- The walk. -/
theorem walk (w : World) (a0 : Option Addr) (len0 cap0 : Nat) (z0 : List (List Int)) (w0 : Mats.IsRows w a0 len0 cap0 z0) (hL : laidMetH Tryd.prog Rows.fnExactValidRowsRow.laid w) (hsh : w.ShapedOpen Tryd.prog) :
    Calls Tryd.prog 3 #[.slice a0 len0 cap0] w fun e w' => e = .returned (.bool true) ∧ Below w.heap.size w w' := by
  have HT := Lib.hid (SpanTab.spanG (W := w) (l := Rows.fnExactValidRowsRow.laid) hL (.head _))
  clear hL hsh
  obtain ⟨hlen, hR, hml, hnm⟩ := Mats.Rows.of_arg w0
  obtain ⟨zs, hzs⟩ : ∃ z, z = z0 := ⟨_, rfl⟩
  rw [← hzs] at hR hlen hnm
  clear hzs w0
  subst hlen
  have HZ := Lib.hid (fun w' (ho : On w w') => Mats.szFrom 1048576 _ zs w' (Nat.le_refl _) hml hnm (hR.below ho))
  have HR0 := Lib.hid hR
  clear hR hml hnm
  go_enter Tryd.func3, Tryd.ntmps3
  go_wp2_with fail
  refine (HZ.out _ (On.refl _)).mono ?_
  rintro e w1 ⟨r, rfl, h1, hr⟩
  rcases hr with hr | ⟨hr, -, hn, hs⟩
  · go_wp2_with fail
    go_ret
    exact ⟨rfl, h1⟩
  · have hr' : ¬ r < 0 := by omega
    have HS := Lib.hid hs
    clear hs HZ
    go_wp2_with fail
    refine (Mats.copyS _ zs _ hn HS.out (HR0.out.below h1)).mono ?_
    rintro e w2 ⟨a2, c2, rfl, hr2, h2⟩
    go_wp2_with fail
    refine (VRows.spec_ValidRows _ zs _ hn HS.out hr2.rows).mono ?_
    rintro e w3 ⟨rfl, h3⟩
    have O3 : On w w3 := (h1.trans h2).trans h3
    clear h1 h2 h3 hr2
    go_wp2_with fail
    refine (Mats.copyS _ zs _ hn HS.out (HR0.out.below O3)).mono ?_
    rintro e w4 ⟨a4, c4, rfl, hr4, h4⟩
    have O4 : On w w4 := O3.trans h4
    have HR4 := Lib.hid hr4.rows
    clear h4 O3 hr4
    go_wp2_with fail
    refine (VRows.impl_ValidRows _ zs _ hn HS.out HR4.out (HT.out.on O4)).mono ?_
    rintro e w5 ⟨rfl, h5⟩
    have O5 : On w w5 := O4.trans h5
    have HR5 := Lib.hid (HR4.out.below h5)
    clear h5 O4
    have hcc : (VRows.rowsB zs != VRows.rowsB zs) = false := bne_self_eq_false _
    generalize VRows.rowsB zs = ok at *
    go_wp2_with fail
    refine (Mats.copyS _ zs _ hn HS.out (HR0.out.below O5)).mono ?_
    rintro e w6 ⟨a6, c6, rfl, hr6, h6⟩
    have O6 : On w w6 := O5.trans h6
    have HR6 := Lib.hid (HR5.out.below h6)
    clear h6 O5
    go_wp2_with fail
    refine (Mats.eqS _ _ zs _ hn HS.out HR6.out hr6.rows).mono ?_
    rintro e w7 ⟨rfl, h7⟩
    go_wp2_with fail
    go_ret
    exact ⟨rfl, O6.trans h7⟩

/-- How many blocks the settled world has. -/
noncomputable def low : Nat := (World.holding Tryd.prog default ⟨#[], #[], []⟩).heap.size
/-- A world for the witness: the settled one, each listed variable holding what the program's text lays. -/
noncomputable def laidWorld (os : Os) : World :=
  let w0 := World.holding Tryd.prog os ⟨#[], #[], []⟩
  let h0 := w0.heap.modify 0 fun
    | .cells _ t frozen => .cells #[.int .i64 1, .int .i64 100000000, .int .i64 1, .int .i64 283000, .int .i64 (-300000), .int .i64 300000, .int .i64 (-300000), .int .i64 300000, .int .i64 0, .int .i64 300000, .int .i64 1, .int .i64 100000, .int .i64 0, .int .i64 7, .int .i64 0, .int .i64 90000, .int .i64 0, .int .i64 200, .int .i64 0, .int .i64 1000, .int .i64 1, .int .i64 10000, .int .i64 1, .int .i64 20, .int .i64 0, .int .i64 1000000, .int .i64 25, .int .i64 400, .int .i64 0, .int .i64 100000] t frozen
    | o => o
  { w0 with heap := h0 }
theorem laid_met (os : Os) : laidMet Tryd.prog Rows.fnExactValidRowsRow.laid ((laidWorld os).forCall (fun _ _ => 0) ⟨#[], #[.slice none 0 0], []⟩).memory :=
  laidMet_of_run' 8 (by kernel_rfl) (by kernel_rfl)
theorem witness_row (os : Os) {H : Type} (enc : TypeId × Value → H) :
    (OpenSpec.ofChange Rows.fnExactValidRowsSpec).preRow enc Tryd.prog Tryd.f3 Rows.fnExactValidRowsRow.domain false Rows.fnExactValidRowsRow.laid ((laidWorld os).forCall (fun _ _ => 0) ⟨#[], #[.slice none 0 0], []⟩).memory #[.slice none 0 0] := by
  have hw : (DataW.whole enc Tryd.prog ((laidWorld os).forCall (fun _ _ => 0) ⟨#[], #[.slice none 0 0], []⟩).memory Tryd.f3.params.toList Rows.fnExactValidRowsSpec.vars false (#[.slice none 0 0] : Array Value).toList 8).map (fun x => (x.1, x.2.1)) = some ([.nil], [Rows.laid_loop_example_g00925_impl_quantitySpans]) := by kernel_rfl
  obtain ⟨⟨x1, x2, x3⟩, hx, hx1⟩ := Option.map_eq_some_iff.1 hw
  simp only [Prod.mk.injEq] at hx1
  obtain ⟨rfl, rfl⟩ := hx1
  exact OpenSpec.preRow_of_cond 8 hx (by kernel_rfl) (fun k hk => by cases hk) (by kernel_rfl) (laid_met os)

set_option maxRecDepth 100000 in
/-- The row's step. -/
theorem lifted (os : Os) (started : os.Started) (H : Type) (enc : TypeId × Value → H) (F : Stop.Interp) :
    ReturnsInHanded {} Tryd.checked os 3 .any ((OpenSpec.ofChange Rows.fnExactValidRowsSpec).preRow enc Tryd.prog Tryd.f3 Rows.fnExactValidRowsRow.domain false Rows.fnExactValidRowsRow.laid) (((OpenSpec.ofChange Rows.fnExactValidRowsSpec).at F).post enc Tryd.prog Tryd.f3 false true false false) := by
  refine returnsInHanded_of_row (C := Tryd.checked) (s := OpenSpec.ofChange Rows.fnExactValidRowsSpec) own started (by kernel_rfl) Tryd.func3
    (witness_row_at (enc := enc) (C := Tryd.checked) false (laidWorld os) #[.slice none 0 0] rfl (by kernel_rfl) (by kernel_rfl) (by kernel_rfl) (witness_row os enc)) ?_
  intro W base args ds gs before hval hW _ _ _ hL hsh _
  have hW' := hW
  obtain ⟨p, q, hA0, hV, rfl, hfz, hnd⟩ := hW
  have hA : DataW.TrodAll enc Tryd.prog W 0 (fun _ => true) true Tryd.f3.params.toList args.toList ds p := hA0
  rw [Tryd.params3] at hA hval
  obtain ⟨v0, vs0, d0, ds0, p0, q0, hargs, rfl, rfl, h0, r0⟩ := trodAll_cons hA
  obtain ⟨rfl, rfl, rfl⟩ := trodAll_nil r0
  obtain rfl : args = #[v0] := by cases args; simp_all
  have hV1 := hV
  obtain ⟨_, _, _, _, dv, _, rfl, _⟩ := trodVars_one hV
  obtain ⟨a0, len0, cap0, rfl⟩ := okWide_slice Tryd.underlying22 (hval 0 22 v0 rfl rfl)
  have k0 := h0
  have lt0 : ∀ x ∈ p0, x.block < W.heap.size := by obtain ⟨m, hm⟩ := k0; exact DataW.trod_lt m _ _ _ hm
  obtain ⟨z0, w0⟩ : ∃ zs, Mats.IsRows W a0 len0 cap0 zs := by
    obtain ⟨fuel, hf⟩ := h0
    obtain ⟨_, _, _, zs, he, hz⟩ := Mats.open_rows hf
    cases he
    exact ⟨zs, hz⟩
  clear hA0
  refine (walk W a0 len0 cap0 z0 w0 hL hsh).mono fun e W' ⟨he, bel⟩ => ?_
  subst he
  exact ⟨_, rfl, _, _, _, [], _, q, hW', trodAll_mk1 (shut_bool Tryd.underlying4 _), (trodAll_cons_mk (Below.trod laidOut (by kernel_rfl) (of_decide_eq_true (by kernel_rfl)) k0 bel lt0) trodAll_mk0), (Below.trodVars laidOut bel (by kernel_rfl) hV1), bel.frame _, fun h => by cases h⟩

theorem said : Rows.FnExactValidRowsSaid :=
  OpenClaim.holds_of_cond 3 Tryd.f3 rfl rfl rfl rfl rfl rfl rfl ⟨rfl, rfl, rfl, rfl, rfl⟩ rfl rfl rfl rfl rfl (by kernel_rfl) Tryd.func3 (by kernel_rfl)
    (of_decide_eq_true (by kernel_rfl)) (by unfold Func.isWrapper; first | (rw [if_pos (by decide +kernel)]; kernel_rfl) | (rw [if_neg (by decide +kernel)]; exact ⟨rfl, rfl⟩))
    (fun os started H enc _ F => by rw [OpenClaim.pre_eq_preRow]; exact lifted os started H enc F)

theorem plain (f : FuncId) (fn : Func) (hf : Tryd.pinned.checked.prog.funcNamed "loop.example/g00925/laws.FnExactValidRows" = some f) (hfn : Tryd.pinned.checked.prog.funcs[f]? = some fn) :
    true = Tryd.pinned.checked.prog.looks [] ∧ ∀ (j : Nat) t, fn.params[j]? = some t → Tryd.pinned.checked.prog.wantsStandIn t = false := by
  obtain rfl : f = 3 := Option.some.inj ((show Tryd.prog.funcNamed "loop.example/g00925/laws.FnExactValidRows" = some 3 by kernel_rfl).symm.trans hf) |>.symm
  obtain rfl : fn = Tryd.f3 := (Option.some.inj (Tryd.func3.symm.trans hfn)).symm
  refine ⟨by kernel_rfl, fun j t ht => ?_⟩
  rw [Tryd.params3] at ht
  have ht' := Array.mem_of_getElem? ht
  simp at ht'
  obtain rfl : t = 22 := by simpa using ht'
  exact (show Tryd.prog.wantsStandIn 22 = false by kernel_rfl)

/-- The statement: the tied card. -/
theorem card : Rows.FnExactValidRowsCardSaid :=
  Claim7.holds_tied_plain_at .later [] _ _ _ _ said (fun _ h => by cases h) (by kernel_rfl) (fun _ h => by cases h) fnExactValidRows_row_tie rfl ⟨rfl, rfl⟩ (by kernel_rfl) rfl plain (by kernel_rfl)
end Go.Proofs.YtkcjbcllpbojhaaDoor.fnExactValidRows
