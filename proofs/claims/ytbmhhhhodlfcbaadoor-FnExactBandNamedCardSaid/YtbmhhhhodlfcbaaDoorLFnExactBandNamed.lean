/-
  For every list of bands and every name BandNamed of the program returns what the model returns, and leaves the list as it was: the statement FnExactBandNamed. Its row lists the program's variable of spans, tied to the text by the card; no other condition.
-/
import Derived.Test.YtbmhhhhodlfcbaaDoorCards
import Derived.Test.YtbmhhhhodlfcbaaDoorTie
import Derived.Test.YtbmhhhhodlfcbaaDoorBndsN
import Derived.Test.YtbmhhhhodlfcbaaDoorSpanTab
import Derived.WalkKit
import Derived.ProofKit
import Derived.OpenShut
import Derived.ShutString
import Derived.Below
import Derived.ChangeOld
import Derived.OpenVars
import Derived.ChangeVars
import Derived.Deep.DeepHandedRow
import Derived.Lib.LaidTab
namespace Go.Proofs.YtbmhhhhodlfcbaaDoor.fnExactBandNamed
open Go.ChangeShapes Go.WideShapes Go.ChangeAt Go.RowKit
open Go.ChangeMaps (open_string shut_string)
set_option linter.unusedVariables false

theorem own : ownKnob Tryd.prog.godebug = none := by kernel_rfl
theorem laidOut : laidOutB Tryd.prog = true := by kernel_rfl

/-- The walk. -/
theorem walk (w : World) (a0 : Option Addr) (len0 cap0 : Nat) (z0 : List Bnds.B5) (w0 : Bnds.IsRows w a0 len0 cap0 z0) (a1 : ByteArray) (w1 : a1.size ≤ maxLen) (hL : laidMetH Tryd.prog Rows.fnExactBandNamedRow.laid w) (hsh : w.ShapedOpen Tryd.prog) :
    Calls Tryd.prog 10 #[.slice a0 len0 cap0, .string a1] w fun e w' => e = .returned (.bool true) ∧ Below w.heap.size w w' := by
  have HT := Lib.hid (SpanTab.spanG (W := w) (l := Rows.fnExactBandNamedRow.laid) hL (.head _))
  clear hL hsh
  unfold maxLen at w1
  obtain ⟨hR, hlen, hml, hnm⟩ := Bnds.Rows.of_arg w0
  obtain ⟨zs, hzs⟩ : ∃ z, z = z0.take len0 := ⟨_, rfl⟩
  rw [← hzs] at hR hlen hnm
  clear hzs w0
  subst hlen
  by_cases hl : 1048576 < a1.size
  · clear hR hml hnm HT w1
    go_enter Tryd.func10, Tryd.ntmps10
    go_wp2
    go_ret
    exact ⟨rfl, Below.refl _ _⟩
  · have HZ := Lib.hid (fun w' (ho : On w w') => Bnds.szS _ zs w' hml hnm (hR.below ho))
    have HR0 := Lib.hid hR
    clear hR hml hnm w1
    go_enter Tryd.func10, Tryd.ntmps10
    go_wp2_with fail
    refine (HZ.out _ (On.refl _)).mono ?_
    rintro e w1 ⟨r, rfl, h1, hr⟩
    rcases hr with hr | ⟨hr, hn, hs⟩
    · go_wp2_with fail
      go_ret
      exact ⟨rfl, h1⟩
    · have hr' : ¬ r < 0 := by omega
      have HS := Lib.hid hs
      clear hs HZ
      go_wp2_with fail
      refine (Bnds.copyS _ zs _ hn (HR0.out.below h1)).mono ?_
      rintro e w2 ⟨a2, c2, rfl, hr2, h2⟩
      go_wp2_with fail
      refine (Bnds.spec_BandNamed _ a1 zs _ hn HS.out hr2).mono ?_
      rintro e w3 ⟨⟨x, l, h, rr, d⟩, c, rfl, hN, h3⟩
      have O3 := Lib.hid (show On w w3 from (h1.trans h2).trans h3)
      have HN := Lib.hid hN
      clear h1 h2 h3 hr2 hN
      simp only [Bnds.valB]
      go_wp2_with fail
      refine (Bnds.copyS _ zs _ hn (HR0.out.below (by repeat (first | with_reducible exact On.refl _ | with_reducible apply On.alloc | with_reducible apply On.drewN | with_reducible apply On.drew | with_reducible refine On.setCell ?_ (by (try simp) <;> omega) _ | refine On.trans ?_ O3.out)))).mono ?_
      rintro e w4 ⟨a4, c4, rfl, hr4, h4⟩
      have HA4 := Lib.hid (show Bnd.In w4 w3.heap.size x l h rr d from Bnd.In.on ⟨by simp [go_sem], by simp [go_sem], by simp [go_sem], by simp [go_sem], by simp [go_sem]⟩ h4)
      have O4 := Lib.hid (show On w w4 by repeat (first | with_reducible exact On.refl _ | with_reducible apply On.alloc | with_reducible apply On.drewN | with_reducible apply On.drew | with_reducible refine On.setCell ?_ (by (try simp) <;> omega) _ | refine On.trans ?_ h4 | refine On.trans ?_ O3.out))
      have HR4 := Lib.hid hr4
      clear h4 hr4
      go_wp2_with fail
      refine (Bnds.impl_BandNamed _ a1 zs _ hn HS.out (HT.out.on O4.out) HR4.out).mono ?_
      rintro e w5 ⟨⟨x2, l2, h2, rr2, d2⟩, c2, rfl, hN2, h5⟩
      obtain ⟨hz, hc⟩ := HN.out.same hN2
      simp only [Prod.mk.injEq] at hz
      obtain ⟨rfl, rfl, rfl, rfl, rfl⟩ := hz
      subst hc
      have HA5 := Lib.hid (HA4.out.on h5)
      have HR5 := Lib.hid (HR4.out.below h5)
      have O5 := Lib.hid (O4.out.trans h5)
      have z5 := HA5.out.lt
      obtain ⟨p0, p1, p2, p3, p4⟩ := HA5.out
      clear h5 hN2 HN
      have hcc : (c != c) = false := bne_self_eq_false _
      simp only [Bnds.valB]
      go_wp2_with fail
      refine (Bnd.eq x l h rr d _).mono ?_
      rintro e w6 ⟨rfl, h6⟩
      have O6 := Lib.hid (show On w w6 by repeat (first | with_reducible exact On.refl _ | with_reducible apply On.alloc | with_reducible apply On.drewN | with_reducible apply On.drew | with_reducible refine On.setCell ?_ (by (try simp) <;> omega) _ | refine On.trans ?_ h6 | refine On.trans ?_ O5.out))
      have HR6 := Lib.hid (HR5.out.below (show On w5 w6 by repeat (first | with_reducible exact On.refl _ | with_reducible apply On.alloc | with_reducible apply On.drewN | with_reducible apply On.drew | with_reducible refine On.setCell ?_ (by (try simp) <;> omega) _ | refine On.trans ?_ h6)))
      clear h6 p0 p1 p2 p3 p4
      go_wp2_with fail
      refine (Bnds.copyS _ zs _ hn (HR0.out.below O6.out)).mono ?_
      rintro e w7 ⟨a7, c7, rfl, hr7, h7⟩
      have HR7 := Lib.hid (HR6.out.below h7)
      go_wp2_with fail
      refine (Bnds.eqS _ _ zs _ hn HR7.out hr7).mono ?_
      rintro e w8 ⟨rfl, h8⟩
      go_wp2_with fail
      go_ret
      exact ⟨rfl, (O6.out.trans h7).trans h8⟩

/-- How many blocks the settled world has. -/
noncomputable def low : Nat := (World.holding Tryd.prog default ⟨#[], #[], []⟩).heap.size
/-- A world for the witness: the settled one, each listed variable holding what the program's text lays. -/
noncomputable def laidWorld (os : Os) : World :=
  let w0 := World.holding Tryd.prog os ⟨#[], #[], []⟩
  let h0 := w0.heap.modify 0 fun
    | .cells _ t frozen => .cells #[.int .i64 1, .int .i64 100000000, .int .i64 1, .int .i64 283000, .int .i64 (-300000), .int .i64 300000, .int .i64 (-300000), .int .i64 300000, .int .i64 0, .int .i64 300000, .int .i64 1, .int .i64 100000, .int .i64 0, .int .i64 7, .int .i64 0, .int .i64 90000, .int .i64 0, .int .i64 200, .int .i64 0, .int .i64 1000, .int .i64 1, .int .i64 10000, .int .i64 1, .int .i64 20, .int .i64 0, .int .i64 1000000, .int .i64 25, .int .i64 400, .int .i64 0, .int .i64 100000] t frozen
    | o => o
  { w0 with heap := h0 }
theorem laid_met (os : Os) : laidMet Tryd.prog Rows.fnExactBandNamedRow.laid ((laidWorld os).forCall (fun _ _ => 0) ⟨#[], #[.slice none 0 0, .string ByteArray.empty], []⟩).memory :=
  laidMet_of_run' 8 (by kernel_rfl) (by kernel_rfl)
theorem witness_row (os : Os) {H : Type} (enc : TypeId × Value → H) :
    (OpenSpec.ofChange Rows.fnExactBandNamedSpec).preRow enc Tryd.prog Tryd.f10 Rows.fnExactBandNamedRow.domain false Rows.fnExactBandNamedRow.laid ((laidWorld os).forCall (fun _ _ => 0) ⟨#[], #[.slice none 0 0, .string ByteArray.empty], []⟩).memory #[.slice none 0 0, .string ByteArray.empty] := by
  have hw : (DataW.whole enc Tryd.prog ((laidWorld os).forCall (fun _ _ => 0) ⟨#[], #[.slice none 0 0, .string ByteArray.empty], []⟩).memory Tryd.f10.params.toList Rows.fnExactBandNamedSpec.vars false (#[.slice none 0 0, .string ByteArray.empty] : Array Value).toList 8).map (fun x => (x.1, x.2.1)) = some ([.nil, .lit (.string [])], [Rows.laid_loop_example_g00925_impl_quantitySpans]) := by kernel_rfl
  obtain ⟨⟨x1, x2, x3⟩, hx, hx1⟩ := Option.map_eq_some_iff.1 hw
  simp only [Prod.mk.injEq] at hx1
  obtain ⟨rfl, rfl⟩ := hx1
  exact OpenSpec.preRow_of_cond 8 hx (by kernel_rfl) (fun k hk => by cases hk) (by kernel_rfl) (laid_met os)

set_option maxRecDepth 100000 in
/-- The row's step. -/
theorem lifted (os : Os) (started : os.Started) (H : Type) (enc : TypeId × Value → H) (F : Stop.Interp) :
    ReturnsInHanded {} Tryd.checked os 10 .any ((OpenSpec.ofChange Rows.fnExactBandNamedSpec).preRow enc Tryd.prog Tryd.f10 Rows.fnExactBandNamedRow.domain false Rows.fnExactBandNamedRow.laid) (((OpenSpec.ofChange Rows.fnExactBandNamedSpec).at F).post enc Tryd.prog Tryd.f10 false true false false) := by
  refine returnsInHanded_of_row (C := Tryd.checked) (s := OpenSpec.ofChange Rows.fnExactBandNamedSpec) own started (by kernel_rfl) Tryd.func10
    (witness_row_at (enc := enc) (C := Tryd.checked) false (laidWorld os) #[.slice none 0 0, .string ByteArray.empty] rfl (by kernel_rfl) (by kernel_rfl) (by kernel_rfl) (witness_row os enc)) ?_
  intro W base args ds gs before hval hW _ _ _ hL hsh _
  have hW' := hW
  obtain ⟨p, q, hA0, hV, rfl, hfz, hnd⟩ := hW
  have hA : DataW.TrodAll enc Tryd.prog W 0 (fun _ => true) true Tryd.f10.params.toList args.toList ds p := hA0
  rw [Tryd.params10] at hA hval
  obtain ⟨v0, vs0, d0, ds0, p0, q0, hargs, rfl, rfl, h0, r0⟩ := trodAll_cons hA
  obtain ⟨v1, vs1, d1, ds1, p1, q1, rfl, rfl, rfl, h1, r1⟩ := trodAll_cons r0
  obtain ⟨rfl, rfl, rfl⟩ := trodAll_nil r1
  obtain rfl : args = #[v0, v1] := by cases args; simp_all
  have hV1 := hV
  obtain ⟨_, _, _, _, dv, _, rfl, _⟩ := trodVars_one hV
  obtain ⟨a0, len0, cap0, rfl⟩ := okWide_slice Tryd.underlying57 (hval 0 57 v0 rfl rfl)
  have k0 := h0
  have lt0 : ∀ x ∈ p0, x.block < W.heap.size := by obtain ⟨m, hm⟩ := k0; exact DataW.trod_lt m _ _ _ hm
  obtain ⟨z0, w0⟩ : ∃ zs, Bnds.IsRows W a0 len0 cap0 zs := by
    obtain ⟨fuel, hf⟩ := h0
    obtain ⟨_, _, _, zs, he, hz⟩ := Bnds.open_rows hf
    cases he
    exact ⟨zs, hz⟩
  obtain ⟨a1, rfl, rfl, rfl, w1⟩ := open_string Tryd.underlying9 (hval 1 9 v1 rfl rfl) h1
  clear hA0
  refine (walk W a0 len0 cap0 z0 w0 a1 w1 hL hsh).mono fun e W' ⟨he, bel⟩ => ?_
  subst he
  exact ⟨_, rfl, _, _, _, [], _, q, hW', trodAll_mk1 (shut_bool Tryd.underlying4 _), (trodAll_cons_mk (Below.trod laidOut (by kernel_rfl) (of_decide_eq_true (by kernel_rfl)) k0 bel lt0) (trodAll_cons_mk (shut_string Tryd.underlying9 w1) trodAll_mk0)), (Below.trodVars laidOut bel (by kernel_rfl) hV1), bel.frame _, fun h => by cases h⟩

theorem said : Rows.FnExactBandNamedSaid :=
  OpenClaim.holds_of_cond 10 Tryd.f10 rfl rfl rfl rfl rfl rfl rfl ⟨rfl, rfl, rfl, rfl, rfl⟩ rfl rfl rfl rfl rfl (by kernel_rfl) Tryd.func10 (by kernel_rfl)
    (of_decide_eq_true (by kernel_rfl)) (by unfold Func.isWrapper; first | (rw [if_pos (by decide +kernel)]; kernel_rfl) | (rw [if_neg (by decide +kernel)]; exact ⟨rfl, rfl⟩))
    (fun os started H enc _ F => by rw [OpenClaim.pre_eq_preRow]; exact lifted os started H enc F)

theorem plain (f : FuncId) (fn : Func) (hf : Tryd.pinned.checked.prog.funcNamed "loop.example/g00925/laws.FnExactBandNamed" = some f) (hfn : Tryd.pinned.checked.prog.funcs[f]? = some fn) :
    true = Tryd.pinned.checked.prog.looks [] ∧ ∀ (j : Nat) t, fn.params[j]? = some t → Tryd.pinned.checked.prog.wantsStandIn t = false := by
  obtain rfl : f = 10 := Option.some.inj ((show Tryd.prog.funcNamed "loop.example/g00925/laws.FnExactBandNamed" = some 10 by kernel_rfl).symm.trans hf) |>.symm
  obtain rfl : fn = Tryd.f10 := (Option.some.inj (Tryd.func10.symm.trans hfn)).symm
  refine ⟨by kernel_rfl, fun j t ht => ?_⟩
  rw [Tryd.params10] at ht
  have ht' := Array.mem_of_getElem? ht
  simp at ht'
  have s57 : Tryd.pinned.checked.prog.wantsStandIn 57 = false := (show Tryd.prog.wantsStandIn 57 = false by kernel_rfl)
  have s9 : Tryd.pinned.checked.prog.wantsStandIn 9 = false := (show Tryd.prog.wantsStandIn 9 = false by kernel_rfl)
  first | (rcases ht' with rfl | rfl <;> first | with_reducible exact s57 | with_reducible exact s9)

/-- The statement: the tied card. -/
theorem card : Rows.FnExactBandNamedCardSaid :=
  Claim7.holds_tied_plain_at .later [] _ _ _ _ said (fun _ h => by cases h) (by kernel_rfl) (fun _ h => by cases h) fnExactBandNamed_row_tie rfl ⟨rfl, rfl⟩ (by kernel_rfl) rfl plain (by kernel_rfl)
end Go.Proofs.YtbmhhhhodlfcbaaDoor.fnExactBandNamed
