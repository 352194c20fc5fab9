/-
  For every site SiteText of the program returns the text that the model returns: the statement FnExactSiteText. Its row lists variables of the library, tied to the text by the card; no other condition.
-/
import Derived.Test.YtbmhhhhodlfcbaaDoorCards
import Derived.Test.YtbmhhhhodlfcbaaDoorTie
import Derived.Test.YtbmhhhhodlfcbaaDoorSite
import Derived.Test.YtbmhhhhodlfcbaaDoorTabs
import Derived.WalkKit
import Derived.ProofKit
import Derived.OpenShut
import Derived.ShutString
import Derived.Below
import Derived.ChangeOld
import Derived.OpenVars
import Derived.ChangeVars
import Derived.Deep.DeepHandedRow
import Derived.Lib.LaidTab
namespace Go.Proofs.YtbmhhhhodlfcbaaDoor.fnExactSiteText
open Go.ChangeShapes Go.WideShapes Go.ChangeAt Go.RowKit
open Go.ChangeMaps (open_string shut_string)
set_option linter.unusedVariables false

theorem own : ownKnob Tryd.prog.godebug = none := by kernel_rfl
theorem laidOut : laidOutB Tryd.prog = true := by kernel_rfl

/-- The walk. -/
theorem walk (w : World) (x0_0 x0_1 : ByteArray) (wx0_0 : x0_0.size ≤ maxLen) (wx0_1 : x0_1.size ≤ maxLen) (x0_2 x0_3 : Int) (wx0_2 : (Lit.int .i64 x0_2).wf = true) (wx0_3 : (Lit.int .i64 x0_3).wf = true) (hL : laidMetH Tryd.prog Rows.fnExactSiteTextRow.laid w) (hsh : w.ShapedOpen Tryd.prog) :
    Calls Tryd.prog 5 #[.agg #[.string x0_0, .string x0_1, .int .i64 x0_2, .int .i64 x0_3]] w fun e w' => e = .returned (.bool true) ∧ Below w.heap.size w w' := by
  have HT := Lib.hid (Tabs.pow10 (W := w) (l := Rows.fnExactSiteTextRow.laid) hL (.tail _ (.tail _ (.head _))))
  clear hL hsh
  have hz := fun w => Site.count x0_0 x0_1 x0_2 x0_3 w wx0_0 wx0_1
  rcases Site.left2_or x0_0.size x0_1.size with hr | ⟨k, hr, q0, q1⟩
  · rw [hr] at hz
    have HZ := Lib.hid hz
    clear hz hr HT
    go_enter Tryd.func5, Tryd.ntmps5
    go_wp2_with fail
    refine (HZ.out _).mono ?_
    rintro e w9 ⟨rfl, h9⟩
    go_wp2_with fail
    go_ret
    exact ⟨rfl, by repeat (first | with_reducible exact On.refl _ | apply On.alloc | apply On.drewN | apply On.drew | refine On.setCell ?_ (by (try simp) <;> omega) _ | refine On.trans ?_ h9)⟩
  · rw [hr] at hz
    have pos : ¬ ((k : Nat) : Int) < 0 := by omega
    have HZ := Lib.hid hz
    have HS := Lib.hid (fun w' => Site.spec_SiteText x0_0 x0_1 x0_2 x0_3 w' q0 q1)
    have HI := Lib.hid (fun w' (ho : On w w') => Site.impl_SiteText x0_0 x0_1 x0_2 x0_3 w' q0 q1 (fun w'' hb => HT.out w'' (On.trans ho hb)))
    clear hz hr wx0_0 wx0_1 wx0_2 wx0_3 q0 q1
    generalize Site.siteT x0_0 x0_1 x0_2 x0_3 = u at *
    go_enter Tryd.func5, Tryd.ntmps5
    go_wp2_with fail
    refine (HZ.out _).mono ?_
    rintro e w1 ⟨rfl, h1⟩
    have K1 : Site.In w1 w.heap.size x0_0 x0_1 x0_2 x0_3 := Site.In.on ⟨by simp [go_sem], by simp [go_sem], by simp [go_sem], by simp [go_sem]⟩ h1
    have HK1 := Lib.hid K1
    have z1 := K1.lt
    obtain ⟨k0, k1, k2, k3⟩ := K1
    have O1 : On w w1 := by repeat (first | with_reducible exact On.refl _ | apply On.alloc | apply On.drewN | apply On.drew | refine On.setCell ?_ (by (try simp) <;> omega) _ | refine On.trans ?_ h1)
    clear h1
    go_wp2_with fail
    refine (Site.copy x0_0 x0_1 x0_2 x0_3 _).mono ?_
    rintro e w2 ⟨rfl, h2⟩
    go_wp2_with fail
    refine (HS.out _).mono ?_
    rintro e w3 ⟨rfl, h3⟩
    have O13 : On w1 w3 := h2.trans h3
    clear h2 h3 k0 k1 k2 k3 z1
    have K3 := HK1.out.on O13
    have z3 := K3.lt
    obtain ⟨k0, k1, k2, k3⟩ := K3
    go_wp2_with fail
    refine (Site.copy x0_0 x0_1 x0_2 x0_3 _).mono ?_
    rintro e w4 ⟨rfl, h4⟩
    have O4 : On w w4 := (O1.trans O13).trans h4
    clear h4 k0 k1 k2 k3 z3
    go_wp2_with fail
    refine (HI.out _ O4).mono ?_
    rintro e w5 ⟨rfl, h5⟩
    go_wp2_with fail
    go_ret
    exact ⟨rfl, O4.trans h5⟩

/-- How many blocks the settled world has. -/
noncomputable def low : Nat := (World.holding Tryd.prog default ⟨#[], #[], []⟩).heap.size
/-- A world for the witness: the settled one, each listed variable holding what the program's text lays. -/
noncomputable def laidWorld (os : Os) : World :=
  let w0 := World.holding Tryd.prog os ⟨#[], #[], []⟩
  let h0 := w0.heap.modify 5 fun
    | .cells _ t frozen => .cells #[.int .u8 0, .int .u8 1, .int .u8 28, .int .u8 2, .int .u8 29, .int .u8 14, .int .u8 24, .int .u8 3, .int .u8 30, .int .u8 22, .int .u8 20, .int .u8 15, .int .u8 25, .int .u8 17, .int .u8 4, .int .u8 8, .int .u8 31, .int .u8 27, .int .u8 13, .int .u8 23, .int .u8 21, .int .u8 19, .int .u8 16, .int .u8 7, .int .u8 26, .int .u8 12, .int .u8 18, .int .u8 6, .int .u8 11, .int .u8 5, .int .u8 10, .int .u8 9] t frozen
    | o => o
  let h1 := h0.modify 6 fun
    | .cells _ t frozen => .cells #[.int .u8 0, .int .u8 1, .int .u8 56, .int .u8 2, .int .u8 57, .int .u8 49, .int .u8 28, .int .u8 3, .int .u8 61, .int .u8 58, .int .u8 42, .int .u8 50, .int .u8 38, .int .u8 29, .int .u8 17, .int .u8 4, .int .u8 62, .int .u8 47, .int .u8 59, .int .u8 36, .int .u8 45, .int .u8 43, .int .u8 51, .int .u8 22, .int .u8 53, .int .u8 39, .int .u8 33, .int .u8 30, .int .u8 24, .int .u8 18, .int .u8 12, .int .u8 5, .int .u8 63, .int .u8 55, .int .u8 48, .int .u8 27, .int .u8 60, .int .u8 41, .int .u8 37, .int .u8 16, .int .u8 46, .int .u8 35, .int .u8 44, .int .u8 21, .int .u8 52, .int .u8 32, .int .u8 23, .int .u8 11, .int .u8 54, .int .u8 26, .int .u8 40, .int .u8 15, .int .u8 34, .int .u8 20, .int .u8 31, .int .u8 10, .int .u8 25, .int .u8 14, .int .u8 19, .int .u8 9, .int .u8 13, .int .u8 8, .int .u8 7, .int .u8 6] t frozen
    | o => o
  let h2 := h1.modify 2 fun
    | .cells _ t frozen => .cells #[.int .u64 1, .int .u64 10, .int .u64 100, .int .u64 1000, .int .u64 10000, .int .u64 100000, .int .u64 1000000, .int .u64 10000000, .int .u64 100000000, .int .u64 1000000000, .int .u64 10000000000, .int .u64 100000000000, .int .u64 1000000000000, .int .u64 10000000000000, .int .u64 100000000000000, .int .u64 1000000000000000, .int .u64 10000000000000000, .int .u64 100000000000000000, .int .u64 1000000000000000000, .int .u64 10000000000000000000] t frozen
    | o => o
  { w0 with heap := h2 }
theorem laid_met (os : Os) : laidMet Tryd.prog Rows.fnExactSiteTextRow.laid ((laidWorld os).forCall (fun _ _ => 0) ⟨#[], #[.agg #[.string ByteArray.empty, .string ByteArray.empty, .int .i64 0, .int .i64 0]], []⟩).memory :=
  laidMet_of_run' 8 (by kernel_rfl) (by kernel_rfl)
theorem witness_row (os : Os) {H : Type} (enc : TypeId × Value → H) :
    (OpenSpec.ofChange Rows.fnExactSiteTextSpec).preRow enc Tryd.prog Tryd.f5 Rows.fnExactSiteTextRow.domain false Rows.fnExactSiteTextRow.laid ((laidWorld os).forCall (fun _ _ => 0) ⟨#[], #[.agg #[.string ByteArray.empty, .string ByteArray.empty, .int .i64 0, .int .i64 0]], []⟩).memory #[.agg #[.string ByteArray.empty, .string ByteArray.empty, .int .i64 0, .int .i64 0]] := by
  have hw : (DataW.whole enc Tryd.prog ((laidWorld os).forCall (fun _ _ => 0) ⟨#[], #[.agg #[.string ByteArray.empty, .string ByteArray.empty, .int .i64 0, .int .i64 0]], []⟩).memory Tryd.f5.params.toList Rows.fnExactSiteTextSpec.vars false (#[.agg #[.string ByteArray.empty, .string ByteArray.empty, .int .i64 0, .int .i64 0]] : Array Value).toList 8).map (fun x => (x.1, x.2.1)) = some ([.agg [.lit (.string []), .lit (.string []), .agg [.lit (.int .i64 0), .lit (.int .i64 0)]]], []) := by kernel_rfl
  obtain ⟨⟨x1, x2, x3⟩, hx, hx1⟩ := Option.map_eq_some_iff.1 hw
  simp only [Prod.mk.injEq] at hx1
  obtain ⟨rfl, rfl⟩ := hx1
  exact OpenSpec.preRow_of_cond 8 hx (by kernel_rfl) (fun k hk => by cases hk) (by kernel_rfl) (laid_met os)

set_option maxRecDepth 100000 in
/-- The row's step. -/
theorem lifted (os : Os) (started : os.Started) (H : Type) (enc : TypeId × Value → H) (F : Stop.Interp) :
    ReturnsInHanded {} Tryd.checked os 5 .any ((OpenSpec.ofChange Rows.fnExactSiteTextSpec).preRow enc Tryd.prog Tryd.f5 Rows.fnExactSiteTextRow.domain false Rows.fnExactSiteTextRow.laid) (((OpenSpec.ofChange Rows.fnExactSiteTextSpec).at F).post enc Tryd.prog Tryd.f5 false true false false) := by
  refine returnsInHanded_of_row (C := Tryd.checked) (s := OpenSpec.ofChange Rows.fnExactSiteTextSpec) own started (by kernel_rfl) Tryd.func5
    (witness_row_at (enc := enc) (C := Tryd.checked) false (laidWorld os) #[.agg #[.string ByteArray.empty, .string ByteArray.empty, .int .i64 0, .int .i64 0]] rfl (by kernel_rfl) (by kernel_rfl) (by kernel_rfl) (witness_row os enc)) ?_
  intro W base args ds gs before hval hW _ _ _ hL hsh _
  have hW' := hW
  obtain ⟨p, q, hA0, hV, rfl, hfz, hnd⟩ := hW
  have hA : DataW.TrodAll enc Tryd.prog W 0 (fun _ => true) true Tryd.f5.params.toList args.toList ds p := hA0
  rw [Tryd.params5] at hA hval
  obtain ⟨v0, vs0, d0, ds0, p0, q0, hargs, rfl, rfl, h0, r0⟩ := trodAll_cons hA
  obtain ⟨rfl, rfl, rfl⟩ := trodAll_nil r0
  obtain rfl : args = #[v0] := by cases args; simp_all
  obtain ⟨rfl, rfl⟩ := trodVars_none hV
  have k0 := h0
  have lt0 : ∀ x ∈ p0, x.block < W.heap.size := by obtain ⟨m, hm⟩ := k0; exact DataW.trod_lt m _ _ _ hm
  obtain ⟨c0_0, c0_1, c0_2, c0_3, d0_0, d0_1, d0_2, d0_3, n0, m0, rfl, e0_0, e0_1, e0_2, e0_3⟩ := SiteIn.open_site Tryd.underlying36 Tryd.underlying34 (by kernel_rfl) (by kernel_rfl) (by kernel_rfl) (hval 0 36 v0 rfl rfl) h0
  obtain ⟨x0_0, g0_0, -, wx0_0⟩ := DataW.trod_string Tryd.underlying9 e0_0
  obtain ⟨x0_1, g0_1, -, wx0_1⟩ := DataW.trod_string Tryd.underlying9 e0_1
  obtain ⟨x0_2, g0_2, -, wx0_2⟩ := DataW.trod_int Tryd.underlying2 e0_2
  obtain ⟨x0_3, g0_3, -, wx0_3⟩ := DataW.trod_int Tryd.underlying2 e0_3
  obtain rfl : c0_0 = .string x0_0 := by simpa using g0_0
  obtain rfl : c0_1 = .string x0_1 := by simpa using g0_1
  obtain rfl : c0_2 = .int .i64 x0_2 := by simpa using g0_2
  obtain rfl : c0_3 = .int .i64 x0_3 := by simpa using g0_3
  clear hA0
  refine (walk W x0_0 x0_1 wx0_0 wx0_1 x0_2 x0_3 wx0_2 wx0_3 hL hsh).mono fun e W' ⟨he, bel⟩ => ?_
  subst he
  exact ⟨_, rfl, _, _, _, [], _, [], hW', trodAll_mk1 (shut_bool Tryd.underlying4 _), (trodAll_cons_mk (Below.trod laidOut (by kernel_rfl) (of_decide_eq_true (by kernel_rfl)) k0 bel lt0) trodAll_mk0), rfl, bel.frame _, fun h => by cases h⟩

theorem said : Rows.FnExactSiteTextSaid :=
  OpenClaim.holds_of_cond 5 Tryd.f5 rfl rfl rfl rfl rfl rfl rfl ⟨rfl, rfl, rfl, rfl, rfl⟩ rfl rfl rfl rfl rfl (by kernel_rfl) Tryd.func5 (by kernel_rfl)
    (of_decide_eq_true (by kernel_rfl)) (by unfold Func.isWrapper; first | (rw [if_pos (by decide +kernel)]; kernel_rfl) | (rw [if_neg (by decide +kernel)]; exact ⟨rfl, rfl⟩))
    (fun os started H enc _ F => by rw [OpenClaim.pre_eq_preRow]; exact lifted os started H enc F)

theorem plain (f : FuncId) (fn : Func) (hf : Tryd.pinned.checked.prog.funcNamed "loop.example/g00925/laws.FnExactSiteText" = some f) (hfn : Tryd.pinned.checked.prog.funcs[f]? = some fn) :
    true = Tryd.pinned.checked.prog.looks [] ∧ ∀ (j : Nat) t, fn.params[j]? = some t → Tryd.pinned.checked.prog.wantsStandIn t = false := by
  obtain rfl : f = 5 := Option.some.inj ((show Tryd.prog.funcNamed "loop.example/g00925/laws.FnExactSiteText" = some 5 by kernel_rfl).symm.trans hf) |>.symm
  obtain rfl : fn = Tryd.f5 := (Option.some.inj (Tryd.func5.symm.trans hfn)).symm
  refine ⟨by kernel_rfl, fun j t ht => ?_⟩
  rw [Tryd.params5] at ht
  have ht' := Array.mem_of_getElem? ht
  simp at ht'
  obtain rfl : t = 36 := by simpa using ht'
  exact (show Tryd.prog.wantsStandIn 36 = false by kernel_rfl)

/-- The statement: the tied card. -/
theorem card : Rows.FnExactSiteTextCardSaid :=
  Claim7.holds_tied_plain_at .later [] _ _ _ _ said (fun _ h => by cases h) (by kernel_rfl) (fun _ h => by cases h) fnExactSiteText_row_tie rfl ⟨rfl, rfl⟩ (by kernel_rfl) rfl plain (by kernel_rfl)
end Go.Proofs.YtbmhhhhodlfcbaaDoor.fnExactSiteText
