/-
  For all numbers and all lists of classes and heights LossesOf of the program returns what the model returns, in every field, and leaves the lists alone: the statement FnExactLossesOf, as a card. Its row lists the program's variables of spans and of surroundings, tied to the text by the card; no other condition (a list of more than 1048576 numbers is let pass by the statement itself).
-/
import Derived.Test.YtigbbhohgeemdaaDoorCards
import Derived.Test.YtigbbhohgeemdaaDoorTie
import Derived.Test.YtigbbhohgeemdaaDoorLossEq
import Derived.Test.YtigbbhohgeemdaaDoorSpanTab
import Derived.Test.YtigbbhohgeemdaaDoorSurrTab
import Derived.WalkKit
import Derived.ProofKit
import Derived.OpenShut
import Derived.ShutString
import Derived.Below
import Derived.ChangeOld
import Derived.OpenVars
import Derived.ChangeVars
import Derived.Deep.DeepHandedRow
import Derived.Lib.LaidTab
namespace Go.Proofs.YtigbbhohgeemdaaDoor.fnExactLossesOf
open Go.ChangeShapes Go.WideShapes Go.ChangeAt Go.RowKit
open Go.ChangeMaps (open_string shut_string)
set_option linter.unusedVariables false

theorem own : ownKnob Tryd.prog.godebug = none := by kernel_rfl
theorem laidOut : laidOutB Tryd.prog = true := by kernel_rfl

/-- What the walk is told of a slice of integers that came in: it is nil; or it leads to a row of 'cap' cells, the numbers 'zs' (the first 'len' are its elements), each fitting its kind. -/
def IsRow (k : IntKind) (w : World) (a : Option Addr) (len cap : Nat) (zs : List Int) : Prop :=
  (a = none ∧ len = 0 ∧ cap = 0 ∧ zs = []) ∨
  ∃ x, a = some x ∧ len ≤ cap ∧ cap ≤ maxLen ∧ zs.length = cap ∧ (∀ i, i < zs.length → w.cell? (x.add i) = some (.int k (zs.getD i 0))) ∧ ∀ n ∈ zs, (Lit.int k n).wf = true

/-- The walk. -/
theorem walk (w : World) (a0 : Int) (w0 : (Lit.int .i64 a0).wf = true) (a1 : Int) (w1 : (Lit.int .i64 a1).wf = true) (a2 : Int) (w2 : (Lit.int .i64 a2).wf = true) (a3 : Option Addr) (len3 cap3 : Nat) (z3 : List Int) (w3 : IsRow .i64 w a3 len3 cap3 z3) (a4 : Option Addr) (len4 cap4 : Nat) (z4 : List Int) (w4 : IsRow .i64 w a4 len4 cap4 z4) (hL : laidMetH Tryd.prog Rows.fnExactLossesOfRow.laid w) (hsh : w.ShapedOpen Tryd.prog) :
    Calls Tryd.prog 11 #[.int .i64 a0, .int .i64 a1, .int .i64 a2, .slice a3 len3 cap3, .slice a4 len4 cap4] w fun e w' => e = .returned (.bool true) ∧ Below w.heap.size w w' := by
  have HT := Lib.hid (SpanTab.spanG (W := w) (l := Rows.fnExactLossesOfRow.laid) hL (.head _))
  have HU := Lib.hid (SurrTab.surrG (W := w) (l := Rows.fnExactLossesOfRow.laid) hL (.tail _ (.head _)))
  clear hL hsh
  obtain ⟨hi, hlen⟩ := Ints.Ints.of_arg w3
  obtain ⟨hj, hlej⟩ := Ints.Ints.of_arg w4
  clear w0 w1 w2 w3 w4
  by_cases hl : 1048576 < len3
  · clear hi hlen hj hlej
    have hl2 : (1048576 : Int) < len3 := by omega
    go_enter Tryd.func11, Tryd.ntmps11
    go_wp2
    go_ret
    exact ⟨rfl, Below.refl _ _⟩
  · have hl2 : ¬ (1048576 : Int) < len3 := by omega
    by_cases hk : 1048576 < len4
    · clear hi hlen hj hlej
      have hk2 : (1048576 : Int) < len4 := by omega
      go_enter Tryd.func11, Tryd.ntmps11
      go_wp2
      go_ret
      exact ⟨rfl, Below.refl _ _⟩
    · have hk2 : ¬ (1048576 : Int) < len4 := by omega
      have hn : (z3.take len3).length ≤ 1048576 := by omega
      have hm : (z4.take len4).length ≤ 1048576 := by omega
      obtain ⟨zs, hzs⟩ : ∃ zs, zs = z3.take len3 := ⟨_, rfl⟩
      obtain ⟨hs, hhs⟩ : ∃ hs, hs = z4.take len4 := ⟨_, rfl⟩
      rw [← hzs] at hi hn
      rw [← hhs] at hj hm
      have HI := Lib.hid hi
      have HJ := Lib.hid hj
      clear hi hj hlen hlej hl hk hzs hhs
      obtain ⟨F, G, R, K, T, C, hres⟩ := Losses.res_parts a0 a1 a2 zs hs
      have HS := Lib.hid (fun (v0 v1 : Value) w' (h0 : Ints.Ints w' v0 zs) (h1 : Ints.Ints w' v1 hs) => Losses.spec_losses a0 a1 a2 v0 v1 zs hs w' h0 h1)
      have HP := Lib.hid (fun (v0 v1 : Value) w' (ho : On w w') (h0 : Ints.Ints w' v0 zs) (h1 : Ints.Ints w' v1 hs) => Losses.impl_losses a0 a1 a2 v0 v1 zs hs w' h0 h1 (HT.out.on ho) (HU.out.on ho))
      rw [hres] at HS HP
      have hco : (C != C) = false := bne_self_eq_false C
      clear hres HT HU
      go_enter Tryd.func11, Tryd.ntmps11
      go_wp2_with fail
      refine (Ints.copy _ zs _ hn HI.out).mono ?_
      rintro e w1 ⟨v1, rfl, hi1, hb1⟩
      have H1 := Lib.hid hi1
      have B1 := Lib.hid (show On w w1 from hb1)
      clear hi1 hb1
      go_wp2_with fail
      refine (Ints.copy _ hs _ hm (HJ.out.below B1.out)).mono ?_
      rintro e w2 ⟨v2, rfl, hi2, hb2⟩
      have H2 := Lib.hid hi2
      have G1 := Lib.hid (H1.out.below hb2)
      have B2 := Lib.hid (On.trans B1.out hb2)
      clear hi2 hb2 H1 B1
      go_wp2_with fail
      refine (HS.out _ _ _ G1.out H2.out).mono ?_
      rintro e w3 ⟨rfl, hb3⟩
      have B3 := Lib.hid (On.trans B2.out hb3)
      clear hb3 H2 G1 B2
      go_wp2_with fail
      refine (Ints.copy _ zs _ hn (HI.out.below (On.alloc B3.out _))).mono ?_
      rintro e w4 ⟨v3, rfl, hi4, hb4⟩
      have H4 := Lib.hid hi4
      have K4 := Lib.hid (show On _ w4 from hb4)
      have B4 := Lib.hid (On.trans (On.alloc B3.out _) K4.out)
      clear hi4 hb4
      go_wp2_with fail
      refine (Ints.copy _ hs _ hm (HJ.out.below B4.out)).mono ?_
      rintro e w5 ⟨v4, rfl, hi5, hb5⟩
      have H5 := Lib.hid hi5
      have G4 := Lib.hid (H4.out.below hb5)
      have K5 := Lib.hid (On.trans K4.out hb5)
      have B5 := Lib.hid (On.trans B4.out hb5)
      clear hi5 hb5 H4 K4 B4
      go_wp2_with fail
      refine (HP.out _ _ _ B5.out G4.out H5.out).mono ?_
      rintro e w6 ⟨rfl, hb6⟩
      have H6 := Lib.hid (H5.out.below hb6)
      have G6 := Lib.hid (G4.out.below hb6)
      have K6 := Lib.hid (On.trans K5.out hb6)
      have B6 := Lib.hid (On.trans B5.out hb6)
      clear hb6 H5 G4 K5 B5
      have sp : w3.heap.size < w6.heap.size := by have := K6.out.size; (try simp at this); omega
      have np : w3.heap.size ≠ w6.heap.size := Nat.ne_of_lt sp
      have p0 : w6.cell? ⟨w3.heap.size, 0, none⟩ = some (.int .i64 F) := (K6.out.cell (by simp)).trans (by simp [go_sem])
      have p1 : w6.cell? ⟨w3.heap.size, 1, none⟩ = some (.int .i64 G) := (K6.out.cell (by simp)).trans (by simp [go_sem])
      have p2 : w6.cell? ⟨w3.heap.size, 2, none⟩ = some (.int .i64 R) := (K6.out.cell (by simp)).trans (by simp [go_sem])
      have p3 : w6.cell? ⟨w3.heap.size, 3, none⟩ = some (.int .i64 K) := (K6.out.cell (by simp)).trans (by simp [go_sem])
      have p4 : w6.cell? ⟨w3.heap.size, 4, none⟩ = some (.int .i64 T) := (K6.out.cell (by simp)).trans (by simp [go_sem])
      go_wp2_with fail
      refine (Losses.eq_same F G R K T _).mono ?_
      rintro e w7 ⟨rfl, hb7⟩
      have O7 := Lib.hid (On.trans (On.alloc (On.refl _) _) hb7)
      have H7 := Lib.hid (H6.out.below O7.out)
      have G7 := Lib.hid (G6.out.below O7.out)
      have B7 := Lib.hid (On.trans B6.out O7.out)
      clear hb7 H6 G6 B6 O7 p0 p1 p2 p3 p4 sp np K6
      go_wp2_with fail
      refine (Ints.copy _ zs _ hn (HI.out.below B7.out)).mono ?_
      rintro e w8 ⟨v8, rfl, hi8, hb8⟩
      have H8 := Lib.hid hi8
      have G8 := Lib.hid (G7.out.below hb8)
      have J8 := Lib.hid (H7.out.below hb8)
      have B8 := Lib.hid (On.trans B7.out hb8)
      clear hi8 hb8 H7 G7 B7
      go_wp2_with fail
      refine (Ints.eq _ _ zs _ hn G8.out H8.out).mono ?_
      rintro e w9 ⟨rfl, n9, hw9⟩
      have h9 : On w8 w9 := by rw [hw9]; exact Ints.below_drewN _ _
      have J9 := Lib.hid (J8.out.below h9)
      have B9 := Lib.hid (On.trans B8.out h9)
      clear hw9 h9 H8 G8 J8 B8
      go_wp2_with fail
      refine (Ints.copy _ hs _ hm (HJ.out.below B9.out)).mono ?_
      rintro e wa ⟨va, rfl, hia, hba⟩
      have HA := Lib.hid hia
      have JA := Lib.hid (J9.out.below hba)
      have BA := Lib.hid (On.trans B9.out hba)
      clear hia hba J9 B9
      go_wp2_with fail
      refine (Ints.eq _ _ hs _ hm JA.out HA.out).mono ?_
      rintro e wb ⟨rfl, nb, hwb⟩
      have hb : On wa wb := by rw [hwb]; exact Ints.below_drewN _ _
      have BB := Lib.hid (On.trans BA.out hb)
      clear hwb hb HA JA BA
      go_wp2_with fail
      go_ret
      exact ⟨rfl, BB.out⟩

/-- How many blocks the settled world has. -/
noncomputable def low : Nat := (World.holding Tryd.prog default ⟨#[], #[], []⟩).heap.size
/-- A world for the witness: the settled one, each listed variable holding what the program's text lays. -/
noncomputable def laidWorld (os : Os) : World :=
  let w0 := World.holding Tryd.prog os ⟨#[], #[], []⟩
  let h0 := w0.heap.modify 1 fun
    | .cells _ t frozen => .cells #[.int .i64 1, .int .i64 100000000, .int .i64 1, .int .i64 283000, .int .i64 (-300000), .int .i64 300000, .int .i64 (-300000), .int .i64 300000, .int .i64 0, .int .i64 300000, .int .i64 1, .int .i64 100000, .int .i64 0, .int .i64 7, .int .i64 0, .int .i64 90000, .int .i64 0, .int .i64 200, .int .i64 0, .int .i64 1000, .int .i64 1, .int .i64 10000, .int .i64 1, .int .i64 20, .int .i64 0, .int .i64 1000000, .int .i64 25, .int .i64 400, .int .i64 0, .int .i64 100000] t frozen
    | o => o
  let h1 := h0.modify 0 fun
    | .cells _ t frozen => .cells #[.string ⟨#[111, 112, 101, 110]⟩, .int .i64 0, .int .i64 0, .string ⟨#[102, 105, 101, 108, 100]⟩, .int .i64 20, .int .i64 1000, .string ⟨#[119, 97, 116, 101, 114]⟩, .int .i64 10, .int .i64 500, .string ⟨#[116, 114, 101, 101, 115]⟩, .int .i64 120, .int .i64 12000, .string ⟨#[118, 105, 108, 108, 97, 103, 101]⟩, .int .i64 70, .int .i64 8000, .string ⟨#[115, 117, 98, 117, 114, 98]⟩, .int .i64 90, .int .i64 10000, .string ⟨#[116, 111, 119, 110]⟩, .int .i64 160, .int .i64 16000, .string ⟨#[99, 105, 116, 121]⟩, .int .i64 240, .int .i64 20000] t frozen
    | o => o
  { w0 with heap := h1 }
theorem laid_met (os : Os) : laidMet Tryd.prog Rows.fnExactLossesOfRow.laid ((laidWorld os).forCall (fun _ _ => 0) ⟨#[], #[.int .i64 0, .int .i64 0, .int .i64 0, .slice none 0 0, .slice none 0 0], []⟩).memory :=
  laidMet_of_run' 8 (by kernel_rfl) (by kernel_rfl)
theorem witness_row (os : Os) {H : Type} (enc : TypeId × Value → H) :
    (OpenSpec.ofChange Rows.fnExactLossesOfSpec).preRow enc Tryd.prog Tryd.f11 Rows.fnExactLossesOfRow.domain false Rows.fnExactLossesOfRow.laid ((laidWorld os).forCall (fun _ _ => 0) ⟨#[], #[.int .i64 0, .int .i64 0, .int .i64 0, .slice none 0 0, .slice none 0 0], []⟩).memory #[.int .i64 0, .int .i64 0, .int .i64 0, .slice none 0 0, .slice none 0 0] := by
  have hw : (DataW.whole enc Tryd.prog ((laidWorld os).forCall (fun _ _ => 0) ⟨#[], #[.int .i64 0, .int .i64 0, .int .i64 0, .slice none 0 0, .slice none 0 0], []⟩).memory Tryd.f11.params.toList Rows.fnExactLossesOfSpec.vars false (#[.int .i64 0, .int .i64 0, .int .i64 0, .slice none 0 0, .slice none 0 0] : Array Value).toList 8).map (fun x => (x.1, x.2.1)) = some ([.lit (.int .i64 0), .lit (.int .i64 0), .lit (.int .i64 0), .nil, .nil], [Rows.laid_loop_example_g00925_impl_quantitySpans, Rows.laid_loop_example_g00925_impl_surroundings]) := by kernel_rfl
  obtain ⟨⟨x1, x2, x3⟩, hx, hx1⟩ := Option.map_eq_some_iff.1 hw
  simp only [Prod.mk.injEq] at hx1
  obtain ⟨rfl, rfl⟩ := hx1
  exact OpenSpec.preRow_of_cond 8 hx (by kernel_rfl) (fun k hk => by cases hk) (by kernel_rfl) (laid_met os)

set_option maxRecDepth 100000 in
/-- The row's step. -/
theorem lifted (os : Os) (started : os.Started) (H : Type) (enc : TypeId × Value → H) (F : Stop.Interp) :
    ReturnsInHanded {} Tryd.checked os 11 .any ((OpenSpec.ofChange Rows.fnExactLossesOfSpec).preRow enc Tryd.prog Tryd.f11 Rows.fnExactLossesOfRow.domain false Rows.fnExactLossesOfRow.laid) (((OpenSpec.ofChange Rows.fnExactLossesOfSpec).at F).post enc Tryd.prog Tryd.f11 false true false false) := by
  refine returnsInHanded_of_row (C := Tryd.checked) (s := OpenSpec.ofChange Rows.fnExactLossesOfSpec) own started (by kernel_rfl) Tryd.func11
    (witness_row_at (enc := enc) (C := Tryd.checked) false (laidWorld os) #[.int .i64 0, .int .i64 0, .int .i64 0, .slice none 0 0, .slice none 0 0] rfl (by kernel_rfl) (by kernel_rfl) (by kernel_rfl) (witness_row os enc)) ?_
  intro W base args ds gs before hval hW _ _ _ hL hsh _
  have hW' := hW
  obtain ⟨p, q, hA0, hV, rfl, hfz, hnd⟩ := hW
  have hA : DataW.TrodAll enc Tryd.prog W 0 (fun _ => true) true Tryd.f11.params.toList args.toList ds p := hA0
  rw [Tryd.params11] at hA hval
  obtain ⟨v0, vs0, d0, ds0, p0, q0, hargs, rfl, rfl, h0, r0⟩ := trodAll_cons hA
  obtain ⟨v1, vs1, d1, ds1, p1, q1, rfl, rfl, rfl, h1, r1⟩ := trodAll_cons r0
  obtain ⟨v2, vs2, d2, ds2, p2, q2, rfl, rfl, rfl, h2, r2⟩ := trodAll_cons r1
  obtain ⟨v3, vs3, d3, ds3, p3, q3, rfl, rfl, rfl, h3, r3⟩ := trodAll_cons r2
  obtain ⟨v4, vs4, d4, ds4, p4, q4, rfl, rfl, rfl, h4, r4⟩ := trodAll_cons r3
  obtain ⟨rfl, rfl, rfl⟩ := trodAll_nil r4
  obtain rfl : args = #[v0, v1, v2, v3, v4] := by cases args; simp_all
  have hV1 := hV
  obtain ⟨_, _, _, _, dv0, _, _, _, _, _, dv1, _, rfl, _⟩ := trodVars_two hV
  obtain ⟨a0, rfl, rfl, rfl, w0⟩ := open_int Tryd.underlying2 (hval 0 2 v0 rfl rfl) h0
  obtain ⟨a1, rfl, rfl, rfl, w1⟩ := open_int Tryd.underlying2 (hval 1 2 v1 rfl rfl) h1
  obtain ⟨a2, rfl, rfl, rfl, w2⟩ := open_int Tryd.underlying2 (hval 2 2 v2 rfl rfl) h2
  obtain ⟨a3, len3, cap3, rfl⟩ := okWide_slice Tryd.underlying31 (hval 3 31 v3 rfl rfl)
  have k3 := h3
  have lt3 : ∀ x ∈ p3, x.block < W.heap.size := by obtain ⟨m, hm⟩ := k3; exact DataW.trod_lt m _ _ _ hm
  obtain ⟨z3, w3⟩ : ∃ zs, IsRow .i64 W a3 len3 cap3 zs := by
    obtain ⟨fuel, hf⟩ := h3
    rcases open_ints Tryd.underlying31 Tryd.underlying2 (by kernel_rfl) hf with ⟨hcs, _⟩ | ⟨x, l, c, zs, hcs, _, hl, hm, hz, _, hcell, hwz⟩
    · simp [Value.cells] at hcs
      obtain ⟨rfl, rfl, rfl⟩ := hcs
      exact ⟨[], .inl ⟨rfl, rfl, rfl, rfl⟩⟩
    · simp [Value.cells] at hcs
      obtain ⟨rfl, rfl, rfl⟩ := hcs
      exact ⟨zs, .inr ⟨_, rfl, hl, hm, by simpa using hz, hcell, hwz⟩⟩
  obtain ⟨a4, len4, cap4, rfl⟩ := okWide_slice Tryd.underlying31 (hval 4 31 v4 rfl rfl)
  have k4 := h4
  have lt4 : ∀ x ∈ p4, x.block < W.heap.size := by obtain ⟨m, hm⟩ := k4; exact DataW.trod_lt m _ _ _ hm
  obtain ⟨z4, w4⟩ : ∃ zs, IsRow .i64 W a4 len4 cap4 zs := by
    obtain ⟨fuel, hf⟩ := h4
    rcases open_ints Tryd.underlying31 Tryd.underlying2 (by kernel_rfl) hf with ⟨hcs, _⟩ | ⟨x, l, c, zs, hcs, _, hl, hm, hz, _, hcell, hwz⟩
    · simp [Value.cells] at hcs
      obtain ⟨rfl, rfl, rfl⟩ := hcs
      exact ⟨[], .inl ⟨rfl, rfl, rfl, rfl⟩⟩
    · simp [Value.cells] at hcs
      obtain ⟨rfl, rfl, rfl⟩ := hcs
      exact ⟨zs, .inr ⟨_, rfl, hl, hm, by simpa using hz, hcell, hwz⟩⟩
  clear hA0
  refine (walk W a0 w0 a1 w1 a2 w2 a3 len3 cap3 z3 w3 a4 len4 cap4 z4 w4 hL hsh).mono fun e W' ⟨he, bel⟩ => ?_
  subst he
  exact ⟨_, rfl, _, _, _, [], _, q, hW', trodAll_mk1 (shut_bool Tryd.underlying4 _), (trodAll_cons_mk (shut_int Tryd.underlying2 w0) (trodAll_cons_mk (shut_int Tryd.underlying2 w1) (trodAll_cons_mk (shut_int Tryd.underlying2 w2) (trodAll_cons_mk (Below.trod laidOut (by kernel_rfl) (of_decide_eq_true (by kernel_rfl)) k3 bel lt3) (trodAll_cons_mk (Below.trod laidOut (by kernel_rfl) (of_decide_eq_true (by kernel_rfl)) k4 bel lt4) trodAll_mk0))))), (Below.trodVars laidOut bel (by kernel_rfl) hV1), bel.frame _, fun h => by cases h⟩

theorem said : Rows.FnExactLossesOfSaid :=
  OpenClaim.holds_of_cond 11 Tryd.f11 rfl rfl rfl rfl rfl rfl rfl ⟨rfl, rfl, rfl, rfl, rfl⟩ rfl rfl rfl rfl rfl (by kernel_rfl) Tryd.func11 (by kernel_rfl)
    (of_decide_eq_true (by kernel_rfl)) (by unfold Func.isWrapper; first | (rw [if_pos (by decide +kernel)]; kernel_rfl) | (rw [if_neg (by decide +kernel)]; exact ⟨rfl, rfl⟩))
    (fun os started H enc _ F => by rw [OpenClaim.pre_eq_preRow]; exact lifted os started H enc F)

theorem plain (f : FuncId) (fn : Func) (hf : Tryd.pinned.checked.prog.funcNamed "loop.example/g00925/laws.FnExactLossesOf" = some f) (hfn : Tryd.pinned.checked.prog.funcs[f]? = some fn) :
    false = Tryd.pinned.checked.prog.looks [] ∧ ∀ (j : Nat) t, fn.params[j]? = some t → Tryd.pinned.checked.prog.wantsStandIn t = false := by
  obtain rfl : f = 11 := Option.some.inj ((show Tryd.prog.funcNamed "loop.example/g00925/laws.FnExactLossesOf" = some 11 by kernel_rfl).symm.trans hf) |>.symm
  obtain rfl : fn = Tryd.f11 := (Option.some.inj (Tryd.func11.symm.trans hfn)).symm
  refine ⟨by kernel_rfl, fun j t ht => ?_⟩
  rw [Tryd.params11] at ht
  have ht' := Array.mem_of_getElem? ht
  simp at ht'
  have s2 : Tryd.pinned.checked.prog.wantsStandIn 2 = false := (show Tryd.prog.wantsStandIn 2 = false by kernel_rfl)
  have s31 : Tryd.pinned.checked.prog.wantsStandIn 31 = false := (show Tryd.prog.wantsStandIn 31 = false by kernel_rfl)
  first | (rcases ht' with rfl | rfl <;> first | with_reducible exact s2 | with_reducible exact s31) | (rcases ht' with rfl | rfl | rfl <;> first | with_reducible exact s2 | with_reducible exact s31) | (rcases ht' with rfl | rfl | rfl | rfl <;> first | with_reducible exact s2 | with_reducible exact s31) | (rcases ht' with rfl | rfl | rfl | rfl | rfl <;> first | with_reducible exact s2 | with_reducible exact s31)

/-- The statement: the tied card. -/
theorem card : Rows.FnExactLossesOfCardSaid :=
  Claim7.holds_tied_plain_at .later [] _ _ _ _ said (fun _ h => by cases h) (by kernel_rfl) (fun _ h => by cases h) fnExactLossesOf_row_tie rfl ⟨rfl, rfl⟩ (by kernel_rfl) rfl plain (by kernel_rfl)
end Go.Proofs.YtigbbhohgeemdaaDoor.fnExactLossesOf
