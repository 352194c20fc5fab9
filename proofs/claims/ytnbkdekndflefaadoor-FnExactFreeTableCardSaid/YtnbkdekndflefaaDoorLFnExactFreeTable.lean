/-
  For every frequency and all lists of distances FreeTable of the program returns what the model returns, a slice of its own memory, the same at a second call, and leaves the list alone: the statement FnExactFreeTable, as a card. Its row lists the program's variable of spans, tied to the text by the card; no other condition (a list of more than 1048576 numbers is let pass by the statement itself).
-/
import Derived.Test.YtnbkdekndflefaaDoorCards
import Derived.Test.YtnbkdekndflefaaDoorTie
import Derived.Test.YtnbkdekndflefaaDoorFTab
import Derived.Test.YtnbkdekndflefaaDoorSpanTab
import Derived.Test.YtnbkdekndflefaaDoorOwnOff
import Derived.WalkKit
import Derived.ProofKit
import Derived.OpenShut
import Derived.ShutString
import Derived.Below
import Derived.ChangeOld
import Derived.OpenVars
import Derived.ChangeVars
import Derived.Deep.DeepHandedRow
import Derived.Lib.LaidTab
namespace Go.Proofs.YtnbkdekndflefaaDoor.fnExactFreeTable
open Go.ChangeShapes Go.WideShapes Go.ChangeAt Go.RowKit
open Go.ChangeMaps (open_string shut_string)
set_option linter.unusedVariables false

theorem own : ownKnob Tryd.prog.godebug = none := by kernel_rfl
theorem laidOut : laidOutB Tryd.prog = true := by kernel_rfl

/-- What the walk is told of a slice of integers that came in: it is nil; or it leads to a row of 'cap' cells, the numbers 'zs' (the first 'len' are its elements), each fitting its kind. -/
def IsRow (k : IntKind) (w : World) (a : Option Addr) (len cap : Nat) (zs : List Int) : Prop :=
  (a = none ∧ len = 0 ∧ cap = 0 ∧ zs = []) ∨
  ∃ x, a = some x ∧ len ≤ cap ∧ cap ≤ maxLen ∧ zs.length = cap ∧ (∀ i, i < zs.length → w.cell? (x.add i) = some (.int k (zs.getD i 0))) ∧ ∀ n ∈ zs, (Lit.int k n).wf = true

/-- The walk. -/
theorem walk (w : World) (a0 : Int) (w0 : (Lit.int .i64 a0).wf = true) (a1 : Option Addr) (len1 cap1 : Nat) (z1 : List Int) (w1 : IsRow .i64 w a1 len1 cap1 z1) (hL : laidMetH Tryd.prog Rows.fnExactFreeTableRow.laid w) (hsh : w.ShapedOpen Tryd.prog) :
    Calls Tryd.prog 11 #[.int .i64 a0, .slice a1 len1 cap1] w fun e w' => e = .returned (.bool true) ∧ Below w.heap.size w w' := by
  have HT := Lib.hid (SpanTab.spanG (W := w) (l := Rows.fnExactFreeTableRow.laid) hL (.head _))
  clear hL hsh
  obtain ⟨hi, hlen⟩ := Ints.Ints.of_arg w1
  clear w0 w1
  by_cases hl : 1048576 < len1
  · clear hi hlen
    have hl2 : (1048576 : Int) < len1 := by omega
    go_enter Tryd.func11, Tryd.ntmps11
    go_wp2
    go_ret
    exact ⟨rfl, Below.refl _ _⟩
  · have hn : (z1.take len1).length ≤ 1048576 := by omega
    have hl2 : ¬ (1048576 : Int) < len1 := by omega
    obtain ⟨zs, hzs⟩ : ∃ zs, zs = z1.take len1 := ⟨_, rfl⟩
    rw [← hzs] at hi hn
    have HI := Lib.hid hi
    clear hi hlen hl hzs
    have hS := fun (v : Value) w' (h : Ints.Ints w' v zs) => FTab.spec_FreeTable a0 v zs w' hn h
    have hP := fun (v : Value) w' (ho : On w w') (h : Ints.Ints w' v zs) => FTab.impl_FreeTable a0 v zs w' hn h (HT.out.on ho)
    have hk := FTab.tab_len a0 zs
    generalize FTab.tabV a0 zs = rs at *
    generalize FTab.tabC a0 zs = co at *
    have hr : rs.length ≤ 1048576 := by omega
    have HS := Lib.hid hS
    have HP := Lib.hid hP
    have hco : (co != co) = false := bne_self_eq_false co
    obtain ⟨p, hp⟩ : ∃ p : Int, p = ((1 + zs.length : Nat) : Int) := ⟨_, rfl⟩
    have hp0 : ¬ p < 0 := by omega
    have hX := fun (B : Nat) (a : Option Addr) (cap : Nat) (w : World) (h : Ints.Own B w (.slice a zs.length cap) zs) => Mark.markOnly B 1 a cap zs w hn (by decide) h
    rw [← hp] at hX
    have HX := Lib.hid hX
    obtain ⟨q, hq⟩ : ∃ q : Int, q = ((1 + rs.length : Nat) : Int) := ⟨_, rfl⟩
    have hq0 : ¬ q < 0 := by omega
    have hM := fun (B : Nat) (v : Value) (w : World) (h : Ints.Own B w v rs) => Mark.mark B 1 v rs w hr (by decide) h
    have hH := fun (B : Nat) (v : Value) (w : World) (h : Ints.Own B w v (Mark.marks 1 rs.length)) => Mark.held B 1 rs.length v w hr (by decide) h
    rw [← hq] at hM hH
    have HM := Lib.hid hM
    have HH := Lib.hid hH
    clear hS hP hX hM hH hp hq hk HT
    go_enter Tryd.func11, Tryd.ntmps11
    go_wp2_with fail
    refine (Ints.copy _ zs _ hn HI.out).mono ?_
    rintro e w1 ⟨v1, rfl, hi1, hb1⟩
    have H1 := Lib.hid hi1
    have B1 := Lib.hid (show On w w1 from hb1)
    clear hi1 hb1
    go_wp2_with fail
    refine (HS.out v1 _ H1.out).mono ?_
    rintro e w2 ⟨u0, rfl, hu, hb2⟩
    have B2 := Lib.hid (On.trans B1.out hb2)
    have U2 := Lib.hid hu
    clear H1 hb2 B1 hu
    go_wp2_with fail
    refine (Ints.copyOwn _ zs _ hn (HI.out.below B2.out)).mono ?_
    rintro e w3 ⟨v2, rfl, ho3, hb3⟩
    obtain ⟨ax, cx, rfl, hax⟩ := ho3.slice
    have X3 := Lib.hid ho3
    have AX := Lib.hid hax
    have B3 := Lib.hid (On.trans B2.out hb3)
    have K3 := Lib.hid (show On w2 w3 from hb3)
    clear ho3 hb3 hax
    go_wp2_with fail
    refine (HP.out _ _ B3.out X3.out.ints).mono ?_
    rintro e w4 ⟨g0, rfl, hg4, hb4⟩
    have G4 := Lib.hid hg4
    have X4 := Lib.hid (X3.out.below hb4)
    have B4 := Lib.hid (On.trans B3.out hb4)
    have K4 := Lib.hid (On.trans K3.out hb4)
    have Z3 := Lib.hid K3.out.size
    clear hg4 hb4 B3 K3
    go_wp2_with fail
    refine (Ints.eq _ _ rs _ hr G4.out.ints (U2.out.below K4.out)).mono ?_
    rintro e w5 ⟨rfl, n5, hw5⟩
    have h5 : On w4 w5 := by rw [hw5]; exact Ints.below_drewN _ _
    have G5 := Lib.hid (G4.out.below h5)
    have X5 := Lib.hid (X4.out.below h5)
    have B5 := Lib.hid (On.trans B4.out h5)
    have K5 := Lib.hid (On.trans K4.out h5)
    clear hw5 h5 G4 X4 B4 K4
    go_wp2_with fail
    refine (Ints.copy _ zs _ hn (HI.out.below B5.out)).mono ?_
    rintro e w6 ⟨v6, rfl, hi6, hb6⟩
    have H6 := Lib.hid hi6
    have G6 := Lib.hid (G5.out.below hb6)
    have X6 := Lib.hid (X5.out.below hb6)
    have B6 := Lib.hid (On.trans B5.out hb6)
    have K6 := Lib.hid (On.trans K5.out hb6)
    clear hi6 hb6 G5 X5 B5 K5
    go_wp2_with fail
    refine (Ints.eq _ _ zs _ hn X6.out.ints H6.out).mono ?_
    rintro e w7 ⟨rfl, n7, hw7⟩
    have h7 : On w6 w7 := by rw [hw7]; exact Ints.below_drewN _ _
    have G7 := Lib.hid (G6.out.below h7)
    have X7 := Lib.hid (X6.out.below h7)
    have B7 := Lib.hid (On.trans B6.out h7)
    have K7 := Lib.hid (On.trans K6.out h7)
    clear hw7 h7 G6 X6 B6 K6 H6
    go_wp2_with fail
    refine (HX.out _ _ _ _ X7.out).mono ?_
    rintro e w8 ⟨rfl, hb8, -, hf8, hx8⟩
    have G8 := Lib.hid (G7.out.off hb8.size hf8 (fun p hp => hx8 p (fun h0 q hq => by have := AX.out q h0 hq; omega)))
    have K8 := Lib.hid (show On w2 w8 from Below.trans K7.out hb8)
    have B8 := Lib.hid (On.trans B2.out K8.out)
    clear hb8 hf8 hx8 G7 X7 B7 K7
    go_wp2_with fail
    refine (Ints.eq _ _ rs _ hr G8.out.ints (U2.out.below K8.out)).mono ?_
    rintro e w9 ⟨rfl, n9, hw9⟩
    have h9 : On w8 w9 := by rw [hw9]; exact Ints.below_drewN _ _
    have G9 := Lib.hid (G8.out.below h9)
    have K9 := Lib.hid (On.trans K8.out h9)
    clear hw9 h9 G8 B8 K8
    go_wp2_with fail
    refine (HM.out _ _ _ G9.out).mono ?_
    rintro e wa ⟨rfl, hba, hoa⟩
    have GA := Lib.hid hoa
    have KA := Lib.hid (show On w2 wa from Below.trans K9.out (Below.mono hba Z3.out))
    have BA := Lib.hid (On.trans B2.out KA.out)
    clear hba hoa G9 K9
    go_wp2_with fail
    refine (HH.out _ _ _ GA.out).mono ?_
    rintro e wb ⟨rfl, rfl⟩
    go_wp2_with fail
    refine (Ints.copy _ zs _ hn (HI.out.below BA.out)).mono ?_
    rintro e wc ⟨vc, rfl, hic, hbc⟩
    have HC := Lib.hid hic
    have GC := Lib.hid (GA.out.below hbc)
    have KC := Lib.hid (On.trans KA.out hbc)
    have BC := Lib.hid (On.trans BA.out hbc)
    clear hic hbc GA KA BA
    go_wp2_with fail
    refine (HP.out _ _ BC.out HC.out).mono ?_
    rintro e wd ⟨gd, rfl, hgd, hbd⟩
    have HD := Lib.hid hgd
    have GD := Lib.hid (GC.out.below hbd)
    have KD := Lib.hid (On.trans KC.out hbd)
    have BD := Lib.hid (On.trans BC.out hbd)
    clear hgd hbd GC KC BC HC
    go_wp2_with fail
    refine (Ints.eq _ _ rs _ hr HD.out.ints (U2.out.below KD.out)).mono ?_
    rintro e we ⟨rfl, ne, hwe⟩
    have he : On wd we := by rw [hwe]; exact Ints.below_drewN _ _
    have GE := Lib.hid (GD.out.below he)
    have BE := Lib.hid (On.trans BD.out he)
    clear hwe he GD KD BD HD
    go_wp2_with fail
    refine (HH.out _ _ _ GE.out).mono ?_
    rintro e wf ⟨rfl, rfl⟩
    go_wp2_with fail
    go_ret
    exact ⟨rfl, BE.out⟩

/-- How many blocks the settled world has. -/
noncomputable def low : Nat := (World.holding Tryd.prog default ⟨#[], #[], []⟩).heap.size
/-- A world for the witness: the settled one, each listed variable holding what the program's text lays. -/
noncomputable def laidWorld (os : Os) : World :=
  let w0 := World.holding Tryd.prog os ⟨#[], #[], []⟩
  let h0 := w0.heap.modify 0 fun
    | .cells _ t frozen => .cells #[.int .i64 1, .int .i64 100000000, .int .i64 1, .int .i64 283000, .int .i64 (-300000), .int .i64 300000, .int .i64 (-300000), .int .i64 300000, .int .i64 0, .int .i64 300000, .int .i64 1, .int .i64 100000, .int .i64 0, .int .i64 7, .int .i64 0, .int .i64 90000, .int .i64 0, .int .i64 200, .int .i64 0, .int .i64 1000, .int .i64 1, .int .i64 10000, .int .i64 1, .int .i64 20, .int .i64 0, .int .i64 1000000, .int .i64 25, .int .i64 400, .int .i64 0, .int .i64 100000] t frozen
    | o => o
  { w0 with heap := h0 }
theorem laid_met (os : Os) : laidMet Tryd.prog Rows.fnExactFreeTableRow.laid ((laidWorld os).forCall (fun _ _ => 0) ⟨#[], #[.int .i64 0, .slice none 0 0], []⟩).memory :=
  laidMet_of_run' 8 (by kernel_rfl) (by kernel_rfl)
theorem witness_row (os : Os) {H : Type} (enc : TypeId × Value → H) :
    (OpenSpec.ofChange Rows.fnExactFreeTableSpec).preRow enc Tryd.prog Tryd.f11 Rows.fnExactFreeTableRow.domain false Rows.fnExactFreeTableRow.laid ((laidWorld os).forCall (fun _ _ => 0) ⟨#[], #[.int .i64 0, .slice none 0 0], []⟩).memory #[.int .i64 0, .slice none 0 0] := by
  have hw : (DataW.whole enc Tryd.prog ((laidWorld os).forCall (fun _ _ => 0) ⟨#[], #[.int .i64 0, .slice none 0 0], []⟩).memory Tryd.f11.params.toList Rows.fnExactFreeTableSpec.vars false (#[.int .i64 0, .slice none 0 0] : Array Value).toList 8).map (fun x => (x.1, x.2.1)) = some ([.lit (.int .i64 0), .nil], [Rows.laid_loop_example_g00925_impl_quantitySpans]) := by kernel_rfl
  obtain ⟨⟨x1, x2, x3⟩, hx, hx1⟩ := Option.map_eq_some_iff.1 hw
  simp only [Prod.mk.injEq] at hx1
  obtain ⟨rfl, rfl⟩ := hx1
  exact OpenSpec.preRow_of_cond 8 hx (by kernel_rfl) (fun k hk => by cases hk) (by kernel_rfl) (laid_met os)

set_option maxRecDepth 100000 in
/-- The row's step. -/
theorem lifted (os : Os) (started : os.Started) (H : Type) (enc : TypeId × Value → H) (F : Stop.Interp) :
    ReturnsInHanded {} Tryd.checked os 11 .any ((OpenSpec.ofChange Rows.fnExactFreeTableSpec).preRow enc Tryd.prog Tryd.f11 Rows.fnExactFreeTableRow.domain false Rows.fnExactFreeTableRow.laid) (((OpenSpec.ofChange Rows.fnExactFreeTableSpec).at F).post enc Tryd.prog Tryd.f11 false true false false) := by
  refine returnsInHanded_of_row (C := Tryd.checked) (s := OpenSpec.ofChange Rows.fnExactFreeTableSpec) own started (by kernel_rfl) Tryd.func11
    (witness_row_at (enc := enc) (C := Tryd.checked) false (laidWorld os) #[.int .i64 0, .slice none 0 0] rfl (by kernel_rfl) (by kernel_rfl) (by kernel_rfl) (witness_row os enc)) ?_
  intro W base args ds gs before hval hW _ _ _ hL hsh _
  have hW' := hW
  obtain ⟨p, q, hA0, hV, rfl, hfz, hnd⟩ := hW
  have hA : DataW.TrodAll enc Tryd.prog W 0 (fun _ => true) true Tryd.f11.params.toList args.toList ds p := hA0
  rw [Tryd.params11] at hA hval
  obtain ⟨v0, vs0, d0, ds0, p0, q0, hargs, rfl, rfl, h0, r0⟩ := trodAll_cons hA
  obtain ⟨v1, vs1, d1, ds1, p1, q1, rfl, rfl, rfl, h1, r1⟩ := trodAll_cons r0
  obtain ⟨rfl, rfl, rfl⟩ := trodAll_nil r1
  obtain rfl : args = #[v0, v1] := by cases args; simp_all
  have hV1 := hV
  obtain ⟨_, _, _, _, dv, _, rfl, _⟩ := trodVars_one hV
  obtain ⟨a0, rfl, rfl, rfl, w0⟩ := open_int Tryd.underlying2 (hval 0 2 v0 rfl rfl) h0
  obtain ⟨a1, len1, cap1, rfl⟩ := okWide_slice Tryd.underlying27 (hval 1 27 v1 rfl rfl)
  have k1 := h1
  have lt1 : ∀ x ∈ p1, x.block < W.heap.size := by obtain ⟨m, hm⟩ := k1; exact DataW.trod_lt m _ _ _ hm
  obtain ⟨z1, w1⟩ : ∃ zs, IsRow .i64 W a1 len1 cap1 zs := by
    obtain ⟨fuel, hf⟩ := h1
    rcases open_ints Tryd.underlying27 Tryd.underlying2 (by kernel_rfl) hf with ⟨hcs, _⟩ | ⟨x, l, c, zs, hcs, _, hl, hm, hz, _, hcell, hwz⟩
    · simp [Value.cells] at hcs
      obtain ⟨rfl, rfl, rfl⟩ := hcs
      exact ⟨[], .inl ⟨rfl, rfl, rfl, rfl⟩⟩
    · simp [Value.cells] at hcs
      obtain ⟨rfl, rfl, rfl⟩ := hcs
      exact ⟨zs, .inr ⟨_, rfl, hl, hm, by simpa using hz, hcell, hwz⟩⟩
  clear hA0
  refine (walk W a0 w0 a1 len1 cap1 z1 w1 hL hsh).mono fun e W' ⟨he, bel⟩ => ?_
  subst he
  exact ⟨_, rfl, _, _, _, [], _, q, hW', trodAll_mk1 (shut_bool Tryd.underlying4 _), (trodAll_cons_mk (shut_int Tryd.underlying2 w0) (trodAll_cons_mk (Below.trod laidOut (by kernel_rfl) (of_decide_eq_true (by kernel_rfl)) k1 bel lt1) trodAll_mk0)), (Below.trodVars laidOut bel (by kernel_rfl) hV1), bel.frame _, fun h => by cases h⟩

theorem said : Rows.FnExactFreeTableSaid :=
  OpenClaim.holds_of_cond 11 Tryd.f11 rfl rfl rfl rfl rfl rfl rfl ⟨rfl, rfl, rfl, rfl, rfl⟩ rfl rfl rfl rfl rfl (by kernel_rfl) Tryd.func11 (by kernel_rfl)
    (of_decide_eq_true (by kernel_rfl)) (by unfold Func.isWrapper; first | (rw [if_pos (by decide +kernel)]; kernel_rfl) | (rw [if_neg (by decide +kernel)]; exact ⟨rfl, rfl⟩))
    (fun os started H enc _ F => by rw [OpenClaim.pre_eq_preRow]; exact lifted os started H enc F)

theorem plain (f : FuncId) (fn : Func) (hf : Tryd.pinned.checked.prog.funcNamed "loop.example/g00925/laws.FnExactFreeTable" = some f) (hfn : Tryd.pinned.checked.prog.funcs[f]? = some fn) :
    false = Tryd.pinned.checked.prog.looks [] ∧ ∀ (j : Nat) t, fn.params[j]? = some t → Tryd.pinned.checked.prog.wantsStandIn t = false := by
  obtain rfl : f = 11 := Option.some.inj ((show Tryd.prog.funcNamed "loop.example/g00925/laws.FnExactFreeTable" = some 11 by kernel_rfl).symm.trans hf) |>.symm
  obtain rfl : fn = Tryd.f11 := (Option.some.inj (Tryd.func11.symm.trans hfn)).symm
  refine ⟨by kernel_rfl, fun j t ht => ?_⟩
  rw [Tryd.params11] at ht
  have ht' := Array.mem_of_getElem? ht
  simp at ht'
  have s2 : Tryd.pinned.checked.prog.wantsStandIn 2 = false := (show Tryd.prog.wantsStandIn 2 = false by kernel_rfl)
  have s27 : Tryd.pinned.checked.prog.wantsStandIn 27 = false := (show Tryd.prog.wantsStandIn 27 = false by kernel_rfl)
  first | (rcases ht' with rfl | rfl <;> first | with_reducible exact s2 | with_reducible exact s27)

/-- The statement: the tied card. -/
theorem card : Rows.FnExactFreeTableCardSaid :=
  Claim7.holds_tied_plain_at .later [] _ _ _ _ said (fun _ h => by cases h) (by kernel_rfl) (fun _ h => by cases h) fnExactFreeTable_row_tie rfl ⟨rfl, rfl⟩ (by kernel_rfl) rfl plain (by kernel_rfl)
end Go.Proofs.YtnbkdekndflefaaDoor.fnExactFreeTable
