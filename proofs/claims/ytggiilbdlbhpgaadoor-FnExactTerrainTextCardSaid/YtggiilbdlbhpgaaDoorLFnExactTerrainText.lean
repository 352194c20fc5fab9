/-
  For all terrains TerrainText of the program returns what the model returns, and leaves the terrain alone: the statement FnExactTerrainText, as a card. Its row lists tables of the library, tied to the text by the card; no other condition.
-/
import Derived.Test.YtggiilbdlbhpgaaDoorCards
import Derived.Test.YtggiilbdlbhpgaaDoorTie
import Derived.Test.YtggiilbdlbhpgaaDoorTTxtI
import Derived.Test.YtggiilbdlbhpgaaDoorTabP
import Derived.Test.YtggiilbdlbhpgaaDoorTRec0
import Derived.Test.YtggiilbdlbhpgaaDoorAgg
import Derived.WalkKit
import Derived.ProofKit
import Derived.OpenShut
import Derived.ShutString
import Derived.Below
import Derived.ChangeOld
import Derived.OpenVars
import Derived.ChangeVars
import Derived.Deep.DeepHandedRow
import Derived.Lib.LaidTab
import Derived.Lib.SmallJoins
import Derived.Test.YtggiilbdlbhpgaaDoorAgg
namespace Go.Proofs.YtggiilbdlbhpgaaDoor.fnExactTerrainText
open Go.ChangeShapes Go.WideShapes Go.ChangeAt Go.RowKit
open Go.ChangeMaps (open_string shut_string)
set_option linter.unusedVariables false

theorem own : ownKnob Tryd.prog.godebug = none := by kernel_rfl
theorem laidOut : laidOutB Tryd.prog = true := by kernel_rfl

/-- What the walk is told of a slice of integers that came in: it is nil; or it leads to a row of 'cap' cells, the numbers 'zs' (the first 'len' are its elements), each fitting its kind. -/
def IsRow (k : IntKind) (w : World) (a : Option Addr) (len cap : Nat) (zs : List Int) : Prop :=
  (a = none ∧ len = 0 ∧ cap = 0 ∧ zs = []) ∨
  ∃ x, a = some x ∧ len ≤ cap ∧ cap ≤ maxLen ∧ zs.length = cap ∧ (∀ i, i < zs.length → w.cell? (x.add i) = some (.int k (zs.getD i 0))) ∧ ∀ n ∈ zs, (Lit.int k n).wf = true

set_option maxRecDepth 100000 in
set_option maxHeartbeats 4000000 in
/-- The walk. -/
theorem walk (w : World) (x0_0 : Int) (wx0_0 : (Lit.int .i64 x0_0).wf = true) (x0_1 : Int) (wx0_1 : (Lit.int .i64 x0_1).wf = true) (x0_2 : Int) (wx0_2 : (Lit.int .i64 x0_2).wf = true) (a0_3 : Option Addr) (len0_3 cap0_3 : Nat) (z0_3 : List Int) (w0_3 : IsRow .i64 w a0_3 len0_3 cap0_3 z0_3) (a0_4 : Option Addr) (len0_4 cap0_4 : Nat) (z0_4 : List Int) (w0_4 : IsRow .i64 w a0_4 len0_4 cap0_4 z0_4) (hL : laidMetH Tryd.prog Rows.fnExactTerrainTextRow.laid w) (hsh : w.ShapedOpen Tryd.prog) :
    Calls Tryd.prog 5 #[.agg #[.int .i64 x0_0, .int .i64 x0_1, .int .i64 x0_2, .slice a0_3 len0_3 cap0_3, .slice a0_4 len0_4 cap0_4]] w fun e w' => e = .returned (.bool true) ∧ Below w.heap.size w w' := by
  have HT := Lib.hid (Tabs.pow10 (W := w) (l := Rows.fnExactTerrainTextRow.laid) hL (.tail _ (.tail _ (.head _))))
  clear hL hsh
  obtain ⟨hi3, hl3⟩ := Ints.Ints.of_arg w0_3
  have m3 : len0_3 ≤ maxLen := by
    rcases w0_3 with ⟨_, h, _, _⟩ | ⟨_, _, h1, h2, _⟩
    · rw [h]; exact Nat.zero_le _
    · exact Nat.le_trans h1 h2
  obtain ⟨hi4, hl4⟩ := Ints.Ints.of_arg w0_4
  have m4 : len0_4 ≤ maxLen := by
    rcases w0_4 with ⟨_, h, _, _⟩ | ⟨_, _, h1, h2, _⟩
    · rw [h]; exact Nat.zero_le _
    · exact Nat.le_trans h1 h2
  have hz := fun w => TRec.count 1048576 x0_0 x0_1 x0_2 a0_3 len0_3 cap0_3 a0_4 len0_4 cap0_4 w (by omega) m3 m4
  rw [show (((1048576 : Nat) : Int)) = 1048576 from rfl] at hz
  clear w0_3 w0_4 wx0_0 wx0_1 wx0_2 m3 m4
  rcases TRec.restL_or [len0_3, len0_4] 1048576 with hr | ⟨r, hr, -, hall⟩
  · rw [hr] at hz
    have HZ := Lib.hid hz
    clear hz hr hi3 hl3 hi4 hl4
    go_enter Tryd.func5, Tryd.ntmps5
    go_wp2_with fail
    refine (HZ.out _).mono ?_
    rintro e w1 ⟨rfl, h1⟩
    go_wp2_with fail
    go_ret
    exact ⟨rfl, by repeat (first | with_reducible exact On.refl _ | apply On.alloc | refine On.trans ?_ h1)⟩
  · rw [hr] at hz
    have q3 : len0_3 ≤ 1048576 := hall _ (by simp)
    have q4 : len0_4 ≤ 1048576 := hall _ (by simp)
    have hr0 : ¬ ((r : Int) < 0) := by omega
    have HZ := Lib.hid hz
    clear hz hr hall
    obtain ⟨z3, hz3⟩ : ∃ z, z = z0_3.take len0_3 := ⟨_, rfl⟩
    rw [← hz3] at hi3 hl3
    clear hz3
    subst hl3
    have H3 := Lib.hid hi3
    clear hi3
    obtain ⟨z4, hz4⟩ : ∃ z, z = z0_4.take len0_4 := ⟨_, rfl⟩
    rw [← hz4] at hi4 hl4
    clear hz4
    subst hl4
    have H4 := Lib.hid hi4
    clear hi4
    go_enter Tryd.func5, Tryd.ntmps5
    go_wp2_with fail
    refine (HZ.out _).mono ?_
    rintro e w1 ⟨rfl, h1⟩
    have K1 : TRec.In w1 w.heap.size x0_0 x0_1 x0_2 (.slice a0_3 z3.length cap0_3) (.slice a0_4 z4.length cap0_4) := TRec.In.on ⟨by simp [go_sem], by simp [go_sem], by simp [go_sem], by simp [go_sem], by simp [go_sem]⟩ h1
    have HO1 := Lib.hid (On.trans (On.alloc (On.refl w) _) h1)
    have HK1 := Lib.hid K1
    obtain ⟨k1_0, k1_1, k1_2, k1_3, k1_4⟩ := K1
    clear h1 HZ
    go_wp2_with fail
    refine (TRec.copy x0_0 x0_1 x0_2 _ _ z3 z4 _ q3 q4 (H3.out.below HO1.out) (H4.out.below HO1.out)).mono ?_
    rintro e w2 ⟨a2_3, c2_3, a2_4, c2_4, rfl, f2_3, o2_3, f2_4, o2_4, h2⟩
    have A2_3 := Lib.hid o2_3.ints
    have A2_4 := Lib.hid o2_4.ints
    have HO2 := Lib.hid (On.trans HO1.out h2)
    have K2 := HK1.out.on h2
    have HK2 := Lib.hid K2
    obtain ⟨k2_0, k2_1, k2_2, k2_3, k2_4⟩ := K2
    clear k1_0 k1_1 k1_2 k1_3 k1_4 h2 o2_3 o2_4 HK1 HO1
    go_wp2_with fail
    refine (TTxt.spec_TerrainText x0_0 x0_1 x0_2 _ _ _ _ _ _ z3 z4 _ rfl rfl q3 q4 f2_3 f2_4 A2_3.out A2_4.out).mono ?_
    rintro e w3 ⟨rfl, h3⟩
    have HO3 := Lib.hid (On.trans HO2.out h3)
    have K3 := HK2.out.on h3
    have HK3 := Lib.hid K3
    obtain ⟨k3_0, k3_1, k3_2, k3_3, k3_4⟩ := K3
    clear k2_0 k2_1 k2_2 k2_3 k2_4 h3 HK2 HO2 A2_3 A2_4
    go_wp2_with fail
    refine (TRec.copy x0_0 x0_1 x0_2 _ _ z3 z4 _ q3 q4 (H3.out.below HO3.out) (H4.out.below HO3.out)).mono ?_
    rintro e w4 ⟨a4_3, c4_3, a4_4, c4_4, rfl, f4_3, o4_3, f4_4, o4_4, h4⟩
    have A4_3 := Lib.hid o4_3.ints
    have A4_4 := Lib.hid o4_4.ints
    have HO4 := Lib.hid (On.trans HO3.out h4)
    have K4 := HK3.out.on h4
    have HK4 := Lib.hid K4
    obtain ⟨k4_0, k4_1, k4_2, k4_3, k4_4⟩ := K4
    clear k3_0 k3_1 k3_2 k3_3 k3_4 h4 o4_3 o4_4 HK3 HO3
    go_wp2_with fail
    refine (TTxt.impl_TerrainText x0_0 x0_1 x0_2 _ _ _ _ _ _ z3 z4 _ rfl rfl q3 q4 f4_3 f4_4 (A4_3.out.below (by repeat (first | with_reducible exact On.refl _ | apply On.alloc | refine On.setCell ?_ (by (try simp) <;> omega) _))) (A4_4.out.below (by repeat (first | with_reducible exact On.refl _ | apply On.alloc | refine On.setCell ?_ (by (try simp) <;> omega) _))) (fun w' h' => HT.out w' (On.trans (HO4.out.trans (by repeat (first | with_reducible exact On.refl _ | apply On.alloc | refine On.setCell ?_ (by (try simp) <;> omega) _))) h'))).mono ?_
    rintro e w5 ⟨rfl, h5⟩
    have P5 : TRec.In w5 w4.heap.size x0_0 x0_1 x0_2 (.slice a4_3 z3.length c4_3) (.slice a4_4 z4.length c4_4) := TRec.In.on ⟨by simp [go_sem], by simp [go_sem], by simp [go_sem], by simp [go_sem], by simp [go_sem]⟩ h5
    have h45 : On w4 w5 := by refine On.trans ?_ h5; repeat (first | with_reducible exact On.refl _ | apply On.alloc | refine On.setCell ?_ (by (try simp) <;> omega) _)
    have A5_3 := Lib.hid (A4_3.out.below h45)
    have A5_4 := Lib.hid (A4_4.out.below h45)
    have HO5 := Lib.hid (On.trans HO4.out h45)
    have K5 := HK4.out.on h45
    have HP5 := Lib.hid P5
    obtain ⟨k5_0, k5_1, k5_2, k5_3, k5_4⟩ := K5
    obtain ⟨p5_0, p5_1, p5_2, p5_3, p5_4⟩ := P5
    clear k4_0 k4_1 k4_2 k4_3 k4_4 h5 h45 HK4 HO4 A4_3 A4_4
    go_wp2_with fail
    go_region_with (first
      | (go_at_call 16; refine (TRec.copy x0_0 x0_1 x0_2 _ _ z3 z4 _ q3 q4 (H3.out.below (On.trans HO5.out (by repeat (first | exact On.refl _ | apply On.drew)))) (H4.out.below (On.trans HO5.out (by repeat (first | exact On.refl _ | apply On.drew))))).mono ?_; rintro e w6 ⟨a6_3, c6_3, a6_4, c6_4, rfl, -, o6_3, -, o6_4, h6⟩; (have h56 : On w5 w6 := by refine On.trans ?_ h6; repeat (first | exact On.refl _ | apply On.drew)); obtain ⟨r0, r1, r2, r3, r4⟩ := HP5.out.on h56; have A6_3 := Lib.hid o6_3.ints; have A6_4 := Lib.hid o6_4.ints; clear o6_3 o6_4 h6)
      | (go_at_call 18; refine (TRec.eq x0_0 x0_1 x0_2 _ _ _ _ z3 z4 _ q3 q4 ((A5_3.out.below ‹On w5 _›).below (by repeat (first | exact On.refl _ | apply On.drew))) ((A5_4.out.below ‹On w5 _›).below (by repeat (first | exact On.refl _ | apply On.drew))) (A6_3.out.below (by repeat (first | exact On.refl _ | apply On.drew))) (A6_4.out.below (by repeat (first | exact On.refl _ | apply On.drew)))).mono ?_; rintro e w7 ⟨rfl, h7⟩))
    all_goals
      go_wp2_with fail
      go_ret
      exact ⟨rfl, On.trans HO5.out (On.trans ‹On w5 _› (On.trans (by repeat (first | exact On.refl _ | apply On.drew)) ‹On _ w7›))⟩

/-- How many blocks the settled world has. -/
noncomputable def low : Nat := (World.holding Tryd.prog default ⟨#[], #[], []⟩).heap.size
/-- A world for the witness: the settled one, each listed variable holding what the program's text lays. -/
noncomputable def laidWorld (os : Os) : World :=
  let w0 := World.holding Tryd.prog os ⟨#[], #[], []⟩
  let h0 := w0.heap.modify 2 fun
    | .cells _ t frozen => .cells #[.int .u8 0, .int .u8 1, .int .u8 28, .int .u8 2, .int .u8 29, .int .u8 14, .int .u8 24, .int .u8 3, .int .u8 30, .int .u8 22, .int .u8 20, .int .u8 15, .int .u8 25, .int .u8 17, .int .u8 4, .int .u8 8, .int .u8 31, .int .u8 27, .int .u8 13, .int .u8 23, .int .u8 21, .int .u8 19, .int .u8 16, .int .u8 7, .int .u8 26, .int .u8 12, .int .u8 18, .int .u8 6, .int .u8 11, .int .u8 5, .int .u8 10, .int .u8 9] t frozen
    | o => o
  let h1 := h0.modify 3 fun
    | .cells _ t frozen => .cells #[.int .u8 0, .int .u8 1, .int .u8 56, .int .u8 2, .int .u8 57, .int .u8 49, .int .u8 28, .int .u8 3, .int .u8 61, .int .u8 58, .int .u8 42, .int .u8 50, .int .u8 38, .int .u8 29, .int .u8 17, .int .u8 4, .int .u8 62, .int .u8 47, .int .u8 59, .int .u8 36, .int .u8 45, .int .u8 43, .int .u8 51, .int .u8 22, .int .u8 53, .int .u8 39, .int .u8 33, .int .u8 30, .int .u8 24, .int .u8 18, .int .u8 12, .int .u8 5, .int .u8 63, .int .u8 55, .int .u8 48, .int .u8 27, .int .u8 60, .int .u8 41, .int .u8 37, .int .u8 16, .int .u8 46, .int .u8 35, .int .u8 44, .int .u8 21, .int .u8 52, .int .u8 32, .int .u8 23, .int .u8 11, .int .u8 54, .int .u8 26, .int .u8 40, .int .u8 15, .int .u8 34, .int .u8 20, .int .u8 31, .int .u8 10, .int .u8 25, .int .u8 14, .int .u8 19, .int .u8 9, .int .u8 13, .int .u8 8, .int .u8 7, .int .u8 6] t frozen
    | o => o
  let h2 := h1.modify 0 fun
    | .cells _ t frozen => .cells #[.int .u64 1, .int .u64 10, .int .u64 100, .int .u64 1000, .int .u64 10000, .int .u64 100000, .int .u64 1000000, .int .u64 10000000, .int .u64 100000000, .int .u64 1000000000, .int .u64 10000000000, .int .u64 100000000000, .int .u64 1000000000000, .int .u64 10000000000000, .int .u64 100000000000000, .int .u64 1000000000000000, .int .u64 10000000000000000, .int .u64 100000000000000000, .int .u64 1000000000000000000, .int .u64 10000000000000000000] t frozen
    | o => o
  { w0 with heap := h2 }
theorem laid_met (os : Os) : laidMet Tryd.prog Rows.fnExactTerrainTextRow.laid ((laidWorld os).forCall (fun _ _ => 0) ⟨#[], #[.agg #[.int .i64 0, .int .i64 0, .int .i64 0, .slice none 0 0, .slice none 0 0]], []⟩).memory :=
  laidMet_of_run' 8 (by kernel_rfl) (by kernel_rfl)
theorem witness_row (os : Os) {H : Type} (enc : TypeId × Value → H) :
    (OpenSpec.ofChange Rows.fnExactTerrainTextSpec).preRow enc Tryd.prog Tryd.f5 Rows.fnExactTerrainTextRow.domain false Rows.fnExactTerrainTextRow.laid ((laidWorld os).forCall (fun _ _ => 0) ⟨#[], #[.agg #[.int .i64 0, .int .i64 0, .int .i64 0, .slice none 0 0, .slice none 0 0]], []⟩).memory #[.agg #[.int .i64 0, .int .i64 0, .int .i64 0, .slice none 0 0, .slice none 0 0]] := by
  have hw : (DataW.whole enc Tryd.prog ((laidWorld os).forCall (fun _ _ => 0) ⟨#[], #[.agg #[.int .i64 0, .int .i64 0, .int .i64 0, .slice none 0 0, .slice none 0 0]], []⟩).memory Tryd.f5.params.toList Rows.fnExactTerrainTextSpec.vars false (#[.agg #[.int .i64 0, .int .i64 0, .int .i64 0, .slice none 0 0, .slice none 0 0]] : Array Value).toList 8).map (fun x => (x.1, x.2.1)) = some ([.agg [.lit (.int .i64 0), .lit (.int .i64 0), .lit (.int .i64 0), .nil, .nil]], []) := by kernel_rfl
  obtain ⟨⟨x1, x2, x3⟩, hx, hx1⟩ := Option.map_eq_some_iff.1 hw
  simp only [Prod.mk.injEq] at hx1
  obtain ⟨rfl, rfl⟩ := hx1
  exact OpenSpec.preRow_of_cond 8 hx (by kernel_rfl) (fun k hk => by cases hk) (by kernel_rfl) (laid_met os)

set_option maxRecDepth 100000 in
/-- The row's step. -/
theorem lifted (os : Os) (started : os.Started) (H : Type) (enc : TypeId × Value → H) (F : Stop.Interp) :
    ReturnsInHanded {} Tryd.checked os 5 .any ((OpenSpec.ofChange Rows.fnExactTerrainTextSpec).preRow enc Tryd.prog Tryd.f5 Rows.fnExactTerrainTextRow.domain false Rows.fnExactTerrainTextRow.laid) (((OpenSpec.ofChange Rows.fnExactTerrainTextSpec).at F).post enc Tryd.prog Tryd.f5 false true false false) := by
  refine returnsInHanded_of_row (C := Tryd.checked) (s := OpenSpec.ofChange Rows.fnExactTerrainTextSpec) own started (by kernel_rfl) Tryd.func5
    (witness_row_at (enc := enc) (C := Tryd.checked) false (laidWorld os) #[.agg #[.int .i64 0, .int .i64 0, .int .i64 0, .slice none 0 0, .slice none 0 0]] rfl (by kernel_rfl) (by kernel_rfl) (by kernel_rfl) (witness_row os enc)) ?_
  intro W base args ds gs before hval hW _ _ _ hL hsh _
  have hW' := hW
  obtain ⟨p, q, hA0, hV, rfl, hfz, hnd⟩ := hW
  have hA : DataW.TrodAll enc Tryd.prog W 0 (fun _ => true) true Tryd.f5.params.toList args.toList ds p := hA0
  rw [Tryd.params5] at hA hval
  obtain ⟨v0, vs0, d0, ds0, p0, q0, hargs, rfl, rfl, h0, r0⟩ := trodAll_cons hA
  obtain ⟨rfl, rfl, rfl⟩ := trodAll_nil r0
  obtain rfl : args = #[v0] := by cases args; simp_all
  obtain ⟨rfl, rfl⟩ := trodVars_none hV
  have k0 := h0
  have lt0 : ∀ x ∈ p0, x.block < W.heap.size := by obtain ⟨m, hm⟩ := k0; exact DataW.trod_lt m _ _ _ hm
  obtain ⟨c0_0, c0_1, c0_2, c0_3, c0_4, y0_0, y0_1, y0_2, y0_3, y0_4, n0, rfl, -, -, e0_0, e0_1, e0_2, e0_3, e0_4⟩ := Agg.open_agg5 Tryd.underlying41 (by kernel_rfl) (by kernel_rfl) (hval 0 41 v0 rfl rfl) h0
  obtain ⟨x0_0, g0_0, -, wx0_0⟩ := DataW.trod_int Tryd.underlying2 e0_0
  obtain rfl : c0_0 = .int .i64 x0_0 := by simpa using g0_0
  obtain ⟨x0_1, g0_1, -, wx0_1⟩ := DataW.trod_int Tryd.underlying2 e0_1
  obtain rfl : c0_1 = .int .i64 x0_1 := by simpa using g0_1
  obtain ⟨x0_2, g0_2, -, wx0_2⟩ := DataW.trod_int Tryd.underlying2 e0_2
  obtain rfl : c0_2 = .int .i64 x0_2 := by simpa using g0_2
  obtain ⟨a0_3, len0_3, cap0_3, z0_3, hc0_3, w0_3⟩ : ∃ a len cap zs, c0_3 = .slice a len cap ∧ IsRow .i64 W a len cap zs := by
    rcases open_ints Tryd.underlying39 Tryd.underlying2 (by kernel_rfl) e0_3 with ⟨hcs, _⟩ | ⟨x, l, c, zs, hcs, _, hl, hm, hz, _, hcell, hwz⟩
    · exact ⟨none, 0, 0, [], by simpa using hcs, .inl ⟨rfl, rfl, rfl, rfl⟩⟩
    · exact ⟨some x, l, c, zs, by simpa using hcs, .inr ⟨_, rfl, hl, hm, by simpa using hz, hcell, hwz⟩⟩
  subst hc0_3
  obtain ⟨a0_4, len0_4, cap0_4, z0_4, hc0_4, w0_4⟩ : ∃ a len cap zs, c0_4 = .slice a len cap ∧ IsRow .i64 W a len cap zs := by
    rcases open_ints Tryd.underlying39 Tryd.underlying2 (by kernel_rfl) e0_4 with ⟨hcs, _⟩ | ⟨x, l, c, zs, hcs, _, hl, hm, hz, _, hcell, hwz⟩
    · exact ⟨none, 0, 0, [], by simpa using hcs, .inl ⟨rfl, rfl, rfl, rfl⟩⟩
    · exact ⟨some x, l, c, zs, by simpa using hcs, .inr ⟨_, rfl, hl, hm, by simpa using hz, hcell, hwz⟩⟩
  subst hc0_4
  clear hA0
  refine (walk W x0_0 wx0_0 x0_1 wx0_1 x0_2 wx0_2 a0_3 len0_3 cap0_3 z0_3 w0_3 a0_4 len0_4 cap0_4 z0_4 w0_4 hL hsh).mono fun e W' ⟨he, bel⟩ => ?_
  subst he
  exact ⟨_, rfl, _, _, _, [], _, [], hW', trodAll_mk1 (shut_bool Tryd.underlying4 _), (trodAll_cons_mk (Below.trod laidOut (by kernel_rfl) (of_decide_eq_true (by kernel_rfl)) k0 bel lt0) trodAll_mk0), rfl, bel.frame _, fun h => by cases h⟩

theorem said : Rows.FnExactTerrainTextSaid :=
  OpenClaim.holds_of_cond 5 Tryd.f5 rfl rfl rfl rfl rfl rfl rfl ⟨rfl, rfl, rfl, rfl, rfl⟩ rfl rfl rfl rfl rfl (by kernel_rfl) Tryd.func5 (by kernel_rfl)
    (of_decide_eq_true (by kernel_rfl)) (by unfold Func.isWrapper; first | (rw [if_pos (by decide +kernel)]; kernel_rfl) | (rw [if_neg (by decide +kernel)]; exact ⟨rfl, rfl⟩))
    (fun os started H enc _ F => by rw [OpenClaim.pre_eq_preRow]; exact lifted os started H enc F)

theorem plain (f : FuncId) (fn : Func) (hf : Tryd.pinned.checked.prog.funcNamed "loop.example/g00925/laws.FnExactTerrainText" = some f) (hfn : Tryd.pinned.checked.prog.funcs[f]? = some fn) :
    false = Tryd.pinned.checked.prog.looks [] ∧ ∀ (j : Nat) t, fn.params[j]? = some t → Tryd.pinned.checked.prog.wantsStandIn t = false := by
  obtain rfl : f = 5 := Option.some.inj ((show Tryd.prog.funcNamed "loop.example/g00925/laws.FnExactTerrainText" = some 5 by kernel_rfl).symm.trans hf) |>.symm
  obtain rfl : fn = Tryd.f5 := (Option.some.inj (Tryd.func5.symm.trans hfn)).symm
  refine ⟨by kernel_rfl, fun j t ht => ?_⟩
  rw [Tryd.params5] at ht
  have ht' := Array.mem_of_getElem? ht
  simp at ht'
  obtain rfl : t = 41 := by simpa using ht'
  exact (show Tryd.prog.wantsStandIn 41 = false by kernel_rfl)

/-- The statement: the tied card. -/
theorem card : Rows.FnExactTerrainTextCardSaid :=
  Claim7.holds_tied_plain_at .later [] _ _ _ _ said (fun _ h => by cases h) (by kernel_rfl) (fun _ h => by cases h) fnExactTerrainText_row_tie rfl ⟨rfl, rfl⟩ (by kernel_rfl) rfl plain (by kernel_rfl)
end Go.Proofs.YtggiilbdlbhpgaaDoor.fnExactTerrainText
