/-
  For every terrain and every end of a path EndHeight of the program returns what the model returns, and leaves the terrain alone: the statement FnExactEndHeight, as a card. Its row lists the program's variables of errors, tied to the text by the card; no other condition (a terrain of more than 1048576 heights and classes is let pass by the statement itself).
-/
import Derived.Test.YtadoaenmmemjdaaDoorCards
import Derived.Test.YtadoaenmmemjdaaDoorTie
import Derived.Test.YtadoaenmmemjdaaDoorEndH
import Derived.Test.YtadoaenmmemjdaaDoorSens
import Derived.Test.YtadoaenmmemjdaaDoorFit
import Derived.Deep.RegionWith
import Derived.Deep.DeepCutAuto
import Derived.WalkKit
import Derived.ProofKit
import Derived.OpenShut
import Derived.ShutString
import Derived.Below
import Derived.ChangeOld
import Derived.OpenVars
import Derived.ChangeVars
import Derived.Deep.DeepHandedRow
import Derived.Lib.LaidTab
import Derived.Deep.DeepWitnessRowRef
import Derived.RowKitTokens
import Derived.Lib.SmallJoins
import Derived.Test.YtadoaenmmemjdaaDoorEnd0
import Derived.Test.YtadoaenmmemjdaaDoorVars
import Derived.Test.YtadoaenmmemjdaaDoorAgg
namespace Go.Proofs.YtadoaenmmemjdaaDoor.fnExactEndHeight
open Go.ChangeShapes Go.WideShapes Go.ChangeAt Go.RowKit
open Go.ChangeMaps (open_string shut_string)
set_option linter.unusedVariables false

theorem own : ownKnob Tryd.prog.godebug = none := by kernel_rfl
theorem laidOut : laidOutB Tryd.prog = true := by kernel_rfl

/-- What the walk is told of a slice of integers that came in: it is nil; or it leads to a row of 'cap' cells, the numbers 'zs' (the first 'len' are its elements), each fitting its kind. -/
def IsRow (k : IntKind) (w : World) (a : Option Addr) (len cap : Nat) (zs : List Int) : Prop :=
  (a = none ∧ len = 0 ∧ cap = 0 ∧ zs = []) ∨
  ∃ x, a = some x ∧ len ≤ cap ∧ cap ≤ maxLen ∧ zs.length = cap ∧ (∀ i, i < zs.length → w.cell? (x.add i) = some (.int k (zs.getD i 0))) ∧ ∀ n ∈ zs, (Lit.int k n).wf = true

set_option maxRecDepth 100000 in
set_option maxHeartbeats 8000000 in
/-- The walk. -/
theorem walk (w : World) (x0_0 : Int) (wx0_0 : (Lit.int .i64 x0_0).wf = true) (x0_1 : Int) (wx0_1 : (Lit.int .i64 x0_1).wf = true) (x0_2 : Int) (wx0_2 : (Lit.int .i64 x0_2).wf = true) (a0_3 : Option Addr) (len0_3 cap0_3 : Nat) (z0_3 : List Int) (w0_3 : IsRow .i64 w a0_3 len0_3 cap0_3 z0_3) (a0_4 : Option Addr) (len0_4 cap0_4 : Nat) (z0_4 : List Int) (w0_4 : IsRow .i64 w a0_4 len0_4 cap0_4 z0_4) (x1 y1 z1 : Int) (wx1 : (Lit.int .i64 x1).wf = true) (wy1 : (Lit.int .i64 y1).wf = true) (wz1 : (Lit.int .i64 z1).wf = true) (hL : laidMetH Tryd.prog Rows.fnExactEndHeightRow.laid w) (hsh : w.ShapedOpen Tryd.prog) :
    Calls Tryd.prog 3 #[.agg #[.int .i64 x0_0, .int .i64 x0_1, .int .i64 x0_2, .slice a0_3 len0_3 cap0_3, .slice a0_4 len0_4 cap0_4], .agg #[.int .i64 x1, .int .i64 y1, .int .i64 z1]] w fun e w' => e = .returned (.bool true) ∧ Below w.heap.size w w' := by
  obtain ⟨SA, hSA⟩ := Sens.sens (W := w) (l := Rows.fnExactEndHeightRow.laid) hL (.head _) (.tail _ (.head _)) (.tail _ (.tail _ (.head _))) (.tail _ (.tail _ (.tail _ (.head _))))
  have HSN := Lib.hid hSA
  clear hSA hL hsh
  obtain ⟨hi, hlen⟩ := Ints.Ints.of_arg w0_3
  obtain ⟨hj, hmen⟩ := Ints.Ints.of_arg w0_4
  have hmx : len0_3 ≤ maxLen := by
    rcases w0_3 with ⟨_, h, _, _⟩ | ⟨_, _, h1, h2, _⟩
    · rw [h]; exact Nat.zero_le _
    · exact Nat.le_trans h1 h2
  have hmy : len0_4 ≤ maxLen := by
    rcases w0_4 with ⟨_, h, _, _⟩ | ⟨_, _, h1, h2, _⟩
    · rw [h]; exact Nat.zero_le _
    · exact Nat.le_trans h1 h2
  have hz := fun w => Terr.szTerrain 1048576 len0_3 len0_4 x0_0 x0_1 x0_2 a0_3 a0_4 cap0_3 cap0_4 w (by omega) hmx hmy
  rw [show (((1048576 : Nat) : Int)) = 1048576 from rfl] at hz
  clear w0_3 w0_4 hmx hmy wx1 wy1 wz1
  by_cases hl : len0_3 ≤ 1048576 ∧ len0_4 ≤ 1048576 - len0_3
  · obtain ⟨hl, hl2⟩ := hl
    obtain ⟨r, hr⟩ : ∃ r : Nat, r = 1048576 - len0_3 - len0_4 := ⟨_, rfl⟩
    rw [show Terr.rest2 1048576 len0_3 len0_4 = (r : Int) by unfold Terr.rest2; rw [if_pos hl, Terr.rest_yes hl2, hr]] at hz
    have hr0 : ¬ ((r : Int) < 0) := by omega
    have HZ := Lib.hid hz
    clear hz hr
    obtain ⟨zs, hzs⟩ : ∃ zs, zs = z0_3.take len0_3 := ⟨_, rfl⟩
    obtain ⟨cs, hcs⟩ : ∃ cs, cs = z0_4.take len0_4 := ⟨_, rfl⟩
    rw [← hzs] at hi hlen
    rw [← hcs] at hj hmen
    clear hzs hcs
    subst hlen hmen
    have hn : zs.length ≤ 1048576 := hl
    have hm : cs.length ≤ 1048576 := by omega
    have HI := Lib.hid hi
    have HJ := Lib.hid hj
    clear hi hj hl hl2
    go_enter Tryd.func3, Tryd.ntmps3
    go_wp2_with fail
    refine (HZ.out _).mono ?_
    rintro e w1 ⟨rfl, h1⟩
    have K1 : Terr.TIn w1 w.heap.size x0_0 x0_1 x0_2 (.slice a0_3 zs.length cap0_3) (.slice a0_4 cs.length cap0_4) := Terr.TIn.on ⟨by simp [go_sem], by simp [go_sem], by simp [go_sem], by simp [go_sem], by simp [go_sem]⟩ h1
    have R1 : EndOk.EIn w1 (w.heap.size + 1) x1 y1 z1 := EndOk.EIn.on ⟨by simp [go_sem], by simp [go_sem], by simp [go_sem]⟩ h1
    have HO1 := Lib.hid (On.trans (On.alloc (On.alloc (On.refl w) _) _) h1)
    have HK1 := Lib.hid K1
    have HR1 := Lib.hid R1
    obtain ⟨k10, k11, k12, k13, k14⟩ := K1
    obtain ⟨r10, r11, r12⟩ := R1
    clear h1 HZ
    go_upto_region 5 with fail
    go_cut [6, 7] (fun s6 s7 wx => s6 = .int .i64 (High.endV x0_0 x0_1 x0_2 zs cs x1 y1 z1) ∧ s7 = .int .i64 (High.endC x0_0 x0_1 x0_2 zs cs x1 y1 z1) ∧ On w1 wx)
    case first =>
      go_region_with (first
        | (go_at_call 8; refine (Terr.toTerrain _ _ _ _ _ zs cs _ hn hm (HI.out.below (On.trans HO1.out (by repeat (first | with_reducible exact On.refl _ | with_reducible exact Below.refl _ _ | apply On.drew)))) (HJ.out.below (On.trans HO1.out (by repeat (first | with_reducible exact On.refl _ | with_reducible exact Below.refl _ _ | apply On.drew))))).mono ?_; rintro e w6 ⟨a6, cap6, b6, dap6, rfl, ho6, hp6, h6⟩; (have h16 : On w1 w6 := by refine On.trans ?_ h6; repeat (first | with_reducible exact On.refl _ | apply On.drew)); obtain ⟨q0, q1, q2⟩ := HR1.out.on h16; have HA6 := Lib.hid ho6.ints; have HB6 := Lib.hid hp6.ints; clear ho6 hp6 h6)
        | (go_at_call 9; refine (EndOk.laws_toEnd _ _ _ _).mono ?_; rintro e w7 ⟨rfl, h7⟩; (have h67 : On w6 w7 := by refine On.trans ?_ h7; repeat (first | with_reducible exact On.refl _ | apply On.drew)); clear h7)
        | (go_at_call 7; refine (High.spec_EndHeight x0_0 x0_1 x0_2 a6 b6 zs.length cap6 cs.length dap6 zs cs x1 y1 z1 _ rfl rfl hn hm (HA6.out.below (On.trans ‹On w6 w7› (by repeat (first | with_reducible exact On.refl _ | with_reducible exact Below.refl _ _ | apply On.drew)))) (HB6.out.below (On.trans ‹On w6 w7› (by repeat (first | with_reducible exact On.refl _ | with_reducible exact Below.refl _ _ | apply On.drew))))).mono ?_; rintro e w8 ⟨rfl, h8⟩; (have h78 : On w7 w8 := by refine On.trans ?_ h8; repeat (first | with_reducible exact On.refl _ | apply On.drew)); clear h8))
      all_goals
        go_wp2_with fail
        go_meet
        exact ⟨rfl, rfl, On.trans ‹On w1 w6› (On.trans ‹On w6 w7› ‹On w7 w8›)⟩
    case rest =>
    obtain ⟨rfl, rfl, hO⟩ := hcut
    have K3 := HK1.out.on hO
    have HK3 := Lib.hid K3
    have HR3 := Lib.hid (HR1.out.on hO)
    have HO3 := Lib.hid (On.trans HO1.out hO)
    obtain ⟨k30, k31, k32, k33, k34⟩ := K3
    clear k10 k11 k12 k13 k14 r10 r11 r12 hO HK1 HR1 HO1
    go_wp2_with fail
    refine (Terr.toTerrainFit _ _ _ _ _ zs cs _ hn hm (HI.out.below HO3.out) (HJ.out.below HO3.out)).mono ?_
    rintro e w4 ⟨a4, cap4, b4, dap4, rfl, hfit, ho4, hp4, h4⟩
    have HA4 := Lib.hid ho4.ints
    have HB4 := Lib.hid hp4.ints
    have HO4 := Lib.hid (On.trans HO3.out h4)
    have HK4 := Lib.hid (HK3.out.on h4)
    have R4 := HR3.out.on h4
    have HR4 := Lib.hid R4
    obtain ⟨r40, r41, r42⟩ := R4
    have y4 := World.block_lt_of_cell? w4 _ r40
    have y4' : w.heap.size + 1 ≠ w4.heap.size := by have y5 : w.heap.size + 1 < w4.heap.size := y4; omega
    clear k30 k31 k32 k33 k34 h4 ho4 hp4 HK3 HR3 HO3
    go_upto_region 7 with fail
    go_cut [9, 10] (fun s9 s10 wx => s9 = .int .i64 (High.endV x0_0 x0_1 x0_2 zs cs x1 y1 z1) ∧ s10 = .int .i64 (High.endC x0_0 x0_1 x0_2 zs cs x1 y1 z1) ∧ Terr.TIn wx w4.heap.size x0_0 x0_1 x0_2 (.slice a4 zs.length cap4) (.slice b4 cs.length dap4) ∧ On w4 wx)
    case first =>
      go_region_with (first
        | (go_at_call 9; refine (EndOk.laws_toEnd _ _ _ _).mono ?_; rintro e w7 ⟨rfl, h7⟩; (have hT7 : Terr.TIn w7 w4.heap.size x0_0 x0_1 x0_2 (.slice a4 zs.length cap4) (.slice b4 cs.length dap4) := Terr.TIn.on ⟨by simp [go_sem], by simp [go_sem], by simp [go_sem], by simp [go_sem], by simp [go_sem]⟩ h7); (have h47 : On w4 w7 := by refine On.trans ?_ h7; repeat (first | with_reducible exact On.refl _ | apply On.drew | apply On.alloc | refine On.setCell ?_ (by (try simp) <;> omega) _)); have HT7 := Lib.hid hT7; obtain ⟨q0, q1, q2, q3, q4⟩ := hT7; clear h7)
        | (go_at_call 10; refine (High.impl_EndHeight SA x0_0 x0_1 x0_2 a4 b4 zs.length cap4 cs.length dap4 zs cs x1 y1 z1 _ rfl rfl hn hm (HA4.out.below (On.trans ‹On w4 w7› (by repeat (first | with_reducible exact On.refl _ | with_reducible exact Below.refl _ _ | apply On.drew)))) (HB4.out.below (On.trans ‹On w4 w7› (by repeat (first | with_reducible exact On.refl _ | with_reducible exact Below.refl _ _ | apply On.drew)))) hfit (HSN.out.on (On.trans HO4.out (On.trans ‹On w4 w7› (by repeat (first | with_reducible exact On.refl _ | apply On.drew)))))).mono ?_; rintro e w8 ⟨rfl, h8⟩; (have h78 : On w7 w8 := by refine On.trans ?_ h8; repeat (first | with_reducible exact On.refl _ | apply On.drew)); clear h8))
      all_goals
        go_wp2_with fail
        go_meet
        exact ⟨rfl, rfl, HT7.out.on ‹On w7 w8›, On.trans ‹On w4 w7› ‹On w7 w8›⟩
    case rest =>
    obtain ⟨rfl, rfl, P5, h45⟩ := hcut
    have HA5 := Lib.hid (HA4.out.below h45)
    have HB5 := Lib.hid (HB4.out.below h45)
    have HO5 := Lib.hid (On.trans HO4.out h45)
    have K5 := HK4.out.on h45
    have HP5 := Lib.hid P5
    obtain ⟨k50, k51, k52, k53, k54⟩ := K5
    obtain ⟨p50, p51, p52, p53, p54⟩ := P5
    clear r40 r41 r42 y4 y4' h45 HK4 HR4 HO4 HA4 HB4
    go_wp2_with fail
    go_region_with (first
      | (go_at_call 8; refine (Terr.toTerrain _ _ _ _ _ zs cs _ hn hm (HI.out.below (On.trans HO5.out (by repeat (first | exact On.refl _ | apply On.drew)))) (HJ.out.below (On.trans HO5.out (by repeat (first | exact On.refl _ | apply On.drew))))).mono ?_; rintro e w6 ⟨a6, cap6, b6, dap6, rfl, ho6, hp6, h6⟩; (have h56 : On wc w6 := by refine On.trans ?_ h6; repeat (first | exact On.refl _ | apply On.drew)); obtain ⟨q0, q1, q2, q3, q4⟩ := HP5.out.on h56; have HA6 := Lib.hid ho6.ints; have HB6 := Lib.hid hp6.ints; clear ho6 hp6 h6)
      | (go_at_call 11; refine (Terr.eqTerrain _ _ _ _ _ _ _ zs cs _ hn hm ((HA5.out.below ‹On wc _›).below (by repeat (first | exact On.refl _ | apply On.drew))) ((HB5.out.below ‹On wc _›).below (by repeat (first | exact On.refl _ | apply On.drew))) (HA6.out.below (by repeat (first | exact On.refl _ | apply On.drew))) (HB6.out.below (by repeat (first | exact On.refl _ | apply On.drew)))).mono ?_; rintro e w7 ⟨rfl, h7⟩))
    all_goals
      go_wp2_with fail
      go_ret
      exact ⟨rfl, On.trans HO5.out (On.trans ‹On wc _› (On.trans (by repeat (first | exact On.refl _ | apply On.drew)) ‹On _ w7›))⟩
  · rw [show Terr.rest2 1048576 len0_3 len0_4 = -1 by unfold Terr.rest2 Terr.rest; split <;> (try split) <;> omega] at hz
    have HZ := Lib.hid hz
    clear hz hi hj hlen hmen hl
    go_enter Tryd.func3, Tryd.ntmps3
    go_wp2_with fail
    refine (HZ.out _).mono ?_
    rintro e w1 ⟨rfl, h1⟩
    go_wp2_with fail
    go_ret
    exact ⟨rfl, by repeat (first | with_reducible exact On.refl _ | apply On.alloc | refine On.trans ?_ h1)⟩

/-- How many blocks the settled world has. -/
noncomputable def low : Nat := (World.holding Tryd.prog default ⟨#[], #[], []⟩).heap.size
/-- A world for the witness: the settled one, each listed variable holding what the program's text lays. -/
noncomputable def laidWorld (os : Os) : World :=
  let w0 := World.holding Tryd.prog os ⟨#[.cells #[.string ⟨#[97, 32, 116, 101, 114, 114, 97, 105, 110, 32, 111, 114, 32, 97, 110, 32, 101, 110, 100, 32, 105, 115, 32, 110, 111, 116, 32, 118, 97, 108, 105, 100]⟩] 155, .cells #[.string ⟨#[97, 32, 112, 108, 97, 99, 101, 32, 105, 115, 32, 110, 111, 116, 32, 105, 110, 32, 116, 104, 101, 32, 116, 101, 114, 114, 97, 105, 110, 44, 32, 111, 114, 32, 97, 32, 110, 117, 109, 98, 101, 114, 32, 105, 115, 32, 110, 111, 116, 32, 97, 115, 32, 115, 116, 97, 116, 101, 100]⟩] 155, .cells #[.string ⟨#[116, 104, 101, 114, 101, 32, 97, 114, 101, 32, 116, 111, 111, 32, 109, 97, 110, 121, 32, 101, 110, 100, 115]⟩] 155, .cells #[.string ⟨#[116, 104, 101, 114, 101, 32, 105, 115, 32, 110, 111, 32, 112, 97, 116, 104]⟩] 155], #[], []⟩
  let h0 := w0.heap.modify 0 fun
    | .cells _ t frozen => .cells #[.iface 129 (.pointer (some ⟨low + 0, 0, none⟩))] t frozen
    | o => o
  let h1 := h0.modify 1 fun
    | .cells _ t frozen => .cells #[.iface 129 (.pointer (some ⟨low + 1, 0, none⟩))] t frozen
    | o => o
  let h2 := h1.modify 2 fun
    | .cells _ t frozen => .cells #[.iface 129 (.pointer (some ⟨low + 2, 0, none⟩))] t frozen
    | o => o
  let h3 := h2.modify 3 fun
    | .cells _ t frozen => .cells #[.iface 129 (.pointer (some ⟨low + 3, 0, none⟩))] t frozen
    | o => o
  { w0 with heap := h3 }
theorem laid_met (os : Os) : laidMet Tryd.prog Rows.fnExactEndHeightRow.laid ((laidWorld os).forCall (fun _ _ => 0) ⟨#[], #[.agg #[.int .i64 0, .int .i64 0, .int .i64 0, .slice none 0 0, .slice none 0 0], .agg #[.int .i64 0, .int .i64 0, .int .i64 0]], []⟩).memory :=
  laidMet_of_run' 8 (by kernel_rfl) (by kernel_rfl)
theorem witness_row (os : Os) {H : Type} (enc : TypeId × Value → H) :
    (OpenSpec.ofChange Rows.fnExactEndHeightSpec).preRow enc Tryd.prog Tryd.f3 Rows.fnExactEndHeightRow.domain false Rows.fnExactEndHeightRow.laid ((laidWorld os).forCall (fun _ _ => 0) ⟨#[], #[.agg #[.int .i64 0, .int .i64 0, .int .i64 0, .slice none 0 0, .slice none 0 0], .agg #[.int .i64 0, .int .i64 0, .int .i64 0]], []⟩).memory #[.agg #[.int .i64 0, .int .i64 0, .int .i64 0, .slice none 0 0, .slice none 0 0], .agg #[.int .i64 0, .int .i64 0, .int .i64 0]] := by
  have hw : (DataW.whole enc Tryd.prog ((laidWorld os).forCall (fun _ _ => 0) ⟨#[], #[.agg #[.int .i64 0, .int .i64 0, .int .i64 0, .slice none 0 0, .slice none 0 0], .agg #[.int .i64 0, .int .i64 0, .int .i64 0]], []⟩).memory Tryd.f3.params.toList Rows.fnExactEndHeightSpec.vars false (#[.agg #[.int .i64 0, .int .i64 0, .int .i64 0, .slice none 0 0, .slice none 0 0], .agg #[.int .i64 0, .int .i64 0, .int .i64 0]] : Array Value).toList 8).map (fun x => (x.1, x.2.1)) = some ([.agg [.lit (.int .i64 0), .lit (.int .i64 0), .lit (.int .i64 0), .nil, .nil], .agg [.agg [.lit (.int .i64 0), .lit (.int .i64 0)], .lit (.int .i64 0)]], [tok enc (.iface 129 (.pointer (some ⟨low, 0, none⟩))), tok enc (.iface 129 (.pointer (some ⟨low + 1, 0, none⟩))), tok enc (.iface 129 (.pointer (some ⟨low + 2, 0, none⟩))), tok enc (.iface 129 (.pointer (some ⟨low + 3, 0, none⟩)))]) := by kernel_rfl
  obtain ⟨⟨x1, x2, x3⟩, hx, hx1⟩ := Option.map_eq_some_iff.1 hw
  simp only [Prod.mk.injEq] at hx1
  obtain ⟨rfl, rfl⟩ := hx1
  exact OpenSpec.preRow_of_cond 8 hx (by kernel_rfl) (fun k hk => by cases hk) (by kernel_rfl) (laid_met os)

set_option maxRecDepth 100000 in
/-- The row's step. -/
theorem lifted (os : Os) (started : os.Started) (H : Type) (enc : TypeId × Value → H) (F : Stop.Interp) :
    ReturnsInHanded {} Tryd.checked os 3 .any ((OpenSpec.ofChange Rows.fnExactEndHeightSpec).preRow enc Tryd.prog Tryd.f3 Rows.fnExactEndHeightRow.domain false Rows.fnExactEndHeightRow.laid) (((OpenSpec.ofChange Rows.fnExactEndHeightSpec).at F).post enc Tryd.prog Tryd.f3 false true false false) := by
  refine returnsInHanded_of_row (C := Tryd.checked) (s := OpenSpec.ofChange Rows.fnExactEndHeightSpec) own started (by kernel_rfl) Tryd.func3
    (witness_row_atRef (enc := enc) (C := Tryd.checked) false (laidWorld os) #[.agg #[.int .i64 0, .int .i64 0, .int .i64 0, .slice none 0 0, .slice none 0 0], .agg #[.int .i64 0, .int .i64 0, .int .i64 0]] rfl (by kernel_rfl) (by kernel_rfl) (by kernel_rfl) (witness_row os enc)) ?_
  intro W base args ds gs before hval hW _ _ _ hL hsh _
  have hW' := hW
  obtain ⟨p, q, hA0, hV, rfl, hfz, hnd⟩ := hW
  have hA : DataW.TrodAll enc Tryd.prog W 0 (fun _ => true) true Tryd.f3.params.toList args.toList ds p := hA0
  rw [Tryd.params3] at hA hval
  obtain ⟨v0, vs0, d0, ds0, p0, q0, hargs, rfl, rfl, h0, r0⟩ := trodAll_cons hA
  obtain ⟨v1, vs1, d1, ds1, p1, q1, rfl, rfl, rfl, h1, r1⟩ := trodAll_cons r0
  obtain ⟨rfl, rfl, rfl⟩ := trodAll_nil r1
  obtain rfl : args = #[v0, v1] := by cases args; simp_all
  have hV1 := hV
  obtain ⟨dv0, dv1, dv2, dv3, rfl⟩ := Vars.list4 (Vars.vars_len hV)
  have k0 := h0
  have lt0 : ∀ x ∈ p0, x.block < W.heap.size := by obtain ⟨m, hm⟩ := k0; exact DataW.trod_lt m _ _ _ hm
  obtain ⟨c0_0, c0_1, c0_2, c0_3, c0_4, y0_0, y0_1, y0_2, y0_3, y0_4, n0, rfl, -, -, e0_0, e0_1, e0_2, e0_3, e0_4⟩ := Agg.open_agg5 Tryd.underlying24 (by kernel_rfl) (by kernel_rfl) (hval 0 24 v0 rfl rfl) h0
  obtain ⟨x0_0, g0_0, -, wx0_0⟩ := DataW.trod_int Tryd.underlying2 e0_0
  obtain rfl : c0_0 = .int .i64 x0_0 := by simpa using g0_0
  obtain ⟨x0_1, g0_1, -, wx0_1⟩ := DataW.trod_int Tryd.underlying2 e0_1
  obtain rfl : c0_1 = .int .i64 x0_1 := by simpa using g0_1
  obtain ⟨x0_2, g0_2, -, wx0_2⟩ := DataW.trod_int Tryd.underlying2 e0_2
  obtain rfl : c0_2 = .int .i64 x0_2 := by simpa using g0_2
  obtain ⟨a0_3, len0_3, cap0_3, z0_3, hc0_3, w0_3⟩ : ∃ a len cap zs, c0_3 = .slice a len cap ∧ IsRow .i64 W a len cap zs := by
    rcases open_ints Tryd.underlying22 Tryd.underlying2 (by kernel_rfl) e0_3 with ⟨hcs, _⟩ | ⟨x, l, c, zs, hcs, _, hl, hm, hz, _, hcell, hwz⟩
    · exact ⟨none, 0, 0, [], by simpa using hcs, .inl ⟨rfl, rfl, rfl, rfl⟩⟩
    · exact ⟨some x, l, c, zs, by simpa using hcs, .inr ⟨_, rfl, hl, hm, by simpa using hz, hcell, hwz⟩⟩
  subst hc0_3
  obtain ⟨a0_4, len0_4, cap0_4, z0_4, hc0_4, w0_4⟩ : ∃ a len cap zs, c0_4 = .slice a len cap ∧ IsRow .i64 W a len cap zs := by
    rcases open_ints Tryd.underlying22 Tryd.underlying2 (by kernel_rfl) e0_4 with ⟨hcs, _⟩ | ⟨x, l, c, zs, hcs, _, hl, hm, hz, _, hcell, hwz⟩
    · exact ⟨none, 0, 0, [], by simpa using hcs, .inl ⟨rfl, rfl, rfl, rfl⟩⟩
    · exact ⟨some x, l, c, zs, by simpa using hcs, .inr ⟨_, rfl, hl, hm, by simpa using hz, hcell, hwz⟩⟩
  subst hc0_4
  have k1 := h1
  have lt1 : ∀ x ∈ p1, x.block < W.heap.size := by obtain ⟨m, hm⟩ := k1; exact DataW.trod_lt m _ _ _ hm
  obtain ⟨cx1, cy1, cz1, dx1, dy1, dz1, n1, m1, rfl, ex1, ey1, ez1⟩ := EndIn.open_end Tryd.underlying28 Tryd.underlying26 (by kernel_rfl) (by kernel_rfl) (by kernel_rfl) (hval 1 28 v1 rfl rfl) h1
  obtain ⟨x1, gx1, -, wx1⟩ := DataW.trod_int Tryd.underlying2 ex1
  obtain ⟨y1, gy1, -, wy1⟩ := DataW.trod_int Tryd.underlying2 ey1
  obtain ⟨z1, gz1, -, wz1⟩ := DataW.trod_int Tryd.underlying2 ez1
  obtain rfl : cx1 = .int .i64 x1 := by simpa using gx1
  obtain rfl : cy1 = .int .i64 y1 := by simpa using gy1
  obtain rfl : cz1 = .int .i64 z1 := by simpa using gz1
  clear hA0
  refine (walk W x0_0 wx0_0 x0_1 wx0_1 x0_2 wx0_2 a0_3 len0_3 cap0_3 z0_3 w0_3 a0_4 len0_4 cap0_4 z0_4 w0_4 x1 y1 z1 wx1 wy1 wz1 hL hsh).mono fun e W' ⟨he, bel⟩ => ?_
  subst he
  exact ⟨_, rfl, _, _, _, [], _, q, hW', trodAll_mk1 (shut_bool Tryd.underlying4 _), (trodAll_cons_mk (Below.trod laidOut (by kernel_rfl) (of_decide_eq_true (by kernel_rfl)) k0 bel lt0) (trodAll_cons_mk (Below.trod laidOut (by kernel_rfl) (of_decide_eq_true (by kernel_rfl)) k1 bel lt1) trodAll_mk0)), (Below.trodVars laidOut bel (by kernel_rfl) hV1), bel.frame _, fun h => by cases h⟩

theorem said : Rows.FnExactEndHeightSaid :=
  OpenClaim.holds_of_cond 3 Tryd.f3 rfl rfl rfl rfl rfl rfl rfl ⟨rfl, rfl, rfl, rfl, rfl⟩ rfl rfl rfl rfl rfl (by kernel_rfl) Tryd.func3 (by kernel_rfl)
    (of_decide_eq_true (by kernel_rfl)) (by unfold Func.isWrapper; first | (rw [if_pos (by decide +kernel)]; kernel_rfl) | (rw [if_neg (by decide +kernel)]; exact ⟨rfl, rfl⟩))
    (fun os started H enc _ F => by rw [OpenClaim.pre_eq_preRow]; exact lifted os started H enc F)

theorem plain (f : FuncId) (fn : Func) (hf : Tryd.pinned.checked.prog.funcNamed "loop.example/g00925/laws.FnExactEndHeight" = some f) (hfn : Tryd.pinned.checked.prog.funcs[f]? = some fn) :
    true = Tryd.pinned.checked.prog.looks [] ∧ ∀ (j : Nat) t, fn.params[j]? = some t → Tryd.pinned.checked.prog.wantsStandIn t = false := by
  obtain rfl : f = 3 := Option.some.inj ((show Tryd.prog.funcNamed "loop.example/g00925/laws.FnExactEndHeight" = some 3 by kernel_rfl).symm.trans hf) |>.symm
  obtain rfl : fn = Tryd.f3 := (Option.some.inj (Tryd.func3.symm.trans hfn)).symm
  refine ⟨by kernel_rfl, fun j t ht => ?_⟩
  rw [Tryd.params3] at ht
  have ht' := Array.mem_of_getElem? ht
  simp at ht'
  have s24 : Tryd.pinned.checked.prog.wantsStandIn 24 = false := (show Tryd.prog.wantsStandIn 24 = false by kernel_rfl)
  have s28 : Tryd.pinned.checked.prog.wantsStandIn 28 = false := (show Tryd.prog.wantsStandIn 28 = false by kernel_rfl)
  first | (rcases ht' with rfl | rfl <;> first | with_reducible exact s24 | with_reducible exact s28)

/-- The statement: the tied card. -/
theorem card : Rows.FnExactEndHeightCardSaid :=
  Claim7.holds_tied_plain_at .later [] _ _ _ _ said (fun _ h => by cases h) (by kernel_rfl) (fun _ h => by cases h) fnExactEndHeight_row_tie rfl ⟨rfl, rfl⟩ (by kernel_rfl) rfl plain (by kernel_rfl)
end Go.Proofs.YtadoaenmmemjdaaDoor.fnExactEndHeight
