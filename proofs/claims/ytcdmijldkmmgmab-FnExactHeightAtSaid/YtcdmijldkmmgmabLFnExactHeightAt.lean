/-
  For every terrain and every point HeightAt of the program returns what the model returns, and leaves the terrain alone: the statement FnExactHeightAt, with no condition (a terrain of more than 1048576 heights and classes is let pass by the statement itself).
-/
import Derived.Test.YtcdmijldkmmgmabRows
import Derived.Test.YtcdmijldkmmgmabTerrHL
import Derived.Deep.RegionWith
import Derived.Deep.DeepCutAuto
import Derived.WalkKit
import Derived.ProofKit
import Derived.OpenShut
import Derived.ShutString
import Derived.Below
import Derived.Lib.SmallJoins
import Derived.Test.YtcdmijldkmmgmabAgg
namespace Go.Proofs.Ytcdmijldkmmgmab.fnExactHeightAt
open Go.ChangeShapes Go.WideShapes Go.ChangeAt Go.RowKit
open Go.ChangeMaps (open_string shut_string)
set_option linter.unusedVariables false

theorem own : ownKnob Try.prog.godebug = none := by kernel_rfl
theorem laidOut : laidOutB Try.prog = true := by kernel_rfl

/-- What the walk is told of a slice of integers that came in: it is nil; or it leads to a row of 'cap' cells, the numbers 'zs' (the first 'len' are its elements), each fitting its kind. -/
def IsRow (k : IntKind) (w : World) (a : Option Addr) (len cap : Nat) (zs : List Int) : Prop :=
  (a = none ∧ len = 0 ∧ cap = 0 ∧ zs = []) ∨
  ∃ x, a = some x ∧ len ≤ cap ∧ cap ≤ maxLen ∧ zs.length = cap ∧ (∀ i, i < zs.length → w.cell? (x.add i) = some (.int k (zs.getD i 0))) ∧ ∀ n ∈ zs, (Lit.int k n).wf = true

set_option maxRecDepth 100000 in
set_option maxHeartbeats 4000000 in
/-- The walk. -/
theorem walk (w : World) (x0_0 : Int) (wx0_0 : (Lit.int .i64 x0_0).wf = true) (x0_1 : Int) (wx0_1 : (Lit.int .i64 x0_1).wf = true) (x0_2 : Int) (wx0_2 : (Lit.int .i64 x0_2).wf = true) (a0_3 : Option Addr) (len0_3 cap0_3 : Nat) (z0_3 : List Int) (w0_3 : IsRow .i64 w a0_3 len0_3 cap0_3 z0_3) (a0_4 : Option Addr) (len0_4 cap0_4 : Nat) (z0_4 : List Int) (w0_4 : IsRow .i64 w a0_4 len0_4 cap0_4 z0_4) (x1 y1 : Int) (wx1 : (Lit.int .i64 x1).wf = true) (wy1 : (Lit.int .i64 y1).wf = true) :
    Calls Try.prog 5 #[.agg #[.int .i64 x0_0, .int .i64 x0_1, .int .i64 x0_2, .slice a0_3 len0_3 cap0_3, .slice a0_4 len0_4 cap0_4], .agg #[.int .i64 x1, .int .i64 y1]] w fun e w' => e = .returned (.bool true) ∧ Below w.heap.size w w' := by
  obtain ⟨hi, hlen⟩ := Ints.Ints.of_arg w0_3
  obtain ⟨hj, hmen⟩ := Ints.Ints.of_arg w0_4
  have hmx : len0_3 ≤ maxLen := by
    rcases w0_3 with ⟨_, h, _, _⟩ | ⟨_, _, h1, h2, _⟩
    · rw [h]; exact Nat.zero_le _
    · exact Nat.le_trans h1 h2
  have hmy : len0_4 ≤ maxLen := by
    rcases w0_4 with ⟨_, h, _, _⟩ | ⟨_, _, h1, h2, _⟩
    · rw [h]; exact Nat.zero_le _
    · exact Nat.le_trans h1 h2
  have hz := fun w => Terr.szTerrain 1048576 len0_3 len0_4 x0_0 x0_1 x0_2 a0_3 a0_4 cap0_3 cap0_4 w (by omega) hmx hmy
  rw [show (((1048576 : Nat) : Int)) = 1048576 from rfl] at hz
  clear w0_3 w0_4 hmx hmy wx1 wy1
  by_cases hl : len0_3 ≤ 1048576 ∧ len0_4 ≤ 1048576 - len0_3
  · obtain ⟨hl, hl2⟩ := hl
    obtain ⟨r, hr⟩ : ∃ r : Nat, r = 1048576 - len0_3 - len0_4 := ⟨_, rfl⟩
    rw [show Terr.rest2 1048576 len0_3 len0_4 = (r : Int) by unfold Terr.rest2; rw [if_pos hl, Terr.rest_yes hl2, hr]] at hz
    have hr0 : ¬ ((r : Int) < 0) := by omega
    have HZ := Lib.hid hz
    clear hz hr
    obtain ⟨zs, hzs⟩ : ∃ zs, zs = z0_3.take len0_3 := ⟨_, rfl⟩
    obtain ⟨cs, hcs⟩ : ∃ cs, cs = z0_4.take len0_4 := ⟨_, rfl⟩
    rw [← hzs] at hi hlen
    rw [← hcs] at hj hmen
    clear hzs hcs
    subst hlen hmen
    have hn : zs.length ≤ 1048576 := hl
    have hm : cs.length ≤ 1048576 := by omega
    have HI := Lib.hid hi
    have HJ := Lib.hid hj
    clear hi hj hl hl2
    go_enter Try.func5, Try.ntmps5
    go_wp2_with fail
    refine (HZ.out _).mono ?_
    rintro e w1 ⟨rfl, h1⟩
    have K1 : Terr.TIn w1 w.heap.size x0_0 x0_1 x0_2 (.slice a0_3 zs.length cap0_3) (.slice a0_4 cs.length cap0_4) := Terr.TIn.on ⟨by simp [go_sem], by simp [go_sem], by simp [go_sem], by simp [go_sem], by simp [go_sem]⟩ h1
    have R1 : Terr.PtIn w1 (w.heap.size + 1) x1 y1 := Terr.PtIn.on ⟨by simp [go_sem], by simp [go_sem]⟩ h1
    have HO1 := Lib.hid (On.trans (On.alloc (On.alloc (On.refl w) _) _) h1)
    have HK1 := Lib.hid K1
    have HR1 := Lib.hid R1
    obtain ⟨k10, k11, k12, k13, k14⟩ := K1
    obtain ⟨r10, r11⟩ := R1
    clear h1 HZ
    go_upto_region 5 with fail
    go_cut [6, 7] (fun s6 s7 wx => s6 = .int .i64 (Terr.hgtV x0_0 x0_1 x0_2 zs cs x1 y1) ∧ s7 = .int .i64 (Terr.atC x0_0 x0_1 x0_2 zs cs x1 y1) ∧ On w1 wx)
    case first =>
      go_region_with (first
        | (go_at_call 13; refine (Terr.toTerrain _ _ _ _ _ zs cs _ hn hm (HI.out.below (On.trans HO1.out (by repeat (first | with_reducible exact On.refl _ | with_reducible exact Below.refl _ _ | apply On.drew)))) (HJ.out.below (On.trans HO1.out (by repeat (first | with_reducible exact On.refl _ | with_reducible exact Below.refl _ _ | apply On.drew))))).mono ?_; rintro e w6 ⟨a6, cap6, b6, dap6, rfl, ho6, hp6, h6⟩; (have h16 : On w1 w6 := by refine On.trans ?_ h6; repeat (first | with_reducible exact On.refl _ | apply On.drew)); obtain ⟨q0, q1⟩ := HR1.out.on h16; have HA6 := Lib.hid ho6.ints; have HB6 := Lib.hid hp6.ints; clear ho6 hp6 h6)
        | (go_at_call 17; refine (Point.laws_toPoint _ _ _).mono ?_; rintro e w7 ⟨rfl, h7⟩; (have h67 : On w6 w7 := by refine On.trans ?_ h7; repeat (first | with_reducible exact On.refl _ | apply On.drew)); clear h7)
        | (go_at_call 19; refine (Terr.spec_heightAt x0_0 x0_1 x0_2 x1 y1 a6 b6 zs.length cap6 cs.length dap6 zs cs _ rfl rfl hn hm (HA6.out.below (On.trans ‹On w6 w7› (by repeat (first | with_reducible exact On.refl _ | with_reducible exact Below.refl _ _ | apply On.drew)))) (HB6.out.below (On.trans ‹On w6 w7› (by repeat (first | with_reducible exact On.refl _ | with_reducible exact Below.refl _ _ | apply On.drew))))).mono ?_; rintro e w8 ⟨rfl, h8⟩; (have h78 : On w7 w8 := by refine On.trans ?_ h8; repeat (first | with_reducible exact On.refl _ | apply On.drew)); clear h8))
      all_goals
        go_wp2_with fail
        go_meet
        exact ⟨rfl, rfl, On.trans ‹On w1 w6› (On.trans ‹On w6 w7› ‹On w7 w8›)⟩
    case rest =>
    obtain ⟨rfl, rfl, hO⟩ := hcut
    have K3 := HK1.out.on hO
    have HK3 := Lib.hid K3
    have HR3 := Lib.hid (HR1.out.on hO)
    have HO3 := Lib.hid (On.trans HO1.out hO)
    obtain ⟨k30, k31, k32, k33, k34⟩ := K3
    clear k10 k11 k12 k13 k14 r10 r11 hO HK1 HR1 HO1
    go_wp2_with fail
    refine (Terr.toTerrainFit _ _ _ _ _ zs cs _ hn hm (HI.out.below HO3.out) (HJ.out.below HO3.out)).mono ?_
    rintro e w4 ⟨a4, cap4, b4, dap4, rfl, hfit, ho4, hp4, h4⟩
    have HA4 := Lib.hid ho4.ints
    have HB4 := Lib.hid hp4.ints
    have HO4 := Lib.hid (On.trans HO3.out h4)
    have HK4 := Lib.hid (HK3.out.on h4)
    have R4 := HR3.out.on h4
    have HR4 := Lib.hid R4
    obtain ⟨r40, r41⟩ := R4
    have y4 := World.block_lt_of_cell? w4 _ r40
    have y4' : w.heap.size + 1 ≠ w4.heap.size := by have y5 : w.heap.size + 1 < w4.heap.size := y4; omega
    clear k30 k31 k32 k33 k34 h4 ho4 hp4 HK3 HR3 HO3
    go_upto_region 7 with fail
    go_cut [9, 10] (fun s9 s10 wx => s9 = .int .i64 (Terr.hgtV x0_0 x0_1 x0_2 zs cs x1 y1) ∧ s10 = .int .i64 (Terr.atC x0_0 x0_1 x0_2 zs cs x1 y1) ∧ Terr.TIn wx w4.heap.size x0_0 x0_1 x0_2 (.slice a4 zs.length cap4) (.slice b4 cs.length dap4) ∧ On w4 wx)
    case first =>
      go_region_with (first
        | (go_at_call 17; refine (Point.laws_toPoint _ _ _).mono ?_; rintro e w7 ⟨rfl, h7⟩; (have hT7 : Terr.TIn w7 w4.heap.size x0_0 x0_1 x0_2 (.slice a4 zs.length cap4) (.slice b4 cs.length dap4) := Terr.TIn.on ⟨by simp [go_sem], by simp [go_sem], by simp [go_sem], by simp [go_sem], by simp [go_sem]⟩ h7); (have h47 : On w4 w7 := by refine On.trans ?_ h7; repeat (first | with_reducible exact On.refl _ | apply On.drew | apply On.alloc | refine On.setCell ?_ (by (try simp) <;> omega) _)); have HT7 := Lib.hid hT7; obtain ⟨q0, q1, q2, q3, q4⟩ := hT7; clear h7)
        | (go_at_call 20; refine (Terr.impl_heightAt x0_0 x0_1 x0_2 x1 y1 a4 b4 zs.length cap4 cs.length dap4 zs cs _ rfl rfl hn hm hfit (HA4.out.below (On.trans ‹On w4 w7› (by repeat (first | with_reducible exact On.refl _ | with_reducible exact Below.refl _ _ | apply On.drew)))) (HB4.out.below (On.trans ‹On w4 w7› (by repeat (first | with_reducible exact On.refl _ | with_reducible exact Below.refl _ _ | apply On.drew))))).mono ?_; rintro e w8 ⟨rfl, h8⟩; (have h78 : On w7 w8 := by refine On.trans ?_ h8; repeat (first | with_reducible exact On.refl _ | apply On.drew)); clear h8))
      all_goals
        go_wp2_with fail
        go_meet
        exact ⟨rfl, rfl, HT7.out.on ‹On w7 w8›, On.trans ‹On w4 w7› ‹On w7 w8›⟩
    case rest =>
    obtain ⟨rfl, rfl, P5, h45⟩ := hcut
    have HA5 := Lib.hid (HA4.out.below h45)
    have HB5 := Lib.hid (HB4.out.below h45)
    have HO5 := Lib.hid (On.trans HO4.out h45)
    have K5 := HK4.out.on h45
    have HP5 := Lib.hid P5
    obtain ⟨k50, k51, k52, k53, k54⟩ := K5
    obtain ⟨p50, p51, p52, p53, p54⟩ := P5
    clear r40 r41 y4 y4' h45 HK4 HR4 HO4 HA4 HB4
    go_wp2_with fail
    go_region_with (first
      | (go_at_call 13; refine (Terr.toTerrain _ _ _ _ _ zs cs _ hn hm (HI.out.below (On.trans HO5.out (by repeat (first | exact On.refl _ | apply On.drew)))) (HJ.out.below (On.trans HO5.out (by repeat (first | exact On.refl _ | apply On.drew))))).mono ?_; rintro e w6 ⟨a6, cap6, b6, dap6, rfl, ho6, hp6, h6⟩; (have h56 : On wc w6 := by refine On.trans ?_ h6; repeat (first | exact On.refl _ | apply On.drew)); obtain ⟨q0, q1, q2, q3, q4⟩ := HP5.out.on h56; have HA6 := Lib.hid ho6.ints; have HB6 := Lib.hid hp6.ints; clear ho6 hp6 h6)
      | (go_at_call 15; refine (Terr.eqTerrain _ _ _ _ _ _ _ zs cs _ hn hm ((HA5.out.below ‹On wc _›).below (by repeat (first | exact On.refl _ | apply On.drew))) ((HB5.out.below ‹On wc _›).below (by repeat (first | exact On.refl _ | apply On.drew))) (HA6.out.below (by repeat (first | exact On.refl _ | apply On.drew))) (HB6.out.below (by repeat (first | exact On.refl _ | apply On.drew)))).mono ?_; rintro e w7 ⟨rfl, h7⟩))
    all_goals
      go_wp2_with fail
      go_ret
      exact ⟨rfl, On.trans HO5.out (On.trans ‹On wc _› (On.trans (by repeat (first | exact On.refl _ | apply On.drew)) ‹On _ w7›))⟩
  · rw [show Terr.rest2 1048576 len0_3 len0_4 = -1 by unfold Terr.rest2 Terr.rest; split <;> (try split) <;> omega] at hz
    have HZ := Lib.hid hz
    clear hz hi hj hlen hmen hl
    go_enter Try.func5, Try.ntmps5
    go_wp2_with fail
    refine (HZ.out _).mono ?_
    rintro e w1 ⟨rfl, h1⟩
    go_wp2_with fail
    go_ret
    exact ⟨rfl, by repeat (first | with_reducible exact On.refl _ | apply On.alloc | refine On.trans ?_ h1)⟩

set_option maxRecDepth 100000 in
/-- The row's step. -/
theorem lifted (os : Os) (started : os.Started) (H : Type) (enc : TypeId × Value → H) :
    ReturnsInHanded {} Try.checked os 5 .any (Rows.fnExactHeightAtSpec.pre6 enc Try.prog Try.f5 Rows.fnExactHeightAtRow.domain false) (Rows.fnExactHeightAtSpec.post enc Try.prog Try.f5 false true false false) := by
  refine returnsInHanded_of_change (C := Try.checked) own started (by kernel_rfl) Try.func5
    (ChangeSpec.witness6 (enc := enc) (C := Try.checked) false ⟨#[], #[.agg #[.int .i64 0, .int .i64 0, .int .i64 0, .slice none 0 0, .slice none 0 0], .agg #[.int .i64 0, .int .i64 0]], []⟩ 8 (by kernel_rfl) (by kernel_rfl) (by kernel_rfl) (by kernel_rfl)) ?_
  intro W base args ds gs before hval0 hW hcnd _
  have hval : ∀ (j : Nat) t v, Try.f5.params[j]? = some t → args[j]? = some v → Value.okWide Try.prog W .any base t v := hval0
  have hW' := hW
  obtain ⟨p, q, hA0, hV, rfl, hfz, hnd⟩ := hW
  have hA : DataW.TrodAll enc Try.prog W 0 (fun _ => true) true Try.f5.params.toList args.toList ds p := hA0
  rw [Try.params5] at hA hval
  obtain ⟨v0, vs0, d0, ds0, p0, q0, hargs, rfl, rfl, h0, r0⟩ := trodAll_cons hA
  obtain ⟨v1, vs1, d1, ds1, p1, q1, rfl, rfl, rfl, h1, r1⟩ := trodAll_cons r0
  obtain ⟨rfl, rfl, rfl⟩ := trodAll_nil r1
  obtain rfl : args = #[v0, v1] := by cases args; simp_all
  obtain ⟨rfl, rfl⟩ := trodVars_none hV
  have k0 := h0
  have lt0 : ∀ x ∈ p0, x.block < W.heap.size := by obtain ⟨m, hm⟩ := k0; exact DataW.trod_lt m _ _ _ hm
  obtain ⟨c0_0, c0_1, c0_2, c0_3, c0_4, y0_0, y0_1, y0_2, y0_3, y0_4, n0, rfl, -, -, e0_0, e0_1, e0_2, e0_3, e0_4⟩ := Agg.open_agg5 Try.underlying24 (by kernel_rfl) (by kernel_rfl) (hval 0 24 v0 rfl rfl) h0
  obtain ⟨x0_0, g0_0, -, wx0_0⟩ := DataW.trod_int Try.underlying2 e0_0
  obtain rfl : c0_0 = .int .i64 x0_0 := by simpa using g0_0
  obtain ⟨x0_1, g0_1, -, wx0_1⟩ := DataW.trod_int Try.underlying2 e0_1
  obtain rfl : c0_1 = .int .i64 x0_1 := by simpa using g0_1
  obtain ⟨x0_2, g0_2, -, wx0_2⟩ := DataW.trod_int Try.underlying2 e0_2
  obtain rfl : c0_2 = .int .i64 x0_2 := by simpa using g0_2
  obtain ⟨a0_3, len0_3, cap0_3, z0_3, hc0_3, w0_3⟩ : ∃ a len cap zs, c0_3 = .slice a len cap ∧ IsRow .i64 W a len cap zs := by
    rcases open_ints Try.underlying22 Try.underlying2 (by kernel_rfl) e0_3 with ⟨hcs, _⟩ | ⟨x, l, c, zs, hcs, _, hl, hm, hz, _, hcell, hwz⟩
    · exact ⟨none, 0, 0, [], by simpa using hcs, .inl ⟨rfl, rfl, rfl, rfl⟩⟩
    · exact ⟨some x, l, c, zs, by simpa using hcs, .inr ⟨_, rfl, hl, hm, by simpa using hz, hcell, hwz⟩⟩
  subst hc0_3
  obtain ⟨a0_4, len0_4, cap0_4, z0_4, hc0_4, w0_4⟩ : ∃ a len cap zs, c0_4 = .slice a len cap ∧ IsRow .i64 W a len cap zs := by
    rcases open_ints Try.underlying22 Try.underlying2 (by kernel_rfl) e0_4 with ⟨hcs, _⟩ | ⟨x, l, c, zs, hcs, _, hl, hm, hz, _, hcell, hwz⟩
    · exact ⟨none, 0, 0, [], by simpa using hcs, .inl ⟨rfl, rfl, rfl, rfl⟩⟩
    · exact ⟨some x, l, c, zs, by simpa using hcs, .inr ⟨_, rfl, hl, hm, by simpa using hz, hcell, hwz⟩⟩
  subst hc0_4
  obtain ⟨cx1, cy1, dx1, dy1, n1, rfl, rfl, rfl, ex1, ey1⟩ := Joins.open_agg2 Try.underlying32 (by kernel_rfl) (by kernel_rfl) (hval 1 32 v1 rfl rfl) h1
  obtain ⟨x1, gx1, rfl, wx1⟩ := DataW.trod_int Try.underlying2 ex1
  obtain ⟨y1, gy1, rfl, wy1⟩ := DataW.trod_int Try.underlying2 ey1
  obtain rfl : cx1 = .int .i64 x1 := by simpa using gx1
  obtain rfl : cy1 = .int .i64 y1 := by simpa using gy1
  clear hA0
  refine (walk W x0_0 wx0_0 x0_1 wx0_1 x0_2 wx0_2 a0_3 len0_3 cap0_3 z0_3 w0_3 a0_4 len0_4 cap0_4 z0_4 w0_4 x1 y1 wx1 wy1 ).mono fun e W' ⟨he, bel⟩ => ?_
  subst he
  exact ⟨_, rfl, _, _, _, [], _, [], hW', trodAll_mk1 (shut_bool Try.underlying4 _), (trodAll_cons_mk (Below.trod laidOut (by kernel_rfl) (of_decide_eq_true (by kernel_rfl)) k0 bel lt0) (trodAll_cons_mk (Joins.shut_agg2 Try.underlying32 (by kernel_rfl) (by kernel_rfl) (Joins.field_of_Trod (shut_int Try.underlying2 wx1) rfl) (Joins.field_of_Trod (shut_int Try.underlying2 wy1) rfl)) trodAll_mk0)), rfl, bel.frame _, fun h => by cases h⟩

theorem proved : Rows.FnExactHeightAtSaid :=
  OpenClaim.holds_of_wide 5 Try.f5 rfl rfl rfl rfl rfl rfl rfl ⟨rfl, rfl, rfl, rfl, rfl⟩ rfl rfl rfl rfl rfl (by kernel_rfl) Try.func5 (by kernel_rfl)
    (of_decide_eq_true (by kernel_rfl)) (by unfold Func.isWrapper; first | (rw [if_pos (by decide +kernel)]; kernel_rfl) | (rw [if_neg (by decide +kernel)]; exact ⟨rfl, rfl⟩))
    (fun os started H enc _ => lifted os started H enc)
end Go.Proofs.Ytcdmijldkmmgmab.fnExactHeightAt
