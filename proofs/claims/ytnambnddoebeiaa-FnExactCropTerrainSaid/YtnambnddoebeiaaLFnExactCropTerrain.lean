/-
  For every terrain and four numbers CropTerrain of the program returns what the model returns, a terrain of its own memory, the same at a second call, and leaves the terrain alone: the statement FnExactCropTerrain, with no condition (a terrain of more than 1048576 heights and classes is let pass by the statement itself).
-/
import Derived.Test.YtnambnddoebeiaaRows
import Derived.Test.YtnambnddoebeiaaCrpL
import Derived.Test.YtnambnddoebeiaaAgg
import Derived.Test.YtnambnddoebeiaaMark
import Derived.Test.YtnambnddoebeiaaMark2
import Derived.Deep.RegionWith
import Derived.Deep.DeepCutAuto
import Derived.WalkKit
import Derived.ProofKit
import Derived.OpenShut
import Derived.ShutString
import Derived.Below
import Derived.Lib.SmallJoins
import Derived.Test.YtnambnddoebeiaaAgg
namespace Go.Proofs.Ytnambnddoebeiaa.fnExactCropTerrain
open Go.ChangeShapes Go.WideShapes Go.ChangeAt Go.RowKit
open Go.ChangeMaps (open_string shut_string)
set_option linter.unusedVariables false

theorem own : ownKnob Try.prog.godebug = none := by kernel_rfl
theorem laidOut : laidOutB Try.prog = true := by kernel_rfl

/-- What the walk is told of a slice of integers that came in: it is nil; or it leads to a row of 'cap' cells, the numbers 'zs' (the first 'len' are its elements), each fitting its kind. -/
def IsRow (k : IntKind) (w : World) (a : Option Addr) (len cap : Nat) (zs : List Int) : Prop :=
  (a = none ∧ len = 0 ∧ cap = 0 ∧ zs = []) ∨
  ∃ x, a = some x ∧ len ≤ cap ∧ cap ≤ maxLen ∧ zs.length = cap ∧ (∀ i, i < zs.length → w.cell? (x.add i) = some (.int k (zs.getD i 0))) ∧ ∀ n ∈ zs, (Lit.int k n).wf = true

set_option maxRecDepth 100000 in
set_option maxHeartbeats 8000000 in
/-- The walk. -/
theorem walk (w : World) (x0_0 : Int) (wx0_0 : (Lit.int .i64 x0_0).wf = true) (x0_1 : Int) (wx0_1 : (Lit.int .i64 x0_1).wf = true) (x0_2 : Int) (wx0_2 : (Lit.int .i64 x0_2).wf = true) (a0_3 : Option Addr) (len0_3 cap0_3 : Nat) (z0_3 : List Int) (w0_3 : IsRow .i64 w a0_3 len0_3 cap0_3 z0_3) (a0_4 : Option Addr) (len0_4 cap0_4 : Nat) (z0_4 : List Int) (w0_4 : IsRow .i64 w a0_4 len0_4 cap0_4 z0_4) (a1 : Int) (w1 : (Lit.int .i64 a1).wf = true) (a2 : Int) (w2 : (Lit.int .i64 a2).wf = true) (a3 : Int) (w3 : (Lit.int .i64 a3).wf = true) (a4 : Int) (w4 : (Lit.int .i64 a4).wf = true) :
    Calls Try.prog 3 #[.agg #[.int .i64 x0_0, .int .i64 x0_1, .int .i64 x0_2, .slice a0_3 len0_3 cap0_3, .slice a0_4 len0_4 cap0_4], .int .i64 a1, .int .i64 a2, .int .i64 a3, .int .i64 a4] w fun e w' => e = .returned (.bool true) ∧ Below w.heap.size w w' := by
  obtain ⟨hi3, hl3⟩ := Ints.Ints.of_arg w0_3
  have m3 : len0_3 ≤ maxLen := by
    rcases w0_3 with ⟨_, h, _, _⟩ | ⟨_, _, h1, h2, _⟩
    · rw [h]; exact Nat.zero_le _
    · exact Nat.le_trans h1 h2
  obtain ⟨hi4, hl4⟩ := Ints.Ints.of_arg w0_4
  have m4 : len0_4 ≤ maxLen := by
    rcases w0_4 with ⟨_, h, _, _⟩ | ⟨_, _, h1, h2, _⟩
    · rw [h]; exact Nat.zero_le _
    · exact Nat.le_trans h1 h2
  have hz := fun w => TRec.count 1048576 x0_0 x0_1 x0_2 a0_3 len0_3 cap0_3 a0_4 len0_4 cap0_4 w (by omega) m3 m4
  rw [show (((1048576 : Nat) : Int)) = 1048576 from rfl] at hz
  clear w0_3 w0_4 wx0_0 wx0_1 wx0_2 m3 m4 w1 w2 w3 w4
  rcases TRec.restL_sum [len0_3, len0_4] 1048576 with hr | ⟨r, hr, hsum⟩
  · rw [hr] at hz
    have HZ := Lib.hid hz
    clear hz hr hi3 hl3 hi4 hl4
    go_enter Try.func3, Try.ntmps3
    go_wp2_with fail
    refine (HZ.out _).mono ?_
    rintro e w1 ⟨rfl, h1⟩
    go_wp2_with fail
    go_ret
    exact ⟨rfl, by repeat (first | with_reducible exact On.refl _ | apply On.alloc | refine On.trans ?_ h1)⟩
  · rw [hr] at hz
    simp only [List.sum_cons, List.sum_nil, Nat.add_zero] at hsum
    have q3 : len0_3 ≤ 1048576 := by omega
    have q4 : len0_4 ≤ 1048576 := by omega
    have hr0 : ¬ ((r : Int) < 0) := by omega
    have HZ := Lib.hid hz
    clear hz hr
    obtain ⟨z3, hz3⟩ : ∃ z, z = z0_3.take len0_3 := ⟨_, rfl⟩
    rw [← hz3] at hi3 hl3
    clear hz3
    subst hl3
    have H3 := Lib.hid hi3
    have HA03 := H3
    clear hi3
    obtain ⟨z4, hz4⟩ : ∃ z, z = z0_4.take len0_4 := ⟨_, rfl⟩
    rw [← hz4] at hi4 hl4
    clear hz4
    subst hl4
    have H4 := Lib.hid hi4
    have HA04 := H4
    clear hi4
    have hsx : 1 + z3.length + z4.length ≤ 1048577 := by omega
    clear hsum
    have hS := fun (w' : World) (v3 : Value) (v4 : Value) (i3 : Ints.Ints w' v3 z3) (i4 : Ints.Ints w' v4 z4) => Crp.spec_Crop x0_0 x0_1 x0_2 a1 a2 a3 a4 _ _ z3 z4 _ q3 q4 i3 i4
    have hI := fun (w' : World) (b3 : Option Addr) (d3 : Nat) (b4 : Option Addr) (d4 : Nat) (f3 : z3.length ≤ d3) (f4 : z4.length ≤ d4) (i3 : Ints.Ints w' (.slice b3 z3.length d3) z3) (i4 : Ints.Ints w' (.slice b4 z4.length d4) z4) => Crp.impl_Crop x0_0 x0_1 x0_2 a1 a2 a3 a4 b3 b4 d3 d4 z3 z4 _ q3 q4 f3 f4 i3 i4
    have hbd : (Crp.crL (Crp.crC x0_0 x0_1 x0_2 a1 a2 a3 a4 z3 z4) (Crp.crop z3 x0_1 a1 a2 a3 a4)).length + (Crp.crL (Crp.crC x0_0 x0_1 x0_2 a1 a2 a3 a4 z3 z4) (Crp.crop z4 x0_1 a1 a2 a3 a4)).length ≤ 1048576 := by have e1 := Crp.crL_len x0_0 x0_1 x0_2 a1 a2 a3 a4 z3 z4 z3; have e2 := Crp.crL_len x0_0 x0_1 x0_2 a1 a2 a3 a4 z3 z4 z4; omega
    generalize Crp.crI (Crp.crC x0_0 x0_1 x0_2 a1 a2 a3 a4 z3 z4) x0_0 = r0 at *
    generalize Crp.crI (Crp.crC x0_0 x0_1 x0_2 a1 a2 a3 a4 z3 z4) a3 = r1 at *
    generalize Crp.crI (Crp.crC x0_0 x0_1 x0_2 a1 a2 a3 a4 z3 z4) a4 = r2 at *
    generalize Crp.crL (Crp.crC x0_0 x0_1 x0_2 a1 a2 a3 a4 z3 z4) (Crp.crop z3 x0_1 a1 a2 a3 a4) = zr3 at *
    generalize Crp.crL (Crp.crC x0_0 x0_1 x0_2 a1 a2 a3 a4 z3 z4) (Crp.crop z4 x0_1 a1 a2 a3 a4) = zr4 at *
    generalize Crp.crC x0_0 x0_1 x0_2 a1 a2 a3 a4 z3 z4 = co at *
    obtain ⟨n3, hn3⟩ : ∃ n, n = zr3.length := ⟨_, rfl⟩
    rw [← hn3] at hS hI hbd
    obtain ⟨n4, hn4⟩ : ∃ n, n = zr4.length := ⟨_, rfl⟩
    rw [← hn4] at hS hI hbd
    have u3 : zr3.length ≤ 1048576 := by omega
    have HN3 := Lib.hid hn3
    have u4 : zr4.length ≤ 1048576 := by omega
    have HN4 := Lib.hid hn4
    have hcc : (co != co) = false := bne_self_eq_false co
    obtain ⟨q, hq⟩ : ∃ q : Int, q = ((1 + n3 + n4 : Nat) : Int) := ⟨_, rfl⟩
    have hq0 : ¬ q < 0 := by omega
    have hqq : (q != q) = false := bne_self_eq_false q
    have hM := fun (B : Nat) (a3 : Option Addr) (c3 : Nat) (a4 : Option Addr) (c4 : Nat) (w : World) hB h => TRec.markR B 1 r0 r1 r2 a3 n3 c3 a4 n4 c4 zr3 zr4 w (Nat.le_refl _) (by omega) hB h
    have hH := fun (B : Nat) (a3 : Option Addr) (c3 : Nat) (a4 : Option Addr) (c4 : Nat) (w : World) h => TRec.heldR B 1 r0 r1 r2 a3 n3 c3 a4 n4 c4 w (Nat.le_refl _) (by omega) h
    rw [← hq] at hM hH
    have HM := Lib.hid hM
    have HH := Lib.hid hH
    have HS := Lib.hid hS
    have HI := Lib.hid hI
    obtain ⟨qx, hqx⟩ : ∃ q : Int, q = ((1 + z3.length + z4.length : Nat) : Int) := ⟨_, rfl⟩
    have hqx0 : ¬ qx < 0 := by omega
    have hX := fun (B : Nat) (a3 : Option Addr) (c3 : Nat) (a4 : Option Addr) (c4 : Nat) (w : World) hB h => TRec.markR B 1 x0_0 x0_1 x0_2 a3 z3.length c3 a4 z4.length c4 z3 z4 w (Nat.le_refl _) (by omega) hB h
    rw [← hqx] at hX
    have HX := Lib.hid hX
    clear hX hqx hsx
    clear hS hI hM hH hq hbd hn3 hn4
    go_enter Try.func3, Try.ntmps3
    go_wp2_with fail
    refine (HZ.out _).mono ?_
    rintro e w1 ⟨rfl, h1⟩
    have PA := Lib.hid (show TRec.In w1 w.heap.size x0_0 x0_1 x0_2 (.slice a0_3 z3.length cap0_3) (.slice a0_4 z4.length cap0_4) from TRec.In.on ⟨by simp [go_sem], by simp [go_sem], by simp [go_sem], by simp [go_sem], by simp [go_sem]⟩ h1)
    have h01 : On w w1 := On.trans (On.alloc (On.refl w) _) h1
    have HO := Lib.hid (h01)
    have HA3 := Lib.hid (H3.out.below h01)
    have HA4 := Lib.hid (H4.out.below h01)
    clear h1 h01 HZ H3 H4
    obtain ⟨PAc0, PAc1, PAc2, PAc3, PAc4⟩ := PA.out
    have PAy := PA.out.blk
    go_wp2_with fail
    refine (TRec.copy x0_0 x0_1 x0_2 _ _ z3 z4 _ q3 q4 (HA3.out.below (On.refl _)) (HA4.out.below (On.refl _))).mono ?_
    rintro e w2 ⟨y3, yc3, y4, yc4, rfl, -, oy3, -, oy4, h2⟩
    clear PAc0 PAc1 PAc2 PAc3 PAc4 PAy
    have PA_ := Lib.hid (PA.out.on h2)
    clear PA
    have PA := PA_
    clear PA_
    have HO_ := Lib.hid (On.trans HO.out h2)
    clear HO
    have HO := HO_
    clear HO_
    have HA3_ := Lib.hid (HA3.out.below h2)
    clear HA3
    have HA3 := HA3_
    clear HA3_
    have HA4_ := Lib.hid (HA4.out.below h2)
    clear HA4
    have HA4 := HA4_
    clear HA4_
    have Y3 := Lib.hid (oy3.ints)
    have Y4 := Lib.hid (oy4.ints)
    clear h2 oy3 oy4
    obtain ⟨PAc0, PAc1, PAc2, PAc3, PAc4⟩ := PA.out
    have PAy := PA.out.blk
    go_wp2_with fail
    refine (HS.out _ _ _ Y3.out Y4.out).mono ?_
    rintro e w3 ⟨s3, sc3, s4, sc4, rfl, i3, i4, h3⟩
    clear PAc0 PAc1 PAc2 PAc3 PAc4 PAy
    have PA_ := Lib.hid (PA.out.on h3)
    clear PA
    have PA := PA_
    clear PA_
    have HO_ := Lib.hid (On.trans HO.out h3)
    clear HO
    have HO := HO_
    clear HO_
    have HA3_ := Lib.hid (HA3.out.below h3)
    clear HA3
    have HA3 := HA3_
    clear HA3_
    have HA4_ := Lib.hid (HA4.out.below h3)
    clear HA4
    have HA4 := HA4_
    clear HA4_
    have Y3_ := Lib.hid (Y3.out.below h3)
    clear Y3
    have Y3 := Y3_
    clear Y3_
    have Y4_ := Lib.hid (Y4.out.below h3)
    clear Y4
    have Y4 := Y4_
    clear Y4_
    clear h3 Y3 Y4
    have J3 := Lib.hid (i3)
    have J4 := Lib.hid (i4)
    have KJ := Lib.hid (On.refl w3)
    have J03 := J3
    have J04 := J4
    have s03 := Lib.hid (show w.heap.size ≤ w3.heap.size from HO.out.size)
    clear i3 i4
    obtain ⟨PAc0, PAc1, PAc2, PAc3, PAc4⟩ := PA.out
    have PAy := PA.out.blk
    go_wp2_with fail
    refine (TRec.copyB x0_0 x0_1 x0_2 _ _ z3 z4 _ q3 q4 (HA3.out.below (by repeat (first | with_reducible exact On.refl _ | with_reducible exact Below.refl _ _ | apply On.alloc | refine On.setCell ?_ (by (try simp) <;> omega) _))) (HA4.out.below (by repeat (first | with_reducible exact On.refl _ | with_reducible exact Below.refl _ _ | apply On.alloc | refine On.setCell ?_ (by (try simp) <;> omega) _)))).mono ?_
    rintro e w4 ⟨x3, xc3, x4, xc4, rfl, oxr, fx3, fx4, h4⟩
    clear PAc0 PAc1 PAc2 PAc3 PAc4 PAy
    have PW0 : TRec.In w4 w3.heap.size r0 r1 r2 (.slice s3 n3 sc3) (.slice s4 n4 sc4) := TRec.In.on ⟨by simp [go_sem], by simp [go_sem], by simp [go_sem], by simp [go_sem], by simp [go_sem]⟩ h4
    have h4t : On w3 w4 := by refine On.trans ?_ h4; repeat (first | with_reducible exact On.refl _ | apply On.drew | apply On.alloc | refine On.setCell ?_ (by (try simp) <;> omega) _)
    have PA_ := Lib.hid (PA.out.on h4t)
    clear PA
    have PA := PA_
    clear PA_
    have HO_ := Lib.hid (On.trans HO.out h4t)
    clear HO
    have HO := HO_
    clear HO_
    have HA3_ := Lib.hid (HA3.out.below h4t)
    clear HA3
    have HA3 := HA3_
    clear HA3_
    have HA4_ := Lib.hid (HA4.out.below h4t)
    clear HA4
    have HA4 := HA4_
    clear HA4_
    have J3_ := Lib.hid (J3.out.below h4t)
    clear J3
    have J3 := J3_
    clear J3_
    have J4_ := Lib.hid (J4.out.below h4t)
    clear J4
    have J4 := J4_
    clear J4_
    have KJ_ := Lib.hid (On.trans KJ.out h4t)
    clear KJ
    have KJ := KJ_
    clear KJ_
    have PW := Lib.hid (PW0)
    have OX0 : TRec.OwnR (w3.heap.size + 1) w4 x3 z3.length xc3 x4 z4.length xc4 z3 z4 := oxr.mono (by simp)
    clear oxr
    have OX := Lib.hid (OX0)
    have offX : ∀ g, w4.heap.size ≤ g → TRec.Off [(x3, z3.length), (x4, z4.length)] g := fun g hg => OX0.off hg
    have HoffX := Lib.hid offX
    have sz34 := Lib.hid (show w3.heap.size + 1 ≤ w4.heap.size from Nat.succ_le_of_lt (PW0.blk))
    clear h4 h4t PW0 OX0 offX
    obtain ⟨PAc0, PAc1, PAc2, PAc3, PAc4⟩ := PA.out
    have PAy := PA.out.blk
    obtain ⟨PWc0, PWc1, PWc2, PWc3, PWc4⟩ := PW.out
    have PWy := PW.out.blk
    go_wp2_with fail
    refine (HI.out _ _ _ _ _ fx3 fx4 (OX.out.ints3.below (by repeat (first | with_reducible exact On.refl _ | with_reducible exact Below.refl _ _ | apply On.alloc | refine On.setCell ?_ (by (try simp) <;> omega) _))) (OX.out.ints4.below (by repeat (first | with_reducible exact On.refl _ | with_reducible exact Below.refl _ _ | apply On.alloc | refine On.setCell ?_ (by (try simp) <;> omega) _)))).mono ?_
    rintro e w5 ⟨g3, gc3, g4, gc4, rfl, og, h5⟩
    clear PAc0 PAc1 PAc2 PAc3 PAc4 PAy
    clear PWc0 PWc1 PWc2 PWc3 PWc4 PWy
    have PX0 : TRec.In w5 w4.heap.size x0_0 x0_1 x0_2 (.slice x3 z3.length xc3) (.slice x4 z4.length xc4) := TRec.In.on ⟨by simp [go_sem], by simp [go_sem], by simp [go_sem], by simp [go_sem], by simp [go_sem]⟩ h5
    have h5t : On w4 w5 := by refine On.trans ?_ h5; repeat (first | with_reducible exact On.refl _ | apply On.drew | apply On.alloc | refine On.setCell ?_ (by (try simp) <;> omega) _)
    have PA_ := Lib.hid (PA.out.on h5t)
    clear PA
    have PA := PA_
    clear PA_
    have HO_ := Lib.hid (On.trans HO.out h5t)
    clear HO
    have HO := HO_
    clear HO_
    have HA3_ := Lib.hid (HA3.out.below h5t)
    clear HA3
    have HA3 := HA3_
    clear HA3_
    have HA4_ := Lib.hid (HA4.out.below h5t)
    clear HA4
    have HA4 := HA4_
    clear HA4_
    have J3_ := Lib.hid (J3.out.below h5t)
    clear J3
    have J3 := J3_
    clear J3_
    have J4_ := Lib.hid (J4.out.below h5t)
    clear J4
    have J4 := J4_
    clear J4_
    have KJ_ := Lib.hid (On.trans KJ.out h5t)
    clear KJ
    have KJ := KJ_
    clear KJ_
    have PW_ := Lib.hid (PW.out.on h5t)
    clear PW
    have PW := PW_
    clear PW_
    have OX_ := Lib.hid (OX.out.below h5t)
    clear OX
    have OX := OX_
    clear OX_
    have PX := Lib.hid (PX0)
    have og1 := og.mono (B' := w4.heap.size + 1) (by simp)
    have OG := Lib.hid (og1)
    have HoffG := Lib.hid (fun g (hg : w5.heap.size ≤ g) => og1.off hg)
    have sz45 := Lib.hid (show w4.heap.size + 1 ≤ w5.heap.size from Nat.succ_le_of_lt (PX0.blk))
    clear og og1 h5 h5t PX0
    obtain ⟨PAc0, PAc1, PAc2, PAc3, PAc4⟩ := PA.out
    have PAy := PA.out.blk
    obtain ⟨PWc0, PWc1, PWc2, PWc3, PWc4⟩ := PW.out
    have PWy := PW.out.blk
    obtain ⟨PXc0, PXc1, PXc2, PXc3, PXc4⟩ := PX.out
    have PXy := PX.out.blk
    go_wp2_with fail
    refine (TRec.eq r0 r1 r2 _ _ _ _ zr3 zr4 _ u3 u4 (OG.out.ints3.below (by repeat (first | with_reducible exact On.refl _ | with_reducible exact Below.refl _ _ | apply On.alloc | refine On.setCell ?_ (by (try simp) <;> omega) _))) (OG.out.ints4.below (by repeat (first | with_reducible exact On.refl _ | with_reducible exact Below.refl _ _ | apply On.alloc | refine On.setCell ?_ (by (try simp) <;> omega) _))) (J3.out.below (by repeat (first | with_reducible exact On.refl _ | with_reducible exact Below.refl _ _ | apply On.alloc | refine On.setCell ?_ (by (try simp) <;> omega) _))) (J4.out.below (by repeat (first | with_reducible exact On.refl _ | with_reducible exact Below.refl _ _ | apply On.alloc | refine On.setCell ?_ (by (try simp) <;> omega) _)))).mono ?_
    rintro e w6 ⟨rfl, h6⟩
    clear PAc0 PAc1 PAc2 PAc3 PAc4 PAy
    clear PWc0 PWc1 PWc2 PWc3 PWc4 PWy
    clear PXc0 PXc1 PXc2 PXc3 PXc4 PXy
    have PG0 : TRec.In w6 w5.heap.size r0 r1 r2 (.slice g3 n3 gc3) (.slice g4 n4 gc4) := TRec.In.on ⟨by simp [go_sem], by simp [go_sem], by simp [go_sem], by simp [go_sem], by simp [go_sem]⟩ h6
    have h6t : On w5 w6 := by refine On.trans ?_ h6; repeat (first | with_reducible exact On.refl _ | apply On.drew | apply On.alloc | refine On.setCell ?_ (by (try simp) <;> omega) _)
    have PA_ := Lib.hid (PA.out.on h6t)
    clear PA
    have PA := PA_
    clear PA_
    have HO_ := Lib.hid (On.trans HO.out h6t)
    clear HO
    have HO := HO_
    clear HO_
    have HA3_ := Lib.hid (HA3.out.below h6t)
    clear HA3
    have HA3 := HA3_
    clear HA3_
    have HA4_ := Lib.hid (HA4.out.below h6t)
    clear HA4
    have HA4 := HA4_
    clear HA4_
    have J3_ := Lib.hid (J3.out.below h6t)
    clear J3
    have J3 := J3_
    clear J3_
    have J4_ := Lib.hid (J4.out.below h6t)
    clear J4
    have J4 := J4_
    clear J4_
    have KJ_ := Lib.hid (On.trans KJ.out h6t)
    clear KJ
    have KJ := KJ_
    clear KJ_
    have PW_ := Lib.hid (PW.out.on h6t)
    clear PW
    have PW := PW_
    clear PW_
    have OX_ := Lib.hid (OX.out.below h6t)
    clear OX
    have OX := OX_
    clear OX_
    have PX_ := Lib.hid (PX.out.on h6t)
    clear PX
    have PX := PX_
    clear PX_
    have OG_ := Lib.hid (OG.out.below h6t)
    clear OG
    have OG := OG_
    clear OG_
    have PG := Lib.hid (PG0)
    have sz56 := Lib.hid (show w5.heap.size + 1 ≤ w6.heap.size from Nat.succ_le_of_lt (PG0.blk))
    clear h6 h6t PG0
    obtain ⟨PAc0, PAc1, PAc2, PAc3, PAc4⟩ := PA.out
    have PAy := PA.out.blk
    obtain ⟨PWc0, PWc1, PWc2, PWc3, PWc4⟩ := PW.out
    have PWy := PW.out.blk
    obtain ⟨PXc0, PXc1, PXc2, PXc3, PXc4⟩ := PX.out
    have PXy := PX.out.blk
    obtain ⟨PGc0, PGc1, PGc2, PGc3, PGc4⟩ := PG.out
    have PGy := PG.out.blk
    go_upto_region 10 with fail
    go_cut [61] (fun s wx => s = .bool false ∧ On w6 wx)
    case first =>
      go_region_with (first
        | (go_at_call 9; refine (TRec.copy x0_0 x0_1 x0_2 _ _ z3 z4 _ q3 q4 (HA3.out.below (by repeat (first | with_reducible exact On.refl _ | with_reducible exact Below.refl _ _ | apply On.drew | apply On.alloc))) (HA4.out.below (by repeat (first | with_reducible exact On.refl _ | with_reducible exact Below.refl _ _ | apply On.drew | apply On.alloc)))).mono ?_; rintro e w7 ⟨t3, tc3, t4, tc4, rfl, -, ot3, -, ot4, h7⟩; (have h67 : On w6 w7 := by refine On.trans ?_ h7; repeat (first | exact On.refl _ | apply On.drew)); obtain ⟨e0, e1, e2, e3, e4⟩ := PX.out.on h67; have T3 := Lib.hid ot3.ints; have T4 := Lib.hid ot4.ints; clear ot3 ot4 h7)
        | (go_at_call 11; refine (TRec.eq x0_0 x0_1 x0_2 _ _ _ _ z3 z4 _ q3 q4 (((OX.out.below ‹On w6 w7›).ints3).below (by repeat (first | with_reducible exact On.refl _ | with_reducible exact Below.refl _ _ | apply On.drew | apply On.alloc))) (((OX.out.below ‹On w6 w7›).ints4).below (by repeat (first | with_reducible exact On.refl _ | with_reducible exact Below.refl _ _ | apply On.drew | apply On.alloc))) (T3.out.below (by repeat (first | with_reducible exact On.refl _ | with_reducible exact Below.refl _ _ | apply On.drew | apply On.alloc))) (T4.out.below (by repeat (first | with_reducible exact On.refl _ | with_reducible exact Below.refl _ _ | apply On.drew | apply On.alloc)))).mono ?_; rintro e w8 ⟨rfl, h8⟩; (have h78 : On w7 w8 := by refine On.trans ?_ h8; repeat (first | exact On.refl _ | apply On.drew)); clear h8))
      all_goals
        go_wp2_with fail
        go_meet
        exact ⟨rfl, On.trans ‹On w6 w7› ‹On w7 w8›⟩
    case rest =>
      obtain ⟨rfl, hC⟩ := hcut
      clear PAc0 PAc1 PAc2 PAc3 PAc4 PAy
      clear PWc0 PWc1 PWc2 PWc3 PWc4 PWy
      clear PXc0 PXc1 PXc2 PXc3 PXc4 PXy
      clear PGc0 PGc1 PGc2 PGc3 PGc4 PGy
      have szC := hC.size
      have PA_ := Lib.hid (PA.out.on hC)
      clear PA
      have PA := PA_
      clear PA_
      have HO_ := Lib.hid (On.trans HO.out hC)
      clear HO
      have HO := HO_
      clear HO_
      have HA3_ := Lib.hid (HA3.out.below hC)
      clear HA3
      have HA3 := HA3_
      clear HA3_
      have HA4_ := Lib.hid (HA4.out.below hC)
      clear HA4
      have HA4 := HA4_
      clear HA4_
      have J3_ := Lib.hid (J3.out.below hC)
      clear J3
      have J3 := J3_
      clear J3_
      have J4_ := Lib.hid (J4.out.below hC)
      clear J4
      have J4 := J4_
      clear J4_
      have KJ_ := Lib.hid (On.trans KJ.out hC)
      clear KJ
      have KJ := KJ_
      clear KJ_
      have PW_ := Lib.hid (PW.out.on hC)
      clear PW
      have PW := PW_
      clear PW_
      have OX_ := Lib.hid (OX.out.below hC)
      clear OX
      have OX := OX_
      clear OX_
      have PX_ := Lib.hid (PX.out.on hC)
      clear PX
      have PX := PX_
      clear PX_
      have OG_ := Lib.hid (OG.out.below hC)
      clear OG
      have OG := OG_
      clear OG_
      have PG_ := Lib.hid (PG.out.on hC)
      clear PG
      have PG := PG_
      clear PG_
      have s6C := Lib.hid szC
      clear hC szC
      obtain ⟨PAc0, PAc1, PAc2, PAc3, PAc4⟩ := PA.out
      have PAy := PA.out.blk
      obtain ⟨PWc0, PWc1, PWc2, PWc3, PWc4⟩ := PW.out
      have PWy := PW.out.blk
      obtain ⟨PXc0, PXc1, PXc2, PXc3, PXc4⟩ := PX.out
      have PXy := PX.out.blk
      obtain ⟨PGc0, PGc1, PGc2, PGc3, PGc4⟩ := PG.out
      have PGy := PG.out.blk
      go_wp2_with fail
      refine (HX.out (w3.heap.size + 1) _ _ _ _ _ (by have := sz34.out; have := sz45.out; have := sz56.out; have := s6C.out; omega) OX.out).mono ?_
      rintro e w9 ⟨rfl, b9, -, f9, x9⟩
      clear PAc0 PAc1 PAc2 PAc3 PAc4 PAy
      clear PWc0 PWc1 PWc2 PWc3 PWc4 PWy
      clear PXc0 PXc1 PXc2 PXc3 PXc4 PXy
      clear PGc0 PGc1 PGc2 PGc3 PGc4 PGy
      have PA_ := Lib.hid (PA.out.keep (fun i => b9.cell (p := ⟨w.heap.size, i, none⟩) (by show w.heap.size < w3.heap.size + 1; have := s03.out; omega)))
      have PW_ := Lib.hid (PW.out.keep (fun i => b9.cell (p := ⟨w3.heap.size, i, none⟩) (by show w3.heap.size < w3.heap.size + 1; omega)))
      have PX_ := Lib.hid (PX.out.keep (fun i => x9 ⟨w4.heap.size, i, none⟩ PX.out.blk (HoffX.out _ (Nat.le_refl _))))
      have PG_ := Lib.hid (PG.out.keep (fun i => x9 ⟨w5.heap.size, i, none⟩ PG.out.blk (HoffX.out _ (by have := sz45.out; show w4.heap.size ≤ w5.heap.size; omega))))
      have KJ_ := Lib.hid (show On w3 w9 from Below.trans KJ.out (Below.mono b9 (by omega)))
      have HO_ := Lib.hid (show On w w9 from Below.trans HO.out (Below.mono b9 (by have := s03.out; omega)))
      have OG_ := Lib.hid (TRec.OwnR.keepL OG.out b9.size f9 x9 (fun g hg => HoffX.out g (by omega)))
      have J3_ := Lib.hid (J03.out.below KJ_.out)
      have J4_ := Lib.hid (J04.out.below KJ_.out)
      have HA3_ := Lib.hid (HA03.out.below HO_.out)
      have HA4_ := Lib.hid (HA04.out.below HO_.out)
      clear PA PW PX PG KJ HO OG OX J3 J4 HA3 HA4 x9 f9 b9
      have PA := PA_
      have PW := PW_
      have PX := PX_
      have PG := PG_
      have KJ := KJ_
      have HO := HO_
      have OG := OG_
      have J3 := J3_
      have J4 := J4_
      have HA3 := HA3_
      have HA4 := HA4_
      clear PA_ PW_ PX_ PG_ KJ_ HO_ OG_ J3_ J4_ HA3_ HA4_
      obtain ⟨PAc0, PAc1, PAc2, PAc3, PAc4⟩ := PA.out
      have PAy := PA.out.blk
      obtain ⟨PWc0, PWc1, PWc2, PWc3, PWc4⟩ := PW.out
      have PWy := PW.out.blk
      obtain ⟨PXc0, PXc1, PXc2, PXc3, PXc4⟩ := PX.out
      have PXy := PX.out.blk
      obtain ⟨PGc0, PGc1, PGc2, PGc3, PGc4⟩ := PG.out
      have PGy := PG.out.blk
      go_wp2_with fail
      refine (TRec.eq r0 r1 r2 _ _ _ _ zr3 zr4 _ u3 u4 (OG.out.ints3.below (by repeat (first | with_reducible exact On.refl _ | with_reducible exact Below.refl _ _ | apply On.alloc | refine On.setCell ?_ (by (try simp) <;> omega) _))) (OG.out.ints4.below (by repeat (first | with_reducible exact On.refl _ | with_reducible exact Below.refl _ _ | apply On.alloc | refine On.setCell ?_ (by (try simp) <;> omega) _))) (J3.out.below (by repeat (first | with_reducible exact On.refl _ | with_reducible exact Below.refl _ _ | apply On.alloc | refine On.setCell ?_ (by (try simp) <;> omega) _))) (J4.out.below (by repeat (first | with_reducible exact On.refl _ | with_reducible exact Below.refl _ _ | apply On.alloc | refine On.setCell ?_ (by (try simp) <;> omega) _)))).mono ?_
      rintro e w10 ⟨rfl, h10⟩
      clear PAc0 PAc1 PAc2 PAc3 PAc4 PAy
      clear PWc0 PWc1 PWc2 PWc3 PWc4 PWy
      clear PXc0 PXc1 PXc2 PXc3 PXc4 PXy
      clear PGc0 PGc1 PGc2 PGc3 PGc4 PGy
      have sA := Lib.hid (h10.size)
      have PA_ := Lib.hid (PA.out.on h10)
      clear PA
      have PA := PA_
      clear PA_
      have HO_ := Lib.hid (On.trans HO.out h10)
      clear HO
      have HO := HO_
      clear HO_
      have HA3_ := Lib.hid (HA3.out.below h10)
      clear HA3
      have HA3 := HA3_
      clear HA3_
      have HA4_ := Lib.hid (HA4.out.below h10)
      clear HA4
      have HA4 := HA4_
      clear HA4_
      have J3_ := Lib.hid (J3.out.below h10)
      clear J3
      have J3 := J3_
      clear J3_
      have J4_ := Lib.hid (J4.out.below h10)
      clear J4
      have J4 := J4_
      clear J4_
      have KJ_ := Lib.hid (On.trans KJ.out h10)
      clear KJ
      have KJ := KJ_
      clear KJ_
      have PW_ := Lib.hid (PW.out.on h10)
      clear PW
      have PW := PW_
      clear PW_
      have PX_ := Lib.hid (PX.out.on h10)
      clear PX
      have PX := PX_
      clear PX_
      have OG_ := Lib.hid (OG.out.below h10)
      clear OG
      have OG := OG_
      clear OG_
      have PG_ := Lib.hid (PG.out.on h10)
      clear PG
      have PG := PG_
      clear PG_
      clear h10
      obtain ⟨PAc0, PAc1, PAc2, PAc3, PAc4⟩ := PA.out
      have PAy := PA.out.blk
      obtain ⟨PWc0, PWc1, PWc2, PWc3, PWc4⟩ := PW.out
      have PWy := PW.out.blk
      obtain ⟨PXc0, PXc1, PXc2, PXc3, PXc4⟩ := PX.out
      have PXy := PX.out.blk
      obtain ⟨PGc0, PGc1, PGc2, PGc3, PGc4⟩ := PG.out
      have PGy := PG.out.blk
      go_wp2_with fail
      refine (HM.out (w4.heap.size + 1) _ _ _ _ _ (by have := sz45.out; have := PG.out.blk; omega) OG.out).mono ?_
      rintro e w11 ⟨rfl, b11, om, f11, x11⟩
      clear PAc0 PAc1 PAc2 PAc3 PAc4 PAy
      clear PWc0 PWc1 PWc2 PWc3 PWc4 PWy
      clear PXc0 PXc1 PXc2 PXc3 PXc4 PXy
      clear PGc0 PGc1 PGc2 PGc3 PGc4 PGy
      have PA_ := Lib.hid (PA.out.keep (fun i => b11.cell (p := ⟨w.heap.size, i, none⟩) (by show w.heap.size < w4.heap.size + 1; have := s03.out; have := sz34.out; omega)))
      have PW_ := Lib.hid (PW.out.keep (fun i => b11.cell (p := ⟨w3.heap.size, i, none⟩) (by show w3.heap.size < w4.heap.size + 1; have := sz34.out; omega)))
      have PX_ := Lib.hid (PX.out.keep (fun i => b11.cell (p := ⟨w4.heap.size, i, none⟩) (by show w4.heap.size < w4.heap.size + 1; omega)))
      have PG_ := Lib.hid (PG.out.keep (fun i => x11 ⟨w5.heap.size, i, none⟩ PG.out.blk (HoffG.out _ (Nat.le_refl _))))
      have KJ_ := Lib.hid (show On w3 w11 from Below.trans KJ.out (Below.mono b11 (by have := sz34.out; omega)))
      have HO_ := Lib.hid (show On w w11 from Below.trans HO.out (Below.mono b11 (by have := s03.out; have := sz34.out; omega)))
      have J3_ := Lib.hid (J03.out.below KJ_.out)
      have J4_ := Lib.hid (J04.out.below KJ_.out)
      have HA3_ := Lib.hid (HA03.out.below HO_.out)
      have HA4_ := Lib.hid (HA04.out.below HO_.out)
      clear PA PW PX PG KJ HO OG J3 J4 HA3 HA4 x11 f11 b11
      have PA := PA_
      have PW := PW_
      have PX := PX_
      have PG := PG_
      have KJ := KJ_
      have HO := HO_
      have OG := Lib.hid om
      have J3 := J3_
      have J4 := J4_
      have HA3 := HA3_
      have HA4 := HA4_
      clear PA_ PW_ PX_ PG_ KJ_ HO_ om J3_ J4_ HA3_ HA4_
      obtain ⟨PAc0, PAc1, PAc2, PAc3, PAc4⟩ := PA.out
      have PAy := PA.out.blk
      obtain ⟨PWc0, PWc1, PWc2, PWc3, PWc4⟩ := PW.out
      have PWy := PW.out.blk
      obtain ⟨PXc0, PXc1, PXc2, PXc3, PXc4⟩ := PX.out
      have PXy := PX.out.blk
      obtain ⟨PGc0, PGc1, PGc2, PGc3, PGc4⟩ := PG.out
      have PGy := PG.out.blk
      go_wp2_with fail
      refine (HH.out (w4.heap.size + 1) _ _ _ _ _ OG.out).mono ?_
      rintro e w12 ⟨rfl, h12⟩
      clear PAc0 PAc1 PAc2 PAc3 PAc4 PAy
      clear PWc0 PWc1 PWc2 PWc3 PWc4 PWy
      clear PXc0 PXc1 PXc2 PXc3 PXc4 PXy
      clear PGc0 PGc1 PGc2 PGc3 PGc4 PGy
      have PA_ := Lib.hid (PA.out.on h12)
      clear PA
      have PA := PA_
      clear PA_
      have HO_ := Lib.hid (On.trans HO.out h12)
      clear HO
      have HO := HO_
      clear HO_
      have HA3_ := Lib.hid (HA3.out.below h12)
      clear HA3
      have HA3 := HA3_
      clear HA3_
      have HA4_ := Lib.hid (HA4.out.below h12)
      clear HA4
      have HA4 := HA4_
      clear HA4_
      have J3_ := Lib.hid (J3.out.below h12)
      clear J3
      have J3 := J3_
      clear J3_
      have J4_ := Lib.hid (J4.out.below h12)
      clear J4
      have J4 := J4_
      clear J4_
      have KJ_ := Lib.hid (On.trans KJ.out h12)
      clear KJ
      have KJ := KJ_
      clear KJ_
      have PW_ := Lib.hid (PW.out.on h12)
      clear PW
      have PW := PW_
      clear PW_
      have PX_ := Lib.hid (PX.out.on h12)
      clear PX
      have PX := PX_
      clear PX_
      have OG_ := Lib.hid (OG.out.below h12)
      clear OG
      have OG := OG_
      clear OG_
      have PG_ := Lib.hid (PG.out.on h12)
      clear PG
      have PG := PG_
      clear PG_
      clear h12
      obtain ⟨PAc0, PAc1, PAc2, PAc3, PAc4⟩ := PA.out
      have PAy := PA.out.blk
      obtain ⟨PWc0, PWc1, PWc2, PWc3, PWc4⟩ := PW.out
      have PWy := PW.out.blk
      obtain ⟨PXc0, PXc1, PXc2, PXc3, PXc4⟩ := PX.out
      have PXy := PX.out.blk
      obtain ⟨PGc0, PGc1, PGc2, PGc3, PGc4⟩ := PG.out
      have PGy := PG.out.blk
      go_wp2_with fail
      refine (TRec.copy x0_0 x0_1 x0_2 _ _ z3 z4 _ q3 q4 (HA3.out.below (On.refl _)) (HA4.out.below (On.refl _))).mono ?_
      rintro e w13 ⟨t3, tc3, t4, tc4, rfl, ft3, ot3, ft4, ot4, h13⟩
      clear PAc0 PAc1 PAc2 PAc3 PAc4 PAy
      clear PWc0 PWc1 PWc2 PWc3 PWc4 PWy
      clear PXc0 PXc1 PXc2 PXc3 PXc4 PXy
      clear PGc0 PGc1 PGc2 PGc3 PGc4 PGy
      have PA_ := Lib.hid (PA.out.on h13)
      clear PA
      have PA := PA_
      clear PA_
      have HO_ := Lib.hid (On.trans HO.out h13)
      clear HO
      have HO := HO_
      clear HO_
      have HA3_ := Lib.hid (HA3.out.below h13)
      clear HA3
      have HA3 := HA3_
      clear HA3_
      have HA4_ := Lib.hid (HA4.out.below h13)
      clear HA4
      have HA4 := HA4_
      clear HA4_
      have J3_ := Lib.hid (J3.out.below h13)
      clear J3
      have J3 := J3_
      clear J3_
      have J4_ := Lib.hid (J4.out.below h13)
      clear J4
      have J4 := J4_
      clear J4_
      have KJ_ := Lib.hid (On.trans KJ.out h13)
      clear KJ
      have KJ := KJ_
      clear KJ_
      have PW_ := Lib.hid (PW.out.on h13)
      clear PW
      have PW := PW_
      clear PW_
      have PX_ := Lib.hid (PX.out.on h13)
      clear PX
      have PX := PX_
      clear PX_
      have OG_ := Lib.hid (OG.out.below h13)
      clear OG
      have OG := OG_
      clear OG_
      have PG_ := Lib.hid (PG.out.on h13)
      clear PG
      have PG := PG_
      clear PG_
      have T3 := Lib.hid (ot3.ints)
      have T4 := Lib.hid (ot4.ints)
      clear h13 ot3 ot4
      obtain ⟨PAc0, PAc1, PAc2, PAc3, PAc4⟩ := PA.out
      have PAy := PA.out.blk
      obtain ⟨PWc0, PWc1, PWc2, PWc3, PWc4⟩ := PW.out
      have PWy := PW.out.blk
      obtain ⟨PXc0, PXc1, PXc2, PXc3, PXc4⟩ := PX.out
      have PXy := PX.out.blk
      obtain ⟨PGc0, PGc1, PGc2, PGc3, PGc4⟩ := PG.out
      have PGy := PG.out.blk
      go_wp2_with fail
      refine (HI.out _ _ _ _ _ ft3 ft4 T3.out T4.out).mono ?_
      rintro e w14 ⟨h3, hc3, h4, hc4, rfl, oh, h14⟩
      clear PAc0 PAc1 PAc2 PAc3 PAc4 PAy
      clear PWc0 PWc1 PWc2 PWc3 PWc4 PWy
      clear PXc0 PXc1 PXc2 PXc3 PXc4 PXy
      clear PGc0 PGc1 PGc2 PGc3 PGc4 PGy
      have PA_ := Lib.hid (PA.out.on h14)
      clear PA
      have PA := PA_
      clear PA_
      have HO_ := Lib.hid (On.trans HO.out h14)
      clear HO
      have HO := HO_
      clear HO_
      have HA3_ := Lib.hid (HA3.out.below h14)
      clear HA3
      have HA3 := HA3_
      clear HA3_
      have HA4_ := Lib.hid (HA4.out.below h14)
      clear HA4
      have HA4 := HA4_
      clear HA4_
      have J3_ := Lib.hid (J3.out.below h14)
      clear J3
      have J3 := J3_
      clear J3_
      have J4_ := Lib.hid (J4.out.below h14)
      clear J4
      have J4 := J4_
      clear J4_
      have KJ_ := Lib.hid (On.trans KJ.out h14)
      clear KJ
      have KJ := KJ_
      clear KJ_
      have PW_ := Lib.hid (PW.out.on h14)
      clear PW
      have PW := PW_
      clear PW_
      have PX_ := Lib.hid (PX.out.on h14)
      clear PX
      have PX := PX_
      clear PX_
      have OG_ := Lib.hid (OG.out.below h14)
      clear OG
      have OG := OG_
      clear OG_
      have PG_ := Lib.hid (PG.out.on h14)
      clear PG
      have PG := PG_
      clear PG_
      have T3_ := Lib.hid (T3.out.below h14)
      clear T3
      have T3 := T3_
      clear T3_
      have T4_ := Lib.hid (T4.out.below h14)
      clear T4
      have T4 := T4_
      clear T4_
      have OH := Lib.hid (oh)
      clear h14 oh
      obtain ⟨PAc0, PAc1, PAc2, PAc3, PAc4⟩ := PA.out
      have PAy := PA.out.blk
      obtain ⟨PWc0, PWc1, PWc2, PWc3, PWc4⟩ := PW.out
      have PWy := PW.out.blk
      obtain ⟨PXc0, PXc1, PXc2, PXc3, PXc4⟩ := PX.out
      have PXy := PX.out.blk
      obtain ⟨PGc0, PGc1, PGc2, PGc3, PGc4⟩ := PG.out
      have PGy := PG.out.blk
      go_wp2_with fail
      refine (TRec.eq r0 r1 r2 _ _ _ _ zr3 zr4 _ u3 u4 (OH.out.ints3.below (by repeat (first | with_reducible exact On.refl _ | with_reducible exact Below.refl _ _ | apply On.alloc | refine On.setCell ?_ (by (try simp) <;> omega) _))) (OH.out.ints4.below (by repeat (first | with_reducible exact On.refl _ | with_reducible exact Below.refl _ _ | apply On.alloc | refine On.setCell ?_ (by (try simp) <;> omega) _))) (J3.out.below (by repeat (first | with_reducible exact On.refl _ | with_reducible exact Below.refl _ _ | apply On.alloc | refine On.setCell ?_ (by (try simp) <;> omega) _))) (J4.out.below (by repeat (first | with_reducible exact On.refl _ | with_reducible exact Below.refl _ _ | apply On.alloc | refine On.setCell ?_ (by (try simp) <;> omega) _)))).mono ?_
      rintro e w15 ⟨rfl, h15⟩
      clear PAc0 PAc1 PAc2 PAc3 PAc4 PAy
      clear PWc0 PWc1 PWc2 PWc3 PWc4 PWy
      clear PXc0 PXc1 PXc2 PXc3 PXc4 PXy
      clear PGc0 PGc1 PGc2 PGc3 PGc4 PGy
      have h15t : On w14 w15 := by refine On.trans ?_ h15; repeat (first | with_reducible exact On.refl _ | apply On.drew | apply On.alloc | refine On.setCell ?_ (by (try simp) <;> omega) _)
      have PA_ := Lib.hid (PA.out.on h15t)
      clear PA
      have PA := PA_
      clear PA_
      have HO_ := Lib.hid (On.trans HO.out h15t)
      clear HO
      have HO := HO_
      clear HO_
      have HA3_ := Lib.hid (HA3.out.below h15t)
      clear HA3
      have HA3 := HA3_
      clear HA3_
      have HA4_ := Lib.hid (HA4.out.below h15t)
      clear HA4
      have HA4 := HA4_
      clear HA4_
      have J3_ := Lib.hid (J3.out.below h15t)
      clear J3
      have J3 := J3_
      clear J3_
      have J4_ := Lib.hid (J4.out.below h15t)
      clear J4
      have J4 := J4_
      clear J4_
      have KJ_ := Lib.hid (On.trans KJ.out h15t)
      clear KJ
      have KJ := KJ_
      clear KJ_
      have PW_ := Lib.hid (PW.out.on h15t)
      clear PW
      have PW := PW_
      clear PW_
      have PX_ := Lib.hid (PX.out.on h15t)
      clear PX
      have PX := PX_
      clear PX_
      have OG_ := Lib.hid (OG.out.below h15t)
      clear OG
      have OG := OG_
      clear OG_
      have PG_ := Lib.hid (PG.out.on h15t)
      clear PG
      have PG := PG_
      clear PG_
      have T3_ := Lib.hid (T3.out.below h15t)
      clear T3
      have T3 := T3_
      clear T3_
      have T4_ := Lib.hid (T4.out.below h15t)
      clear T4
      have T4 := T4_
      clear T4_
      have OH_ := Lib.hid (OH.out.below h15t)
      clear OH
      have OH := OH_
      clear OH_
      clear h15 h15t
      obtain ⟨PAc0, PAc1, PAc2, PAc3, PAc4⟩ := PA.out
      have PAy := PA.out.blk
      obtain ⟨PWc0, PWc1, PWc2, PWc3, PWc4⟩ := PW.out
      have PWy := PW.out.blk
      obtain ⟨PXc0, PXc1, PXc2, PXc3, PXc4⟩ := PX.out
      have PXy := PX.out.blk
      obtain ⟨PGc0, PGc1, PGc2, PGc3, PGc4⟩ := PG.out
      have PGy := PG.out.blk
      go_wp2_with fail
      refine (HH.out (w4.heap.size + 1) _ _ _ _ _ OG.out).mono ?_
      rintro e w16 ⟨rfl, h16⟩
      go_wp2_with fail
      go_ret
      exact ⟨rfl, On.trans HO.out h16⟩

set_option maxRecDepth 100000 in
/-- The row's step. -/
theorem lifted (os : Os) (started : os.Started) (H : Type) (enc : TypeId × Value → H) :
    ReturnsInHanded {} Try.checked os 3 .any (Rows.fnExactCropTerrainSpec.pre6 enc Try.prog Try.f3 Rows.fnExactCropTerrainRow.domain false) (Rows.fnExactCropTerrainSpec.post enc Try.prog Try.f3 false true false false) := by
  refine returnsInHanded_of_change (C := Try.checked) own started (by kernel_rfl) Try.func3
    (ChangeSpec.witness6 (enc := enc) (C := Try.checked) false ⟨#[], #[.agg #[.int .i64 0, .int .i64 0, .int .i64 0, .slice none 0 0, .slice none 0 0], .int .i64 0, .int .i64 0, .int .i64 0, .int .i64 0], []⟩ 8 (by kernel_rfl) (by kernel_rfl) (by kernel_rfl) (by kernel_rfl)) ?_
  intro W base args ds gs before hval0 hW hcnd _
  have hval : ∀ (j : Nat) t v, Try.f3.params[j]? = some t → args[j]? = some v → Value.okWide Try.prog W .any base t v := hval0
  have hW' := hW
  obtain ⟨p, q, hA0, hV, rfl, hfz, hnd⟩ := hW
  have hA : DataW.TrodAll enc Try.prog W 0 (fun _ => true) true Try.f3.params.toList args.toList ds p := hA0
  rw [Try.params3] at hA hval
  obtain ⟨v0, vs0, d0, ds0, p0, q0, hargs, rfl, rfl, h0, r0⟩ := trodAll_cons hA
  obtain ⟨v1, vs1, d1, ds1, p1, q1, rfl, rfl, rfl, h1, r1⟩ := trodAll_cons r0
  obtain ⟨v2, vs2, d2, ds2, p2, q2, rfl, rfl, rfl, h2, r2⟩ := trodAll_cons r1
  obtain ⟨v3, vs3, d3, ds3, p3, q3, rfl, rfl, rfl, h3, r3⟩ := trodAll_cons r2
  obtain ⟨v4, vs4, d4, ds4, p4, q4, rfl, rfl, rfl, h4, r4⟩ := trodAll_cons r3
  obtain ⟨rfl, rfl, rfl⟩ := trodAll_nil r4
  obtain rfl : args = #[v0, v1, v2, v3, v4] := by cases args; simp_all
  obtain ⟨rfl, rfl⟩ := trodVars_none hV
  have k0 := h0
  have lt0 : ∀ x ∈ p0, x.block < W.heap.size := by obtain ⟨m, hm⟩ := k0; exact DataW.trod_lt m _ _ _ hm
  obtain ⟨c0_0, c0_1, c0_2, c0_3, c0_4, y0_0, y0_1, y0_2, y0_3, y0_4, n0, rfl, -, -, e0_0, e0_1, e0_2, e0_3, e0_4⟩ := Agg.open_agg5 Try.underlying24 (by kernel_rfl) (by kernel_rfl) (hval 0 24 v0 rfl rfl) h0
  obtain ⟨x0_0, g0_0, -, wx0_0⟩ := DataW.trod_int Try.underlying2 e0_0
  obtain rfl : c0_0 = .int .i64 x0_0 := by simpa using g0_0
  obtain ⟨x0_1, g0_1, -, wx0_1⟩ := DataW.trod_int Try.underlying2 e0_1
  obtain rfl : c0_1 = .int .i64 x0_1 := by simpa using g0_1
  obtain ⟨x0_2, g0_2, -, wx0_2⟩ := DataW.trod_int Try.underlying2 e0_2
  obtain rfl : c0_2 = .int .i64 x0_2 := by simpa using g0_2
  obtain ⟨a0_3, len0_3, cap0_3, z0_3, hc0_3, w0_3⟩ : ∃ a len cap zs, c0_3 = .slice a len cap ∧ IsRow .i64 W a len cap zs := by
    rcases open_ints Try.underlying22 Try.underlying2 (by kernel_rfl) e0_3 with ⟨hcs, _⟩ | ⟨x, l, c, zs, hcs, _, hl, hm, hz, _, hcell, hwz⟩
    · exact ⟨none, 0, 0, [], by simpa using hcs, .inl ⟨rfl, rfl, rfl, rfl⟩⟩
    · exact ⟨some x, l, c, zs, by simpa using hcs, .inr ⟨_, rfl, hl, hm, by simpa using hz, hcell, hwz⟩⟩
  subst hc0_3
  obtain ⟨a0_4, len0_4, cap0_4, z0_4, hc0_4, w0_4⟩ : ∃ a len cap zs, c0_4 = .slice a len cap ∧ IsRow .i64 W a len cap zs := by
    rcases open_ints Try.underlying22 Try.underlying2 (by kernel_rfl) e0_4 with ⟨hcs, _⟩ | ⟨x, l, c, zs, hcs, _, hl, hm, hz, _, hcell, hwz⟩
    · exact ⟨none, 0, 0, [], by simpa using hcs, .inl ⟨rfl, rfl, rfl, rfl⟩⟩
    · exact ⟨some x, l, c, zs, by simpa using hcs, .inr ⟨_, rfl, hl, hm, by simpa using hz, hcell, hwz⟩⟩
  subst hc0_4
  obtain ⟨a1, rfl, rfl, rfl, w1⟩ := open_int Try.underlying2 (hval 1 2 v1 rfl rfl) h1
  obtain ⟨a2, rfl, rfl, rfl, w2⟩ := open_int Try.underlying2 (hval 2 2 v2 rfl rfl) h2
  obtain ⟨a3, rfl, rfl, rfl, w3⟩ := open_int Try.underlying2 (hval 3 2 v3 rfl rfl) h3
  obtain ⟨a4, rfl, rfl, rfl, w4⟩ := open_int Try.underlying2 (hval 4 2 v4 rfl rfl) h4
  clear hA0
  refine (walk W x0_0 wx0_0 x0_1 wx0_1 x0_2 wx0_2 a0_3 len0_3 cap0_3 z0_3 w0_3 a0_4 len0_4 cap0_4 z0_4 w0_4 a1 w1 a2 w2 a3 w3 a4 w4 ).mono fun e W' ⟨he, bel⟩ => ?_
  subst he
  exact ⟨_, rfl, _, _, _, [], _, [], hW', trodAll_mk1 (shut_bool Try.underlying4 _), (trodAll_cons_mk (Below.trod laidOut (by kernel_rfl) (of_decide_eq_true (by kernel_rfl)) k0 bel lt0) (trodAll_cons_mk (shut_int Try.underlying2 w1) (trodAll_cons_mk (shut_int Try.underlying2 w2) (trodAll_cons_mk (shut_int Try.underlying2 w3) (trodAll_cons_mk (shut_int Try.underlying2 w4) trodAll_mk0))))), rfl, bel.frame _, fun h => by cases h⟩

theorem proved : Rows.FnExactCropTerrainSaid :=
  OpenClaim.holds_of_wide 3 Try.f3 rfl rfl rfl rfl rfl rfl rfl ⟨rfl, rfl, rfl, rfl, rfl⟩ rfl rfl rfl rfl rfl (by kernel_rfl) Try.func3 (by kernel_rfl)
    (of_decide_eq_true (by kernel_rfl)) (by unfold Func.isWrapper; first | (rw [if_pos (by decide +kernel)]; kernel_rfl) | (rw [if_neg (by decide +kernel)]; exact ⟨rfl, rfl⟩))
    (fun os started H enc _ => lifted os started H enc)
end Go.Proofs.Ytnambnddoebeiaa.fnExactCropTerrain
