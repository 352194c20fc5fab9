/-
  For all antennas MirrorAntenna of the program returns what the model returns, an antenna of its own memory, the same at a second call, and leaves the antenna alone: the statement FnExactMirrorAntenna, with no condition (antennas of more than 1048576 bytes and losses are let pass by the statement itself).
-/
import Derived.Test.YtmfhhmlndclkiaaRows
import Derived.Test.YtmfhhmlndclkiaaMir
import Derived.Test.YtmfhhmlndclkiaaMark
import Derived.Test.YtmfhhmlndclkiaaMark2
import Derived.WalkKit
import Derived.ProofKit
import Derived.OpenShut
import Derived.ShutString
import Derived.Below
import Derived.Lib.SmallJoins
namespace Go.Proofs.Ytmfhhmlndclkiaa.fnExactMirrorAntenna
open Go.ChangeShapes Go.WideShapes Go.ChangeAt Go.RowKit
open Go.ChangeMaps (open_string shut_string)
set_option linter.unusedVariables false

theorem own : ownKnob Try.prog.godebug = none := by kernel_rfl
theorem laidOut : laidOutB Try.prog = true := by kernel_rfl

/-- What the walk is told of a slice of integers that came in: it is nil; or it leads to a row of 'cap' cells, the numbers 'zs' (the first 'len' are its elements), each fitting its kind. -/
def IsRow (k : IntKind) (w : World) (a : Option Addr) (len cap : Nat) (zs : List Int) : Prop :=
  (a = none ∧ len = 0 ∧ cap = 0 ∧ zs = []) ∨
  ∃ x, a = some x ∧ len ≤ cap ∧ cap ≤ maxLen ∧ zs.length = cap ∧ (∀ i, i < zs.length → w.cell? (x.add i) = some (.int k (zs.getD i 0))) ∧ ∀ n ∈ zs, (Lit.int k n).wf = true

set_option maxRecDepth 100000 in
set_option maxHeartbeats 4000000 in
/-- The walk. -/
theorem walk (w : World) (x0_0 : ByteArray) (wx0_0 : x0_0.size ≤ maxLen) (x0_1 : Int) (wx0_1 : (Lit.int .i64 x0_1).wf = true) (a0_2 : Option Addr) (len0_2 cap0_2 : Nat) (z0_2 : List Int) (w0_2 : IsRow .i64 w a0_2 len0_2 cap0_2 z0_2) (a0_3 : Option Addr) (len0_3 cap0_3 : Nat) (z0_3 : List Int) (w0_3 : IsRow .i64 w a0_3 len0_3 cap0_3 z0_3) :
    Calls Try.prog 6 #[.agg #[.string x0_0, .int .i64 x0_1, .slice a0_2 len0_2 cap0_2, .slice a0_3 len0_3 cap0_3]] w fun e w' => e = .returned (.bool true) ∧ Below w.heap.size w w' := by
  obtain ⟨hi2, hl2⟩ := Ints.Ints.of_arg w0_2
  have m2 : len0_2 ≤ maxLen := by
    rcases w0_2 with ⟨_, h, _, _⟩ | ⟨_, _, h1, h2, _⟩
    · rw [h]; exact Nat.zero_le _
    · exact Nat.le_trans h1 h2
  obtain ⟨hi3, hl3⟩ := Ints.Ints.of_arg w0_3
  have m3 : len0_3 ≤ maxLen := by
    rcases w0_3 with ⟨_, h, _, _⟩ | ⟨_, _, h1, h2, _⟩
    · rw [h]; exact Nat.zero_le _
    · exact Nat.le_trans h1 h2
  have hz := fun w => Ant.count 1048576 x0_0 x0_1 a0_2 len0_2 cap0_2 a0_3 len0_3 cap0_3 w (by omega) wx0_0 m2 m3
  rw [show (((1048576 : Nat) : Int)) = 1048576 from rfl] at hz
  clear w0_2 w0_3 wx0_0 wx0_1 m2 m3
  rcases Ant.restL_sum [x0_0.size, len0_2, len0_3] 1048576 with hr | ⟨r, hr, hsum⟩
  · rw [hr] at hz
    have HZ := Lib.hid hz
    clear hz hr hi2 hl2 hi3 hl3
    go_enter Try.func6, Try.ntmps6
    go_wp2_with fail
    refine (HZ.out _).mono ?_
    rintro e w1 ⟨rfl, h1⟩
    go_wp2_with fail
    go_ret
    exact ⟨rfl, by repeat (first | with_reducible exact On.refl _ | apply On.alloc | refine On.trans ?_ h1)⟩
  · rw [hr] at hz
    simp only [List.sum_cons, List.sum_nil, Nat.add_zero] at hsum
    have q0 : x0_0.size ≤ 1048576 := by omega
    have q2 : len0_2 ≤ 1048576 := by omega
    have q3 : len0_3 ≤ 1048576 := by omega
    have hr0 : ¬ ((r : Int) < 0) := by omega
    have HZ := Lib.hid hz
    clear hz hr
    obtain ⟨z2, hz2⟩ : ∃ z, z = z0_2.take len0_2 := ⟨_, rfl⟩
    rw [← hz2] at hi2 hl2
    clear hz2
    subst hl2
    have H2 := Lib.hid hi2
    have HA02 := H2
    clear hi2
    obtain ⟨z3, hz3⟩ : ∃ z, z = z0_3.take len0_3 := ⟨_, rfl⟩
    rw [← hz3] at hi3 hl3
    clear hz3
    subst hl3
    have H3 := Lib.hid hi3
    have HA03 := H3
    clear hi3
    have hsx : 1 + z2.length + z3.length ≤ 1048577 := by omega
    clear hsum
    have hS := fun (w' : World) (v2 : Value) (v3 : Value) (i2 : Ints.Ints w' v2 z2) (i3 : Ints.Ints w' v3 z3) => Ant.spec_MirrorI x0_0 x0_1 _ _ z2 z3 _ q0 q2 q3 i2 i3
    have hI := fun (w' : World) (v2 : Value) (v3 : Value) (i2 : Ints.Ints w' v2 z2) (i3 : Ints.Ints w' v3 z3) => Ant.impl_Mirror x0_0 x0_1 _ _ z2 z3 _ q0 q2 q3 i2 i3
    have hbd : (Ant.miL (Ant.okA x0_0 x0_1 z2 z3) (Ant.mir z2)).length + (Ant.miL (Ant.okA x0_0 x0_1 z2 z3) z3).length ≤ 1048576 := Ant.mi_bd x0_0 x0_1 z2 z3
    generalize Ant.miT (Ant.okA x0_0 x0_1 z2 z3) x0_0 = r0 at *
    generalize Ant.miG (Ant.okA x0_0 x0_1 z2 z3) x0_1 = r1 at *
    generalize Ant.miL (Ant.okA x0_0 x0_1 z2 z3) (Ant.mir z2) = zr2 at *
    generalize Ant.miL (Ant.okA x0_0 x0_1 z2 z3) z3 = zr3 at *
    generalize Ant.miC (Ant.okA x0_0 x0_1 z2 z3) = co at *
    obtain ⟨n2, hn2⟩ : ∃ n, n = zr2.length := ⟨_, rfl⟩
    rw [← hn2] at hS hI hbd
    obtain ⟨n3, hn3⟩ : ∃ n, n = zr3.length := ⟨_, rfl⟩
    rw [← hn3] at hS hI hbd
    have u2 : zr2.length ≤ 1048576 := by omega
    have HN2 := Lib.hid hn2
    have u3 : zr3.length ≤ 1048576 := by omega
    have HN3 := Lib.hid hn3
    have hcc : (co != co) = false := bne_self_eq_false co
    obtain ⟨q, hq⟩ : ∃ q : Int, q = ((1 + n2 + n3 : Nat) : Int) := ⟨_, rfl⟩
    have hq0 : ¬ q < 0 := by omega
    have hqq : (q != q) = false := bne_self_eq_false q
    have hM := fun (B : Nat) (a2 : Option Addr) (c2 : Nat) (a3 : Option Addr) (c3 : Nat) (w : World) hB h => Ant.markR B 1 r0 r1 a2 n2 c2 a3 n3 c3 zr2 zr3 w (Nat.le_refl _) (by omega) hB h
    have hH := fun (B : Nat) (a2 : Option Addr) (c2 : Nat) (a3 : Option Addr) (c3 : Nat) (w : World) h => Ant.heldR B 1 r0 r1 a2 n2 c2 a3 n3 c3 w (Nat.le_refl _) (by omega) h
    rw [← hq] at hM hH
    have HM := Lib.hid hM
    have HH := Lib.hid hH
    have HS := Lib.hid hS
    have HI := Lib.hid hI
    obtain ⟨qx, hqx⟩ : ∃ q : Int, q = ((1 + z2.length + z3.length : Nat) : Int) := ⟨_, rfl⟩
    have hqx0 : ¬ qx < 0 := by omega
    have hX := fun (B : Nat) (a2 : Option Addr) (c2 : Nat) (a3 : Option Addr) (c3 : Nat) (w : World) hB h => Ant.markR B 1 x0_0 x0_1 a2 z2.length c2 a3 z3.length c3 z2 z3 w (Nat.le_refl _) (by omega) hB h
    rw [← hqx] at hX
    have HX := Lib.hid hX
    clear hX hqx hsx
    clear hS hI hM hH hq hbd hn2 hn3
    go_enter Try.func6, Try.ntmps6
    go_wp2_with fail
    refine (HZ.out _).mono ?_
    rintro e w1 ⟨rfl, h1⟩
    have PA := Lib.hid (show Ant.In w1 w.heap.size x0_0 x0_1 (.slice a0_2 z2.length cap0_2) (.slice a0_3 z3.length cap0_3) from Ant.In.on ⟨by simp [go_sem], by simp [go_sem], by simp [go_sem], by simp [go_sem]⟩ h1)
    have h01 : On w w1 := On.trans (On.alloc (On.refl w) _) h1
    have HO := Lib.hid (h01)
    have HA2 := Lib.hid (H2.out.below h01)
    have HA3 := Lib.hid (H3.out.below h01)
    clear h1 h01 HZ H2 H3
    obtain ⟨PAc0, PAc1, PAc2, PAc3⟩ := PA.out
    have PAy := PA.out.blk
    go_wp2_with fail
    refine (Ant.copy x0_0 x0_1 _ _ z2 z3 _ q2 q3 (HA2.out.below (On.refl _)) (HA3.out.below (On.refl _))).mono ?_
    rintro e w2 ⟨y2, yc2, y3, yc3, rfl, -, oy2, -, oy3, h2⟩
    clear PAc0 PAc1 PAc2 PAc3 PAy
    have PA_ := Lib.hid (PA.out.on h2)
    clear PA
    have PA := PA_
    clear PA_
    have HO_ := Lib.hid (On.trans HO.out h2)
    clear HO
    have HO := HO_
    clear HO_
    have HA2_ := Lib.hid (HA2.out.below h2)
    clear HA2
    have HA2 := HA2_
    clear HA2_
    have HA3_ := Lib.hid (HA3.out.below h2)
    clear HA3
    have HA3 := HA3_
    clear HA3_
    have Y2 := Lib.hid (oy2.ints)
    have Y3 := Lib.hid (oy3.ints)
    clear h2 oy2 oy3
    obtain ⟨PAc0, PAc1, PAc2, PAc3⟩ := PA.out
    have PAy := PA.out.blk
    go_wp2_with fail
    refine (HS.out _ _ _ Y2.out Y3.out).mono ?_
    rintro e w3 ⟨s2, sc2, s3, sc3, rfl, i2, i3, h3⟩
    clear PAc0 PAc1 PAc2 PAc3 PAy
    have PA_ := Lib.hid (PA.out.on h3)
    clear PA
    have PA := PA_
    clear PA_
    have HO_ := Lib.hid (On.trans HO.out h3)
    clear HO
    have HO := HO_
    clear HO_
    have HA2_ := Lib.hid (HA2.out.below h3)
    clear HA2
    have HA2 := HA2_
    clear HA2_
    have HA3_ := Lib.hid (HA3.out.below h3)
    clear HA3
    have HA3 := HA3_
    clear HA3_
    have Y2_ := Lib.hid (Y2.out.below h3)
    clear Y2
    have Y2 := Y2_
    clear Y2_
    have Y3_ := Lib.hid (Y3.out.below h3)
    clear Y3
    have Y3 := Y3_
    clear Y3_
    clear h3 Y2 Y3
    have J2 := Lib.hid (i2)
    have J3 := Lib.hid (i3)
    have KJ := Lib.hid (On.refl w3)
    have J02 := J2
    have J03 := J3
    have s03 := Lib.hid (show w.heap.size ≤ w3.heap.size from HO.out.size)
    clear i2 i3
    obtain ⟨PAc0, PAc1, PAc2, PAc3⟩ := PA.out
    have PAy := PA.out.blk
    go_wp2_with fail
    refine (Ant.copyR x0_0 x0_1 _ _ z2 z3 _ q2 q3 (HA2.out.below (by repeat (first | with_reducible exact On.refl _ | with_reducible exact Below.refl _ _ | apply On.alloc | refine On.setCell ?_ (by (try simp) <;> omega) _))) (HA3.out.below (by repeat (first | with_reducible exact On.refl _ | with_reducible exact Below.refl _ _ | apply On.alloc | refine On.setCell ?_ (by (try simp) <;> omega) _)))).mono ?_
    rintro e w4 ⟨x2, xc2, x3, xc3, rfl, oxr, h4⟩
    clear PAc0 PAc1 PAc2 PAc3 PAy
    have PW0 : Ant.In w4 w3.heap.size r0 r1 (.slice s2 n2 sc2) (.slice s3 n3 sc3) := Ant.In.on ⟨by simp [go_sem], by simp [go_sem], by simp [go_sem], by simp [go_sem]⟩ h4
    have h4t : On w3 w4 := by refine On.trans ?_ h4; repeat (first | with_reducible exact On.refl _ | apply On.drew | apply On.alloc | refine On.setCell ?_ (by (try simp) <;> omega) _)
    have PA_ := Lib.hid (PA.out.on h4t)
    clear PA
    have PA := PA_
    clear PA_
    have HO_ := Lib.hid (On.trans HO.out h4t)
    clear HO
    have HO := HO_
    clear HO_
    have HA2_ := Lib.hid (HA2.out.below h4t)
    clear HA2
    have HA2 := HA2_
    clear HA2_
    have HA3_ := Lib.hid (HA3.out.below h4t)
    clear HA3
    have HA3 := HA3_
    clear HA3_
    have J2_ := Lib.hid (J2.out.below h4t)
    clear J2
    have J2 := J2_
    clear J2_
    have J3_ := Lib.hid (J3.out.below h4t)
    clear J3
    have J3 := J3_
    clear J3_
    have KJ_ := Lib.hid (On.trans KJ.out h4t)
    clear KJ
    have KJ := KJ_
    clear KJ_
    have PW := Lib.hid (PW0)
    have OX0 : Ant.OwnR (w3.heap.size + 1) w4 x2 z2.length xc2 x3 z3.length xc3 z2 z3 := oxr.mono (by simp)
    clear oxr
    have OX := Lib.hid (OX0)
    have offX : ∀ g, w4.heap.size ≤ g → Ant.Off [(x2, z2.length), (x3, z3.length)] g := fun g hg => OX0.off hg
    have HoffX := Lib.hid offX
    have sz34 := Lib.hid (show w3.heap.size + 1 ≤ w4.heap.size from Nat.succ_le_of_lt (PW0.blk))
    clear h4 h4t PW0 OX0 offX
    obtain ⟨PAc0, PAc1, PAc2, PAc3⟩ := PA.out
    have PAy := PA.out.blk
    obtain ⟨PWc0, PWc1, PWc2, PWc3⟩ := PW.out
    have PWy := PW.out.blk
    go_wp2_with fail
    refine (HI.out _ _ _ (OX.out.ints2.below (by repeat (first | with_reducible exact On.refl _ | with_reducible exact Below.refl _ _ | apply On.alloc | refine On.setCell ?_ (by (try simp) <;> omega) _))) (OX.out.ints3.below (by repeat (first | with_reducible exact On.refl _ | with_reducible exact Below.refl _ _ | apply On.alloc | refine On.setCell ?_ (by (try simp) <;> omega) _)))).mono ?_
    rintro e w5 ⟨g2, gc2, g3, gc3, rfl, og, h5⟩
    clear PAc0 PAc1 PAc2 PAc3 PAy
    clear PWc0 PWc1 PWc2 PWc3 PWy
    have PX0 : Ant.In w5 w4.heap.size x0_0 x0_1 (.slice x2 z2.length xc2) (.slice x3 z3.length xc3) := Ant.In.on ⟨by simp [go_sem], by simp [go_sem], by simp [go_sem], by simp [go_sem]⟩ h5
    have h5t : On w4 w5 := by refine On.trans ?_ h5; repeat (first | with_reducible exact On.refl _ | apply On.drew | apply On.alloc | refine On.setCell ?_ (by (try simp) <;> omega) _)
    have PA_ := Lib.hid (PA.out.on h5t)
    clear PA
    have PA := PA_
    clear PA_
    have HO_ := Lib.hid (On.trans HO.out h5t)
    clear HO
    have HO := HO_
    clear HO_
    have HA2_ := Lib.hid (HA2.out.below h5t)
    clear HA2
    have HA2 := HA2_
    clear HA2_
    have HA3_ := Lib.hid (HA3.out.below h5t)
    clear HA3
    have HA3 := HA3_
    clear HA3_
    have J2_ := Lib.hid (J2.out.below h5t)
    clear J2
    have J2 := J2_
    clear J2_
    have J3_ := Lib.hid (J3.out.below h5t)
    clear J3
    have J3 := J3_
    clear J3_
    have KJ_ := Lib.hid (On.trans KJ.out h5t)
    clear KJ
    have KJ := KJ_
    clear KJ_
    have PW_ := Lib.hid (PW.out.on h5t)
    clear PW
    have PW := PW_
    clear PW_
    have OX_ := Lib.hid (OX.out.below h5t)
    clear OX
    have OX := OX_
    clear OX_
    have PX := Lib.hid (PX0)
    have og1 := og.mono (B' := w4.heap.size + 1) (by simp)
    have OG := Lib.hid (og1)
    have HoffG := Lib.hid (fun g (hg : w5.heap.size ≤ g) => og1.off hg)
    have sz45 := Lib.hid (show w4.heap.size + 1 ≤ w5.heap.size from Nat.succ_le_of_lt (PX0.blk))
    clear og og1 h5 h5t PX0
    obtain ⟨PAc0, PAc1, PAc2, PAc3⟩ := PA.out
    have PAy := PA.out.blk
    obtain ⟨PWc0, PWc1, PWc2, PWc3⟩ := PW.out
    have PWy := PW.out.blk
    obtain ⟨PXc0, PXc1, PXc2, PXc3⟩ := PX.out
    have PXy := PX.out.blk
    go_wp2_with fail
    refine (Ant.eq r0 r1 _ _ _ _ zr2 zr3 _ u2 u3 (OG.out.ints2.below (by repeat (first | with_reducible exact On.refl _ | with_reducible exact Below.refl _ _ | apply On.alloc | refine On.setCell ?_ (by (try simp) <;> omega) _))) (OG.out.ints3.below (by repeat (first | with_reducible exact On.refl _ | with_reducible exact Below.refl _ _ | apply On.alloc | refine On.setCell ?_ (by (try simp) <;> omega) _))) (J2.out.below (by repeat (first | with_reducible exact On.refl _ | with_reducible exact Below.refl _ _ | apply On.alloc | refine On.setCell ?_ (by (try simp) <;> omega) _))) (J3.out.below (by repeat (first | with_reducible exact On.refl _ | with_reducible exact Below.refl _ _ | apply On.alloc | refine On.setCell ?_ (by (try simp) <;> omega) _)))).mono ?_
    rintro e w6 ⟨rfl, h6⟩
    clear PAc0 PAc1 PAc2 PAc3 PAy
    clear PWc0 PWc1 PWc2 PWc3 PWy
    clear PXc0 PXc1 PXc2 PXc3 PXy
    have PG0 : Ant.In w6 w5.heap.size r0 r1 (.slice g2 n2 gc2) (.slice g3 n3 gc3) := Ant.In.on ⟨by simp [go_sem], by simp [go_sem], by simp [go_sem], by simp [go_sem]⟩ h6
    have h6t : On w5 w6 := by refine On.trans ?_ h6; repeat (first | with_reducible exact On.refl _ | apply On.drew | apply On.alloc | refine On.setCell ?_ (by (try simp) <;> omega) _)
    have PA_ := Lib.hid (PA.out.on h6t)
    clear PA
    have PA := PA_
    clear PA_
    have HO_ := Lib.hid (On.trans HO.out h6t)
    clear HO
    have HO := HO_
    clear HO_
    have HA2_ := Lib.hid (HA2.out.below h6t)
    clear HA2
    have HA2 := HA2_
    clear HA2_
    have HA3_ := Lib.hid (HA3.out.below h6t)
    clear HA3
    have HA3 := HA3_
    clear HA3_
    have J2_ := Lib.hid (J2.out.below h6t)
    clear J2
    have J2 := J2_
    clear J2_
    have J3_ := Lib.hid (J3.out.below h6t)
    clear J3
    have J3 := J3_
    clear J3_
    have KJ_ := Lib.hid (On.trans KJ.out h6t)
    clear KJ
    have KJ := KJ_
    clear KJ_
    have PW_ := Lib.hid (PW.out.on h6t)
    clear PW
    have PW := PW_
    clear PW_
    have OX_ := Lib.hid (OX.out.below h6t)
    clear OX
    have OX := OX_
    clear OX_
    have PX_ := Lib.hid (PX.out.on h6t)
    clear PX
    have PX := PX_
    clear PX_
    have OG_ := Lib.hid (OG.out.below h6t)
    clear OG
    have OG := OG_
    clear OG_
    have PG := Lib.hid (PG0)
    have sz56 := Lib.hid (show w5.heap.size + 1 ≤ w6.heap.size from Nat.succ_le_of_lt (PG0.blk))
    clear h6 h6t PG0
    obtain ⟨PAc0, PAc1, PAc2, PAc3⟩ := PA.out
    have PAy := PA.out.blk
    obtain ⟨PWc0, PWc1, PWc2, PWc3⟩ := PW.out
    have PWy := PW.out.blk
    obtain ⟨PXc0, PXc1, PXc2, PXc3⟩ := PX.out
    have PXy := PX.out.blk
    obtain ⟨PGc0, PGc1, PGc2, PGc3⟩ := PG.out
    have PGy := PG.out.blk
    go_upto_region 10 with fail
    go_cut [45] (fun s wx => s = .bool false ∧ On w6 wx)
    case first =>
      go_region_with (first
        | (go_at_call 32; refine (Ant.copy x0_0 x0_1 _ _ z2 z3 _ q2 q3 (HA2.out.below (by repeat (first | with_reducible exact On.refl _ | with_reducible exact Below.refl _ _ | apply On.drew | apply On.alloc))) (HA3.out.below (by repeat (first | with_reducible exact On.refl _ | with_reducible exact Below.refl _ _ | apply On.drew | apply On.alloc)))).mono ?_; rintro e w7 ⟨t2, tc2, t3, tc3, rfl, -, ot2, -, ot3, h7⟩; (have h67 : On w6 w7 := by refine On.trans ?_ h7; repeat (first | exact On.refl _ | apply On.drew)); obtain ⟨e0, e1, e2, e3⟩ := PX.out.on h67; have T2 := Lib.hid ot2.ints; have T3 := Lib.hid ot3.ints; clear ot2 ot3 h7)
        | (go_at_call 34; refine (Ant.eq x0_0 x0_1 _ _ _ _ z2 z3 _ q2 q3 (((OX.out.below ‹On w6 w7›).ints2).below (by repeat (first | with_reducible exact On.refl _ | with_reducible exact Below.refl _ _ | apply On.drew | apply On.alloc))) (((OX.out.below ‹On w6 w7›).ints3).below (by repeat (first | with_reducible exact On.refl _ | with_reducible exact Below.refl _ _ | apply On.drew | apply On.alloc))) (T2.out.below (by repeat (first | with_reducible exact On.refl _ | with_reducible exact Below.refl _ _ | apply On.drew | apply On.alloc))) (T3.out.below (by repeat (first | with_reducible exact On.refl _ | with_reducible exact Below.refl _ _ | apply On.drew | apply On.alloc)))).mono ?_; rintro e w8 ⟨rfl, h8⟩; (have h78 : On w7 w8 := by refine On.trans ?_ h8; repeat (first | exact On.refl _ | apply On.drew)); clear h8))
      all_goals
        go_wp2_with fail
        go_meet
        exact ⟨rfl, On.trans ‹On w6 w7› ‹On w7 w8›⟩
    case rest =>
      obtain ⟨rfl, hC⟩ := hcut
      clear PAc0 PAc1 PAc2 PAc3 PAy
      clear PWc0 PWc1 PWc2 PWc3 PWy
      clear PXc0 PXc1 PXc2 PXc3 PXy
      clear PGc0 PGc1 PGc2 PGc3 PGy
      have szC := hC.size
      have PA_ := Lib.hid (PA.out.on hC)
      clear PA
      have PA := PA_
      clear PA_
      have HO_ := Lib.hid (On.trans HO.out hC)
      clear HO
      have HO := HO_
      clear HO_
      have HA2_ := Lib.hid (HA2.out.below hC)
      clear HA2
      have HA2 := HA2_
      clear HA2_
      have HA3_ := Lib.hid (HA3.out.below hC)
      clear HA3
      have HA3 := HA3_
      clear HA3_
      have J2_ := Lib.hid (J2.out.below hC)
      clear J2
      have J2 := J2_
      clear J2_
      have J3_ := Lib.hid (J3.out.below hC)
      clear J3
      have J3 := J3_
      clear J3_
      have KJ_ := Lib.hid (On.trans KJ.out hC)
      clear KJ
      have KJ := KJ_
      clear KJ_
      have PW_ := Lib.hid (PW.out.on hC)
      clear PW
      have PW := PW_
      clear PW_
      have OX_ := Lib.hid (OX.out.below hC)
      clear OX
      have OX := OX_
      clear OX_
      have PX_ := Lib.hid (PX.out.on hC)
      clear PX
      have PX := PX_
      clear PX_
      have OG_ := Lib.hid (OG.out.below hC)
      clear OG
      have OG := OG_
      clear OG_
      have PG_ := Lib.hid (PG.out.on hC)
      clear PG
      have PG := PG_
      clear PG_
      have s6C := Lib.hid szC
      clear hC szC
      obtain ⟨PAc0, PAc1, PAc2, PAc3⟩ := PA.out
      have PAy := PA.out.blk
      obtain ⟨PWc0, PWc1, PWc2, PWc3⟩ := PW.out
      have PWy := PW.out.blk
      obtain ⟨PXc0, PXc1, PXc2, PXc3⟩ := PX.out
      have PXy := PX.out.blk
      obtain ⟨PGc0, PGc1, PGc2, PGc3⟩ := PG.out
      have PGy := PG.out.blk
      go_wp2_with fail
      refine (HX.out (w3.heap.size + 1) _ _ _ _ _ (by have := sz34.out; have := sz45.out; have := sz56.out; have := s6C.out; omega) OX.out).mono ?_
      rintro e w9 ⟨rfl, b9, -, f9, x9⟩
      clear PAc0 PAc1 PAc2 PAc3 PAy
      clear PWc0 PWc1 PWc2 PWc3 PWy
      clear PXc0 PXc1 PXc2 PXc3 PXy
      clear PGc0 PGc1 PGc2 PGc3 PGy
      have PA_ := Lib.hid (PA.out.keep (fun i => b9.cell (p := ⟨w.heap.size, i, none⟩) (by show w.heap.size < w3.heap.size + 1; have := s03.out; omega)))
      have PW_ := Lib.hid (PW.out.keep (fun i => b9.cell (p := ⟨w3.heap.size, i, none⟩) (by show w3.heap.size < w3.heap.size + 1; omega)))
      have PX_ := Lib.hid (PX.out.keep (fun i => x9 ⟨w4.heap.size, i, none⟩ PX.out.blk (HoffX.out _ (Nat.le_refl _))))
      have PG_ := Lib.hid (PG.out.keep (fun i => x9 ⟨w5.heap.size, i, none⟩ PG.out.blk (HoffX.out _ (by have := sz45.out; show w4.heap.size ≤ w5.heap.size; omega))))
      have KJ_ := Lib.hid (show On w3 w9 from Below.trans KJ.out (Below.mono b9 (by omega)))
      have HO_ := Lib.hid (show On w w9 from Below.trans HO.out (Below.mono b9 (by have := s03.out; omega)))
      have OG_ := Lib.hid (Ant.OwnR.keepL OG.out b9.size f9 x9 (fun g hg => HoffX.out g (by omega)))
      have J2_ := Lib.hid (J02.out.below KJ_.out)
      have J3_ := Lib.hid (J03.out.below KJ_.out)
      have HA2_ := Lib.hid (HA02.out.below HO_.out)
      have HA3_ := Lib.hid (HA03.out.below HO_.out)
      clear PA PW PX PG KJ HO OG OX J2 J3 HA2 HA3 x9 f9 b9
      have PA := PA_
      have PW := PW_
      have PX := PX_
      have PG := PG_
      have KJ := KJ_
      have HO := HO_
      have OG := OG_
      have J2 := J2_
      have J3 := J3_
      have HA2 := HA2_
      have HA3 := HA3_
      clear PA_ PW_ PX_ PG_ KJ_ HO_ OG_ J2_ J3_ HA2_ HA3_
      obtain ⟨PAc0, PAc1, PAc2, PAc3⟩ := PA.out
      have PAy := PA.out.blk
      obtain ⟨PWc0, PWc1, PWc2, PWc3⟩ := PW.out
      have PWy := PW.out.blk
      obtain ⟨PXc0, PXc1, PXc2, PXc3⟩ := PX.out
      have PXy := PX.out.blk
      obtain ⟨PGc0, PGc1, PGc2, PGc3⟩ := PG.out
      have PGy := PG.out.blk
      go_wp2_with fail
      refine (Ant.eq r0 r1 _ _ _ _ zr2 zr3 _ u2 u3 (OG.out.ints2.below (by repeat (first | with_reducible exact On.refl _ | with_reducible exact Below.refl _ _ | apply On.alloc | refine On.setCell ?_ (by (try simp) <;> omega) _))) (OG.out.ints3.below (by repeat (first | with_reducible exact On.refl _ | with_reducible exact Below.refl _ _ | apply On.alloc | refine On.setCell ?_ (by (try simp) <;> omega) _))) (J2.out.below (by repeat (first | with_reducible exact On.refl _ | with_reducible exact Below.refl _ _ | apply On.alloc | refine On.setCell ?_ (by (try simp) <;> omega) _))) (J3.out.below (by repeat (first | with_reducible exact On.refl _ | with_reducible exact Below.refl _ _ | apply On.alloc | refine On.setCell ?_ (by (try simp) <;> omega) _)))).mono ?_
      rintro e w10 ⟨rfl, h10⟩
      clear PAc0 PAc1 PAc2 PAc3 PAy
      clear PWc0 PWc1 PWc2 PWc3 PWy
      clear PXc0 PXc1 PXc2 PXc3 PXy
      clear PGc0 PGc1 PGc2 PGc3 PGy
      have sA := Lib.hid (h10.size)
      have PA_ := Lib.hid (PA.out.on h10)
      clear PA
      have PA := PA_
      clear PA_
      have HO_ := Lib.hid (On.trans HO.out h10)
      clear HO
      have HO := HO_
      clear HO_
      have HA2_ := Lib.hid (HA2.out.below h10)
      clear HA2
      have HA2 := HA2_
      clear HA2_
      have HA3_ := Lib.hid (HA3.out.below h10)
      clear HA3
      have HA3 := HA3_
      clear HA3_
      have J2_ := Lib.hid (J2.out.below h10)
      clear J2
      have J2 := J2_
      clear J2_
      have J3_ := Lib.hid (J3.out.below h10)
      clear J3
      have J3 := J3_
      clear J3_
      have KJ_ := Lib.hid (On.trans KJ.out h10)
      clear KJ
      have KJ := KJ_
      clear KJ_
      have PW_ := Lib.hid (PW.out.on h10)
      clear PW
      have PW := PW_
      clear PW_
      have PX_ := Lib.hid (PX.out.on h10)
      clear PX
      have PX := PX_
      clear PX_
      have OG_ := Lib.hid (OG.out.below h10)
      clear OG
      have OG := OG_
      clear OG_
      have PG_ := Lib.hid (PG.out.on h10)
      clear PG
      have PG := PG_
      clear PG_
      clear h10
      obtain ⟨PAc0, PAc1, PAc2, PAc3⟩ := PA.out
      have PAy := PA.out.blk
      obtain ⟨PWc0, PWc1, PWc2, PWc3⟩ := PW.out
      have PWy := PW.out.blk
      obtain ⟨PXc0, PXc1, PXc2, PXc3⟩ := PX.out
      have PXy := PX.out.blk
      obtain ⟨PGc0, PGc1, PGc2, PGc3⟩ := PG.out
      have PGy := PG.out.blk
      go_wp2_with fail
      refine (HM.out (w4.heap.size + 1) _ _ _ _ _ (by have := sz45.out; have := PG.out.blk; omega) OG.out).mono ?_
      rintro e w11 ⟨rfl, b11, om, f11, x11⟩
      clear PAc0 PAc1 PAc2 PAc3 PAy
      clear PWc0 PWc1 PWc2 PWc3 PWy
      clear PXc0 PXc1 PXc2 PXc3 PXy
      clear PGc0 PGc1 PGc2 PGc3 PGy
      have PA_ := Lib.hid (PA.out.keep (fun i => b11.cell (p := ⟨w.heap.size, i, none⟩) (by show w.heap.size < w4.heap.size + 1; have := s03.out; have := sz34.out; omega)))
      have PW_ := Lib.hid (PW.out.keep (fun i => b11.cell (p := ⟨w3.heap.size, i, none⟩) (by show w3.heap.size < w4.heap.size + 1; have := sz34.out; omega)))
      have PX_ := Lib.hid (PX.out.keep (fun i => b11.cell (p := ⟨w4.heap.size, i, none⟩) (by show w4.heap.size < w4.heap.size + 1; omega)))
      have PG_ := Lib.hid (PG.out.keep (fun i => x11 ⟨w5.heap.size, i, none⟩ PG.out.blk (HoffG.out _ (Nat.le_refl _))))
      have KJ_ := Lib.hid (show On w3 w11 from Below.trans KJ.out (Below.mono b11 (by have := sz34.out; omega)))
      have HO_ := Lib.hid (show On w w11 from Below.trans HO.out (Below.mono b11 (by have := s03.out; have := sz34.out; omega)))
      have J2_ := Lib.hid (J02.out.below KJ_.out)
      have J3_ := Lib.hid (J03.out.below KJ_.out)
      have HA2_ := Lib.hid (HA02.out.below HO_.out)
      have HA3_ := Lib.hid (HA03.out.below HO_.out)
      clear PA PW PX PG KJ HO OG J2 J3 HA2 HA3 x11 f11 b11
      have PA := PA_
      have PW := PW_
      have PX := PX_
      have PG := PG_
      have KJ := KJ_
      have HO := HO_
      have OG := Lib.hid om
      have J2 := J2_
      have J3 := J3_
      have HA2 := HA2_
      have HA3 := HA3_
      clear PA_ PW_ PX_ PG_ KJ_ HO_ om J2_ J3_ HA2_ HA3_
      obtain ⟨PAc0, PAc1, PAc2, PAc3⟩ := PA.out
      have PAy := PA.out.blk
      obtain ⟨PWc0, PWc1, PWc2, PWc3⟩ := PW.out
      have PWy := PW.out.blk
      obtain ⟨PXc0, PXc1, PXc2, PXc3⟩ := PX.out
      have PXy := PX.out.blk
      obtain ⟨PGc0, PGc1, PGc2, PGc3⟩ := PG.out
      have PGy := PG.out.blk
      go_wp2_with fail
      refine (HH.out (w4.heap.size + 1) _ _ _ _ _ OG.out).mono ?_
      rintro e w12 ⟨rfl, h12⟩
      clear PAc0 PAc1 PAc2 PAc3 PAy
      clear PWc0 PWc1 PWc2 PWc3 PWy
      clear PXc0 PXc1 PXc2 PXc3 PXy
      clear PGc0 PGc1 PGc2 PGc3 PGy
      have PA_ := Lib.hid (PA.out.on h12)
      clear PA
      have PA := PA_
      clear PA_
      have HO_ := Lib.hid (On.trans HO.out h12)
      clear HO
      have HO := HO_
      clear HO_
      have HA2_ := Lib.hid (HA2.out.below h12)
      clear HA2
      have HA2 := HA2_
      clear HA2_
      have HA3_ := Lib.hid (HA3.out.below h12)
      clear HA3
      have HA3 := HA3_
      clear HA3_
      have J2_ := Lib.hid (J2.out.below h12)
      clear J2
      have J2 := J2_
      clear J2_
      have J3_ := Lib.hid (J3.out.below h12)
      clear J3
      have J3 := J3_
      clear J3_
      have KJ_ := Lib.hid (On.trans KJ.out h12)
      clear KJ
      have KJ := KJ_
      clear KJ_
      have PW_ := Lib.hid (PW.out.on h12)
      clear PW
      have PW := PW_
      clear PW_
      have PX_ := Lib.hid (PX.out.on h12)
      clear PX
      have PX := PX_
      clear PX_
      have OG_ := Lib.hid (OG.out.below h12)
      clear OG
      have OG := OG_
      clear OG_
      have PG_ := Lib.hid (PG.out.on h12)
      clear PG
      have PG := PG_
      clear PG_
      clear h12
      obtain ⟨PAc0, PAc1, PAc2, PAc3⟩ := PA.out
      have PAy := PA.out.blk
      obtain ⟨PWc0, PWc1, PWc2, PWc3⟩ := PW.out
      have PWy := PW.out.blk
      obtain ⟨PXc0, PXc1, PXc2, PXc3⟩ := PX.out
      have PXy := PX.out.blk
      obtain ⟨PGc0, PGc1, PGc2, PGc3⟩ := PG.out
      have PGy := PG.out.blk
      go_wp2_with fail
      refine (Ant.copy x0_0 x0_1 _ _ z2 z3 _ q2 q3 (HA2.out.below (On.refl _)) (HA3.out.below (On.refl _))).mono ?_
      rintro e w13 ⟨t2, tc2, t3, tc3, rfl, -, ot2, -, ot3, h13⟩
      clear PAc0 PAc1 PAc2 PAc3 PAy
      clear PWc0 PWc1 PWc2 PWc3 PWy
      clear PXc0 PXc1 PXc2 PXc3 PXy
      clear PGc0 PGc1 PGc2 PGc3 PGy
      have PA_ := Lib.hid (PA.out.on h13)
      clear PA
      have PA := PA_
      clear PA_
      have HO_ := Lib.hid (On.trans HO.out h13)
      clear HO
      have HO := HO_
      clear HO_
      have HA2_ := Lib.hid (HA2.out.below h13)
      clear HA2
      have HA2 := HA2_
      clear HA2_
      have HA3_ := Lib.hid (HA3.out.below h13)
      clear HA3
      have HA3 := HA3_
      clear HA3_
      have J2_ := Lib.hid (J2.out.below h13)
      clear J2
      have J2 := J2_
      clear J2_
      have J3_ := Lib.hid (J3.out.below h13)
      clear J3
      have J3 := J3_
      clear J3_
      have KJ_ := Lib.hid (On.trans KJ.out h13)
      clear KJ
      have KJ := KJ_
      clear KJ_
      have PW_ := Lib.hid (PW.out.on h13)
      clear PW
      have PW := PW_
      clear PW_
      have PX_ := Lib.hid (PX.out.on h13)
      clear PX
      have PX := PX_
      clear PX_
      have OG_ := Lib.hid (OG.out.below h13)
      clear OG
      have OG := OG_
      clear OG_
      have PG_ := Lib.hid (PG.out.on h13)
      clear PG
      have PG := PG_
      clear PG_
      have T2 := Lib.hid (ot2.ints)
      have T3 := Lib.hid (ot3.ints)
      clear h13 ot2 ot3
      obtain ⟨PAc0, PAc1, PAc2, PAc3⟩ := PA.out
      have PAy := PA.out.blk
      obtain ⟨PWc0, PWc1, PWc2, PWc3⟩ := PW.out
      have PWy := PW.out.blk
      obtain ⟨PXc0, PXc1, PXc2, PXc3⟩ := PX.out
      have PXy := PX.out.blk
      obtain ⟨PGc0, PGc1, PGc2, PGc3⟩ := PG.out
      have PGy := PG.out.blk
      go_wp2_with fail
      refine (HI.out _ _ _ T2.out T3.out).mono ?_
      rintro e w14 ⟨h2, hc2, h3, hc3, rfl, oh, h14⟩
      clear PAc0 PAc1 PAc2 PAc3 PAy
      clear PWc0 PWc1 PWc2 PWc3 PWy
      clear PXc0 PXc1 PXc2 PXc3 PXy
      clear PGc0 PGc1 PGc2 PGc3 PGy
      have PA_ := Lib.hid (PA.out.on h14)
      clear PA
      have PA := PA_
      clear PA_
      have HO_ := Lib.hid (On.trans HO.out h14)
      clear HO
      have HO := HO_
      clear HO_
      have HA2_ := Lib.hid (HA2.out.below h14)
      clear HA2
      have HA2 := HA2_
      clear HA2_
      have HA3_ := Lib.hid (HA3.out.below h14)
      clear HA3
      have HA3 := HA3_
      clear HA3_
      have J2_ := Lib.hid (J2.out.below h14)
      clear J2
      have J2 := J2_
      clear J2_
      have J3_ := Lib.hid (J3.out.below h14)
      clear J3
      have J3 := J3_
      clear J3_
      have KJ_ := Lib.hid (On.trans KJ.out h14)
      clear KJ
      have KJ := KJ_
      clear KJ_
      have PW_ := Lib.hid (PW.out.on h14)
      clear PW
      have PW := PW_
      clear PW_
      have PX_ := Lib.hid (PX.out.on h14)
      clear PX
      have PX := PX_
      clear PX_
      have OG_ := Lib.hid (OG.out.below h14)
      clear OG
      have OG := OG_
      clear OG_
      have PG_ := Lib.hid (PG.out.on h14)
      clear PG
      have PG := PG_
      clear PG_
      have T2_ := Lib.hid (T2.out.below h14)
      clear T2
      have T2 := T2_
      clear T2_
      have T3_ := Lib.hid (T3.out.below h14)
      clear T3
      have T3 := T3_
      clear T3_
      have OH := Lib.hid (oh)
      clear h14 oh
      obtain ⟨PAc0, PAc1, PAc2, PAc3⟩ := PA.out
      have PAy := PA.out.blk
      obtain ⟨PWc0, PWc1, PWc2, PWc3⟩ := PW.out
      have PWy := PW.out.blk
      obtain ⟨PXc0, PXc1, PXc2, PXc3⟩ := PX.out
      have PXy := PX.out.blk
      obtain ⟨PGc0, PGc1, PGc2, PGc3⟩ := PG.out
      have PGy := PG.out.blk
      go_wp2_with fail
      refine (Ant.eq r0 r1 _ _ _ _ zr2 zr3 _ u2 u3 (OH.out.ints2.below (by repeat (first | with_reducible exact On.refl _ | with_reducible exact Below.refl _ _ | apply On.alloc | refine On.setCell ?_ (by (try simp) <;> omega) _))) (OH.out.ints3.below (by repeat (first | with_reducible exact On.refl _ | with_reducible exact Below.refl _ _ | apply On.alloc | refine On.setCell ?_ (by (try simp) <;> omega) _))) (J2.out.below (by repeat (first | with_reducible exact On.refl _ | with_reducible exact Below.refl _ _ | apply On.alloc | refine On.setCell ?_ (by (try simp) <;> omega) _))) (J3.out.below (by repeat (first | with_reducible exact On.refl _ | with_reducible exact Below.refl _ _ | apply On.alloc | refine On.setCell ?_ (by (try simp) <;> omega) _)))).mono ?_
      rintro e w15 ⟨rfl, h15⟩
      clear PAc0 PAc1 PAc2 PAc3 PAy
      clear PWc0 PWc1 PWc2 PWc3 PWy
      clear PXc0 PXc1 PXc2 PXc3 PXy
      clear PGc0 PGc1 PGc2 PGc3 PGy
      have h15t : On w14 w15 := by refine On.trans ?_ h15; repeat (first | with_reducible exact On.refl _ | apply On.drew | apply On.alloc | refine On.setCell ?_ (by (try simp) <;> omega) _)
      have PA_ := Lib.hid (PA.out.on h15t)
      clear PA
      have PA := PA_
      clear PA_
      have HO_ := Lib.hid (On.trans HO.out h15t)
      clear HO
      have HO := HO_
      clear HO_
      have HA2_ := Lib.hid (HA2.out.below h15t)
      clear HA2
      have HA2 := HA2_
      clear HA2_
      have HA3_ := Lib.hid (HA3.out.below h15t)
      clear HA3
      have HA3 := HA3_
      clear HA3_
      have J2_ := Lib.hid (J2.out.below h15t)
      clear J2
      have J2 := J2_
      clear J2_
      have J3_ := Lib.hid (J3.out.below h15t)
      clear J3
      have J3 := J3_
      clear J3_
      have KJ_ := Lib.hid (On.trans KJ.out h15t)
      clear KJ
      have KJ := KJ_
      clear KJ_
      have PW_ := Lib.hid (PW.out.on h15t)
      clear PW
      have PW := PW_
      clear PW_
      have PX_ := Lib.hid (PX.out.on h15t)
      clear PX
      have PX := PX_
      clear PX_
      have OG_ := Lib.hid (OG.out.below h15t)
      clear OG
      have OG := OG_
      clear OG_
      have PG_ := Lib.hid (PG.out.on h15t)
      clear PG
      have PG := PG_
      clear PG_
      have T2_ := Lib.hid (T2.out.below h15t)
      clear T2
      have T2 := T2_
      clear T2_
      have T3_ := Lib.hid (T3.out.below h15t)
      clear T3
      have T3 := T3_
      clear T3_
      have OH_ := Lib.hid (OH.out.below h15t)
      clear OH
      have OH := OH_
      clear OH_
      clear h15 h15t
      obtain ⟨PAc0, PAc1, PAc2, PAc3⟩ := PA.out
      have PAy := PA.out.blk
      obtain ⟨PWc0, PWc1, PWc2, PWc3⟩ := PW.out
      have PWy := PW.out.blk
      obtain ⟨PXc0, PXc1, PXc2, PXc3⟩ := PX.out
      have PXy := PX.out.blk
      obtain ⟨PGc0, PGc1, PGc2, PGc3⟩ := PG.out
      have PGy := PG.out.blk
      go_wp2_with fail
      refine (HH.out (w4.heap.size + 1) _ _ _ _ _ OG.out).mono ?_
      rintro e w16 ⟨rfl, h16⟩
      go_wp2_with fail
      go_ret
      exact ⟨rfl, On.trans HO.out h16⟩

set_option maxRecDepth 100000 in
/-- The row's step. -/
theorem lifted (os : Os) (started : os.Started) (H : Type) (enc : TypeId × Value → H) :
    ReturnsInHanded {} Try.checked os 6 .any (Rows.fnExactMirrorAntennaSpec.pre6 enc Try.prog Try.f6 Rows.fnExactMirrorAntennaRow.domain false) (Rows.fnExactMirrorAntennaSpec.post enc Try.prog Try.f6 false true false false) := by
  refine returnsInHanded_of_change (C := Try.checked) own started (by kernel_rfl) Try.func6
    (ChangeSpec.witness6 (enc := enc) (C := Try.checked) false ⟨#[], #[.agg #[.string ByteArray.empty, .int .i64 0, .slice none 0 0, .slice none 0 0]], []⟩ 8 (by kernel_rfl) (by kernel_rfl) (by kernel_rfl) (by kernel_rfl)) ?_
  intro W base args ds gs before hval0 hW hcnd _
  have hval : ∀ (j : Nat) t v, Try.f6.params[j]? = some t → args[j]? = some v → Value.okWide Try.prog W .any base t v := hval0
  have hW' := hW
  obtain ⟨p, q, hA0, hV, rfl, hfz, hnd⟩ := hW
  have hA : DataW.TrodAll enc Try.prog W 0 (fun _ => true) true Try.f6.params.toList args.toList ds p := hA0
  rw [Try.params6] at hA hval
  obtain ⟨v0, vs0, d0, ds0, p0, q0, hargs, rfl, rfl, h0, r0⟩ := trodAll_cons hA
  obtain ⟨rfl, rfl, rfl⟩ := trodAll_nil r0
  obtain rfl : args = #[v0] := by cases args; simp_all
  obtain ⟨rfl, rfl⟩ := trodVars_none hV
  have k0 := h0
  have lt0 : ∀ x ∈ p0, x.block < W.heap.size := by obtain ⟨m, hm⟩ := k0; exact DataW.trod_lt m _ _ _ hm
  obtain ⟨c0_0, c0_1, c0_2, c0_3, y0_0, y0_1, y0_2, y0_3, n0, rfl, -, -, e0_0, e0_1, e0_2, e0_3⟩ := Joins.open_agg4 Try.underlying58 (by kernel_rfl) (by kernel_rfl) (hval 0 58 v0 rfl rfl) h0
  obtain ⟨x0_0, g0_0, -, wx0_0⟩ := DataW.trod_string Try.underlying9 e0_0
  obtain rfl : c0_0 = .string x0_0 := by simpa using g0_0
  obtain ⟨x0_1, g0_1, -, wx0_1⟩ := DataW.trod_int Try.underlying2 e0_1
  obtain rfl : c0_1 = .int .i64 x0_1 := by simpa using g0_1
  obtain ⟨a0_2, len0_2, cap0_2, z0_2, hc0_2, w0_2⟩ : ∃ a len cap zs, c0_2 = .slice a len cap ∧ IsRow .i64 W a len cap zs := by
    rcases open_ints Try.underlying24 Try.underlying2 (by kernel_rfl) e0_2 with ⟨hcs, _⟩ | ⟨x, l, c, zs, hcs, _, hl, hm, hz, _, hcell, hwz⟩
    · exact ⟨none, 0, 0, [], by simpa using hcs, .inl ⟨rfl, rfl, rfl, rfl⟩⟩
    · exact ⟨some x, l, c, zs, by simpa using hcs, .inr ⟨_, rfl, hl, hm, by simpa using hz, hcell, hwz⟩⟩
  subst hc0_2
  obtain ⟨a0_3, len0_3, cap0_3, z0_3, hc0_3, w0_3⟩ : ∃ a len cap zs, c0_3 = .slice a len cap ∧ IsRow .i64 W a len cap zs := by
    rcases open_ints Try.underlying24 Try.underlying2 (by kernel_rfl) e0_3 with ⟨hcs, _⟩ | ⟨x, l, c, zs, hcs, _, hl, hm, hz, _, hcell, hwz⟩
    · exact ⟨none, 0, 0, [], by simpa using hcs, .inl ⟨rfl, rfl, rfl, rfl⟩⟩
    · exact ⟨some x, l, c, zs, by simpa using hcs, .inr ⟨_, rfl, hl, hm, by simpa using hz, hcell, hwz⟩⟩
  subst hc0_3
  clear hA0
  refine (walk W x0_0 wx0_0 x0_1 wx0_1 a0_2 len0_2 cap0_2 z0_2 w0_2 a0_3 len0_3 cap0_3 z0_3 w0_3 ).mono fun e W' ⟨he, bel⟩ => ?_
  subst he
  exact ⟨_, rfl, _, _, _, [], _, [], hW', trodAll_mk1 (shut_bool Try.underlying4 _), (trodAll_cons_mk (Below.trod laidOut (by kernel_rfl) (of_decide_eq_true (by kernel_rfl)) k0 bel lt0) trodAll_mk0), rfl, bel.frame _, fun h => by cases h⟩

theorem proved : Rows.FnExactMirrorAntennaSaid :=
  OpenClaim.holds_of_wide 6 Try.f6 rfl rfl rfl rfl rfl rfl rfl ⟨rfl, rfl, rfl, rfl, rfl⟩ rfl rfl rfl rfl rfl (by kernel_rfl) Try.func6 (by kernel_rfl)
    (of_decide_eq_true (by kernel_rfl)) (by unfold Func.isWrapper; first | (rw [if_pos (by decide +kernel)]; kernel_rfl) | (rw [if_neg (by decide +kernel)]; exact ⟨rfl, rfl⟩))
    (fun os started H enc _ => lifted os started H enc)
end Go.Proofs.Ytmfhhmlndclkiaa.fnExactMirrorAntenna
