/-
  For every text ReadAntenna of the program returns what the model returns, an antenna of its own memory, the same at a second call: the statement FnExactReadAntenna, as a card. Its row lists tables and errors of the library, tied to the text by the card; no other condition (a text of more than 1048576 bytes is let pass by the statement itself).
-/
import Derived.Test.YtnambnddoebeiaaDoorCards
import Derived.Test.YtnambnddoebeiaaDoorTie
import Derived.Test.YtnambnddoebeiaaDoorRdA
import Derived.Test.YtnambnddoebeiaaDoorTabs
import Derived.Test.YtnambnddoebeiaaDoorShelfLen
import Derived.Test.YtnambnddoebeiaaDoorMark
import Derived.WalkKit
import Derived.ProofKit
import Derived.OpenShut
import Derived.ShutString
import Derived.Below
import Derived.ChangeOld
import Derived.OpenVars
import Derived.ChangeVars
import Derived.Deep.DeepHandedRow
import Derived.Lib.LaidTab
import Derived.Deep.DeepWitnessRowRef
import Derived.RowKitTokens
namespace Go.Proofs.YtnambnddoebeiaaDoor.fnExactReadAntenna
open Go.ChangeShapes Go.WideShapes Go.ChangeAt Go.RowKit
open Go.ChangeMaps (open_string shut_string)
set_option linter.unusedVariables false

theorem own : ownKnob Tryd.prog.godebug = none := by kernel_rfl
theorem laidOut : laidOutB Tryd.prog = true := by kernel_rfl

/-- The walk. -/
theorem walk (w : World) (a0 : ByteArray) (w0 : a0.size ≤ maxLen) (hL : laidMetH Tryd.prog Rows.fnExactReadAntennaRow.laid w) (hsh : w.ShapedOpen Tryd.prog) :
    Calls Tryd.prog 3 #[.string a0] w fun e w' => e = .returned (.bool true) ∧ Below w.heap.size w w' := by
  unfold maxLen at w0
  by_cases hl0 : 1048576 < a0.size
  · clear hL hsh
    go_enter Tryd.func3, Tryd.ntmps3
    go_wp2
    go_ret
    exact ⟨rfl, Below.refl _ _⟩
  · have hs0 : a0.size ≤ 1048576 := by omega
    have hS := fun w => RdA.spec_ReadAntenna a0 w hs0
    have HTab := Lib.hid (Tabs.pow10 (W := w) (l := Rows.fnExactReadAntennaRow.laid) hL (.tail _ (.tail _ (.head _))))
    have HSent := Lib.hid (Tabs.sent (W := w) (l := Rows.fnExactReadAntennaRow.laid) hL (.tail _ (.tail _ (.tail _ (.tail _ (.tail _ (.head _)))))) (.tail _ (.tail _ (.tail _ (.tail _ (.head _))))))
    obtain ⟨m, hm⟩ : ∃ m, w.cell? ⟨2, 0, none⟩ = some (.int .i64 m) := Tryd.laysM146.s1_3 w hsh
    have hlt := World.block_lt_of_cell? w _ hm
    have hI := fun (w' : World) (hb : On w w') => RdA.impl_ReadAntenna a0 m w' hs0 ((hb.cell (by exact hlt)).trans hm) (HSent.out.below hb) (fun w'' hb2 => HTab.out w'' (On.trans hb hb2))
    have hbd : (RdA.raH a0.data.toList).length + (RdA.raV a0.data.toList).length ≤ 1048576 := RdA.ra_lens a0.data.toList
    generalize RdA.raN a0.data.toList = r0 at *
    generalize RdA.raG a0.data.toList = r1 at *
    generalize RdA.raH a0.data.toList = zr2 at *
    generalize RdA.raV a0.data.toList = zr3 at *
    generalize RdA.raB a0.data.toList = co at *
    obtain ⟨n2, hn2⟩ : ∃ n, n = zr2.length := ⟨_, rfl⟩
    rw [← hn2] at hS hI hbd
    obtain ⟨n3, hn3⟩ : ∃ n, n = zr3.length := ⟨_, rfl⟩
    rw [← hn3] at hS hI hbd
    have u2 : zr2.length ≤ 1048576 := by omega
    have HN2 := Lib.hid hn2
    have u3 : zr3.length ≤ 1048576 := by omega
    have HN3 := Lib.hid hn3
    have hcc : (co != co) = false := bne_self_eq_false co
    obtain ⟨q, hq⟩ : ∃ q : Int, q = ((1 + n2 + n3 : Nat) : Int) := ⟨_, rfl⟩
    have hq0 : ¬ q < 0 := by omega
    have hqq : (q != q) = false := bne_self_eq_false q
    have hM := fun (B : Nat) (a2 : Option Addr) (c2 : Nat) (a3 : Option Addr) (c3 : Nat) (w : World) hB h => Ant.markR B 1 r0 r1 a2 n2 c2 a3 n3 c3 zr2 zr3 w (Nat.le_refl _) (by omega) hB h
    have hH := fun (B : Nat) (a2 : Option Addr) (c2 : Nat) (a3 : Option Addr) (c3 : Nat) (w : World) h => Ant.heldR B 1 r0 r1 a2 n2 c2 a3 n3 c3 w (Nat.le_refl _) (by omega) h
    rw [← hq] at hM hH
    have HM := Lib.hid hM
    have HH := Lib.hid hH
    have HS := Lib.hid hS
    have HI := Lib.hid hI
    clear hS hI hM hH hq hbd hn2 hn3 w0 hL hsh hm hlt HTab HSent
    go_enter Tryd.func3, Tryd.ntmps3
    go_wp2_with fail
    refine (HS.out _).mono ?_
    rintro e w3 ⟨s2, sc2, s3, sc3, rfl, i2, i3, h3⟩
    have HO := Lib.hid (h3)
    have J2 := Lib.hid (i2)
    have J3 := Lib.hid (i3)
    have KJ := Lib.hid (On.refl w3)
    have J02 := J2
    have J03 := J3
    have s03 := Lib.hid (show w.heap.size ≤ w3.heap.size from HO.out.size)
    clear h3 i2 i3
    go_wp2_with fail
    refine (HI.out _ (by repeat (first | with_reducible exact HO.out | apply On.alloc | refine On.setCell ?_ (by (try simp) <;> omega) _))).mono ?_
    rintro e w5 ⟨g2, gc2, g3, gc3, rfl, og, h5⟩
    have PW0 : Ant.In w5 w3.heap.size r0 r1 (.slice s2 n2 sc2) (.slice s3 n3 sc3) := Ant.In.on ⟨by simp [go_sem], by simp [go_sem], by simp [go_sem], by simp [go_sem]⟩ h5
    have h5t : On w3 w5 := by refine On.trans ?_ h5; repeat (first | with_reducible exact On.refl _ | apply On.drew | apply On.alloc | refine On.setCell ?_ (by (try simp) <;> omega) _)
    have HO_ := Lib.hid (On.trans HO.out h5t)
    clear HO
    have HO := HO_
    clear HO_
    have J2_ := Lib.hid (J2.out.below h5t)
    clear J2
    have J2 := J2_
    clear J2_
    have J3_ := Lib.hid (J3.out.below h5t)
    clear J3
    have J3 := J3_
    clear J3_
    have KJ_ := Lib.hid (On.trans KJ.out h5t)
    clear KJ
    have KJ := KJ_
    clear KJ_
    have PW := Lib.hid (PW0)
    have og1 := og.mono (B' := w3.heap.size + 1) (by simp)
    have OG := Lib.hid (og1)
    have HoffG := Lib.hid (fun g (hg : w5.heap.size ≤ g) => og1.off hg)
    have sz35 := Lib.hid (show w3.heap.size + 1 ≤ w5.heap.size from Nat.succ_le_of_lt (PW0.blk))
    clear og og1 h5 h5t PW0
    obtain ⟨PWc0, PWc1, PWc2, PWc3⟩ := PW.out
    have PWy := PW.out.blk
    go_wp2_with fail
    refine (Ant.eq r0 r1 _ _ _ _ zr2 zr3 _ u2 u3 (OG.out.ints2.below (by repeat (first | with_reducible exact On.refl _ | with_reducible exact Below.refl _ _ | apply On.alloc | refine On.setCell ?_ (by (try simp) <;> omega) _))) (OG.out.ints3.below (by repeat (first | with_reducible exact On.refl _ | with_reducible exact Below.refl _ _ | apply On.alloc | refine On.setCell ?_ (by (try simp) <;> omega) _))) (J2.out.below (by repeat (first | with_reducible exact On.refl _ | with_reducible exact Below.refl _ _ | apply On.alloc | refine On.setCell ?_ (by (try simp) <;> omega) _))) (J3.out.below (by repeat (first | with_reducible exact On.refl _ | with_reducible exact Below.refl _ _ | apply On.alloc | refine On.setCell ?_ (by (try simp) <;> omega) _)))).mono ?_
    rintro e w6 ⟨rfl, h6⟩
    clear PWc0 PWc1 PWc2 PWc3 PWy
    have PG0 : Ant.In w6 w5.heap.size r0 r1 (.slice g2 n2 gc2) (.slice g3 n3 gc3) := Ant.In.on ⟨by simp [go_sem], by simp [go_sem], by simp [go_sem], by simp [go_sem]⟩ h6
    have h6t : On w5 w6 := by refine On.trans ?_ h6; repeat (first | with_reducible exact On.refl _ | apply On.drew | apply On.alloc | refine On.setCell ?_ (by (try simp) <;> omega) _)
    have HO_ := Lib.hid (On.trans HO.out h6t)
    clear HO
    have HO := HO_
    clear HO_
    have J2_ := Lib.hid (J2.out.below h6t)
    clear J2
    have J2 := J2_
    clear J2_
    have J3_ := Lib.hid (J3.out.below h6t)
    clear J3
    have J3 := J3_
    clear J3_
    have KJ_ := Lib.hid (On.trans KJ.out h6t)
    clear KJ
    have KJ := KJ_
    clear KJ_
    have PW_ := Lib.hid (PW.out.on h6t)
    clear PW
    have PW := PW_
    clear PW_
    have OG_ := Lib.hid (OG.out.below h6t)
    clear OG
    have OG := OG_
    clear OG_
    have PG := Lib.hid (PG0)
    have sz56 := Lib.hid (show w5.heap.size + 1 ≤ w6.heap.size from Nat.succ_le_of_lt (PG0.blk))
    clear h6 h6t PG0
    obtain ⟨PWc0, PWc1, PWc2, PWc3⟩ := PW.out
    have PWy := PW.out.blk
    obtain ⟨PGc0, PGc1, PGc2, PGc3⟩ := PG.out
    have PGy := PG.out.blk
    go_wp2_with fail
    refine (HM.out (w3.heap.size + 1) _ _ _ _ _ (by have := sz35.out; have := sz56.out; omega) OG.out).mono ?_
    rintro e w9 ⟨rfl, b9, om, f9, x9⟩
    clear PWc0 PWc1 PWc2 PWc3 PWy
    clear PGc0 PGc1 PGc2 PGc3 PGy
    have PW_ := Lib.hid (PW.out.keep (fun i => b9.cell (p := ⟨w3.heap.size, i, none⟩) (by show w3.heap.size < w3.heap.size + 1; omega)))
    have PG_ := Lib.hid (PG.out.keep (fun i => x9 ⟨w5.heap.size, i, none⟩ PG.out.blk (HoffG.out _ (Nat.le_refl _))))
    have KJ_ := Lib.hid (show On w3 w9 from Below.trans KJ.out (Below.mono b9 (by omega)))
    have HO_ := Lib.hid (show On w w9 from Below.trans HO.out (Below.mono b9 (by have := s03.out; omega)))
    have J2_ := Lib.hid (J02.out.below KJ_.out)
    have J3_ := Lib.hid (J03.out.below KJ_.out)
    clear PW PG KJ HO J2 J3 OG x9 f9 b9
    have PW := PW_
    have PG := PG_
    have KJ := KJ_
    have HO := HO_
    have OG := Lib.hid om
    have J2 := J2_
    have J3 := J3_
    clear PW_ PG_ KJ_ HO_ om J2_ J3_
    obtain ⟨PWc0, PWc1, PWc2, PWc3⟩ := PW.out
    have PWy := PW.out.blk
    obtain ⟨PGc0, PGc1, PGc2, PGc3⟩ := PG.out
    have PGy := PG.out.blk
    go_wp2_with fail
    refine (HH.out (w3.heap.size + 1) _ _ _ _ _ OG.out).mono ?_
    rintro e w12 ⟨rfl, h12⟩
    clear PWc0 PWc1 PWc2 PWc3 PWy
    clear PGc0 PGc1 PGc2 PGc3 PGy
    have HO_ := Lib.hid (On.trans HO.out h12)
    clear HO
    have HO := HO_
    clear HO_
    have J2_ := Lib.hid (J2.out.below h12)
    clear J2
    have J2 := J2_
    clear J2_
    have J3_ := Lib.hid (J3.out.below h12)
    clear J3
    have J3 := J3_
    clear J3_
    have KJ_ := Lib.hid (On.trans KJ.out h12)
    clear KJ
    have KJ := KJ_
    clear KJ_
    have PW_ := Lib.hid (PW.out.on h12)
    clear PW
    have PW := PW_
    clear PW_
    have OG_ := Lib.hid (OG.out.below h12)
    clear OG
    have OG := OG_
    clear OG_
    have PG_ := Lib.hid (PG.out.on h12)
    clear PG
    have PG := PG_
    clear PG_
    clear h12
    obtain ⟨PWc0, PWc1, PWc2, PWc3⟩ := PW.out
    have PWy := PW.out.blk
    obtain ⟨PGc0, PGc1, PGc2, PGc3⟩ := PG.out
    have PGy := PG.out.blk
    go_wp2_with fail
    refine (HI.out _ (by repeat (first | with_reducible exact HO.out | apply On.alloc | refine On.setCell ?_ (by (try simp) <;> omega) _))).mono ?_
    rintro e w14 ⟨h2, hc2, h3, hc3, rfl, oh, h14⟩
    clear PWc0 PWc1 PWc2 PWc3 PWy
    clear PGc0 PGc1 PGc2 PGc3 PGy
    have HO_ := Lib.hid (On.trans HO.out h14)
    clear HO
    have HO := HO_
    clear HO_
    have J2_ := Lib.hid (J2.out.below h14)
    clear J2
    have J2 := J2_
    clear J2_
    have J3_ := Lib.hid (J3.out.below h14)
    clear J3
    have J3 := J3_
    clear J3_
    have KJ_ := Lib.hid (On.trans KJ.out h14)
    clear KJ
    have KJ := KJ_
    clear KJ_
    have PW_ := Lib.hid (PW.out.on h14)
    clear PW
    have PW := PW_
    clear PW_
    have OG_ := Lib.hid (OG.out.below h14)
    clear OG
    have OG := OG_
    clear OG_
    have PG_ := Lib.hid (PG.out.on h14)
    clear PG
    have PG := PG_
    clear PG_
    have OH := Lib.hid (oh)
    clear h14 oh
    obtain ⟨PWc0, PWc1, PWc2, PWc3⟩ := PW.out
    have PWy := PW.out.blk
    obtain ⟨PGc0, PGc1, PGc2, PGc3⟩ := PG.out
    have PGy := PG.out.blk
    go_wp2_with fail
    refine (Ant.eq r0 r1 _ _ _ _ zr2 zr3 _ u2 u3 (OH.out.ints2.below (by repeat (first | with_reducible exact On.refl _ | with_reducible exact Below.refl _ _ | apply On.alloc | refine On.setCell ?_ (by (try simp) <;> omega) _))) (OH.out.ints3.below (by repeat (first | with_reducible exact On.refl _ | with_reducible exact Below.refl _ _ | apply On.alloc | refine On.setCell ?_ (by (try simp) <;> omega) _))) (J2.out.below (by repeat (first | with_reducible exact On.refl _ | with_reducible exact Below.refl _ _ | apply On.alloc | refine On.setCell ?_ (by (try simp) <;> omega) _))) (J3.out.below (by repeat (first | with_reducible exact On.refl _ | with_reducible exact Below.refl _ _ | apply On.alloc | refine On.setCell ?_ (by (try simp) <;> omega) _)))).mono ?_
    rintro e w15 ⟨rfl, h15⟩
    clear PWc0 PWc1 PWc2 PWc3 PWy
    clear PGc0 PGc1 PGc2 PGc3 PGy
    have h15t : On w14 w15 := by refine On.trans ?_ h15; repeat (first | with_reducible exact On.refl _ | apply On.drew | apply On.alloc | refine On.setCell ?_ (by (try simp) <;> omega) _)
    have HO_ := Lib.hid (On.trans HO.out h15t)
    clear HO
    have HO := HO_
    clear HO_
    have J2_ := Lib.hid (J2.out.below h15t)
    clear J2
    have J2 := J2_
    clear J2_
    have J3_ := Lib.hid (J3.out.below h15t)
    clear J3
    have J3 := J3_
    clear J3_
    have KJ_ := Lib.hid (On.trans KJ.out h15t)
    clear KJ
    have KJ := KJ_
    clear KJ_
    have PW_ := Lib.hid (PW.out.on h15t)
    clear PW
    have PW := PW_
    clear PW_
    have OG_ := Lib.hid (OG.out.below h15t)
    clear OG
    have OG := OG_
    clear OG_
    have PG_ := Lib.hid (PG.out.on h15t)
    clear PG
    have PG := PG_
    clear PG_
    have OH_ := Lib.hid (OH.out.below h15t)
    clear OH
    have OH := OH_
    clear OH_
    clear h15 h15t
    obtain ⟨PWc0, PWc1, PWc2, PWc3⟩ := PW.out
    have PWy := PW.out.blk
    obtain ⟨PGc0, PGc1, PGc2, PGc3⟩ := PG.out
    have PGy := PG.out.blk
    go_wp2_with fail
    refine (HH.out (w3.heap.size + 1) _ _ _ _ _ OG.out).mono ?_
    rintro e w16 ⟨rfl, h16⟩
    go_wp2_with fail
    go_ret
    exact ⟨rfl, On.trans HO.out h16⟩

/-- How many blocks the settled world has. -/
noncomputable def low : Nat := (World.holding Tryd.prog default ⟨#[], #[], []⟩).heap.size
/-- A world for the witness: the settled one, each listed variable holding what the program's text lays. -/
noncomputable def laidWorld (os : Os) : World :=
  let w0 := World.holding Tryd.prog os ⟨#[.cells #[.string ⟨#[118, 97, 108, 117, 101, 32, 111, 117, 116, 32, 111, 102, 32, 114, 97, 110, 103, 101]⟩] 128, .cells #[.string ⟨#[105, 110, 118, 97, 108, 105, 100, 32, 115, 121, 110, 116, 97, 120]⟩] 128], #[], []⟩
  let h0 := w0.heap.modify 6 fun
    | .cells _ t frozen => .cells #[.int .u8 0, .int .u8 1, .int .u8 28, .int .u8 2, .int .u8 29, .int .u8 14, .int .u8 24, .int .u8 3, .int .u8 30, .int .u8 22, .int .u8 20, .int .u8 15, .int .u8 25, .int .u8 17, .int .u8 4, .int .u8 8, .int .u8 31, .int .u8 27, .int .u8 13, .int .u8 23, .int .u8 21, .int .u8 19, .int .u8 16, .int .u8 7, .int .u8 26, .int .u8 12, .int .u8 18, .int .u8 6, .int .u8 11, .int .u8 5, .int .u8 10, .int .u8 9] t frozen
    | o => o
  let h1 := h0.modify 7 fun
    | .cells _ t frozen => .cells #[.int .u8 0, .int .u8 1, .int .u8 56, .int .u8 2, .int .u8 57, .int .u8 49, .int .u8 28, .int .u8 3, .int .u8 61, .int .u8 58, .int .u8 42, .int .u8 50, .int .u8 38, .int .u8 29, .int .u8 17, .int .u8 4, .int .u8 62, .int .u8 47, .int .u8 59, .int .u8 36, .int .u8 45, .int .u8 43, .int .u8 51, .int .u8 22, .int .u8 53, .int .u8 39, .int .u8 33, .int .u8 30, .int .u8 24, .int .u8 18, .int .u8 12, .int .u8 5, .int .u8 63, .int .u8 55, .int .u8 48, .int .u8 27, .int .u8 60, .int .u8 41, .int .u8 37, .int .u8 16, .int .u8 46, .int .u8 35, .int .u8 44, .int .u8 21, .int .u8 52, .int .u8 32, .int .u8 23, .int .u8 11, .int .u8 54, .int .u8 26, .int .u8 40, .int .u8 15, .int .u8 34, .int .u8 20, .int .u8 31, .int .u8 10, .int .u8 25, .int .u8 14, .int .u8 19, .int .u8 9, .int .u8 13, .int .u8 8, .int .u8 7, .int .u8 6] t frozen
    | o => o
  let h2 := h1.modify 3 fun
    | .cells _ t frozen => .cells #[.int .u64 1, .int .u64 10, .int .u64 100, .int .u64 1000, .int .u64 10000, .int .u64 100000, .int .u64 1000000, .int .u64 10000000, .int .u64 100000000, .int .u64 1000000000, .int .u64 10000000000, .int .u64 100000000000, .int .u64 1000000000000, .int .u64 10000000000000, .int .u64 100000000000000, .int .u64 1000000000000000, .int .u64 10000000000000000, .int .u64 100000000000000000, .int .u64 1000000000000000000, .int .u64 10000000000000000000] t frozen
    | o => o
  let h3 := h2.modify 5 fun
    | .cells _ t frozen => .cells #[.int .u8 128, .int .u8 191, .int .u8 160, .int .u8 191, .int .u8 128, .int .u8 159, .int .u8 144, .int .u8 191, .int .u8 128, .int .u8 143, .int .u8 0, .int .u8 0, .int .u8 0, .int .u8 0, .int .u8 0, .int .u8 0, .int .u8 0, .int .u8 0, .int .u8 0, .int .u8 0, .int .u8 0, .int .u8 0, .int .u8 0, .int .u8 0, .int .u8 0, .int .u8 0, .int .u8 0, .int .u8 0, .int .u8 0, .int .u8 0, .int .u8 0, .int .u8 0] t frozen
    | o => o
  let h4 := h3.modify 1 fun
    | .cells _ t frozen => .cells #[.iface 126 (.pointer (some ⟨low + 0, 0, none⟩))] t frozen
    | o => o
  let h5 := h4.modify 0 fun
    | .cells _ t frozen => .cells #[.iface 126 (.pointer (some ⟨low + 1, 0, none⟩))] t frozen
    | o => o
  let h6 := h5.modify 4 fun
    | .cells _ t frozen => .cells #[.int .u8 240, .int .u8 240, .int .u8 240, .int .u8 240, .int .u8 240, .int .u8 240, .int .u8 240, .int .u8 240, .int .u8 240, .int .u8 240, .int .u8 240, .int .u8 240, .int .u8 240, .int .u8 240, .int .u8 240, .int .u8 240, .int .u8 240, .int .u8 240, .int .u8 240, .int .u8 240, .int .u8 240, .int .u8 240, .int .u8 240, .int .u8 240, .int .u8 240, .int .u8 240, .int .u8 240, .int .u8 240, .int .u8 240, .int .u8 240, .int .u8 240, .int .u8 240, .int .u8 240, .int .u8 240, .int .u8 240, .int .u8 240, .int .u8 240, .int .u8 240, .int .u8 240, .int .u8 240, .int .u8 240, .int .u8 240, .int .u8 240, .int .u8 240, .int .u8 240, .int .u8 240, .int .u8 240, .int .u8 240, .int .u8 240, .int .u8 240, .int .u8 240, .int .u8 240, .int .u8 240, .int .u8 240, .int .u8 240, .int .u8 240, .int .u8 240, .int .u8 240, .int .u8 240, .int .u8 240, .int .u8 240, .int .u8 240, .int .u8 240, .int .u8 240, .int .u8 240, .int .u8 240, .int .u8 240, .int .u8 240, .int .u8 240, .int .u8 240, .int .u8 240, .int .u8 240, .int .u8 240, .int .u8 240, .int .u8 240, .int .u8 240, .int .u8 240, .int .u8 240, .int .u8 240, .int .u8 240, .int .u8 240, .int .u8 240, .int .u8 240, .int .u8 240, .int .u8 240, .int .u8 240, .int .u8 240, .int .u8 240, .int .u8 240, .int .u8 240, .int .u8 240, .int .u8 240, .int .u8 240, .int .u8 240, .int .u8 240, .int .u8 240, .int .u8 240, .int .u8 240, .int .u8 240, .int .u8 240, .int .u8 240, .int .u8 240, .int .u8 240, .int .u8 240, .int .u8 240, .int .u8 240, .int .u8 240, .int .u8 240, .int .u8 240, .int .u8 240, .int .u8 240, .int .u8 240, .int .u8 240, .int .u8 240, .int .u8 240, .int .u8 240, .int .u8 240, .int .u8 240, .int .u8 240, .int .u8 240, .int .u8 240, .int .u8 240, .int .u8 240, .int .u8 240, .int .u8 240, .int .u8 240, .int .u8 240, .int .u8 240, .int .u8 241, .int .u8 241, .int .u8 241, .int .u8 241, .int .u8 241, .int .u8 241, .int .u8 241, .int .u8 241, .int .u8 241, .int .u8 241, .int .u8 241, .int .u8 241, .int .u8 241, .int .u8 241, .int .u8 241, .int .u8 241, .int .u8 241, .int .u8 241, .int .u8 241, .int .u8 241, .int .u8 241, .int .u8 241, .int .u8 241, .int .u8 241, .int .u8 241, .int .u8 241, .int .u8 241, .int .u8 241, .int .u8 241, .int .u8 241, .int .u8 241, .int .u8 241, .int .u8 241, .int .u8 241, .int .u8 241, .int .u8 241, .int .u8 241, .int .u8 241, .int .u8 241, .int .u8 241, .int .u8 241, .int .u8 241, .int .u8 241, .int .u8 241, .int .u8 241, .int .u8 241, .int .u8 241, .int .u8 241, .int .u8 241, .int .u8 241, .int .u8 241, .int .u8 241, .int .u8 241, .int .u8 241, .int .u8 241, .int .u8 241, .int .u8 241, .int .u8 241, .int .u8 241, .int .u8 241, .int .u8 241, .int .u8 241, .int .u8 241, .int .u8 241, .int .u8 241, .int .u8 241, .int .u8 2, .int .u8 2, .int .u8 2, .int .u8 2, .int .u8 2, .int .u8 2, .int .u8 2, .int .u8 2, .int .u8 2, .int .u8 2, .int .u8 2, .int .u8 2, .int .u8 2, .int .u8 2, .int .u8 2, .int .u8 2, .int .u8 2, .int .u8 2, .int .u8 2, .int .u8 2, .int .u8 2, .int .u8 2, .int .u8 2, .int .u8 2, .int .u8 2, .int .u8 2, .int .u8 2, .int .u8 2, .int .u8 2, .int .u8 2, .int .u8 19, .int .u8 3, .int .u8 3, .int .u8 3, .int .u8 3, .int .u8 3, .int .u8 3, .int .u8 3, .int .u8 3, .int .u8 3, .int .u8 3, .int .u8 3, .int .u8 3, .int .u8 35, .int .u8 3, .int .u8 3, .int .u8 52, .int .u8 4, .int .u8 4, .int .u8 4, .int .u8 68, .int .u8 241, .int .u8 241, .int .u8 241, .int .u8 241, .int .u8 241, .int .u8 241, .int .u8 241, .int .u8 241, .int .u8 241, .int .u8 241, .int .u8 241] t frozen
    | o => o
  { w0 with heap := h6 }
theorem laid_met (os : Os) : laidMet Tryd.prog Rows.fnExactReadAntennaRow.laid ((laidWorld os).forCall (fun _ _ => 0) ⟨#[], #[.string ByteArray.empty], []⟩).memory :=
  laidMet_of_run' 8 (by kernel_rfl) (by kernel_rfl)
theorem witness_row (os : Os) {H : Type} (enc : TypeId × Value → H) :
    (OpenSpec.ofChange Rows.fnExactReadAntennaSpec).preRow enc Tryd.prog Tryd.f3 Rows.fnExactReadAntennaRow.domain false Rows.fnExactReadAntennaRow.laid ((laidWorld os).forCall (fun _ _ => 0) ⟨#[], #[.string ByteArray.empty], []⟩).memory #[.string ByteArray.empty] := by
  have hw : (DataW.whole enc Tryd.prog ((laidWorld os).forCall (fun _ _ => 0) ⟨#[], #[.string ByteArray.empty], []⟩).memory Tryd.f3.params.toList Rows.fnExactReadAntennaSpec.vars false (#[.string ByteArray.empty] : Array Value).toList 8).map (fun x => (x.1, x.2.1)) = some ([.lit (.string [])], []) := by kernel_rfl
  obtain ⟨⟨x1, x2, x3⟩, hx, hx1⟩ := Option.map_eq_some_iff.1 hw
  simp only [Prod.mk.injEq] at hx1
  obtain ⟨rfl, rfl⟩ := hx1
  exact OpenSpec.preRow_of_cond 8 hx (by kernel_rfl) (fun k hk => by cases hk) (by kernel_rfl) (laid_met os)

set_option maxRecDepth 100000 in
/-- The row's step. -/
theorem lifted (os : Os) (started : os.Started) (H : Type) (enc : TypeId × Value → H) (F : Stop.Interp) :
    ReturnsInHanded {} Tryd.checked os 3 .any ((OpenSpec.ofChange Rows.fnExactReadAntennaSpec).preRow enc Tryd.prog Tryd.f3 Rows.fnExactReadAntennaRow.domain false Rows.fnExactReadAntennaRow.laid) (((OpenSpec.ofChange Rows.fnExactReadAntennaSpec).at F).post enc Tryd.prog Tryd.f3 false true false false) := by
  refine returnsInHanded_of_row (C := Tryd.checked) (s := OpenSpec.ofChange Rows.fnExactReadAntennaSpec) own started (by kernel_rfl) Tryd.func3
    (witness_row_atRef (enc := enc) (C := Tryd.checked) false (laidWorld os) #[.string ByteArray.empty] rfl (by kernel_rfl) (by kernel_rfl) (by kernel_rfl) (witness_row os enc)) ?_
  intro W base args ds gs before hval hW _ _ _ hL hsh _
  have hW' := hW
  obtain ⟨p, q, hA0, hV, rfl, hfz, hnd⟩ := hW
  have hA : DataW.TrodAll enc Tryd.prog W 0 (fun _ => true) true Tryd.f3.params.toList args.toList ds p := hA0
  rw [Tryd.params3] at hA hval
  obtain ⟨v0, vs0, d0, ds0, p0, q0, hargs, rfl, rfl, h0, r0⟩ := trodAll_cons hA
  obtain ⟨rfl, rfl, rfl⟩ := trodAll_nil r0
  obtain rfl : args = #[v0] := by cases args; simp_all
  obtain ⟨rfl, rfl⟩ := trodVars_none hV
  obtain ⟨a0, rfl, rfl, rfl, w0⟩ := open_string Tryd.underlying9 (hval 0 9 v0 rfl rfl) h0
  clear hA0
  refine (walk W a0 w0 hL hsh).mono fun e W' ⟨he, bel⟩ => ?_
  subst he
  exact ⟨_, rfl, _, _, _, [], _, [], hW', trodAll_mk1 (shut_bool Tryd.underlying4 _), (trodAll_cons_mk (shut_string Tryd.underlying9 w0) trodAll_mk0), rfl, bel.frame _, fun h => by cases h⟩

theorem said : Rows.FnExactReadAntennaSaid :=
  OpenClaim.holds_of_cond 3 Tryd.f3 rfl rfl rfl rfl rfl rfl rfl ⟨rfl, rfl, rfl, rfl, rfl⟩ rfl rfl rfl rfl rfl (by kernel_rfl) Tryd.func3 (by kernel_rfl)
    (of_decide_eq_true (by kernel_rfl)) (by unfold Func.isWrapper; first | (rw [if_pos (by decide +kernel)]; kernel_rfl) | (rw [if_neg (by decide +kernel)]; exact ⟨rfl, rfl⟩))
    (fun os started H enc _ F => by rw [OpenClaim.pre_eq_preRow]; exact lifted os started H enc F)

theorem plain (f : FuncId) (fn : Func) (hf : Tryd.pinned.checked.prog.funcNamed "loop.example/g00925/laws.FnExactReadAntenna" = some f) (hfn : Tryd.pinned.checked.prog.funcs[f]? = some fn) :
    true = Tryd.pinned.checked.prog.looks [] ∧ ∀ (j : Nat) t, fn.params[j]? = some t → Tryd.pinned.checked.prog.wantsStandIn t = false := by
  obtain rfl : f = 3 := Option.some.inj ((show Tryd.prog.funcNamed "loop.example/g00925/laws.FnExactReadAntenna" = some 3 by kernel_rfl).symm.trans hf) |>.symm
  obtain rfl : fn = Tryd.f3 := (Option.some.inj (Tryd.func3.symm.trans hfn)).symm
  refine ⟨by kernel_rfl, fun j t ht => ?_⟩
  rw [Tryd.params3] at ht
  have ht' := Array.mem_of_getElem? ht
  simp at ht'
  obtain rfl : t = 9 := by simpa using ht'
  exact (show Tryd.prog.wantsStandIn 9 = false by kernel_rfl)

/-- The statement: the tied card. -/
theorem card : Rows.FnExactReadAntennaCardSaid :=
  Claim7.holds_tied_plain_at .later [] _ _ _ _ said (fun _ h => by cases h) (by kernel_rfl) (fun _ h => by cases h) fnExactReadAntenna_row_tie rfl ⟨rfl, rfl⟩ (by kernel_rfl) rfl plain (by kernel_rfl)
end Go.Proofs.YtnambnddoebeiaaDoor.fnExactReadAntenna
