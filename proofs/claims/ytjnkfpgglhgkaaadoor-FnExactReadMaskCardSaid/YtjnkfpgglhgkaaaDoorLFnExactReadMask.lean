/-
  For every text ReadMask of the program returns what the model returns, a mask of its own memory, the same at a second call: the statement FnExactReadMask, as a card. Its row lists tables and errors of the library, tied to the text by the card; no other condition (a text of more than 1048576 bytes is let pass by the statement itself).
-/
import Derived.Test.YtjnkfpgglhgkaaaDoorCards
import Derived.Test.YtjnkfpgglhgkaaaDoorTie
import Derived.Test.YtjnkfpgglhgkaaaDoorRdM
import Derived.Test.YtjnkfpgglhgkaaaDoorTabs
import Derived.Test.YtjnkfpgglhgkaaaDoorShelfLen
import Derived.Test.YtjnkfpgglhgkaaaDoorMark
import Derived.WalkKit
import Derived.ProofKit
import Derived.OpenShut
import Derived.ShutString
import Derived.Below
import Derived.ChangeOld
import Derived.OpenVars
import Derived.ChangeVars
import Derived.Deep.DeepHandedRow
import Derived.Lib.LaidTab
import Derived.Deep.DeepWitnessRowRef
namespace Go.Proofs.YtjnkfpgglhgkaaaDoor.fnExactReadMask
open Go.ChangeShapes Go.WideShapes Go.ChangeAt Go.RowKit
open Go.ChangeMaps (open_string shut_string)
set_option linter.unusedVariables false

theorem own : ownKnob Tryd.prog.godebug = none := by kernel_rfl
theorem laidOut : laidOutB Tryd.prog = true := by kernel_rfl

/-- The walk. -/
theorem walk (w : World) (a0 : ByteArray) (w0 : a0.size ≤ maxLen) (hL : laidMetH Tryd.prog Rows.fnExactReadMaskRow.laid w) (hsh : w.ShapedOpen Tryd.prog) :
    Calls Tryd.prog 4 #[.string a0] w fun e w' => e = .returned (.bool true) ∧ Below w.heap.size w w' := by
  unfold maxLen at w0
  by_cases hl0 : 1048576 < a0.size
  · clear hL hsh
    go_enter Tryd.func4, Tryd.ntmps4
    go_wp2
    go_ret
    exact ⟨rfl, Below.refl _ _⟩
  · have hs0 : a0.size ≤ 1048576 := by omega
    have hS := fun w => Msk.spec_ReadMask a0 w hs0
    have HTab := Lib.hid (Tabs.pow10 (W := w) (l := Rows.fnExactReadMaskRow.laid) hL (.tail _ (.tail _ (.head _))))
    have HSent := Lib.hid (Tabs.sent (W := w) (l := Rows.fnExactReadMaskRow.laid) hL (.tail _ (.tail _ (.tail _ (.tail _ (.tail _ (.head _)))))) (.tail _ (.tail _ (.tail _ (.tail _ (.head _))))))
    obtain ⟨m, hm⟩ : ∃ m, w.cell? ⟨1, 0, none⟩ = some (.int .i64 m) := Tryd.laysM146.s1_3 w hsh
    have hlt := World.block_lt_of_cell? w _ hm
    have hI := fun (w' : World) (hb : On w w') => Msk.impl_ReadMask a0 m w' hs0 ((hb.cell (by exact hlt)).trans hm) (HSent.out.below hb) (fun w'' hb2 => HTab.out w'' (On.trans hb hb2))
    have hbd : (Msk.rmO a0.data.toList).length + (Msk.rmL a0.data.toList).length ≤ 1048576 := Msk.rm_lens a0.data.toList
    generalize Msk.rmO a0.data.toList = zr0 at *
    generalize Msk.rmL a0.data.toList = zr1 at *
    generalize Msk.rmB a0.data.toList = co at *
    obtain ⟨n0, hn0⟩ : ∃ n, n = zr0.length := ⟨_, rfl⟩
    rw [← hn0] at hS hI hbd
    obtain ⟨n1, hn1⟩ : ∃ n, n = zr1.length := ⟨_, rfl⟩
    rw [← hn1] at hS hI hbd
    have u0 : zr0.length ≤ 1048576 := by omega
    have HN0 := Lib.hid hn0
    have u1 : zr1.length ≤ 1048576 := by omega
    have HN1 := Lib.hid hn1
    have hcc : (co != co) = false := bne_self_eq_false co
    obtain ⟨q, hq⟩ : ∃ q : Int, q = ((1 + n0 + n1 : Nat) : Int) := ⟨_, rfl⟩
    have hq0 : ¬ q < 0 := by omega
    have hqq : (q != q) = false := bne_self_eq_false q
    have hM := fun (B : Nat) (a0 : Option Addr) (c0 : Nat) (a1 : Option Addr) (c1 : Nat) (w : World) hB h => Msk.markR B 1  a0 n0 c0 a1 n1 c1 zr0 zr1 w (Nat.le_refl _) (by omega) hB h
    have hH := fun (B : Nat) (a0 : Option Addr) (c0 : Nat) (a1 : Option Addr) (c1 : Nat) (w : World) h => Msk.heldR B 1  a0 n0 c0 a1 n1 c1 w (Nat.le_refl _) (by omega) h
    rw [← hq] at hM hH
    have HM := Lib.hid hM
    have HH := Lib.hid hH
    have HS := Lib.hid hS
    have HI := Lib.hid hI
    clear hS hI hM hH hq hbd hn0 hn1 w0 hL hsh hm hlt HTab HSent
    go_enter Tryd.func4, Tryd.ntmps4
    go_wp2_with fail
    refine (HS.out _).mono ?_
    rintro e w3 ⟨s0, sc0, s1, sc1, rfl, i0, i1, h3⟩
    have HO := Lib.hid (h3)
    have J0 := Lib.hid (i0)
    have J1 := Lib.hid (i1)
    have KJ := Lib.hid (On.refl w3)
    have J00 := J0
    have J01 := J1
    have s03 := Lib.hid (show w.heap.size ≤ w3.heap.size from HO.out.size)
    clear h3 i0 i1
    go_wp2_with fail
    refine (HI.out _ (by repeat (first | with_reducible exact HO.out | apply On.alloc | refine On.setCell ?_ (by (try simp) <;> omega) _))).mono ?_
    rintro e w5 ⟨g0, gc0, g1, gc1, rfl, og, h5⟩
    have PW0 : Msk.In w5 w3.heap.size (.slice s0 n0 sc0) (.slice s1 n1 sc1) := Msk.In.on ⟨by simp [go_sem], by simp [go_sem]⟩ h5
    have h5t : On w3 w5 := by refine On.trans ?_ h5; repeat (first | with_reducible exact On.refl _ | apply On.drew | apply On.alloc | refine On.setCell ?_ (by (try simp) <;> omega) _)
    have HO_ := Lib.hid (On.trans HO.out h5t)
    clear HO
    have HO := HO_
    clear HO_
    have J0_ := Lib.hid (J0.out.below h5t)
    clear J0
    have J0 := J0_
    clear J0_
    have J1_ := Lib.hid (J1.out.below h5t)
    clear J1
    have J1 := J1_
    clear J1_
    have KJ_ := Lib.hid (On.trans KJ.out h5t)
    clear KJ
    have KJ := KJ_
    clear KJ_
    have PW := Lib.hid (PW0)
    have og1 := og.mono (B' := w3.heap.size + 1) (by simp)
    have OG := Lib.hid (og1)
    have HoffG := Lib.hid (fun g (hg : w5.heap.size ≤ g) => og1.off hg)
    have sz35 := Lib.hid (show w3.heap.size + 1 ≤ w5.heap.size from Nat.succ_le_of_lt (PW0.blk))
    clear og og1 h5 h5t PW0
    obtain ⟨PWc0, PWc1⟩ := PW.out
    have PWy := PW.out.blk
    go_wp2_with fail
    refine (Msk.eq  _ _ _ _ zr0 zr1 _ u0 u1 (OG.out.ints0.below (by repeat (first | with_reducible exact On.refl _ | with_reducible exact Below.refl _ _ | apply On.alloc | refine On.setCell ?_ (by (try simp) <;> omega) _))) (OG.out.ints1.below (by repeat (first | with_reducible exact On.refl _ | with_reducible exact Below.refl _ _ | apply On.alloc | refine On.setCell ?_ (by (try simp) <;> omega) _))) (J0.out.below (by repeat (first | with_reducible exact On.refl _ | with_reducible exact Below.refl _ _ | apply On.alloc | refine On.setCell ?_ (by (try simp) <;> omega) _))) (J1.out.below (by repeat (first | with_reducible exact On.refl _ | with_reducible exact Below.refl _ _ | apply On.alloc | refine On.setCell ?_ (by (try simp) <;> omega) _)))).mono ?_
    rintro e w6 ⟨rfl, h6⟩
    clear PWc0 PWc1 PWy
    have PG0 : Msk.In w6 w5.heap.size (.slice g0 n0 gc0) (.slice g1 n1 gc1) := Msk.In.on ⟨by simp [go_sem], by simp [go_sem]⟩ h6
    have h6t : On w5 w6 := by refine On.trans ?_ h6; repeat (first | with_reducible exact On.refl _ | apply On.drew | apply On.alloc | refine On.setCell ?_ (by (try simp) <;> omega) _)
    have HO_ := Lib.hid (On.trans HO.out h6t)
    clear HO
    have HO := HO_
    clear HO_
    have J0_ := Lib.hid (J0.out.below h6t)
    clear J0
    have J0 := J0_
    clear J0_
    have J1_ := Lib.hid (J1.out.below h6t)
    clear J1
    have J1 := J1_
    clear J1_
    have KJ_ := Lib.hid (On.trans KJ.out h6t)
    clear KJ
    have KJ := KJ_
    clear KJ_
    have PW_ := Lib.hid (PW.out.on h6t)
    clear PW
    have PW := PW_
    clear PW_
    have OG_ := Lib.hid (OG.out.below h6t)
    clear OG
    have OG := OG_
    clear OG_
    have PG := Lib.hid (PG0)
    have sz56 := Lib.hid (show w5.heap.size + 1 ≤ w6.heap.size from Nat.succ_le_of_lt (PG0.blk))
    clear h6 h6t PG0
    obtain ⟨PWc0, PWc1⟩ := PW.out
    have PWy := PW.out.blk
    obtain ⟨PGc0, PGc1⟩ := PG.out
    have PGy := PG.out.blk
    go_wp2_with fail
    refine (HM.out (w3.heap.size + 1) _ _ _ _ _ (by have := sz35.out; have := sz56.out; omega) OG.out).mono ?_
    rintro e w9 ⟨rfl, b9, om, f9, x9⟩
    clear PWc0 PWc1 PWy
    clear PGc0 PGc1 PGy
    have PW_ := Lib.hid (PW.out.keep (fun i => b9.cell (p := ⟨w3.heap.size, i, none⟩) (by show w3.heap.size < w3.heap.size + 1; omega)))
    have PG_ := Lib.hid (PG.out.keep (fun i => x9 ⟨w5.heap.size, i, none⟩ PG.out.blk (HoffG.out _ (Nat.le_refl _))))
    have KJ_ := Lib.hid (show On w3 w9 from Below.trans KJ.out (Below.mono b9 (by omega)))
    have HO_ := Lib.hid (show On w w9 from Below.trans HO.out (Below.mono b9 (by have := s03.out; omega)))
    have J0_ := Lib.hid (J00.out.below KJ_.out)
    have J1_ := Lib.hid (J01.out.below KJ_.out)
    clear PW PG KJ HO J0 J1 OG x9 f9 b9
    have PW := PW_
    have PG := PG_
    have KJ := KJ_
    have HO := HO_
    have OG := Lib.hid om
    have J0 := J0_
    have J1 := J1_
    clear PW_ PG_ KJ_ HO_ om J0_ J1_
    obtain ⟨PWc0, PWc1⟩ := PW.out
    have PWy := PW.out.blk
    obtain ⟨PGc0, PGc1⟩ := PG.out
    have PGy := PG.out.blk
    go_wp2_with fail
    refine (HH.out (w3.heap.size + 1) _ _ _ _ _ OG.out).mono ?_
    rintro e w12 ⟨rfl, h12⟩
    clear PWc0 PWc1 PWy
    clear PGc0 PGc1 PGy
    have HO_ := Lib.hid (On.trans HO.out h12)
    clear HO
    have HO := HO_
    clear HO_
    have J0_ := Lib.hid (J0.out.below h12)
    clear J0
    have J0 := J0_
    clear J0_
    have J1_ := Lib.hid (J1.out.below h12)
    clear J1
    have J1 := J1_
    clear J1_
    have KJ_ := Lib.hid (On.trans KJ.out h12)
    clear KJ
    have KJ := KJ_
    clear KJ_
    have PW_ := Lib.hid (PW.out.on h12)
    clear PW
    have PW := PW_
    clear PW_
    have OG_ := Lib.hid (OG.out.below h12)
    clear OG
    have OG := OG_
    clear OG_
    have PG_ := Lib.hid (PG.out.on h12)
    clear PG
    have PG := PG_
    clear PG_
    clear h12
    obtain ⟨PWc0, PWc1⟩ := PW.out
    have PWy := PW.out.blk
    obtain ⟨PGc0, PGc1⟩ := PG.out
    have PGy := PG.out.blk
    go_wp2_with fail
    refine (HI.out _ (by repeat (first | with_reducible exact HO.out | apply On.alloc | refine On.setCell ?_ (by (try simp) <;> omega) _))).mono ?_
    rintro e w14 ⟨h0, hc0, h1, hc1, rfl, oh, h14⟩
    clear PWc0 PWc1 PWy
    clear PGc0 PGc1 PGy
    have HO_ := Lib.hid (On.trans HO.out h14)
    clear HO
    have HO := HO_
    clear HO_
    have J0_ := Lib.hid (J0.out.below h14)
    clear J0
    have J0 := J0_
    clear J0_
    have J1_ := Lib.hid (J1.out.below h14)
    clear J1
    have J1 := J1_
    clear J1_
    have KJ_ := Lib.hid (On.trans KJ.out h14)
    clear KJ
    have KJ := KJ_
    clear KJ_
    have PW_ := Lib.hid (PW.out.on h14)
    clear PW
    have PW := PW_
    clear PW_
    have OG_ := Lib.hid (OG.out.below h14)
    clear OG
    have OG := OG_
    clear OG_
    have PG_ := Lib.hid (PG.out.on h14)
    clear PG
    have PG := PG_
    clear PG_
    have OH := Lib.hid (oh)
    clear h14 oh
    obtain ⟨PWc0, PWc1⟩ := PW.out
    have PWy := PW.out.blk
    obtain ⟨PGc0, PGc1⟩ := PG.out
    have PGy := PG.out.blk
    go_wp2_with fail
    refine (Msk.eq  _ _ _ _ zr0 zr1 _ u0 u1 (OH.out.ints0.below (by repeat (first | with_reducible exact On.refl _ | with_reducible exact Below.refl _ _ | apply On.alloc | refine On.setCell ?_ (by (try simp) <;> omega) _))) (OH.out.ints1.below (by repeat (first | with_reducible exact On.refl _ | with_reducible exact Below.refl _ _ | apply On.alloc | refine On.setCell ?_ (by (try simp) <;> omega) _))) (J0.out.below (by repeat (first | with_reducible exact On.refl _ | with_reducible exact Below.refl _ _ | apply On.alloc | refine On.setCell ?_ (by (try simp) <;> omega) _))) (J1.out.below (by repeat (first | with_reducible exact On.refl _ | with_reducible exact Below.refl _ _ | apply On.alloc | refine On.setCell ?_ (by (try simp) <;> omega) _)))).mono ?_
    rintro e w15 ⟨rfl, h15⟩
    clear PWc0 PWc1 PWy
    clear PGc0 PGc1 PGy
    have h15t : On w14 w15 := by refine On.trans ?_ h15; repeat (first | with_reducible exact On.refl _ | apply On.drew | apply On.alloc | refine On.setCell ?_ (by (try simp) <;> omega) _)
    have HO_ := Lib.hid (On.trans HO.out h15t)
    clear HO
    have HO := HO_
    clear HO_
    have J0_ := Lib.hid (J0.out.below h15t)
    clear J0
    have J0 := J0_
    clear J0_
    have J1_ := Lib.hid (J1.out.below h15t)
    clear J1
    have J1 := J1_
    clear J1_
    have KJ_ := Lib.hid (On.trans KJ.out h15t)
    clear KJ
    have KJ := KJ_
    clear KJ_
    have PW_ := Lib.hid (PW.out.on h15t)
    clear PW
    have PW := PW_
    clear PW_
    have OG_ := Lib.hid (OG.out.below h15t)
    clear OG
    have OG := OG_
    clear OG_
    have PG_ := Lib.hid (PG.out.on h15t)
    clear PG
    have PG := PG_
    clear PG_
    have OH_ := Lib.hid (OH.out.below h15t)
    clear OH
    have OH := OH_
    clear OH_
    clear h15 h15t
    obtain ⟨PWc0, PWc1⟩ := PW.out
    have PWy := PW.out.blk
    obtain ⟨PGc0, PGc1⟩ := PG.out
    have PGy := PG.out.blk
    go_wp2_with fail
    refine (HH.out (w3.heap.size + 1) _ _ _ _ _ OG.out).mono ?_
    rintro e w16 ⟨rfl, h16⟩
    go_wp2_with fail
    go_ret
    exact ⟨rfl, On.trans HO.out h16⟩

/-- How many blocks the settled world has. -/
noncomputable def low : Nat := (World.holding Tryd.prog default ⟨#[], #[], []⟩).heap.size
/-- A world for the witness: the settled one, each listed variable holding what the program's text lays. -/
noncomputable def laidWorld (os : Os) : World :=
  let w0 := World.holding Tryd.prog os ⟨#[.cells #[.string ⟨#[118, 97, 108, 117, 101, 32, 111, 117, 116, 32, 111, 102, 32, 114, 97, 110, 103, 101]⟩] 117, .cells #[.string ⟨#[105, 110, 118, 97, 108, 105, 100, 32, 115, 121, 110, 116, 97, 120]⟩] 117], #[], []⟩
  let h0 := w0.heap.modify 6 fun
    | .cells _ t frozen => .cells #[.int .u8 0, .int .u8 1, .int .u8 28, .int .u8 2, .int .u8 29, .int .u8 14, .int .u8 24, .int .u8 3, .int .u8 30, .int .u8 22, .int .u8 20, .int .u8 15, .int .u8 25, .int .u8 17, .int .u8 4, .int .u8 8, .int .u8 31, .int .u8 27, .int .u8 13, .int .u8 23, .int .u8 21, .int .u8 19, .int .u8 16, .int .u8 7, .int .u8 26, .int .u8 12, .int .u8 18, .int .u8 6, .int .u8 11, .int .u8 5, .int .u8 10, .int .u8 9] t frozen
    | o => o
  let h1 := h0.modify 7 fun
    | .cells _ t frozen => .cells #[.int .u8 0, .int .u8 1, .int .u8 56, .int .u8 2, .int .u8 57, .int .u8 49, .int .u8 28, .int .u8 3, .int .u8 61, .int .u8 58, .int .u8 42, .int .u8 50, .int .u8 38, .int .u8 29, .int .u8 17, .int .u8 4, .int .u8 62, .int .u8 47, .int .u8 59, .int .u8 36, .int .u8 45, .int .u8 43, .int .u8 51, .int .u8 22, .int .u8 53, .int .u8 39, .int .u8 33, .int .u8 30, .int .u8 24, .int .u8 18, .int .u8 12, .int .u8 5, .int .u8 63, .int .u8 55, .int .u8 48, .int .u8 27, .int .u8 60, .int .u8 41, .int .u8 37, .int .u8 16, .int .u8 46, .int .u8 35, .int .u8 44, .int .u8 21, .int .u8 52, .int .u8 32, .int .u8 23, .int .u8 11, .int .u8 54, .int .u8 26, .int .u8 40, .int .u8 15, .int .u8 34, .int .u8 20, .int .u8 31, .int .u8 10, .int .u8 25, .int .u8 14, .int .u8 19, .int .u8 9, .int .u8 13, .int .u8 8, .int .u8 7, .int .u8 6] t frozen
    | o => o
  let h2 := h1.modify 0 fun
    | .cells _ t frozen => .cells #[.int .u64 1, .int .u64 10, .int .u64 100, .int .u64 1000, .int .u64 10000, .int .u64 100000, .int .u64 1000000, .int .u64 10000000, .int .u64 100000000, .int .u64 1000000000, .int .u64 10000000000, .int .u64 100000000000, .int .u64 1000000000000, .int .u64 10000000000000, .int .u64 100000000000000, .int .u64 1000000000000000, .int .u64 10000000000000000, .int .u64 100000000000000000, .int .u64 1000000000000000000, .int .u64 10000000000000000000] t frozen
    | o => o
  let h3 := h2.modify 5 fun
    | .cells _ t frozen => .cells #[.int .u8 128, .int .u8 191, .int .u8 160, .int .u8 191, .int .u8 128, .int .u8 159, .int .u8 144, .int .u8 191, .int .u8 128, .int .u8 143, .int .u8 0, .int .u8 0, .int .u8 0, .int .u8 0, .int .u8 0, .int .u8 0, .int .u8 0, .int .u8 0, .int .u8 0, .int .u8 0, .int .u8 0, .int .u8 0, .int .u8 0, .int .u8 0, .int .u8 0, .int .u8 0, .int .u8 0, .int .u8 0, .int .u8 0, .int .u8 0, .int .u8 0, .int .u8 0] t frozen
    | o => o
  let h4 := h3.modify 3 fun
    | .cells _ t frozen => .cells #[.iface 115 (.pointer (some ⟨low + 0, 0, none⟩))] t frozen
    | o => o
  let h5 := h4.modify 2 fun
    | .cells _ t frozen => .cells #[.iface 115 (.pointer (some ⟨low + 1, 0, none⟩))] t frozen
    | o => o
  let h6 := h5.modify 4 fun
    | .cells _ t frozen => .cells #[.int .u8 240, .int .u8 240, .int .u8 240, .int .u8 240, .int .u8 240, .int .u8 240, .int .u8 240, .int .u8 240, .int .u8 240, .int .u8 240, .int .u8 240, .int .u8 240, .int .u8 240, .int .u8 240, .int .u8 240, .int .u8 240, .int .u8 240, .int .u8 240, .int .u8 240, .int .u8 240, .int .u8 240, .int .u8 240, .int .u8 240, .int .u8 240, .int .u8 240, .int .u8 240, .int .u8 240, .int .u8 240, .int .u8 240, .int .u8 240, .int .u8 240, .int .u8 240, .int .u8 240, .int .u8 240, .int .u8 240, .int .u8 240, .int .u8 240, .int .u8 240, .int .u8 240, .int .u8 240, .int .u8 240, .int .u8 240, .int .u8 240, .int .u8 240, .int .u8 240, .int .u8 240, .int .u8 240, .int .u8 240, .int .u8 240, .int .u8 240, .int .u8 240, .int .u8 240, .int .u8 240, .int .u8 240, .int .u8 240, .int .u8 240, .int .u8 240, .int .u8 240, .int .u8 240, .int .u8 240, .int .u8 240, .int .u8 240, .int .u8 240, .int .u8 240, .int .u8 240, .int .u8 240, .int .u8 240, .int .u8 240, .int .u8 240, .int .u8 240, .int .u8 240, .int .u8 240, .int .u8 240, .int .u8 240, .int .u8 240, .int .u8 240, .int .u8 240, .int .u8 240, .int .u8 240, .int .u8 240, .int .u8 240, .int .u8 240, .int .u8 240, .int .u8 240, .int .u8 240, .int .u8 240, .int .u8 240, .int .u8 240, .int .u8 240, .int .u8 240, .int .u8 240, .int .u8 240, .int .u8 240, .int .u8 240, .int .u8 240, .int .u8 240, .int .u8 240, .int .u8 240, .int .u8 240, .int .u8 240, .int .u8 240, .int .u8 240, .int .u8 240, .int .u8 240, .int .u8 240, .int .u8 240, .int .u8 240, .int .u8 240, .int .u8 240, .int .u8 240, .int .u8 240, .int .u8 240, .int .u8 240, .int .u8 240, .int .u8 240, .int .u8 240, .int .u8 240, .int .u8 240, .int .u8 240, .int .u8 240, .int .u8 240, .int .u8 240, .int .u8 240, .int .u8 240, .int .u8 240, .int .u8 240, .int .u8 240, .int .u8 240, .int .u8 241, .int .u8 241, .int .u8 241, .int .u8 241, .int .u8 241, .int .u8 241, .int .u8 241, .int .u8 241, .int .u8 241, .int .u8 241, .int .u8 241, .int .u8 241, .int .u8 241, .int .u8 241, .int .u8 241, .int .u8 241, .int .u8 241, .int .u8 241, .int .u8 241, .int .u8 241, .int .u8 241, .int .u8 241, .int .u8 241, .int .u8 241, .int .u8 241, .int .u8 241, .int .u8 241, .int .u8 241, .int .u8 241, .int .u8 241, .int .u8 241, .int .u8 241, .int .u8 241, .int .u8 241, .int .u8 241, .int .u8 241, .int .u8 241, .int .u8 241, .int .u8 241, .int .u8 241, .int .u8 241, .int .u8 241, .int .u8 241, .int .u8 241, .int .u8 241, .int .u8 241, .int .u8 241, .int .u8 241, .int .u8 241, .int .u8 241, .int .u8 241, .int .u8 241, .int .u8 241, .int .u8 241, .int .u8 241, .int .u8 241, .int .u8 241, .int .u8 241, .int .u8 241, .int .u8 241, .int .u8 241, .int .u8 241, .int .u8 241, .int .u8 241, .int .u8 241, .int .u8 241, .int .u8 2, .int .u8 2, .int .u8 2, .int .u8 2, .int .u8 2, .int .u8 2, .int .u8 2, .int .u8 2, .int .u8 2, .int .u8 2, .int .u8 2, .int .u8 2, .int .u8 2, .int .u8 2, .int .u8 2, .int .u8 2, .int .u8 2, .int .u8 2, .int .u8 2, .int .u8 2, .int .u8 2, .int .u8 2, .int .u8 2, .int .u8 2, .int .u8 2, .int .u8 2, .int .u8 2, .int .u8 2, .int .u8 2, .int .u8 2, .int .u8 19, .int .u8 3, .int .u8 3, .int .u8 3, .int .u8 3, .int .u8 3, .int .u8 3, .int .u8 3, .int .u8 3, .int .u8 3, .int .u8 3, .int .u8 3, .int .u8 3, .int .u8 35, .int .u8 3, .int .u8 3, .int .u8 52, .int .u8 4, .int .u8 4, .int .u8 4, .int .u8 68, .int .u8 241, .int .u8 241, .int .u8 241, .int .u8 241, .int .u8 241, .int .u8 241, .int .u8 241, .int .u8 241, .int .u8 241, .int .u8 241, .int .u8 241] t frozen
    | o => o
  { w0 with heap := h6 }
theorem laid_met (os : Os) : laidMet Tryd.prog Rows.fnExactReadMaskRow.laid ((laidWorld os).forCall (fun _ _ => 0) ⟨#[], #[.string ByteArray.empty], []⟩).memory :=
  laidMet_of_run' 8 (by kernel_rfl) (by kernel_rfl)
theorem witness_row (os : Os) {H : Type} (enc : TypeId × Value → H) :
    (OpenSpec.ofChange Rows.fnExactReadMaskSpec).preRow enc Tryd.prog Tryd.f4 Rows.fnExactReadMaskRow.domain false Rows.fnExactReadMaskRow.laid ((laidWorld os).forCall (fun _ _ => 0) ⟨#[], #[.string ByteArray.empty], []⟩).memory #[.string ByteArray.empty] := by
  have hw : (DataW.whole enc Tryd.prog ((laidWorld os).forCall (fun _ _ => 0) ⟨#[], #[.string ByteArray.empty], []⟩).memory Tryd.f4.params.toList Rows.fnExactReadMaskSpec.vars false (#[.string ByteArray.empty] : Array Value).toList 8).map (fun x => (x.1, x.2.1)) = some ([.lit (.string [])], []) := by kernel_rfl
  obtain ⟨⟨x1, x2, x3⟩, hx, hx1⟩ := Option.map_eq_some_iff.1 hw
  simp only [Prod.mk.injEq] at hx1
  obtain ⟨rfl, rfl⟩ := hx1
  exact OpenSpec.preRow_of_cond 8 hx (by kernel_rfl) (fun k hk => by cases hk) (by kernel_rfl) (laid_met os)

set_option maxRecDepth 100000 in
/-- The row's step. -/
theorem lifted (os : Os) (started : os.Started) (H : Type) (enc : TypeId × Value → H) (F : Stop.Interp) :
    ReturnsInHanded {} Tryd.checked os 4 .any ((OpenSpec.ofChange Rows.fnExactReadMaskSpec).preRow enc Tryd.prog Tryd.f4 Rows.fnExactReadMaskRow.domain false Rows.fnExactReadMaskRow.laid) (((OpenSpec.ofChange Rows.fnExactReadMaskSpec).at F).post enc Tryd.prog Tryd.f4 false true false false) := by
  refine returnsInHanded_of_row (C := Tryd.checked) (s := OpenSpec.ofChange Rows.fnExactReadMaskSpec) own started (by kernel_rfl) Tryd.func4
    (witness_row_atRef (enc := enc) (C := Tryd.checked) false (laidWorld os) #[.string ByteArray.empty] rfl (by kernel_rfl) (by kernel_rfl) (by kernel_rfl) (witness_row os enc)) ?_
  intro W base args ds gs before hval hW _ _ _ hL hsh _
  have hW' := hW
  obtain ⟨p, q, hA0, hV, rfl, hfz, hnd⟩ := hW
  have hA : DataW.TrodAll enc Tryd.prog W 0 (fun _ => true) true Tryd.f4.params.toList args.toList ds p := hA0
  rw [Tryd.params4] at hA hval
  obtain ⟨v0, vs0, d0, ds0, p0, q0, hargs, rfl, rfl, h0, r0⟩ := trodAll_cons hA
  obtain ⟨rfl, rfl, rfl⟩ := trodAll_nil r0
  obtain rfl : args = #[v0] := by cases args; simp_all
  obtain ⟨rfl, rfl⟩ := trodVars_none hV
  obtain ⟨a0, rfl, rfl, rfl, w0⟩ := open_string Tryd.underlying9 (hval 0 9 v0 rfl rfl) h0
  clear hA0
  refine (walk W a0 w0 hL hsh).mono fun e W' ⟨he, bel⟩ => ?_
  subst he
  exact ⟨_, rfl, _, _, _, [], _, [], hW', trodAll_mk1 (shut_bool Tryd.underlying4 _), (trodAll_cons_mk (shut_string Tryd.underlying9 w0) trodAll_mk0), rfl, bel.frame _, fun h => by cases h⟩

theorem said : Rows.FnExactReadMaskSaid :=
  OpenClaim.holds_of_cond 4 Tryd.f4 rfl rfl rfl rfl rfl rfl rfl ⟨rfl, rfl, rfl, rfl, rfl⟩ rfl rfl rfl rfl rfl (by kernel_rfl) Tryd.func4 (by kernel_rfl)
    (of_decide_eq_true (by kernel_rfl)) (by unfold Func.isWrapper; first | (rw [if_pos (by decide +kernel)]; kernel_rfl) | (rw [if_neg (by decide +kernel)]; exact ⟨rfl, rfl⟩))
    (fun os started H enc _ F => by rw [OpenClaim.pre_eq_preRow]; exact lifted os started H enc F)

theorem plain (f : FuncId) (fn : Func) (hf : Tryd.pinned.checked.prog.funcNamed "loop.example/g00925/laws.FnExactReadMask" = some f) (hfn : Tryd.pinned.checked.prog.funcs[f]? = some fn) :
    true = Tryd.pinned.checked.prog.looks [] ∧ ∀ (j : Nat) t, fn.params[j]? = some t → Tryd.pinned.checked.prog.wantsStandIn t = false := by
  obtain rfl : f = 4 := Option.some.inj ((show Tryd.prog.funcNamed "loop.example/g00925/laws.FnExactReadMask" = some 4 by kernel_rfl).symm.trans hf) |>.symm
  obtain rfl : fn = Tryd.f4 := (Option.some.inj (Tryd.func4.symm.trans hfn)).symm
  refine ⟨by kernel_rfl, fun j t ht => ?_⟩
  rw [Tryd.params4] at ht
  have ht' := Array.mem_of_getElem? ht
  simp at ht'
  obtain rfl : t = 9 := by simpa using ht'
  exact (show Tryd.prog.wantsStandIn 9 = false by kernel_rfl)

/-- The statement: the tied card. -/
theorem card : Rows.FnExactReadMaskCardSaid :=
  Claim7.holds_tied_plain_at .later [] _ _ _ _ said (fun _ h => by cases h) (by kernel_rfl) (fun _ h => by cases h) fnExactReadMask_row_tie rfl ⟨rfl, rfl⟩ (by kernel_rfl) rfl plain (by kernel_rfl)
end Go.Proofs.YtjnkfpgglhgkaaaDoor.fnExactReadMask
