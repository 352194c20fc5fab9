
/-
  The loss of a mask at an offset, and its code, in the model and in the program. Condition: at most 1048576 numbers in each list.
-/
import Derived.Test.YtompiicgbmpoiaaMskAt
namespace Go.Proofs.Ytompiicgbmpoiaa.Msk
open Go.RowKit
open Plain
open Ints (Ints Own)

def lossV (os ls : List Int) (x : Int) : Int := if okM os ls = true then (if inB x (-1000000) 1000000 = true then lossM os ls x else 0) else 0
def lossC (os ls : List Int) (x : Int) : Int := if okM os ls = true then (if inB x (-1000000) 1000000 = true then 0 else 2) else 1
theorem loss_bad {os ls : List Int} {x : Int} (h : okM os ls = false) : lossV os ls x = 0 ∧ lossC os ls x = 1 := by unfold lossV lossC; rw [h]; exact ⟨rfl, rfl⟩
theorem loss_far {os ls : List Int} {x : Int} (h : okM os ls = true) (g : inB x (-1000000) 1000000 = false) : lossV os ls x = 0 ∧ lossC os ls x = 2 := by unfold lossV lossC; rw [h, g]; exact ⟨rfl, rfl⟩
theorem loss_ok {os ls : List Int} {x : Int} (h : okM os ls = true) (g : inB x (-1000000) 1000000 = true) : lossV os ls x = lossM os ls x ∧ lossC os ls x = 0 := by unfold lossV lossC; rw [h, g]; exact ⟨rfl, rfl⟩
theorem spec_shift (x : Int) (w : World) :
    Calls Try.prog 30 #[.int .i64 x] w fun e w' => e = .returned (.bool (inB x (-1000000) 1000000)) ∧ w = w' := by
  go_enter Try.func30, Try.ntmps30
  go_wp2_with (go_at_call 35; refine (Arith.l00In _ _ _ _).mono ?_; rintro e w' ⟨rfl, rfl⟩)
  go_ret
  exact ⟨rfl, rfl⟩
set_option maxHeartbeats 4000000 in
theorem spec_LossAtOffset (v0 v1 : Value) (os ls : List Int) (x : Int) (w : World) (q0 : os.length ≤ 1048576) (q1 : ls.length ≤ 1048576) (h0 : Ints w v0 os) (h1 : Ints w v1 ls) :
    Calls Try.prog 9 #[.agg #[v0, v1], .int .i64 x] w fun e w' => e = .returned (.tuple #[.int .i64 (lossV os ls x), .int .i64 (lossC os ls x)]) ∧ On w w' := by
  have HO := Lib.hid (fun w' (hb : On w w') hp => spec_ok w.heap.size v0 v1 os ls w' q0 q1 hp (h0.below hb) (h1.below hb))
  have h0' := h0
  have h1' := h1
  obtain ⟨a0, cap0, rfl, -⟩ := h0
  obtain ⟨a1, cap1, rfl, -⟩ := h1
  cases hok : okM os ls with
  | false =>
    rw [hok] at HO
    have en := Lib.hid (loss_bad (x := x) hok)
    clear h0' h1'
    go_enter Try.func9, Try.ntmps9
    go_wp2_with fail
    refine (HO.out _ (by repeat (first | with_reducible exact On.refl _ | apply On.alloc)) ⟨by simp [go_sem], by simp [go_sem]⟩).mono ?_
    rintro e w1 ⟨rfl, h2⟩
    go_wp2_with fail
    go_ret2
    exact ⟨ret_ii en.out.1.symm en.out.2.symm, by refine On.trans ?_ h2; repeat (first | with_reducible exact On.refl _ | apply On.alloc | apply On.drewN)⟩
  | true =>
    rw [hok] at HO
    cases hin : inB x (-1000000) 1000000 with
    | false =>
      have en := Lib.hid (loss_far hok hin)
      clear h0' h1'
      go_enter Try.func9, Try.ntmps9
      go_wp2_with fail
      refine (HO.out _ (by repeat (first | with_reducible exact On.refl _ | apply On.alloc)) ⟨by simp [go_sem], by simp [go_sem]⟩).mono ?_
      rintro e w1 ⟨rfl, h2⟩
      have K1 : In w1 w.heap.size (.slice a0 os.length cap0) (.slice a1 ls.length cap1) := In.on ⟨by simp [go_sem], by simp [go_sem]⟩ h2
      obtain ⟨p0, p1⟩ := K1
      have z1 : w.heap.size < w1.heap.size := World.block_lt_of_cell? w1 _ p0
      have HO1 := Lib.hid (show On w w1 by refine On.trans ?_ h2; repeat (first | with_reducible exact On.refl _ | apply On.alloc))
      go_wp2_with (go_at_call 30; refine (spec_shift _ _).mono ?_; rintro e w' ⟨rfl, rfl⟩)
      go_ret2
      exact ⟨ret_ii en.out.1.symm en.out.2.symm, HO1.out⟩
    | true =>
      have en := Lib.hid (loss_ok hok hin)
      have bx := of_inB hin
      have HL := Lib.hid (fun w' (hb : On w w') hp => spec_loss w.heap.size _ _ os ls x w' hok (by omega) (by omega) hp (h0'.below hb) (h1'.below hb))
      clear h0' h1'
      go_enter Try.func9, Try.ntmps9
      go_wp2_with fail
      refine (HO.out _ (by repeat (first | with_reducible exact On.refl _ | apply On.alloc)) ⟨by simp [go_sem], by simp [go_sem]⟩).mono ?_
      rintro e w1 ⟨rfl, h2⟩
      have K1 : In w1 w.heap.size (.slice a0 os.length cap0) (.slice a1 ls.length cap1) := In.on ⟨by simp [go_sem], by simp [go_sem]⟩ h2
      obtain ⟨p0, p1⟩ := K1
      have z1 : w.heap.size < w1.heap.size := World.block_lt_of_cell? w1 _ p0
      have HO1 := Lib.hid (show On w w1 by refine On.trans ?_ h2; repeat (first | with_reducible exact On.refl _ | apply On.alloc))
      go_wp2_with (go_at_call 30; refine (spec_shift _ _).mono ?_; rintro e w' ⟨rfl, rfl⟩)
      refine (HL.out _ HO1.out ⟨p0, p1⟩).mono ?_
      rintro e w2 ⟨rfl, h3⟩
      go_wp2_with fail
      go_ret2
      exact ⟨ret_ii en.out.1.symm en.out.2.symm, HO1.out.trans h3⟩
set_option maxHeartbeats 4000000 in
theorem impl_LossAtOffset (v0 v1 : Value) (os ls : List Int) (x : Int) (w : World) (q0 : os.length ≤ 1048576) (q1 : ls.length ≤ 1048576) (h0 : Ints w v0 os) (h1 : Ints w v1 ls) :
    Calls Try.prog 11 #[.agg #[v0, v1], .int .i64 x] w fun e w' => e = .returned (.tuple #[.int .i64 (lossV os ls x), .int .i64 (lossC os ls x)]) ∧ On w w' := by
  have HO := Lib.hid (fun w' (hb : On w w') => impl_valid v0 v1 os ls w' q0 q1 (h0.below hb) (h1.below hb))
  have h0' := h0
  have h1' := h1
  obtain ⟨a0, cap0, rfl, -⟩ := h0
  obtain ⟨a1, cap1, rfl, -⟩ := h1
  cases hok : okM os ls with
  | false =>
    rw [hok] at HO
    have en := Lib.hid (loss_bad (x := x) hok)
    clear h0' h1'
    go_enter Try.func11, Try.ntmps11
    go_wp2_with fail
    refine (HO.out _ (by repeat (first | with_reducible exact On.refl _ | apply On.alloc))).mono ?_
    rintro e w1 ⟨rfl, h2⟩
    go_wp2_with fail
    go_ret2
    exact ⟨ret_ii en.out.1.symm en.out.2.symm, by refine On.trans ?_ h2; repeat (first | with_reducible exact On.refl _ | apply On.alloc)⟩
  | true =>
    rw [hok] at HO
    cases hin : inB x (-1000000) 1000000 with
    | false =>
      have en := Lib.hid (loss_far hok hin)
      clear h0' h1'
      go_enter Try.func11, Try.ntmps11
      go_wp2_with fail
      refine (HO.out _ (by repeat (first | with_reducible exact On.refl _ | apply On.alloc))).mono ?_
      rintro e w1 ⟨rfl, h2⟩
      have K1 : In w1 w.heap.size (.slice a0 os.length cap0) (.slice a1 ls.length cap1) := In.on ⟨by simp [go_sem], by simp [go_sem]⟩ h2
      obtain ⟨p0, p1⟩ := K1
      have z1 : w.heap.size < w1.heap.size := World.block_lt_of_cell? w1 _ p0
      have HO1 := Lib.hid (show On w w1 by refine On.trans ?_ h2; repeat (first | with_reducible exact On.refl _ | apply On.alloc))
      go_wp2_with (go_at_call 33; refine (Arith.within _ _ _ _).mono ?_; rintro e w' ⟨rfl, rfl⟩)
      go_ret2
      exact ⟨ret_ii en.out.1.symm en.out.2.symm, HO1.out⟩
    | true =>
      have en := Lib.hid (loss_ok hok hin)
      have bx := of_inB hin
      have HL := Lib.hid (fun w' (hb : On w w') => impl_lossAt _ _ os ls x w' hok (by omega) (by omega) (h0'.below hb) (h1'.below hb))
      clear h0' h1'
      go_enter Try.func11, Try.ntmps11
      go_wp2_with fail
      refine (HO.out _ (by repeat (first | with_reducible exact On.refl _ | apply On.alloc))).mono ?_
      rintro e w1 ⟨rfl, h2⟩
      have K1 : In w1 w.heap.size (.slice a0 os.length cap0) (.slice a1 ls.length cap1) := In.on ⟨by simp [go_sem], by simp [go_sem]⟩ h2
      obtain ⟨p0, p1⟩ := K1
      have z1 : w.heap.size < w1.heap.size := World.block_lt_of_cell? w1 _ p0
      have HO1 := Lib.hid (show On w w1 by refine On.trans ?_ h2; repeat (first | with_reducible exact On.refl _ | apply On.alloc))
      go_wp2_with (go_at_call 33; refine (Arith.within _ _ _ _).mono ?_; rintro e w' ⟨rfl, rfl⟩)
      refine (HL.out _ HO1.out).mono ?_
      rintro e w3 ⟨rfl, h3⟩
      go_wp2_with fail
      go_ret2
      exact ⟨ret_ii en.out.1.symm en.out.2.symm, HO1.out.trans h3⟩
end Go.Proofs.Ytompiicgbmpoiaa.Msk
