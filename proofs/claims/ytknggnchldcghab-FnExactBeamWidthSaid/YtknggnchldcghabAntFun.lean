
/-
  The functions of an antenna's losses, in the model and in the program. Condition: at most 1048576 losses in each list and bytes in the name.
-/
import Derived.Test.YtknggnchldcghabAntRing
namespace Go.Proofs.Ytknggnchldcghab.Ant
open Go.RowKit
open Plain
open Ints (Ints Own)

theorem ret_ii {a b c d : Int} (h1 : a = b) (h2 : c = d) : Ending.returned (.tuple #[.int .i64 a, .int .i64 c]) = .returned (.tuple #[.int .i64 b, .int .i64 d]) := by rw [h1, h2]
theorem anySlice {w : World} {v : Value} {zs : List Int} (h : Ints w v zs) : ∃ a n c, v = .slice a n c := by obtain ⟨a, cap, hv, -⟩ := h; exact ⟨a, _, cap, hv⟩
theorem impl_isElevation (e : Int) (w : World) :
    Calls Try.prog 64 #[.int .i64 e] w fun r w' => r = .returned (.bool (inB e (-90) 90)) ∧ w = w' := by
  go_enter Try.func64, Try.ntmps64
  go_wp2_with (go_at_call 59; refine (Arith.within _ _ _ _).mono ?_; rintro e w' ⟨rfl, rfl⟩)
  go_ret
  exact ⟨rfl, rfl⟩

def frontV (ok : Bool) (hs : List Int) : Int := if ok = true then hs.getD 18 0 else 0
def codeV (ok : Bool) : Int := if ok = true then 0 else 1
set_option maxHeartbeats 1000000 in
theorem spec_FrontToBack (x0 : ByteArray) (x1 : Int) (v2 v3 : Value) (z2 z3 : List Int) (w : World) (q0 : x0.size ≤ 1048576) (q2 : z2.length ≤ 1048576) (q3 : z3.length ≤ 1048576) (h2 : Ints w v2 z2) (h3 : Ints w v3 z3) :
    Calls Try.prog 39 #[.agg #[.string x0, .int .i64 x1, v2, v3]] w fun r w' => r = .returned (.tuple #[.int .i64 (frontV (okA x0 x1 z2 z3) z2), .int .i64 (codeV (okA x0 x1 z2 z3))]) ∧ On w w' := by
  have HO := Lib.hid (fun w' (hb : On w w') hp => spec_ok w.heap.size x0 x1 v2 v3 z2 z3 w' q0 q2 q3 hp (h2.below hb) (h3.below hb))
  have h2' := h2
  have h3' := h3
  obtain ⟨a2, cap2, rfl, -⟩ := h2
  obtain ⟨a3, cap3, rfl, -⟩ := h3
  cases hok : okA x0 x1 z2 z3 with
  | false =>
    rw [hok] at HO
    have V := Lib.hid (show frontV false z2 = 0 from rfl)
    have C := Lib.hid (show codeV false = 1 from rfl)
    clear h2' h3'
    go_enter Try.func39, Try.ntmps39
    go_wp2_with fail
    refine (HO.out _ (by repeat (first | with_reducible exact On.refl _ | apply On.alloc)) ⟨by simp [go_sem], by simp [go_sem], by simp [go_sem], by simp [go_sem]⟩).mono ?_
    rintro r w1 ⟨rfl, rfl⟩
    go_wp2_with fail
    go_ret2
    exact ⟨ret_ii V.out.symm C.out.symm, (by repeat (first | with_reducible exact On.refl _ | apply On.alloc))⟩
  | true =>
    rw [hok] at HO
    have V := Lib.hid (show frontV true z2 = z2.getD 18 0 from rfl)
    have C := Lib.hid (show codeV true = 0 from rfl)
    have n36 := (of_loss (of_okA hok).2.2.1).1
    obtain ⟨b2, o2, rfl, hb2, hc2⟩ := slice_of h2' (by omega)
    have c18 := hc2 18 (by omega)
    rw [n36] at HO ⊢
    generalize z2.getD 18 0 = y at *
    clear h2' h3' hc2
    go_enter Try.func39, Try.ntmps39
    go_wp2_with fail
    refine (HO.out _ (by repeat (first | with_reducible exact On.refl _ | apply On.alloc)) ⟨by simp [go_sem], by simp [go_sem], by simp [go_sem], by simp [go_sem]⟩).mono ?_
    rintro r w1 ⟨rfl, rfl⟩
    go_wp2_with fail
    go_ret2
    exact ⟨ret_ii V.out.symm C.out.symm, (by repeat (first | with_reducible exact On.refl _ | apply On.alloc))⟩

set_option maxHeartbeats 1000000 in
theorem impl_FrontToBack (x0 : ByteArray) (x1 : Int) (v2 v3 : Value) (z2 z3 : List Int) (w : World) (q0 : x0.size ≤ 1048576) (q2 : z2.length ≤ 1048576) (q3 : z3.length ≤ 1048576) (h2 : Ints w v2 z2) (h3 : Ints w v3 z3) :
    Calls Try.prog 40 #[.agg #[.string x0, .int .i64 x1, v2, v3]] w fun r w' => r = .returned (.tuple #[.int .i64 (frontV (okA x0 x1 z2 z3) z2), .int .i64 (codeV (okA x0 x1 z2 z3))]) ∧ On w w' := by
  have HO := Lib.hid (fun w' (hb : On w w') => impl_valid x0 x1 v2 v3 z2 z3 w' q0 q2 q3 (h2.below hb) (h3.below hb))
  have h2' := h2
  have h3' := h3
  obtain ⟨a2, cap2, rfl, -⟩ := h2
  obtain ⟨a3, cap3, rfl, -⟩ := h3
  cases hok : okA x0 x1 z2 z3 with
  | false =>
    rw [hok] at HO
    have V := Lib.hid (show frontV false z2 = 0 from rfl)
    have C := Lib.hid (show codeV false = 1 from rfl)
    clear h2' h3'
    go_enter Try.func40, Try.ntmps40
    go_wp2_with fail
    refine (HO.out _ (by repeat (first | with_reducible exact On.refl _ | apply On.alloc))).mono ?_
    rintro r w1 ⟨rfl, h1⟩
    have P1 : In w1 w.heap.size x0 x1 (.slice a2 z2.length cap2) (.slice a3 z3.length cap3) := In.on ⟨by simp [go_sem], by simp [go_sem], by simp [go_sem], by simp [go_sem]⟩ h1
    have HO1 := Lib.hid (On.trans (On.alloc (On.refl w) _) h1)
    have HP1 := Lib.hid P1
    obtain ⟨p0, p1, p2, p3⟩ := P1
    clear h1
    go_wp2_with fail
    go_ret2
    exact ⟨ret_ii V.out.symm C.out.symm, HO1.out⟩
  | true =>
    rw [hok] at HO
    have V := Lib.hid (show frontV true z2 = z2.getD 18 0 from rfl)
    have C := Lib.hid (show codeV true = 0 from rfl)
    have n36 := (of_loss (of_okA hok).2.2.1).1
    obtain ⟨b2, o2, rfl, hb2, hc2⟩ := slice_of h2' (by omega)
    have c18 := hc2 18 (by omega)
    rw [n36] at HO ⊢
    generalize z2.getD 18 0 = y at *
    clear h2' h3' hc2
    go_enter Try.func40, Try.ntmps40
    go_wp2_with fail
    refine (HO.out _ (by repeat (first | with_reducible exact On.refl _ | apply On.alloc))).mono ?_
    rintro r w1 ⟨rfl, h1⟩
    have P1 : In w1 w.heap.size x0 x1 (.slice (some ⟨b2, o2, none⟩) 36 cap2) (.slice a3 z3.length cap3) := In.on ⟨by simp [go_sem], by simp [go_sem], by simp [go_sem], by simp [go_sem]⟩ h1
    have HO1 := Lib.hid (On.trans (On.alloc (On.refl w) _) h1)
    have HP1 := Lib.hid P1
    obtain ⟨p0, p1, p2, p3⟩ := P1
    clear h1
    have d18 := (HO1.out.cell (p := ⟨b2, o2 + 18, none⟩) (by exact hb2)).trans c18
    go_wp2_with fail
    go_ret2
    exact ⟨ret_ii V.out.symm C.out.symm, HO1.out⟩

def acrossV (ok : Bool) (hs : List Int) (a : Int) : Int := if ok = true then across hs a else 0
def upV (ok : Bool) (vs : List Int) (e : Int) : Int := if ok = true then (if inB e (-90) 90 = true then up vs e else 0) else 0
def upC (ok : Bool) (e : Int) : Int := if ok = true then (if inB e (-90) 90 = true then 0 else 2) else 1
set_option maxHeartbeats 1000000 in
theorem spec_HorizontalLoss (x0 : ByteArray) (x1 : Int) (v2 v3 : Value) (z2 z3 : List Int) (a : Int) (w : World) (q0 : x0.size ≤ 1048576) (q2 : z2.length ≤ 1048576) (q3 : z3.length ≤ 1048576) (h2 : Ints w v2 z2) (h3 : Ints w v3 z3) :
    Calls Try.prog 27 #[.agg #[.string x0, .int .i64 x1, v2, v3], .int .i64 a] w fun r w' => r = .returned (.tuple #[.int .i64 (acrossV (okA x0 x1 z2 z3) z2 a), .int .i64 (codeV (okA x0 x1 z2 z3))]) ∧ On w w' := by
  have HO := Lib.hid (fun w' (hb : On w w') hp => spec_ok w.heap.size x0 x1 v2 v3 z2 z3 w' q0 q2 q3 hp (h2.below hb) (h3.below hb))
  have HL := Lib.hid (fun w' (hb : On w w') hl hp => spec_across w.heap.size x0 x1 v2 v3 z2 a w' hl hp (h2.below hb))
  have h2' := h2
  have h3' := h3
  obtain ⟨a2, cap2, rfl, -⟩ := h2
  obtain ⟨a3, cap3, rfl, -⟩ := h3
  cases hok : okA x0 x1 z2 z3 with
  | false =>
    rw [hok] at HO
    have V := Lib.hid (show acrossV false z2 a = 0 from rfl)
    have C := Lib.hid (show codeV false = 1 from rfl)
    clear h2' h3' HL
    go_enter Try.func27, Try.ntmps27
    go_wp2_with fail
    refine (HO.out _ (by repeat (first | with_reducible exact On.refl _ | apply On.alloc)) ⟨by simp [go_sem], by simp [go_sem], by simp [go_sem], by simp [go_sem]⟩).mono ?_
    rintro r w1 ⟨rfl, rfl⟩
    go_wp2_with fail
    go_ret2
    exact ⟨ret_ii V.out.symm C.out.symm, (by repeat (first | with_reducible exact On.refl _ | apply On.alloc))⟩
  | true =>
    rw [hok] at HO
    have V := Lib.hid (show acrossV true z2 a = across z2 a from rfl)
    have C := Lib.hid (show codeV true = 0 from rfl)
    have HK := Lib.hid (of_okA hok).2.2.1
    clear h2' h3' hok
    go_enter Try.func27, Try.ntmps27
    go_wp2_with fail
    refine (HO.out _ (by repeat (first | with_reducible exact On.refl _ | apply On.alloc)) ⟨by simp [go_sem], by simp [go_sem], by simp [go_sem], by simp [go_sem]⟩).mono ?_
    rintro r w1 ⟨rfl, rfl⟩
    go_wp2_with fail
    refine (HL.out _ (by repeat (first | with_reducible exact On.refl _ | apply On.alloc)) HK.out ⟨by simp [go_sem], by simp [go_sem], by simp [go_sem], by simp [go_sem]⟩).mono ?_
    rintro r w2 ⟨rfl, h2⟩
    go_wp2_with fail
    go_ret2
    exact ⟨ret_ii V.out.symm C.out.symm, (by repeat (first | with_reducible exact On.refl _ | apply On.alloc | refine On.trans ?_ h2))⟩

set_option maxHeartbeats 1000000 in
theorem spec_VerticalLoss (x0 : ByteArray) (x1 : Int) (v2 v3 : Value) (z2 z3 : List Int) (a : Int) (w : World) (q0 : x0.size ≤ 1048576) (q2 : z2.length ≤ 1048576) (q3 : z3.length ≤ 1048576) (h2 : Ints w v2 z2) (h3 : Ints w v3 z3) :
    Calls Try.prog 29 #[.agg #[.string x0, .int .i64 x1, v2, v3], .int .i64 a] w fun r w' => r = .returned (.tuple #[.int .i64 (upV (okA x0 x1 z2 z3) z3 a), .int .i64 (upC (okA x0 x1 z2 z3) a)]) ∧ On w w' := by
  have HO := Lib.hid (fun w' (hb : On w w') hp => spec_ok w.heap.size x0 x1 v2 v3 z2 z3 w' q0 q2 q3 hp (h2.below hb) (h3.below hb))
  have HL := Lib.hid (fun w' (hb : On w w') hl e0 e1 hp => spec_up w.heap.size x0 x1 v2 v3 z3 a w' hl e0 e1 hp (h3.below hb))
  have h2' := h2
  have h3' := h3
  obtain ⟨a2, cap2, rfl, -⟩ := h2
  obtain ⟨a3, cap3, rfl, -⟩ := h3
  cases hok : okA x0 x1 z2 z3 with
  | false =>
    rw [hok] at HO
    have V := Lib.hid (show upV false z3 a = 0 from rfl)
    have C := Lib.hid (show upC false a = 1 from rfl)
    clear h2' h3' HL
    go_enter Try.func29, Try.ntmps29
    go_wp2_with fail
    refine (HO.out _ (by repeat (first | with_reducible exact On.refl _ | apply On.alloc)) ⟨by simp [go_sem], by simp [go_sem], by simp [go_sem], by simp [go_sem]⟩).mono ?_
    rintro r w1 ⟨rfl, rfl⟩
    go_wp2_with fail
    go_ret2
    exact ⟨ret_ii V.out.symm C.out.symm, (by repeat (first | with_reducible exact On.refl _ | apply On.alloc))⟩
  | true =>
    rw [hok] at HO
    have HK := Lib.hid (of_okA hok).2.2.2
    clear h2' h3' hok
    cases he : inB a (-90) 90 with
    | false =>
      have V := Lib.hid (show upV true z3 a = 0 by unfold upV; rw [he]; rfl)
      have C := Lib.hid (show upC true a = 2 by unfold upC; rw [he]; rfl)
      go_enter Try.func29, Try.ntmps29
      go_wp2_with fail
      refine (HO.out _ (by repeat (first | with_reducible exact On.refl _ | apply On.alloc)) ⟨by simp [go_sem], by simp [go_sem], by simp [go_sem], by simp [go_sem]⟩).mono ?_
      rintro r w1 ⟨rfl, rfl⟩
      go_wp2_with (go_at_call 57; refine (Arith.l00In _ _ _ _).mono ?_; rintro r w' ⟨rfl, rfl⟩)
      go_ret2
      exact ⟨ret_ii V.out.symm C.out.symm, (by repeat (first | with_reducible exact On.refl _ | apply On.alloc))⟩
    | true =>
      have V := Lib.hid (show upV true z3 a = up z3 a by unfold upV; rw [he]; rfl)
      have C := Lib.hid (show upC true a = 0 by unfold upC; rw [he]; rfl)
      have HE := Lib.hid (of_inB he)
      go_enter Try.func29, Try.ntmps29
      go_wp2_with fail
      refine (HO.out _ (by repeat (first | with_reducible exact On.refl _ | apply On.alloc)) ⟨by simp [go_sem], by simp [go_sem], by simp [go_sem], by simp [go_sem]⟩).mono ?_
      rintro r w1 ⟨rfl, rfl⟩
      go_wp2_with (go_at_call 57; refine (Arith.l00In _ _ _ _).mono ?_; rintro r w' ⟨rfl, rfl⟩)
      refine (HL.out _ (by repeat (first | with_reducible exact On.refl _ | apply On.alloc)) HK.out HE.out.1 HE.out.2 ⟨by simp [go_sem], by simp [go_sem], by simp [go_sem], by simp [go_sem]⟩).mono ?_
      rintro r w2 ⟨rfl, h2⟩
      go_wp2_with fail
      go_ret2
      exact ⟨ret_ii V.out.symm C.out.symm, (by repeat (first | with_reducible exact On.refl _ | apply On.alloc | refine On.trans ?_ h2))⟩

set_option maxHeartbeats 1000000 in
theorem impl_HorizontalLoss (x0 : ByteArray) (x1 : Int) (v2 v3 : Value) (z2 z3 : List Int) (a : Int) (w : World) (q0 : x0.size ≤ 1048576) (q2 : z2.length ≤ 1048576) (q3 : z3.length ≤ 1048576) (h2 : Ints w v2 z2) (h3 : Ints w v3 z3) :
    Calls Try.prog 28 #[.agg #[.string x0, .int .i64 x1, v2, v3], .int .i64 a] w fun r w' => r = .returned (.tuple #[.int .i64 (acrossV (okA x0 x1 z2 z3) z2 a), .int .i64 (codeV (okA x0 x1 z2 z3))]) ∧ On w w' := by
  have HO := Lib.hid (fun w' (hb : On w w') => impl_valid x0 x1 v2 v3 z2 z3 w' q0 q2 q3 (h2.below hb) (h3.below hb))
  have HL := Lib.hid (fun w' (hb : On w w') hl => impl_horizontal x0 x1 v2 v3 z2 a w' hl (anySlice h3) (h2.below hb))
  have h2' := h2
  have h3' := h3
  obtain ⟨a2, cap2, rfl, -⟩ := h2
  obtain ⟨a3, cap3, rfl, -⟩ := h3
  cases hok : okA x0 x1 z2 z3 with
  | false =>
    rw [hok] at HO
    have V := Lib.hid (show acrossV false z2 a = 0 from rfl)
    have C := Lib.hid (show codeV false = 1 from rfl)
    clear h2' h3' HL
    go_enter Try.func28, Try.ntmps28
    go_wp2_with fail
    refine (HO.out _ (by repeat (first | with_reducible exact On.refl _ | apply On.alloc))).mono ?_
    rintro r w1 ⟨rfl, h1⟩
    have P1 : In w1 w.heap.size x0 x1 (.slice a2 z2.length cap2) (.slice a3 z3.length cap3) := In.on ⟨by simp [go_sem], by simp [go_sem], by simp [go_sem], by simp [go_sem]⟩ h1
    have HO1 := Lib.hid (On.trans (On.alloc (On.refl w) _) h1)
    have HP1 := Lib.hid P1
    obtain ⟨p0, p1, p2, p3⟩ := P1
    clear h1
    go_wp2_with fail
    go_ret2
    exact ⟨ret_ii V.out.symm C.out.symm, HO1.out⟩
  | true =>
    rw [hok] at HO
    have V := Lib.hid (show acrossV true z2 a = across z2 a from rfl)
    have C := Lib.hid (show codeV true = 0 from rfl)
    have HK := Lib.hid (of_okA hok).2.2.1
    clear h2' h3' hok
    go_enter Try.func28, Try.ntmps28
    go_wp2_with fail
    refine (HO.out _ (by repeat (first | with_reducible exact On.refl _ | apply On.alloc))).mono ?_
    rintro r w1 ⟨rfl, h1⟩
    have P1 : In w1 w.heap.size x0 x1 (.slice a2 z2.length cap2) (.slice a3 z3.length cap3) := In.on ⟨by simp [go_sem], by simp [go_sem], by simp [go_sem], by simp [go_sem]⟩ h1
    have HO1 := Lib.hid (On.trans (On.alloc (On.refl w) _) h1)
    have HP1 := Lib.hid P1
    obtain ⟨p0, p1, p2, p3⟩ := P1
    clear h1
    go_wp2_with fail
    refine (HL.out _ HO1.out HK.out).mono ?_
    rintro r w2 ⟨rfl, h2⟩
    go_wp2_with fail
    go_ret2
    exact ⟨ret_ii V.out.symm C.out.symm, HO1.out.trans h2⟩

set_option maxHeartbeats 1000000 in
theorem impl_VerticalLoss (x0 : ByteArray) (x1 : Int) (v2 v3 : Value) (z2 z3 : List Int) (a : Int) (w : World) (q0 : x0.size ≤ 1048576) (q2 : z2.length ≤ 1048576) (q3 : z3.length ≤ 1048576) (h2 : Ints w v2 z2) (h3 : Ints w v3 z3) :
    Calls Try.prog 30 #[.agg #[.string x0, .int .i64 x1, v2, v3], .int .i64 a] w fun r w' => r = .returned (.tuple #[.int .i64 (upV (okA x0 x1 z2 z3) z3 a), .int .i64 (upC (okA x0 x1 z2 z3) a)]) ∧ On w w' := by
  have HO := Lib.hid (fun w' (hb : On w w') => impl_valid x0 x1 v2 v3 z2 z3 w' q0 q2 q3 (h2.below hb) (h3.below hb))
  have HL := Lib.hid (fun w' (hb : On w w') hl e0 e1 => impl_vertical x0 x1 v2 v3 z3 a w' hl e0 e1 (anySlice h2) (h3.below hb))
  have h2' := h2
  have h3' := h3
  obtain ⟨a2, cap2, rfl, -⟩ := h2
  obtain ⟨a3, cap3, rfl, -⟩ := h3
  cases hok : okA x0 x1 z2 z3 with
  | false =>
    rw [hok] at HO
    have V := Lib.hid (show upV false z3 a = 0 from rfl)
    have C := Lib.hid (show upC false a = 1 from rfl)
    clear h2' h3' HL
    go_enter Try.func30, Try.ntmps30
    go_wp2_with fail
    refine (HO.out _ (by repeat (first | with_reducible exact On.refl _ | apply On.alloc))).mono ?_
    rintro r w1 ⟨rfl, h1⟩
    have P1 : In w1 w.heap.size x0 x1 (.slice a2 z2.length cap2) (.slice a3 z3.length cap3) := In.on ⟨by simp [go_sem], by simp [go_sem], by simp [go_sem], by simp [go_sem]⟩ h1
    have HO1 := Lib.hid (On.trans (On.alloc (On.refl w) _) h1)
    have HP1 := Lib.hid P1
    obtain ⟨p0, p1, p2, p3⟩ := P1
    clear h1
    go_wp2_with fail
    go_ret2
    exact ⟨ret_ii V.out.symm C.out.symm, HO1.out⟩
  | true =>
    rw [hok] at HO
    have HK := Lib.hid (of_okA hok).2.2.2
    clear h2' h3' hok
    cases he : inB a (-90) 90 with
    | false =>
      have V := Lib.hid (show upV true z3 a = 0 by unfold upV; rw [he]; rfl)
      have C := Lib.hid (show upC true a = 2 by unfold upC; rw [he]; rfl)
      go_enter Try.func30, Try.ntmps30
      go_wp2_with fail
      refine (HO.out _ (by repeat (first | with_reducible exact On.refl _ | apply On.alloc))).mono ?_
      rintro r w1 ⟨rfl, h1⟩
      have P1 : In w1 w.heap.size x0 x1 (.slice a2 z2.length cap2) (.slice a3 z3.length cap3) := In.on ⟨by simp [go_sem], by simp [go_sem], by simp [go_sem], by simp [go_sem]⟩ h1
      have HO1 := Lib.hid (On.trans (On.alloc (On.refl w) _) h1)
      have HP1 := Lib.hid P1
      obtain ⟨p0, p1, p2, p3⟩ := P1
      clear h1
      go_wp2_with (go_at_call 64; refine (impl_isElevation _ _).mono ?_; rintro r w' ⟨rfl, rfl⟩)
      go_ret2
      exact ⟨ret_ii V.out.symm C.out.symm, HO1.out⟩
    | true =>
      have V := Lib.hid (show upV true z3 a = up z3 a by unfold upV; rw [he]; rfl)
      have C := Lib.hid (show upC true a = 0 by unfold upC; rw [he]; rfl)
      have HE := Lib.hid (of_inB he)
      go_enter Try.func30, Try.ntmps30
      go_wp2_with fail
      refine (HO.out _ (by repeat (first | with_reducible exact On.refl _ | apply On.alloc))).mono ?_
      rintro r w1 ⟨rfl, h1⟩
      have P1 : In w1 w.heap.size x0 x1 (.slice a2 z2.length cap2) (.slice a3 z3.length cap3) := In.on ⟨by simp [go_sem], by simp [go_sem], by simp [go_sem], by simp [go_sem]⟩ h1
      have HO1 := Lib.hid (On.trans (On.alloc (On.refl w) _) h1)
      have HP1 := Lib.hid P1
      obtain ⟨p0, p1, p2, p3⟩ := P1
      clear h1
      go_wp2_with (go_at_call 64; refine (impl_isElevation _ _).mono ?_; rintro r w' ⟨rfl, rfl⟩)
      refine (HL.out _ HO1.out HK.out HE.out.1 HE.out.2).mono ?_
      rintro r w2 ⟨rfl, h2⟩
      go_wp2_with fail
      go_ret2
      exact ⟨ret_ii V.out.symm C.out.symm, HO1.out.trans h2⟩

end Go.Proofs.Ytknggnchldcghab.Ant
