
/-
  What the functions of free space are, in the model and in the program: losses, fields, levels, wavelengths. Condition: the program's variable of spans holds what its text lays.
-/
import Derived.Test.YtnbkdekndflefaaDoorFreePlain
import Derived.Test.YtnbkdekndflefaaDoorRatio
import Derived.Test.YtnbkdekndflefaaDoorSpan
namespace Go.Proofs.YtnbkdekndflefaaDoor.Free
open Go.RowKit
open Plain
open Span (SpanG)

def okV (b : Bool) (x : Int) : Int := if b = true then x else 0
def okC (b : Bool) : Int := if b = true then 0 else 2
theorem ok_no (x : Int) : okV false x = 0 ∧ okC false = 2 := ⟨rfl, rfl⟩
theorem ok_yes (x : Int) : okV true x = x ∧ okC true = 0 := ⟨rfl, rfl⟩
theorem ret_ii {a b c d : Int} (h1 : a = b) (h2 : c = d) : Ending.returned (.tuple #[.int .i64 a, .int .i64 c]) = .returned (.tuple #[.int .i64 b, .int .i64 d]) := by rw [h1, h2]
def smax (a b : Int) : Int := if b < a then a else b
theorem smax_gt {a b : Int} (h : b < a) : smax a b = a := if_pos h
theorem smax_le {a b : Int} (h : ¬ b < a) : smax a b = b := if_neg h
theorem free_spec (f d : Int) : smax 0 (2 * logDb d + 2 * logDb f - 87552) = freeV f d := by unfold smax freeV; split <;> split <;> omega
theorem free_impl (f d : Int) : Turn.gmax 0 (2 * logDb d + 2 * logDb f + -87552) = freeV f d := by unfold Turn.gmax freeV; split <;> split <;> omega

theorem spec_max (a b : Int) (w : World) :
    Calls Tryd.prog 58 #[.int .i64 a, .int .i64 b] w fun e w' => e = .returned (.int .i64 (smax a b)) ∧ w = w' := by
  by_cases h : b < a
  · rw [smax_gt h]
    go_enter Tryd.func58, Tryd.ntmps58
    go_wp2
    go_ret
    exact ⟨rfl, rfl⟩
  · rw [smax_le h]
    go_enter Tryd.func58, Tryd.ntmps58
    go_wp2
    go_ret
    exact ⟨rfl, rfl⟩
theorem spec_l09Distance (v : Int) (w : World) :
    Calls Tryd.prog 39 #[.int .i64 v] w fun e w' => e = .returned (.bool (inB v 1 283000)) ∧ w = w' := by
  go_enter Tryd.func39, Tryd.ntmps39
  go_wp2_with (go_at_call 48; refine (Arith.l00In _ _ _ _).mono ?_; rintro e w' ⟨rfl, rfl⟩)
  go_ret
  exact ⟨rfl, rfl⟩
theorem spec_l09Frequency (v : Int) (w : World) :
    Calls Tryd.prog 38 #[.int .i64 v] w fun e w' => e = .returned (.bool (inB v 1 100000000)) ∧ w = w' := by
  go_enter Tryd.func38, Tryd.ntmps38
  go_wp2_with (go_at_call 48; refine (Arith.l00In _ _ _ _).mono ?_; rintro e w' ⟨rfl, rfl⟩)
  go_ret
  exact ⟨rfl, rfl⟩
theorem spec_l02Level (v : Int) (w : World) :
    Calls Tryd.prog 43 #[.int .i64 v] w fun e w' => e = .returned (.bool (inB v (-300000) 300000)) ∧ w = w' := by
  go_enter Tryd.func43, Tryd.ntmps43
  go_wp2_with (go_at_call 48; refine (Arith.l00In _ _ _ _).mono ?_; rintro e w' ⟨rfl, rfl⟩)
  go_ret
  exact ⟨rfl, rfl⟩
theorem spec_loss (f d : Int) (w : World) (f0 : 1 ≤ f) (f1 : f ≤ 100000000) (d0 : 1 ≤ d) (d1 : d ≤ 283000) :
    Calls Tryd.prog 40 #[.int .i64 f, .int .i64 d] w fun e w' => e = .returned (.int .i64 (freeV f d)) ∧ w = w' := by
  obtain ⟨l1, l2⟩ := logDb_bd (n := f) (by omega)
  obtain ⟨l3, l4⟩ := logDb_bd (n := d) (by omega)
  have HF := Lib.hid (fun w => Log.spec_logI f w (by omega) (by omega))
  have HD := Lib.hid (fun w => Log.spec_logI d w (by omega) (by omega))
  have en := Lib.hid (free_spec f d)
  go_enter Tryd.func40, Tryd.ntmps40
  go_wp2_with fail
  refine (HD.out _).mono ?_
  rintro e w1 ⟨rfl, rfl⟩
  go_wp2_with fail
  refine (HF.out _).mono ?_
  rintro e w1 ⟨rfl, rfl⟩
  go_wp2_with fail
  refine (spec_max _ _ _).mono ?_
  rintro e w1 ⟨rfl, rfl⟩
  go_wp2_with fail
  go_ret
  exact ⟨ret_int en.out, rfl⟩
theorem spec_field (v d : Int) (w : World) (v0 : -300000 ≤ v) (v1 : v ≤ 300000) (d0 : 1 ≤ d) (d1 : d ≤ 283000) :
    Calls Tryd.prog 44 #[.int .i64 v, .int .i64 d] w fun e w' => e = .returned (.int .i64 (fieldV v d)) ∧ w = w' := by
  obtain ⟨l3, l4⟩ := logDb_bd (n := d) (by omega)
  have HD := Lib.hid (fun w => Log.spec_logI d w (by omega) (by omega))
  go_enter Tryd.func44, Tryd.ntmps44
  go_wp2_with fail
  refine (HD.out _).mono ?_
  rintro e w1 ⟨rfl, rfl⟩
  go_wp2_with fail
  go_ret
  exact ⟨rfl, rfl⟩
theorem square_metres (n : Int) (w : World) (n1 : n ≤ 9223372036854775807) :
    Calls Tryd.prog 61 #[.int .i64 n] w fun e w' => e = .returned (.int .i64 (2 * logDb n)) ∧ On w w' := by
  obtain ⟨l1, l2⟩ := logDb_bd n1
  have HL := Lib.hid (fun w => Log.impl_logDb n w n1)
  go_enter Tryd.func61, Tryd.ntmps61
  go_wp2_with fail
  refine (HL.out _).mono ?_
  rintro e w1 ⟨rfl, h1⟩
  go_wp2_with fail
  go_ret
  exact ⟨rfl, h1⟩
theorem square_kilohertz (n : Int) (w : World) (n1 : n ≤ 9223372036854775807) :
    Calls Tryd.prog 47 #[.int .i64 n] w fun e w' => e = .returned (.int .i64 (2 * logDb n)) ∧ On w w' := by
  obtain ⟨l1, l2⟩ := logDb_bd n1
  have HL := Lib.hid (fun w => Log.impl_logDb n w n1)
  go_enter Tryd.func47, Tryd.ntmps47
  go_wp2_with fail
  refine (HL.out _).mono ?_
  rintro e w1 ⟨rfl, h1⟩
  go_wp2_with fail
  go_ret
  exact ⟨rfl, h1⟩
theorem impl_loss (f d : Int) (w : World) (f0 : 1 ≤ f) (f1 : f ≤ 100000000) (d0 : 1 ≤ d) (d1 : d ≤ 283000) :
    Calls Tryd.prog 42 #[.int .i64 f, .int .i64 d] w fun e w' => e = .returned (.int .i64 (freeV f d)) ∧ On w w' := by
  obtain ⟨l1, l2⟩ := logDb_bd (n := f) (by omega)
  obtain ⟨l3, l4⟩ := logDb_bd (n := d) (by omega)
  have HF := Lib.hid (fun w => square_kilohertz f w (by omega))
  have HD := Lib.hid (fun w => square_metres d w (by omega))
  have en := Lib.hid (free_impl f d)
  go_enter Tryd.func42, Tryd.ntmps42
  go_wp2_with fail
  refine (HD.out _).mono ?_
  rintro e w1 ⟨rfl, h1⟩
  go_wp2_with fail
  refine (HF.out _).mono ?_
  rintro e w2 ⟨rfl, h2⟩
  go_wp2_with fail
  refine (Turn.impl_greatest _ _ _).mono ?_
  rintro e w3 ⟨rfl, rfl⟩
  go_wp2_with fail
  go_ret
  exact ⟨ret_int en.out, h1.trans h2⟩
theorem impl_field (v d : Int) (w : World) (v0 : -300000 ≤ v) (v1 : v ≤ 300000) (d0 : 1 ≤ d) (d1 : d ≤ 283000) :
    Calls Tryd.prog 45 #[.int .i64 v, .int .i64 d] w fun e w' => e = .returned (.int .i64 (fieldV v d)) ∧ On w w' := by
  obtain ⟨l3, l4⟩ := logDb_bd (n := d) (by omega)
  have HD := Lib.hid (fun w => square_metres d w (by omega))
  go_enter Tryd.func45, Tryd.ntmps45
  go_wp2_with fail
  refine (HD.out _).mono ?_
  rintro e w1 ⟨rfl, h1⟩
  go_wp2_with fail
  go_ret
  exact ⟨rfl, h1⟩
theorem far_sq {z : Int} (z0 : 1 ≤ z) (z1 : z ≤ 100000) : 0 ≤ 2 * z * z ∧ 2 * z * z ≤ 20000000000 := by
  have h1 : 2 * z * z ≤ 200000 * z := Int.mul_le_mul_of_nonneg_right (by omega) (by omega)
  have h2 : 0 ≤ 2 * z * z := Int.mul_nonneg (by omega) (by omega)
  omega
theorem far_bd {z f : Int} (z0 : 1 ≤ z) (z1 : z ≤ 100000) (f0 : 1 ≤ f) (f1 : f ≤ 100000000) : 2 * z * z * f ≤ 2000000000000000000 := by
  obtain ⟨h0, h1⟩ := far_sq z0 z1
  have : 2 * z * z * f ≤ 20000000000 * f := Int.mul_le_mul_of_nonneg_right h1 (by omega)
  omega
/-- FreeLoss. -/
def okFreeLoss (f d : Int) : Bool := inB f 1 100000000 && inB d 1 283000
set_option maxHeartbeats 2000000 in
theorem spec_FreeLoss (f d : Int) (w : World) :
    Calls Tryd.prog 13 #[.int .i64 f, .int .i64 d] w fun e w' => e = .returned (.tuple #[.int .i64 (okV (okFreeLoss f d) (freeV f d)), .int .i64 (okC (okFreeLoss f d))]) ∧ w = w' := by
  cases h0 : inB f 1 100000000 with
  | false =>
    have en := Lib.hid (show okV (okFreeLoss f d) (freeV f d) = 0 ∧ okC (okFreeLoss f d) = 2 by unfold okFreeLoss; rw [h0]; exact ⟨rfl, rfl⟩)
    go_enter Tryd.func13, Tryd.ntmps13
    go_wp2_with (first | (go_at_call 39; refine (spec_l09Distance _ _).mono ?_; rintro e w' ⟨rfl, rfl⟩) | (go_at_call 38; refine (spec_l09Frequency _ _).mono ?_; rintro e w' ⟨rfl, rfl⟩))
    go_ret2
    exact ⟨ret_ii en.out.1.symm en.out.2.symm, rfl⟩
  | true =>
    cases h1 : inB d 1 283000 with
    | false =>
      have en := Lib.hid (show okV (okFreeLoss f d) (freeV f d) = 0 ∧ okC (okFreeLoss f d) = 2 by unfold okFreeLoss; rw [h0, h1]; exact ⟨rfl, rfl⟩)
      go_enter Tryd.func13, Tryd.ntmps13
      go_wp2_with (first | (go_at_call 39; refine (spec_l09Distance _ _).mono ?_; rintro e w' ⟨rfl, rfl⟩) | (go_at_call 38; refine (spec_l09Frequency _ _).mono ?_; rintro e w' ⟨rfl, rfl⟩))
      go_ret2
      exact ⟨ret_ii en.out.1.symm en.out.2.symm, rfl⟩
    | true =>
      have en := Lib.hid (show okV (okFreeLoss f d) (freeV f d) = freeV f d ∧ okC (okFreeLoss f d) = 0 by unfold okFreeLoss; rw [h0, h1]; exact ⟨rfl, rfl⟩)
      have b0 := of_inB h0
      obtain ⟨b00, b01⟩ := b0
      have b1 := of_inB h1
      obtain ⟨b10, b11⟩ := b1
      go_enter Tryd.func13, Tryd.ntmps13
      go_wp2_with (first | (go_at_call 39; refine (spec_l09Distance _ _).mono ?_; rintro e w' ⟨rfl, rfl⟩) | (go_at_call 38; refine (spec_l09Frequency _ _).mono ?_; rintro e w' ⟨rfl, rfl⟩))
      refine (spec_loss f d _ (by omega) (by omega) (by omega) (by omega)).mono ?_
      rintro e w1 ⟨rfl, rfl⟩
      go_wp2_with fail
      go_ret2
      exact ⟨ret_ii en.out.1.symm en.out.2.symm, rfl⟩
set_option maxHeartbeats 2000000 in
theorem impl_FreeLoss (f d : Int) (w : World) (hg : SpanG w) :
    Calls Tryd.prog 14 #[.int .i64 f, .int .i64 d] w fun e w' => e = .returned (.tuple #[.int .i64 (okV (okFreeLoss f d) (freeV f d)), .int .i64 (okC (okFreeLoss f d))]) ∧ On w w' := by
  cases h0 : inB f 1 100000000 with
  | false =>
    have HG := Lib.hid hg
    have en := Lib.hid (show okV (okFreeLoss f d) (freeV f d) = 0 ∧ okC (okFreeLoss f d) = 2 by unfold okFreeLoss; rw [h0]; exact ⟨rfl, rfl⟩)
    go_enter Tryd.func14, Tryd.ntmps14
    go_wp2_with fail
    refine (Span.allows1_0 f _ _ (by simp [go_sem]) (HG.out.on (by repeat (first | with_reducible exact On.refl _ | with_reducible exact On.refl _ | apply On.alloc)))).mono ?_
    rintro e w1 ⟨rfl, k1⟩
    have HO1 := Lib.hid (show On w w1 by refine On.trans ?_ k1; repeat (first | with_reducible exact On.refl _ | apply On.alloc))
    clear k1
    go_wp2_with fail
    go_ret2
    exact ⟨ret_ii en.out.1.symm en.out.2.symm, HO1.out⟩
  | true =>
    cases h1 : inB d 1 283000 with
    | false =>
      have HG := Lib.hid hg
      have en := Lib.hid (show okV (okFreeLoss f d) (freeV f d) = 0 ∧ okC (okFreeLoss f d) = 2 by unfold okFreeLoss; rw [h0, h1]; exact ⟨rfl, rfl⟩)
      go_enter Tryd.func14, Tryd.ntmps14
      go_wp2_with fail
      refine (Span.allows1_0 f _ _ (by simp [go_sem]) (HG.out.on (by repeat (first | with_reducible exact On.refl _ | with_reducible exact On.refl _ | apply On.alloc)))).mono ?_
      rintro e w1 ⟨rfl, k1⟩
      have HO1 := Lib.hid (show On w w1 by refine On.trans ?_ k1; repeat (first | with_reducible exact On.refl _ | apply On.alloc))
      clear k1
      go_wp2_with fail
      refine (Span.allows1_1 d _ _ (by simp [go_sem]) (HG.out.on (by repeat (first | with_reducible exact On.refl _ | with_reducible exact HO1.out | apply On.alloc)))).mono ?_
      rintro e w2 ⟨rfl, k2⟩
      have HO2 := Lib.hid (show On w w2 by refine On.trans ?_ k2; repeat (first | with_reducible exact On.refl _ | with_reducible exact HO1.out | apply On.alloc))
      clear k2
      go_wp2_with fail
      go_ret2
      exact ⟨ret_ii en.out.1.symm en.out.2.symm, HO2.out⟩
    | true =>
      have HG := Lib.hid hg
      have en := Lib.hid (show okV (okFreeLoss f d) (freeV f d) = freeV f d ∧ okC (okFreeLoss f d) = 0 by unfold okFreeLoss; rw [h0, h1]; exact ⟨rfl, rfl⟩)
      have b0 := of_inB h0
      obtain ⟨b00, b01⟩ := b0
      have b1 := of_inB h1
      obtain ⟨b10, b11⟩ := b1
      go_enter Tryd.func14, Tryd.ntmps14
      go_wp2_with fail
      refine (Span.allows1_0 f _ _ (by simp [go_sem]) (HG.out.on (by repeat (first | with_reducible exact On.refl _ | with_reducible exact On.refl _ | apply On.alloc)))).mono ?_
      rintro e w1 ⟨rfl, k1⟩
      have HO1 := Lib.hid (show On w w1 by refine On.trans ?_ k1; repeat (first | with_reducible exact On.refl _ | apply On.alloc))
      clear k1
      go_wp2_with fail
      refine (Span.allows1_1 d _ _ (by simp [go_sem]) (HG.out.on (by repeat (first | with_reducible exact On.refl _ | with_reducible exact HO1.out | apply On.alloc)))).mono ?_
      rintro e w2 ⟨rfl, k2⟩
      have HO2 := Lib.hid (show On w w2 by refine On.trans ?_ k2; repeat (first | with_reducible exact On.refl _ | with_reducible exact HO1.out | apply On.alloc))
      clear k2
      go_wp2_with fail
      refine (impl_loss f d _ (by omega) (by omega) (by omega) (by omega)).mono ?_
      rintro e w9 ⟨rfl, k9⟩
      go_wp2_with fail
      go_ret2
      exact ⟨ret_ii en.out.1.symm en.out.2.symm, HO2.out.trans k9⟩
/-- FieldStrength. -/
def okFieldStrength (v d : Int) : Bool := inB v (-300000) 300000 && inB d 1 283000
set_option maxHeartbeats 2000000 in
theorem spec_FieldStrength (v d : Int) (w : World) :
    Calls Tryd.prog 15 #[.int .i64 v, .int .i64 d] w fun e w' => e = .returned (.tuple #[.int .i64 (okV (okFieldStrength v d) (fieldV v d)), .int .i64 (okC (okFieldStrength v d))]) ∧ w = w' := by
  cases h0 : inB v (-300000) 300000 with
  | false =>
    have en := Lib.hid (show okV (okFieldStrength v d) (fieldV v d) = 0 ∧ okC (okFieldStrength v d) = 2 by unfold okFieldStrength; rw [h0]; exact ⟨rfl, rfl⟩)
    go_enter Tryd.func15, Tryd.ntmps15
    go_wp2_with (first | (go_at_call 43; refine (spec_l02Level _ _).mono ?_; rintro e w' ⟨rfl, rfl⟩) | (go_at_call 39; refine (spec_l09Distance _ _).mono ?_; rintro e w' ⟨rfl, rfl⟩))
    go_ret2
    exact ⟨ret_ii en.out.1.symm en.out.2.symm, rfl⟩
  | true =>
    cases h1 : inB d 1 283000 with
    | false =>
      have en := Lib.hid (show okV (okFieldStrength v d) (fieldV v d) = 0 ∧ okC (okFieldStrength v d) = 2 by unfold okFieldStrength; rw [h0, h1]; exact ⟨rfl, rfl⟩)
      go_enter Tryd.func15, Tryd.ntmps15
      go_wp2_with (first | (go_at_call 43; refine (spec_l02Level _ _).mono ?_; rintro e w' ⟨rfl, rfl⟩) | (go_at_call 39; refine (spec_l09Distance _ _).mono ?_; rintro e w' ⟨rfl, rfl⟩))
      go_ret2
      exact ⟨ret_ii en.out.1.symm en.out.2.symm, rfl⟩
    | true =>
      have en := Lib.hid (show okV (okFieldStrength v d) (fieldV v d) = fieldV v d ∧ okC (okFieldStrength v d) = 0 by unfold okFieldStrength; rw [h0, h1]; exact ⟨rfl, rfl⟩)
      have b0 := of_inB h0
      obtain ⟨b00, b01⟩ := b0
      have b1 := of_inB h1
      obtain ⟨b10, b11⟩ := b1
      go_enter Tryd.func15, Tryd.ntmps15
      go_wp2_with (first | (go_at_call 43; refine (spec_l02Level _ _).mono ?_; rintro e w' ⟨rfl, rfl⟩) | (go_at_call 39; refine (spec_l09Distance _ _).mono ?_; rintro e w' ⟨rfl, rfl⟩))
      refine (spec_field v d _ (by omega) (by omega) (by omega) (by omega)).mono ?_
      rintro e w1 ⟨rfl, rfl⟩
      go_wp2_with fail
      go_ret2
      exact ⟨ret_ii en.out.1.symm en.out.2.symm, rfl⟩
set_option maxHeartbeats 2000000 in
theorem impl_FieldStrength (v d : Int) (w : World) (hg : SpanG w) :
    Calls Tryd.prog 16 #[.int .i64 v, .int .i64 d] w fun e w' => e = .returned (.tuple #[.int .i64 (okV (okFieldStrength v d) (fieldV v d)), .int .i64 (okC (okFieldStrength v d))]) ∧ On w w' := by
  cases h0 : inB v (-300000) 300000 with
  | false =>
    have HG := Lib.hid hg
    have en := Lib.hid (show okV (okFieldStrength v d) (fieldV v d) = 0 ∧ okC (okFieldStrength v d) = 2 by unfold okFieldStrength; rw [h0]; exact ⟨rfl, rfl⟩)
    go_enter Tryd.func16, Tryd.ntmps16
    go_wp2_with fail
    refine (Span.allows1_2 v _ _ (by simp [go_sem]) (HG.out.on (by repeat (first | with_reducible exact On.refl _ | with_reducible exact On.refl _ | apply On.alloc)))).mono ?_
    rintro e w1 ⟨rfl, k1⟩
    have HO1 := Lib.hid (show On w w1 by refine On.trans ?_ k1; repeat (first | with_reducible exact On.refl _ | apply On.alloc))
    clear k1
    go_wp2_with fail
    go_ret2
    exact ⟨ret_ii en.out.1.symm en.out.2.symm, HO1.out⟩
  | true =>
    cases h1 : inB d 1 283000 with
    | false =>
      have HG := Lib.hid hg
      have en := Lib.hid (show okV (okFieldStrength v d) (fieldV v d) = 0 ∧ okC (okFieldStrength v d) = 2 by unfold okFieldStrength; rw [h0, h1]; exact ⟨rfl, rfl⟩)
      go_enter Tryd.func16, Tryd.ntmps16
      go_wp2_with fail
      refine (Span.allows1_2 v _ _ (by simp [go_sem]) (HG.out.on (by repeat (first | with_reducible exact On.refl _ | with_reducible exact On.refl _ | apply On.alloc)))).mono ?_
      rintro e w1 ⟨rfl, k1⟩
      have HO1 := Lib.hid (show On w w1 by refine On.trans ?_ k1; repeat (first | with_reducible exact On.refl _ | apply On.alloc))
      clear k1
      go_wp2_with fail
      refine (Span.allows1_1 d _ _ (by simp [go_sem]) (HG.out.on (by repeat (first | with_reducible exact On.refl _ | with_reducible exact HO1.out | apply On.alloc)))).mono ?_
      rintro e w2 ⟨rfl, k2⟩
      have HO2 := Lib.hid (show On w w2 by refine On.trans ?_ k2; repeat (first | with_reducible exact On.refl _ | with_reducible exact HO1.out | apply On.alloc))
      clear k2
      go_wp2_with fail
      go_ret2
      exact ⟨ret_ii en.out.1.symm en.out.2.symm, HO2.out⟩
    | true =>
      have HG := Lib.hid hg
      have en := Lib.hid (show okV (okFieldStrength v d) (fieldV v d) = fieldV v d ∧ okC (okFieldStrength v d) = 0 by unfold okFieldStrength; rw [h0, h1]; exact ⟨rfl, rfl⟩)
      have b0 := of_inB h0
      obtain ⟨b00, b01⟩ := b0
      have b1 := of_inB h1
      obtain ⟨b10, b11⟩ := b1
      go_enter Tryd.func16, Tryd.ntmps16
      go_wp2_with fail
      refine (Span.allows1_2 v _ _ (by simp [go_sem]) (HG.out.on (by repeat (first | with_reducible exact On.refl _ | with_reducible exact On.refl _ | apply On.alloc)))).mono ?_
      rintro e w1 ⟨rfl, k1⟩
      have HO1 := Lib.hid (show On w w1 by refine On.trans ?_ k1; repeat (first | with_reducible exact On.refl _ | apply On.alloc))
      clear k1
      go_wp2_with fail
      refine (Span.allows1_1 d _ _ (by simp [go_sem]) (HG.out.on (by repeat (first | with_reducible exact On.refl _ | with_reducible exact HO1.out | apply On.alloc)))).mono ?_
      rintro e w2 ⟨rfl, k2⟩
      have HO2 := Lib.hid (show On w w2 by refine On.trans ?_ k2; repeat (first | with_reducible exact On.refl _ | with_reducible exact HO1.out | apply On.alloc))
      clear k2
      go_wp2_with fail
      refine (impl_field v d _ (by omega) (by omega) (by omega) (by omega)).mono ?_
      rintro e w9 ⟨rfl, k9⟩
      go_wp2_with fail
      go_ret2
      exact ⟨ret_ii en.out.1.symm en.out.2.symm, HO2.out.trans k9⟩
/-- LevelOfField. -/
def okLevelOfField (v f : Int) : Bool := inB v (-300000) 300000 && inB f 1 100000000
set_option maxHeartbeats 2000000 in
theorem spec_LevelOfField (v f : Int) (w : World) :
    Calls Tryd.prog 17 #[.int .i64 v, .int .i64 f] w fun e w' => e = .returned (.tuple #[.int .i64 (okV (okLevelOfField v f) (v - 2 * logDb f - 17219)), .int .i64 (okC (okLevelOfField v f))]) ∧ w = w' := by
  cases h0 : inB v (-300000) 300000 with
  | false =>
    have en := Lib.hid (show okV (okLevelOfField v f) (v - 2 * logDb f - 17219) = 0 ∧ okC (okLevelOfField v f) = 2 by unfold okLevelOfField; rw [h0]; exact ⟨rfl, rfl⟩)
    go_enter Tryd.func17, Tryd.ntmps17
    go_wp2_with (first | (go_at_call 43; refine (spec_l02Level _ _).mono ?_; rintro e w' ⟨rfl, rfl⟩) | (go_at_call 38; refine (spec_l09Frequency _ _).mono ?_; rintro e w' ⟨rfl, rfl⟩))
    go_ret2
    exact ⟨ret_ii en.out.1.symm en.out.2.symm, rfl⟩
  | true =>
    cases h1 : inB f 1 100000000 with
    | false =>
      have en := Lib.hid (show okV (okLevelOfField v f) (v - 2 * logDb f - 17219) = 0 ∧ okC (okLevelOfField v f) = 2 by unfold okLevelOfField; rw [h0, h1]; exact ⟨rfl, rfl⟩)
      go_enter Tryd.func17, Tryd.ntmps17
      go_wp2_with (first | (go_at_call 43; refine (spec_l02Level _ _).mono ?_; rintro e w' ⟨rfl, rfl⟩) | (go_at_call 38; refine (spec_l09Frequency _ _).mono ?_; rintro e w' ⟨rfl, rfl⟩))
      go_ret2
      exact ⟨ret_ii en.out.1.symm en.out.2.symm, rfl⟩
    | true =>
      have en := Lib.hid (show okV (okLevelOfField v f) (v - 2 * logDb f - 17219) = v - 2 * logDb f - 17219 ∧ okC (okLevelOfField v f) = 0 by unfold okLevelOfField; rw [h0, h1]; exact ⟨rfl, rfl⟩)
      have b0 := of_inB h0
      obtain ⟨b00, b01⟩ := b0
      have b1 := of_inB h1
      obtain ⟨b10, b11⟩ := b1
      obtain ⟨l1, l2⟩ := logDb_bd (n := f) (by omega)
      go_enter Tryd.func17, Tryd.ntmps17
      go_wp2_with (first | (go_at_call 43; refine (spec_l02Level _ _).mono ?_; rintro e w' ⟨rfl, rfl⟩) | (go_at_call 38; refine (spec_l09Frequency _ _).mono ?_; rintro e w' ⟨rfl, rfl⟩))
      refine (Log.spec_logI f _ (by omega) (by omega)).mono ?_
      rintro e w1 ⟨rfl, rfl⟩
      go_wp2_with fail
      go_ret2
      exact ⟨ret_ii en.out.1.symm en.out.2.symm, rfl⟩
set_option maxHeartbeats 2000000 in
theorem impl_LevelOfField (v f : Int) (w : World) (hg : SpanG w) :
    Calls Tryd.prog 18 #[.int .i64 v, .int .i64 f] w fun e w' => e = .returned (.tuple #[.int .i64 (okV (okLevelOfField v f) (v - 2 * logDb f - 17219)), .int .i64 (okC (okLevelOfField v f))]) ∧ On w w' := by
  cases h0 : inB v (-300000) 300000 with
  | false =>
    have HG := Lib.hid hg
    have en := Lib.hid (show okV (okLevelOfField v f) (v - 2 * logDb f - 17219) = 0 ∧ okC (okLevelOfField v f) = 2 by unfold okLevelOfField; rw [h0]; exact ⟨rfl, rfl⟩)
    go_enter Tryd.func18, Tryd.ntmps18
    go_wp2_with fail
    refine (Span.allows1_3 v _ _ (by simp [go_sem]) (HG.out.on (by repeat (first | with_reducible exact On.refl _ | with_reducible exact On.refl _ | apply On.alloc)))).mono ?_
    rintro e w1 ⟨rfl, k1⟩
    have HO1 := Lib.hid (show On w w1 by refine On.trans ?_ k1; repeat (first | with_reducible exact On.refl _ | apply On.alloc))
    clear k1
    go_wp2_with fail
    go_ret2
    exact ⟨ret_ii en.out.1.symm en.out.2.symm, HO1.out⟩
  | true =>
    cases h1 : inB f 1 100000000 with
    | false =>
      have HG := Lib.hid hg
      have en := Lib.hid (show okV (okLevelOfField v f) (v - 2 * logDb f - 17219) = 0 ∧ okC (okLevelOfField v f) = 2 by unfold okLevelOfField; rw [h0, h1]; exact ⟨rfl, rfl⟩)
      go_enter Tryd.func18, Tryd.ntmps18
      go_wp2_with fail
      refine (Span.allows1_3 v _ _ (by simp [go_sem]) (HG.out.on (by repeat (first | with_reducible exact On.refl _ | with_reducible exact On.refl _ | apply On.alloc)))).mono ?_
      rintro e w1 ⟨rfl, k1⟩
      have HO1 := Lib.hid (show On w w1 by refine On.trans ?_ k1; repeat (first | with_reducible exact On.refl _ | apply On.alloc))
      clear k1
      go_wp2_with fail
      refine (Span.allows1_0 f _ _ (by simp [go_sem]) (HG.out.on (by repeat (first | with_reducible exact On.refl _ | with_reducible exact HO1.out | apply On.alloc)))).mono ?_
      rintro e w2 ⟨rfl, k2⟩
      have HO2 := Lib.hid (show On w w2 by refine On.trans ?_ k2; repeat (first | with_reducible exact On.refl _ | with_reducible exact HO1.out | apply On.alloc))
      clear k2
      go_wp2_with fail
      go_ret2
      exact ⟨ret_ii en.out.1.symm en.out.2.symm, HO2.out⟩
    | true =>
      have HG := Lib.hid hg
      have en := Lib.hid (show okV (okLevelOfField v f) (v - 2 * logDb f - 17219) = v - 2 * logDb f - 17219 ∧ okC (okLevelOfField v f) = 0 by unfold okLevelOfField; rw [h0, h1]; exact ⟨rfl, rfl⟩)
      have b0 := of_inB h0
      obtain ⟨b00, b01⟩ := b0
      have b1 := of_inB h1
      obtain ⟨b10, b11⟩ := b1
      obtain ⟨l1, l2⟩ := logDb_bd (n := f) (by omega)
      go_enter Tryd.func18, Tryd.ntmps18
      go_wp2_with fail
      refine (Span.allows1_3 v _ _ (by simp [go_sem]) (HG.out.on (by repeat (first | with_reducible exact On.refl _ | with_reducible exact On.refl _ | apply On.alloc)))).mono ?_
      rintro e w1 ⟨rfl, k1⟩
      have HO1 := Lib.hid (show On w w1 by refine On.trans ?_ k1; repeat (first | with_reducible exact On.refl _ | apply On.alloc))
      clear k1
      go_wp2_with fail
      refine (Span.allows1_0 f _ _ (by simp [go_sem]) (HG.out.on (by repeat (first | with_reducible exact On.refl _ | with_reducible exact HO1.out | apply On.alloc)))).mono ?_
      rintro e w2 ⟨rfl, k2⟩
      have HO2 := Lib.hid (show On w w2 by refine On.trans ?_ k2; repeat (first | with_reducible exact On.refl _ | with_reducible exact HO1.out | apply On.alloc))
      clear k2
      go_wp2_with fail
      refine (square_kilohertz f _ (by omega)).mono ?_
      rintro e w9 ⟨rfl, k9⟩
      go_wp2_with fail
      go_ret2
      exact ⟨ret_ii en.out.1.symm en.out.2.symm, HO2.out.trans k9⟩
/-- FieldOfLevel. -/
def okFieldOfLevel (v f : Int) : Bool := inB v (-300000) 300000 && inB f 1 100000000
set_option maxHeartbeats 2000000 in
theorem spec_FieldOfLevel (v f : Int) (w : World) :
    Calls Tryd.prog 19 #[.int .i64 v, .int .i64 f] w fun e w' => e = .returned (.tuple #[.int .i64 (okV (okFieldOfLevel v f) (v + 2 * logDb f + 17219)), .int .i64 (okC (okFieldOfLevel v f))]) ∧ w = w' := by
  cases h0 : inB v (-300000) 300000 with
  | false =>
    have en := Lib.hid (show okV (okFieldOfLevel v f) (v + 2 * logDb f + 17219) = 0 ∧ okC (okFieldOfLevel v f) = 2 by unfold okFieldOfLevel; rw [h0]; exact ⟨rfl, rfl⟩)
    go_enter Tryd.func19, Tryd.ntmps19
    go_wp2_with (first | (go_at_call 43; refine (spec_l02Level _ _).mono ?_; rintro e w' ⟨rfl, rfl⟩) | (go_at_call 38; refine (spec_l09Frequency _ _).mono ?_; rintro e w' ⟨rfl, rfl⟩))
    go_ret2
    exact ⟨ret_ii en.out.1.symm en.out.2.symm, rfl⟩
  | true =>
    cases h1 : inB f 1 100000000 with
    | false =>
      have en := Lib.hid (show okV (okFieldOfLevel v f) (v + 2 * logDb f + 17219) = 0 ∧ okC (okFieldOfLevel v f) = 2 by unfold okFieldOfLevel; rw [h0, h1]; exact ⟨rfl, rfl⟩)
      go_enter Tryd.func19, Tryd.ntmps19
      go_wp2_with (first | (go_at_call 43; refine (spec_l02Level _ _).mono ?_; rintro e w' ⟨rfl, rfl⟩) | (go_at_call 38; refine (spec_l09Frequency _ _).mono ?_; rintro e w' ⟨rfl, rfl⟩))
      go_ret2
      exact ⟨ret_ii en.out.1.symm en.out.2.symm, rfl⟩
    | true =>
      have en := Lib.hid (show okV (okFieldOfLevel v f) (v + 2 * logDb f + 17219) = v + 2 * logDb f + 17219 ∧ okC (okFieldOfLevel v f) = 0 by unfold okFieldOfLevel; rw [h0, h1]; exact ⟨rfl, rfl⟩)
      have b0 := of_inB h0
      obtain ⟨b00, b01⟩ := b0
      have b1 := of_inB h1
      obtain ⟨b10, b11⟩ := b1
      obtain ⟨l1, l2⟩ := logDb_bd (n := f) (by omega)
      go_enter Tryd.func19, Tryd.ntmps19
      go_wp2_with (first | (go_at_call 43; refine (spec_l02Level _ _).mono ?_; rintro e w' ⟨rfl, rfl⟩) | (go_at_call 38; refine (spec_l09Frequency _ _).mono ?_; rintro e w' ⟨rfl, rfl⟩))
      refine (Log.spec_logI f _ (by omega) (by omega)).mono ?_
      rintro e w1 ⟨rfl, rfl⟩
      go_wp2_with fail
      go_ret2
      exact ⟨ret_ii en.out.1.symm en.out.2.symm, rfl⟩
set_option maxHeartbeats 2000000 in
theorem impl_FieldOfLevel (v f : Int) (w : World) (hg : SpanG w) :
    Calls Tryd.prog 20 #[.int .i64 v, .int .i64 f] w fun e w' => e = .returned (.tuple #[.int .i64 (okV (okFieldOfLevel v f) (v + 2 * logDb f + 17219)), .int .i64 (okC (okFieldOfLevel v f))]) ∧ On w w' := by
  cases h0 : inB v (-300000) 300000 with
  | false =>
    have HG := Lib.hid hg
    have en := Lib.hid (show okV (okFieldOfLevel v f) (v + 2 * logDb f + 17219) = 0 ∧ okC (okFieldOfLevel v f) = 2 by unfold okFieldOfLevel; rw [h0]; exact ⟨rfl, rfl⟩)
    go_enter Tryd.func20, Tryd.ntmps20
    go_wp2_with fail
    refine (Span.allows1_2 v _ _ (by simp [go_sem]) (HG.out.on (by repeat (first | with_reducible exact On.refl _ | with_reducible exact On.refl _ | apply On.alloc)))).mono ?_
    rintro e w1 ⟨rfl, k1⟩
    have HO1 := Lib.hid (show On w w1 by refine On.trans ?_ k1; repeat (first | with_reducible exact On.refl _ | apply On.alloc))
    clear k1
    go_wp2_with fail
    go_ret2
    exact ⟨ret_ii en.out.1.symm en.out.2.symm, HO1.out⟩
  | true =>
    cases h1 : inB f 1 100000000 with
    | false =>
      have HG := Lib.hid hg
      have en := Lib.hid (show okV (okFieldOfLevel v f) (v + 2 * logDb f + 17219) = 0 ∧ okC (okFieldOfLevel v f) = 2 by unfold okFieldOfLevel; rw [h0, h1]; exact ⟨rfl, rfl⟩)
      go_enter Tryd.func20, Tryd.ntmps20
      go_wp2_with fail
      refine (Span.allows1_2 v _ _ (by simp [go_sem]) (HG.out.on (by repeat (first | with_reducible exact On.refl _ | with_reducible exact On.refl _ | apply On.alloc)))).mono ?_
      rintro e w1 ⟨rfl, k1⟩
      have HO1 := Lib.hid (show On w w1 by refine On.trans ?_ k1; repeat (first | with_reducible exact On.refl _ | apply On.alloc))
      clear k1
      go_wp2_with fail
      refine (Span.allows1_0 f _ _ (by simp [go_sem]) (HG.out.on (by repeat (first | with_reducible exact On.refl _ | with_reducible exact HO1.out | apply On.alloc)))).mono ?_
      rintro e w2 ⟨rfl, k2⟩
      have HO2 := Lib.hid (show On w w2 by refine On.trans ?_ k2; repeat (first | with_reducible exact On.refl _ | with_reducible exact HO1.out | apply On.alloc))
      clear k2
      go_wp2_with fail
      go_ret2
      exact ⟨ret_ii en.out.1.symm en.out.2.symm, HO2.out⟩
    | true =>
      have HG := Lib.hid hg
      have en := Lib.hid (show okV (okFieldOfLevel v f) (v + 2 * logDb f + 17219) = v + 2 * logDb f + 17219 ∧ okC (okFieldOfLevel v f) = 0 by unfold okFieldOfLevel; rw [h0, h1]; exact ⟨rfl, rfl⟩)
      have b0 := of_inB h0
      obtain ⟨b00, b01⟩ := b0
      have b1 := of_inB h1
      obtain ⟨b10, b11⟩ := b1
      obtain ⟨l1, l2⟩ := logDb_bd (n := f) (by omega)
      go_enter Tryd.func20, Tryd.ntmps20
      go_wp2_with fail
      refine (Span.allows1_2 v _ _ (by simp [go_sem]) (HG.out.on (by repeat (first | with_reducible exact On.refl _ | with_reducible exact On.refl _ | apply On.alloc)))).mono ?_
      rintro e w1 ⟨rfl, k1⟩
      have HO1 := Lib.hid (show On w w1 by refine On.trans ?_ k1; repeat (first | with_reducible exact On.refl _ | apply On.alloc))
      clear k1
      go_wp2_with fail
      refine (Span.allows1_0 f _ _ (by simp [go_sem]) (HG.out.on (by repeat (first | with_reducible exact On.refl _ | with_reducible exact HO1.out | apply On.alloc)))).mono ?_
      rintro e w2 ⟨rfl, k2⟩
      have HO2 := Lib.hid (show On w w2 by refine On.trans ?_ k2; repeat (first | with_reducible exact On.refl _ | with_reducible exact HO1.out | apply On.alloc))
      clear k2
      go_wp2_with fail
      refine (square_kilohertz f _ (by omega)).mono ?_
      rintro e w9 ⟨rfl, k9⟩
      go_wp2_with fail
      go_ret2
      exact ⟨ret_ii en.out.1.symm en.out.2.symm, HO2.out.trans k9⟩
/-- WavelengthOf. -/
def okWavelengthOf (f : Int) : Bool := inB f 1 100000000
set_option maxHeartbeats 2000000 in
theorem spec_WavelengthOf (f : Int) (w : World) :
    Calls Tryd.prog 25 #[.int .i64 f] w fun e w' => e = .returned (.tuple #[.int .i64 (okV (okWavelengthOf f) (299792458 / f)), .int .i64 (okC (okWavelengthOf f))]) ∧ w = w' := by
  cases h0 : inB f 1 100000000 with
  | false =>
    have en := Lib.hid (show okV (okWavelengthOf f) (299792458 / f) = 0 ∧ okC (okWavelengthOf f) = 2 by unfold okWavelengthOf; rw [h0]; exact ⟨rfl, rfl⟩)
    go_enter Tryd.func25, Tryd.ntmps25
    go_wp2_with (go_at_call 38; refine (spec_l09Frequency _ _).mono ?_; rintro e w' ⟨rfl, rfl⟩)
    go_ret2
    exact ⟨ret_ii en.out.1.symm en.out.2.symm, rfl⟩
  | true =>
    have en := Lib.hid (show okV (okWavelengthOf f) (299792458 / f) = 299792458 / f ∧ okC (okWavelengthOf f) = 0 by unfold okWavelengthOf; rw [h0]; exact ⟨rfl, rfl⟩)
    have b0 := of_inB h0
    obtain ⟨b00, b01⟩ := b0
    have q3 : 0 ≤ 299792458 / f := Int.ediv_nonneg (by omega) (by omega)
    have q4 := Int.ediv_le_self (a := 299792458) f (by omega)
    go_enter Tryd.func25, Tryd.ntmps25
    go_wp2_with (go_at_call 38; refine (spec_l09Frequency _ _).mono ?_; rintro e w' ⟨rfl, rfl⟩)
    go_ret2
    exact ⟨ret_ii en.out.1.symm en.out.2.symm, rfl⟩
set_option maxHeartbeats 2000000 in
theorem impl_WavelengthOf (f : Int) (w : World) (hg : SpanG w) :
    Calls Tryd.prog 26 #[.int .i64 f] w fun e w' => e = .returned (.tuple #[.int .i64 (okV (okWavelengthOf f) (299792458 / f)), .int .i64 (okC (okWavelengthOf f))]) ∧ On w w' := by
  cases h0 : inB f 1 100000000 with
  | false =>
    have HG := Lib.hid hg
    have en := Lib.hid (show okV (okWavelengthOf f) (299792458 / f) = 0 ∧ okC (okWavelengthOf f) = 2 by unfold okWavelengthOf; rw [h0]; exact ⟨rfl, rfl⟩)
    go_enter Tryd.func26, Tryd.ntmps26
    go_wp2_with fail
    refine (Span.allows1_0 f _ _ (by simp [go_sem]) (HG.out.on (by repeat (first | with_reducible exact On.refl _ | with_reducible exact On.refl _ | apply On.alloc)))).mono ?_
    rintro e w1 ⟨rfl, k1⟩
    have HO1 := Lib.hid (show On w w1 by refine On.trans ?_ k1; repeat (first | with_reducible exact On.refl _ | apply On.alloc))
    clear k1
    go_wp2_with fail
    go_ret2
    exact ⟨ret_ii en.out.1.symm en.out.2.symm, HO1.out⟩
  | true =>
    have HG := Lib.hid hg
    have en := Lib.hid (show okV (okWavelengthOf f) (299792458 / f) = 299792458 / f ∧ okC (okWavelengthOf f) = 0 by unfold okWavelengthOf; rw [h0]; exact ⟨rfl, rfl⟩)
    have b0 := of_inB h0
    obtain ⟨b00, b01⟩ := b0
    have q3 : 0 ≤ 299792458 / f := Int.ediv_nonneg (by omega) (by omega)
    have q4 := Int.ediv_le_self (a := 299792458) f (by omega)
    go_enter Tryd.func26, Tryd.ntmps26
    go_wp2_with fail
    refine (Span.allows1_0 f _ _ (by simp [go_sem]) (HG.out.on (by repeat (first | with_reducible exact On.refl _ | with_reducible exact On.refl _ | apply On.alloc)))).mono ?_
    rintro e w1 ⟨rfl, k1⟩
    have HO1 := Lib.hid (show On w w1 by refine On.trans ?_ k1; repeat (first | with_reducible exact On.refl _ | apply On.alloc))
    clear k1
    go_wp2_with fail
    go_ret2
    exact ⟨ret_ii en.out.1.symm en.out.2.symm, HO1.out⟩
/-- FarDistance. -/
def okFarDistance (f z : Int) : Bool := inB f 1 100000000 && inB z 1 100000
set_option maxHeartbeats 2000000 in
theorem spec_FarDistance (f z : Int) (w : World) :
    Calls Tryd.prog 27 #[.int .i64 f, .int .i64 z] w fun e w' => e = .returned (.tuple #[.int .i64 (okV (okFarDistance f z) (2 * z * z * f / 299792458)), .int .i64 (okC (okFarDistance f z))]) ∧ w = w' := by
  cases h0 : inB f 1 100000000 with
  | false =>
    have en := Lib.hid (show okV (okFarDistance f z) (2 * z * z * f / 299792458) = 0 ∧ okC (okFarDistance f z) = 2 by unfold okFarDistance; rw [h0]; exact ⟨rfl, rfl⟩)
    go_enter Tryd.func27, Tryd.ntmps27
    go_wp2_with (first | (go_at_call 48; refine (Arith.l00In _ _ _ _).mono ?_; rintro e w' ⟨rfl, rfl⟩) | (go_at_call 38; refine (spec_l09Frequency _ _).mono ?_; rintro e w' ⟨rfl, rfl⟩))
    go_ret2
    exact ⟨ret_ii en.out.1.symm en.out.2.symm, rfl⟩
  | true =>
    cases h1 : inB z 1 100000 with
    | false =>
      have en := Lib.hid (show okV (okFarDistance f z) (2 * z * z * f / 299792458) = 0 ∧ okC (okFarDistance f z) = 2 by unfold okFarDistance; rw [h0, h1]; exact ⟨rfl, rfl⟩)
      go_enter Tryd.func27, Tryd.ntmps27
      go_wp2_with (first | (go_at_call 48; refine (Arith.l00In _ _ _ _).mono ?_; rintro e w' ⟨rfl, rfl⟩) | (go_at_call 38; refine (spec_l09Frequency _ _).mono ?_; rintro e w' ⟨rfl, rfl⟩))
      go_ret2
      exact ⟨ret_ii en.out.1.symm en.out.2.symm, rfl⟩
    | true =>
      have en := Lib.hid (show okV (okFarDistance f z) (2 * z * z * f / 299792458) = 2 * z * z * f / 299792458 ∧ okC (okFarDistance f z) = 0 by unfold okFarDistance; rw [h0, h1]; exact ⟨rfl, rfl⟩)
      have b0 := of_inB h0
      obtain ⟨b00, b01⟩ := b0
      have b1 := of_inB h1
      obtain ⟨b10, b11⟩ := b1
      have q1 : 2 * z * z * f ≤ 2000000000000000000 := far_bd b10 b11 b00 b01
      have q0 : 0 ≤ 2 * z * z * f := Int.mul_nonneg (Int.mul_nonneg (by omega) (by omega)) (by omega)
      have q2 : 0 ≤ 2 * z * z ∧ 2 * z * z ≤ 20000000000 := far_sq b10 b11
      have q3 : 0 ≤ 2 * z * z * f / 299792458 := Int.ediv_nonneg q0 (by omega)
      have q4 := Int.ediv_le_self 299792458 q0
      go_enter Tryd.func27, Tryd.ntmps27
      go_wp2_with (first | (go_at_call 48; refine (Arith.l00In _ _ _ _).mono ?_; rintro e w' ⟨rfl, rfl⟩) | (go_at_call 38; refine (spec_l09Frequency _ _).mono ?_; rintro e w' ⟨rfl, rfl⟩))
      go_ret2
      exact ⟨ret_ii en.out.1.symm en.out.2.symm, rfl⟩
set_option maxHeartbeats 2000000 in
theorem impl_FarDistance (f z : Int) (w : World) (hg : SpanG w) :
    Calls Tryd.prog 28 #[.int .i64 f, .int .i64 z] w fun e w' => e = .returned (.tuple #[.int .i64 (okV (okFarDistance f z) (2 * z * z * f / 299792458)), .int .i64 (okC (okFarDistance f z))]) ∧ On w w' := by
  cases h0 : inB f 1 100000000 with
  | false =>
    have HG := Lib.hid hg
    have en := Lib.hid (show okV (okFarDistance f z) (2 * z * z * f / 299792458) = 0 ∧ okC (okFarDistance f z) = 2 by unfold okFarDistance; rw [h0]; exact ⟨rfl, rfl⟩)
    go_enter Tryd.func28, Tryd.ntmps28
    go_wp2_with fail
    refine (Span.allows1_0 f _ _ (by simp [go_sem]) (HG.out.on (by repeat (first | with_reducible exact On.refl _ | with_reducible exact On.refl _ | apply On.alloc)))).mono ?_
    rintro e w1 ⟨rfl, k1⟩
    have HO1 := Lib.hid (show On w w1 by refine On.trans ?_ k1; repeat (first | with_reducible exact On.refl _ | apply On.alloc))
    clear k1
    go_wp2_with fail
    go_ret2
    exact ⟨ret_ii en.out.1.symm en.out.2.symm, HO1.out⟩
  | true =>
    cases h1 : inB z 1 100000 with
    | false =>
      have HG := Lib.hid hg
      have en := Lib.hid (show okV (okFarDistance f z) (2 * z * z * f / 299792458) = 0 ∧ okC (okFarDistance f z) = 2 by unfold okFarDistance; rw [h0, h1]; exact ⟨rfl, rfl⟩)
      go_enter Tryd.func28, Tryd.ntmps28
      go_wp2_with fail
      refine (Span.allows1_0 f _ _ (by simp [go_sem]) (HG.out.on (by repeat (first | with_reducible exact On.refl _ | with_reducible exact On.refl _ | apply On.alloc)))).mono ?_
      rintro e w1 ⟨rfl, k1⟩
      have HO1 := Lib.hid (show On w w1 by refine On.trans ?_ k1; repeat (first | with_reducible exact On.refl _ | apply On.alloc))
      clear k1
      go_wp2_with fail
      refine (Span.allows1_5 z _ _ (by simp [go_sem]) (HG.out.on (by repeat (first | with_reducible exact On.refl _ | with_reducible exact HO1.out | apply On.alloc)))).mono ?_
      rintro e w2 ⟨rfl, k2⟩
      have HO2 := Lib.hid (show On w w2 by refine On.trans ?_ k2; repeat (first | with_reducible exact On.refl _ | with_reducible exact HO1.out | apply On.alloc))
      clear k2
      go_wp2_with fail
      go_ret2
      exact ⟨ret_ii en.out.1.symm en.out.2.symm, HO2.out⟩
    | true =>
      have HG := Lib.hid hg
      have en := Lib.hid (show okV (okFarDistance f z) (2 * z * z * f / 299792458) = 2 * z * z * f / 299792458 ∧ okC (okFarDistance f z) = 0 by unfold okFarDistance; rw [h0, h1]; exact ⟨rfl, rfl⟩)
      have b0 := of_inB h0
      obtain ⟨b00, b01⟩ := b0
      have b1 := of_inB h1
      obtain ⟨b10, b11⟩ := b1
      have q1 : 2 * z * z * f ≤ 2000000000000000000 := far_bd b10 b11 b00 b01
      have q0 : 0 ≤ 2 * z * z * f := Int.mul_nonneg (Int.mul_nonneg (by omega) (by omega)) (by omega)
      have q2 : 0 ≤ 2 * z * z ∧ 2 * z * z ≤ 20000000000 := far_sq b10 b11
      have q3 : 0 ≤ 2 * z * z * f / 299792458 := Int.ediv_nonneg q0 (by omega)
      have q4 := Int.ediv_le_self 299792458 q0
      go_enter Tryd.func28, Tryd.ntmps28
      go_wp2_with fail
      refine (Span.allows1_0 f _ _ (by simp [go_sem]) (HG.out.on (by repeat (first | with_reducible exact On.refl _ | with_reducible exact On.refl _ | apply On.alloc)))).mono ?_
      rintro e w1 ⟨rfl, k1⟩
      have HO1 := Lib.hid (show On w w1 by refine On.trans ?_ k1; repeat (first | with_reducible exact On.refl _ | apply On.alloc))
      clear k1
      go_wp2_with fail
      refine (Span.allows1_5 z _ _ (by simp [go_sem]) (HG.out.on (by repeat (first | with_reducible exact On.refl _ | with_reducible exact HO1.out | apply On.alloc)))).mono ?_
      rintro e w2 ⟨rfl, k2⟩
      have HO2 := Lib.hid (show On w w2 by refine On.trans ?_ k2; repeat (first | with_reducible exact On.refl _ | with_reducible exact HO1.out | apply On.alloc))
      clear k2
      go_wp2_with fail
      go_ret2
      exact ⟨ret_ii en.out.1.symm en.out.2.symm, HO2.out⟩
end Go.Proofs.YtnbkdekndflefaaDoor.Free
