
/-
  What the texts of levels of the model and of the program are. Condition: the library's table of powers of ten holds what its text lays.
-/
import Derived.Test.YthfgejgcmbejjabDoorProg
import Derived.Test.YthfgejgcmbejjabDoorArith
import Derived.Test.YthfgejgcmbejjabDoorDec
import Derived.WalkKit
import Derived.Lib.Hide
import Derived.Below
import Derived.Deep.RegionWith
namespace Go.Proofs.YthfgejgcmbejjabDoor.DbText
open Go.RowKit
open Plain
open Arith (ret_bool)

/-- The text of a level: the sign, the integral part, a point, three digits. -/
def dbT (neg : Bool) (a : Int) : ByteArray :=
  (if neg then ⟨#[45]⟩ else ⟨#[]⟩) ++ ⟨(Lib.itoa (a / 1000)).toArray⟩ ++ ⟨#[46]⟩ ++ (⟨(Lib.itoa (1000 + a % 1000)).toArray⟩ : ByteArray).extract 1 (⟨(Lib.itoa (1000 + a % 1000)).toArray⟩ : ByteArray).size
theorem seq {w w1 wa w2 wz : World} (h1 : Below w.heap.size w w1) (ha : Below w1.heap.size w1 wa) (h2 : Below wa.heap.size wa w2) (hz : Below w.heap.size w2 wz) : Below w.heap.size w wz :=
  h1.trans ((ha.mono h1.size).trans ((h2.mono (Nat.le_trans h1.size ha.size)).trans hz))
theorem ret_str {a b : ByteArray} (h : a = b) : Ending.returned (.string a) = .returned (.string b) := by rw [h]

set_option maxHeartbeats 800000 in
theorem spec_text_plus (a : Int) (w : World) (h0 : 0 ≤ a) (h1 : a ≤ 300000) :
    Calls Tryd.prog 10 #[.int .i64 a] w fun e w' => e = .returned (.string (dbT false a)) ∧ Below w.heap.size w w' := by
  obtain ⟨x, hx⟩ : ∃ x : ByteArray, x = ⟨(Lib.itoa (a / 1000)).toArray⟩ := ⟨_, rfl⟩
  obtain ⟨y, hy⟩ : ∃ y : ByteArray, y = ⟨(Lib.itoa (1000 + a % 1000)).toArray⟩ := ⟨_, rfl⟩
  have l1 := itoa_len (1000 + a % 1000) (by omega) (by omega)
  have l2 := itoa_len (a / 1000) (by omega) (by omega)
  have hys : 1 ≤ y.size := by rw [hy]; simpa [ByteArray.size] using l1.1
  have hys2 : y.size ≤ 20 := by rw [hy]; simpa [ByteArray.size] using l1.2
  have hxs : x.size ≤ 20 := by rw [hx]; simpa [ByteArray.size] using l2.2
  have HR := Lib.hid (show (⟨#[]⟩ : ByteArray) ++ x ++ ⟨#[46]⟩ ++ y.extract 1 y.size = dbT false a by rw [hx, hy]; rfl)
  have HX := Lib.hid hx
  have HY := Lib.hid hy
  clear hx hy l1 l2
  have hnn : - -a = a := Int.neg_neg a
  go_enter Tryd.func10, Tryd.ntmps10
  go_wp2_with fail
  refine (Dec.spec_dec (1000 + a % 1000) _ (by omega) (by omega)).mono ?_
  rintro e w1 ⟨rfl, hb⟩
  rw [← HY.out]
  have HB := Lib.hid hb
  clear hb
  go_wp2_with fail
  have q1 : a.tdiv 1000 = a / 1000 := Int.tdiv_eq_ediv_of_nonneg (by omega)
  have q2 : IntKind.i64.wrap (a / 1000) = a / 1000 := IntWalk.i64_in _ (by omega)
  have q3 : IntKind.i64.wrap (a.tdiv 1000) = a / 1000 := by rw [q1, q2]
  go_region_with (go_at_call 18; ((with_reducible refine (Dec.spec_dec (a / 1000) _ (by omega) (by omega)).mono ?_); rintro e w2 ⟨rfl, hb2⟩; rw [← HX.out]))
  all_goals
    go_wp2_with fail
    go_ret
    exact ⟨ret_str HR.out, seq HB.out (by repeat (first | exact Below.refl _ _ | apply Below.drew)) hb2 (by repeat (first | exact Below.refl _ _ | apply Below.drew))⟩

set_option maxHeartbeats 800000 in
theorem spec_text_minus (a : Int) (w : World) (h0 : 0 < a) (h1 : a ≤ 300000) :
    Calls Tryd.prog 10 #[.int .i64 (-a)] w fun e w' => e = .returned (.string (dbT true a)) ∧ Below w.heap.size w w' := by
  obtain ⟨x, hx⟩ : ∃ x : ByteArray, x = ⟨(Lib.itoa (a / 1000)).toArray⟩ := ⟨_, rfl⟩
  obtain ⟨y, hy⟩ : ∃ y : ByteArray, y = ⟨(Lib.itoa (1000 + a % 1000)).toArray⟩ := ⟨_, rfl⟩
  have l1 := itoa_len (1000 + a % 1000) (by omega) (by omega)
  have l2 := itoa_len (a / 1000) (by omega) (by omega)
  have hys : 1 ≤ y.size := by rw [hy]; simpa [ByteArray.size] using l1.1
  have hys2 : y.size ≤ 20 := by rw [hy]; simpa [ByteArray.size] using l1.2
  have hxs : x.size ≤ 20 := by rw [hx]; simpa [ByteArray.size] using l2.2
  have HR := Lib.hid (show (⟨#[45]⟩ : ByteArray) ++ x ++ ⟨#[46]⟩ ++ y.extract 1 y.size = dbT true a by rw [hx, hy]; rfl)
  have HX := Lib.hid hx
  have HY := Lib.hid hy
  clear hx hy l1 l2
  have hnn : - -a = a := Int.neg_neg a
  go_enter Tryd.func10, Tryd.ntmps10
  go_wp2_with fail
  refine (Dec.spec_dec (1000 + a % 1000) _ (by omega) (by omega)).mono ?_
  rintro e w1 ⟨rfl, hb⟩
  rw [← HY.out]
  have HB := Lib.hid hb
  clear hb
  go_wp2_with fail
  have q1 : a.tdiv 1000 = a / 1000 := Int.tdiv_eq_ediv_of_nonneg (by omega)
  have q2 : IntKind.i64.wrap (a / 1000) = a / 1000 := IntWalk.i64_in _ (by omega)
  have q3 : IntKind.i64.wrap (a.tdiv 1000) = a / 1000 := by rw [q1, q2]
  go_region_with (go_at_call 18; ((with_reducible refine (Dec.spec_dec (a / 1000) _ (by omega) (by omega)).mono ?_); rintro e w2 ⟨rfl, hb2⟩; rw [← HX.out]))
  all_goals
    go_wp2_with fail
    go_ret
    exact ⟨ret_str HR.out, seq HB.out (by repeat (first | exact Below.refl _ _ | apply Below.drew)) hb2 (by repeat (first | exact Below.refl _ _ | apply Below.drew))⟩

set_option maxHeartbeats 800000 in
theorem impl_text_plus (a : Int) (w : World) (h0 : 0 ≤ a) (h1 : a ≤ 300000) (ht : Lib.TabBelow Tryd.prog w.heap.size w "internal/strconv.uint64pow10" .u64 Lib.pow10Tab) :
    Calls Tryd.prog 12 #[.int .i64 a] w fun e w' => e = .returned (.string (dbT false a)) ∧ Below w.heap.size w w' := by
  obtain ⟨x, hx⟩ : ∃ x : ByteArray, x = ⟨(Lib.itoa (a / 1000)).toArray⟩ := ⟨_, rfl⟩
  obtain ⟨y, hy⟩ : ∃ y : ByteArray, y = ⟨(Lib.itoa (1000 + a % 1000)).toArray⟩ := ⟨_, rfl⟩
  have l1 := itoa_len (1000 + a % 1000) (by omega) (by omega)
  have l2 := itoa_len (a / 1000) (by omega) (by omega)
  have hys : 1 ≤ y.size := by rw [hy]; simpa [ByteArray.size] using l1.1
  have hys2 : y.size ≤ 20 := by rw [hy]; simpa [ByteArray.size] using l1.2
  have hxs : x.size ≤ 20 := by rw [hx]; simpa [ByteArray.size] using l2.2
  have HR := Lib.hid (show (⟨#[]⟩ : ByteArray) ++ x ++ ⟨#[46]⟩ ++ y.extract 1 y.size = dbT false a by rw [hx, hy]; rfl)
  have HX := Lib.hid hx
  have HY := Lib.hid hy
  have HT := Lib.hid ht
  clear ht
  clear hx hy l1 l2
  have hnn : - -a = a := Int.neg_neg a
  go_enter Tryd.func12, Tryd.ntmps12
  go_wp2_with fail
  refine (Dec.impl_decimal (1000 + a % 1000) _ (by omega) (by omega) HT.out.here).mono ?_
  rintro e w1 ⟨rfl, hb⟩
  rw [← HY.out]
  have HB := Lib.hid hb
  have HT2 := Lib.hid (HT.out _ hb)
  clear hb
  go_wp2_with fail
  have q1 : a.tdiv 1000 = a / 1000 := Int.tdiv_eq_ediv_of_nonneg (by omega)
  have q2 : IntKind.i64.wrap (a / 1000) = a / 1000 := IntWalk.i64_in _ (by omega)
  have q3 : IntKind.i64.wrap (a.tdiv 1000) = a / 1000 := by rw [q1, q2]
  go_region_with (go_at_call 20; (refine (Dec.impl_decimal (a / 1000) _ (by omega) (by omega) (by exact HT2.out)).mono ?_; rintro e w2 ⟨rfl, hb2⟩; rw [← HX.out]))
  all_goals
    go_wp2_with fail
    go_ret
    exact ⟨ret_str HR.out, seq HB.out (by repeat (first | exact Below.refl _ _ | apply Below.drew)) hb2 (by repeat (first | exact Below.refl _ _ | apply Below.drew))⟩

set_option maxHeartbeats 800000 in
theorem impl_text_minus (a : Int) (w : World) (h0 : 0 < a) (h1 : a ≤ 300000) (ht : Lib.TabBelow Tryd.prog w.heap.size w "internal/strconv.uint64pow10" .u64 Lib.pow10Tab) :
    Calls Tryd.prog 12 #[.int .i64 (-a)] w fun e w' => e = .returned (.string (dbT true a)) ∧ Below w.heap.size w w' := by
  obtain ⟨x, hx⟩ : ∃ x : ByteArray, x = ⟨(Lib.itoa (a / 1000)).toArray⟩ := ⟨_, rfl⟩
  obtain ⟨y, hy⟩ : ∃ y : ByteArray, y = ⟨(Lib.itoa (1000 + a % 1000)).toArray⟩ := ⟨_, rfl⟩
  have l1 := itoa_len (1000 + a % 1000) (by omega) (by omega)
  have l2 := itoa_len (a / 1000) (by omega) (by omega)
  have hys : 1 ≤ y.size := by rw [hy]; simpa [ByteArray.size] using l1.1
  have hys2 : y.size ≤ 20 := by rw [hy]; simpa [ByteArray.size] using l1.2
  have hxs : x.size ≤ 20 := by rw [hx]; simpa [ByteArray.size] using l2.2
  have HR := Lib.hid (show (⟨#[45]⟩ : ByteArray) ++ x ++ ⟨#[46]⟩ ++ y.extract 1 y.size = dbT true a by rw [hx, hy]; rfl)
  have HX := Lib.hid hx
  have HY := Lib.hid hy
  have HT := Lib.hid ht
  clear ht
  clear hx hy l1 l2
  have hnn : - -a = a := Int.neg_neg a
  go_enter Tryd.func12, Tryd.ntmps12
  go_wp2_with fail
  refine (Dec.impl_decimal (1000 + a % 1000) _ (by omega) (by omega) HT.out.here).mono ?_
  rintro e w1 ⟨rfl, hb⟩
  rw [← HY.out]
  have HB := Lib.hid hb
  have HT2 := Lib.hid (HT.out _ hb)
  clear hb
  go_wp2_with fail
  have q1 : a.tdiv 1000 = a / 1000 := Int.tdiv_eq_ediv_of_nonneg (by omega)
  have q2 : IntKind.i64.wrap (a / 1000) = a / 1000 := IntWalk.i64_in _ (by omega)
  have q3 : IntKind.i64.wrap (a.tdiv 1000) = a / 1000 := by rw [q1, q2]
  go_region_with (go_at_call 20; (refine (Dec.impl_decimal (a / 1000) _ (by omega) (by omega) (by exact HT2.out)).mono ?_; rintro e w2 ⟨rfl, hb2⟩; rw [← HX.out]))
  all_goals
    go_wp2_with fail
    go_ret
    exact ⟨ret_str HR.out, seq HB.out (by repeat (first | exact Below.refl _ _ | apply Below.drew)) hb2 (by repeat (first | exact Below.refl _ _ | apply Below.drew))⟩

theorem spec_level (v : Int) (w : World) :
    Calls Tryd.prog 9 #[.int .i64 v] w fun e w' => e = .returned (.bool (inB v (-300000) 300000)) ∧ w = w' := by
  go_enter Tryd.func9, Tryd.ntmps9
  go_wp2_with (go_at_call 17; refine (Arith.l00In _ _ _ _).mono ?_; rintro e w' ⟨rfl, rfl⟩)
  go_ret
  exact ⟨rfl, rfl⟩

theorem impl_level (v : Int) (w : World) :
    Calls Tryd.prog 11 #[.int .i64 v] w fun e w' => e = .returned (.bool (inB v (-300000) 300000)) ∧ w = w' := by
  go_enter Tryd.func11, Tryd.ntmps11
  go_wp2_with (go_at_call 19; refine (Arith.within _ _ _ _).mono ?_; rintro e w' ⟨rfl, rfl⟩)
  go_ret
  exact ⟨rfl, rfl⟩

/-- What DbText returns. -/
def dbText (v : Int) : ByteArray := if inB v (-300000) 300000 = true then (if v < 0 then dbT true (-v) else dbT false v) else ⟨#[]⟩
theorem spec_text (v : Int) (w : World) (h0 : -300000 ≤ v) (h1 : v ≤ 300000) :
    Calls Tryd.prog 10 #[.int .i64 v] w fun e w' => e = .returned (.string (dbText v)) ∧ Below w.heap.size w w' := by
  unfold dbText
  rw [if_pos (inB_yes h0 h1)]
  by_cases h : v < 0
  · rw [if_pos h]
    have := spec_text_minus (-v) w (by omega) (by omega)
    rw [Int.neg_neg] at this
    exact this
  · rw [if_neg h]; exact spec_text_plus v w (by omega) h1
theorem impl_text (v : Int) (w : World) (h0 : -300000 ≤ v) (h1 : v ≤ 300000) (ht : Lib.TabBelow Tryd.prog w.heap.size w "internal/strconv.uint64pow10" .u64 Lib.pow10Tab) :
    Calls Tryd.prog 12 #[.int .i64 v] w fun e w' => e = .returned (.string (dbText v)) ∧ Below w.heap.size w w' := by
  unfold dbText
  rw [if_pos (inB_yes h0 h1)]
  by_cases h : v < 0
  · rw [if_pos h]
    have := impl_text_minus (-v) w (by omega) (by omega) ht
    rw [Int.neg_neg] at this
    exact this
  · rw [if_neg h]; exact impl_text_plus v w (by omega) h1 ht
theorem spec_dbText (v : Int) (w : World) :
    Calls Tryd.prog 5 #[.int .i64 v] w fun e w' => e = .returned (.string (dbText v)) ∧ Below w.heap.size w w' := by
  cases h : inB v (-300000) 300000 with
  | true =>
    have hb := Lib.hid (of_inB h)
    go_enter Tryd.func5, Tryd.ntmps5
    go_wp2_with fail
    refine (spec_level _ _).mono ?_
    rintro e w' ⟨rfl, rfl⟩
    go_wp2_with fail
    refine (spec_text v _ hb.out.1 hb.out.2).mono ?_
    rintro e w1 ⟨rfl, hb1⟩
    go_wp2_with fail
    go_ret
    exact ⟨rfl, hb1⟩
  | false =>
    have en := Lib.hid (show dbText v = ⟨#[]⟩ from if_neg (by rw [h]; simp))
    go_enter Tryd.func5, Tryd.ntmps5
    go_wp2_with fail
    refine (spec_level _ _).mono ?_
    rintro e w' ⟨rfl, rfl⟩
    go_wp2_with fail
    go_ret
    exact ⟨by rw [en.out]; rfl, Below.refl _ _⟩
theorem impl_dbText (v : Int) (w : World) (ht : Lib.TabBelow Tryd.prog w.heap.size w "internal/strconv.uint64pow10" .u64 Lib.pow10Tab) :
    Calls Tryd.prog 6 #[.int .i64 v] w fun e w' => e = .returned (.string (dbText v)) ∧ Below w.heap.size w w' := by
  have HT := Lib.hid ht
  clear ht
  cases h : inB v (-300000) 300000 with
  | true =>
    have hb := Lib.hid (of_inB h)
    go_enter Tryd.func6, Tryd.ntmps6
    go_wp2_with fail
    refine (impl_level _ _).mono ?_
    rintro e w' ⟨rfl, rfl⟩
    go_wp2_with fail
    refine (impl_text v _ hb.out.1 hb.out.2 HT.out).mono ?_
    rintro e w1 ⟨rfl, hb1⟩
    go_wp2_with fail
    go_ret
    exact ⟨rfl, hb1⟩
  | false =>
    have en := Lib.hid (show dbText v = ⟨#[]⟩ from if_neg (by rw [h]; simp))
    go_enter Tryd.func6, Tryd.ntmps6
    go_wp2_with fail
    refine (impl_level _ _).mono ?_
    rintro e w' ⟨rfl, rfl⟩
    go_wp2_with fail
    go_ret
    exact ⟨by rw [en.out]; rfl, Below.refl _ _⟩
end Go.Proofs.YthfgejgcmbejjabDoor.DbText
