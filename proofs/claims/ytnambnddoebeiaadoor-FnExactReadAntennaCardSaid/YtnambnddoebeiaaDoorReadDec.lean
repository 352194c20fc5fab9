
/-
  What ReadDecimal of the program returns. Condition: a text of at most 1048576 bytes; the library's table and errors hold what its text lays.
-/
import Derived.Test.YtnambnddoebeiaaDoorProg
import Derived.Test.YtnambnddoebeiaaDoorShelfNum
import Derived.Test.YtnambnddoebeiaaDoorTabs
import Derived.Test.YtnambnddoebeiaaDoorDec
import Derived.Test.YtnambnddoebeiaaDoorNum
import Derived.WalkKit
import Derived.Lib.Hide
import Derived.Below
namespace Go.Proofs.YtnambnddoebeiaaDoor.ReadDec
open Go.RowKit
open Plain
open Num (len_data ret_two)

theorem parse_ok (s : ByteArray) (v : Int) (w : World) (hs : s.size ≤ 1048576) (h : Lib.parseIntB 64 s.data.toList = .ok v) :
    Calls Tryd.prog 39 #[.string s, .int .i64 10, .int .i64 64] w fun e w' => e = .returned (.tuple #[.int .i64 v, .nilIface]) ∧ Below w.heap.size w w' :=
  (Tryd.strconv_ParseInt_10_at64_ok s (by omega) v h w).mono fun e w' ⟨he, hw⟩ => ⟨he, by
    rcases hw with rfl | ⟨t, rfl⟩
    · exact Below.refl _ _
    · exact Lib.bytesWorld_below _ _ _⟩
theorem parse_bad (s : ByteArray) (w : World) (hs : s.size ≤ 1048576) (h : ∀ v, Lib.parseIntB 64 s.data.toList ≠ .ok v) (hw : Tabs.Sent w) :
    Calls Tryd.prog 39 #[.string s, .int .i64 10, .int .i64 64] w fun e w' => ∃ x N, e = .returned (.tuple #[.int .i64 x, .iface 104 (.pointer (some ⟨N, 0, none⟩))]) ∧ Below w.heap.size w w' := by
  obtain ⟨⟨t1, p1, h1⟩, t2, p2, h2⟩ := hw
  cases hx : Lib.parseIntB 64 s.data.toList
  · exact absurd hx (h _)
  · exact (Any.strconv_ParseInt_10_at64_syntax Tryd.laysC174 s (by omega) hx _ w h1 (.inr ⟨_, _, rfl⟩)).mono fun e w' ⟨N, he, _, _, hb⟩ => ⟨_, N, he, hb⟩
  · exact (Any.strconv_ParseInt_10_at64_range Tryd.laysC174 s (by omega) hx _ w h2 (.inr ⟨_, _, rfl⟩)).mono fun e w' ⟨N, he, _, _, hb⟩ => ⟨_, N, he, hb⟩

theorem back (s : ByteArray) : (⟨s.data.toList.toArray⟩ : ByteArray) = s := rfl
theorem str_ne {x s : ByteArray} (h : x ≠ s) : (!x.toList == s.toList) = true := by
  rw [ByteArray.toList_eq, ByteArray.toList_eq]
  have : ¬ x.data.toList = s.data.toList := fun hc => h (by cases x; cases s; congr 1; exact Array.toList_inj.1 hc)
  simpa using this
theorem impl_yes (s : ByteArray) (v : Int) (w : World) (hs : s.size ≤ 1048576) (h : num s.data.toList = some v) (ht : Lib.TabBelow Tryd.prog w.heap.size w "internal/strconv.uint64pow10" .u64 Lib.pow10Tab) :
    Calls Tryd.prog 20 #[.string s] w fun e w' => e = .returned (.tuple #[.int .i64 (numV s.data.toList), .bool (numB s.data.toList)]) ∧ Below w.heap.size w w' := by
  have en := Lib.hid (num_yes h)
  have hp := Lib.hid (parse_of_num h)
  obtain ⟨hi, h1, h2⟩ := itoa_of_num h
  have hi' := Lib.hid (show (⟨(Lib.itoa v).toArray⟩ : ByteArray) = s from (congrArg (fun l : List UInt8 => (⟨l.toArray⟩ : ByteArray)) hi).trans (back s))
  have HT := Lib.hid ht
  clear ht h hi
  go_enter Tryd.func20, Tryd.ntmps20
  go_wp2_with fail
  refine (parse_ok s v _ hs hp.out).mono ?_
  rintro e w1 ⟨rfl, hb⟩
  have HB := Lib.hid hb
  clear hb
  go_wp2_with fail
  refine (Dec.impl_decimal v _ (by omega) (by omega) (HT.out _ HB.out)).mono ?_
  rintro e w2 ⟨rfl, hb⟩
  rw [hi'.out]
  have HB2 := Lib.hid hb
  clear hb
  go_wp2_with fail
  go_ret2
  exact ⟨ret_two en.out.1.symm en.out.2.symm, HB.out.trans (HB2.out.mono HB.out.size)⟩
theorem impl_bad (s : ByteArray) (w : World) (hs : s.size ≤ 1048576) (h : num s.data.toList = none) (hx : ∀ v, Lib.parseIntB 64 s.data.toList ≠ .ok v) (hw : Tabs.Sent w) :
    Calls Tryd.prog 20 #[.string s] w fun e w' => e = .returned (.tuple #[.int .i64 (numV s.data.toList), .bool (numB s.data.toList)]) ∧ Below w.heap.size w w' := by
  have en := Lib.hid (num_no h)
  have HX := Lib.hid hx
  have HW := Lib.hid hw
  clear hx hw h
  go_enter Tryd.func20, Tryd.ntmps20
  go_wp2_with fail
  refine (parse_bad s _ hs HX.out HW.out).mono ?_
  rintro e w1 ⟨x, N, rfl, hb⟩
  have HB := Lib.hid hb
  clear hb
  go_wp2_with fail
  go_ret2
  exact ⟨ret_two en.out.1.symm en.out.2.symm, HB.out⟩
theorem impl_far (s : ByteArray) (v : Int) (w : World) (hs : s.size ≤ 1048576) (h : num s.data.toList = none) (hp : Lib.parseIntB 64 s.data.toList = .ok v) (hv : v ≤ -1000000000000000000 ∨ 1000000000000000000 ≤ v) :
    Calls Tryd.prog 20 #[.string s] w fun e w' => e = .returned (.tuple #[.int .i64 (numV s.data.toList), .bool (numB s.data.toList)]) ∧ Below w.heap.size w w' := by
  have en := Lib.hid (num_no h)
  have HP := Lib.hid hp
  clear hp h
  by_cases h1 : v ≤ -1000000000000000000
  · clear hv
    go_enter Tryd.func20, Tryd.ntmps20
    go_wp2_with fail
    refine (parse_ok s v _ hs HP.out).mono ?_
    rintro e w1 ⟨rfl, hb⟩
    have HB := Lib.hid hb
    clear hb
    go_wp2_with fail
    go_ret2
    exact ⟨ret_two en.out.1.symm en.out.2.symm, HB.out⟩
  · have h2 : 1000000000000000000 ≤ v := by omega
    clear hv
    go_enter Tryd.func20, Tryd.ntmps20
    go_wp2_with fail
    refine (parse_ok s v _ hs HP.out).mono ?_
    rintro e w1 ⟨rfl, hb⟩
    have HB := Lib.hid hb
    clear hb
    go_wp2_with fail
    go_ret2
    exact ⟨ret_two en.out.1.symm en.out.2.symm, HB.out⟩
theorem impl_other (s : ByteArray) (v : Int) (w : World) (hs : s.size ≤ 1048576) (h : num s.data.toList = none) (hp : Lib.parseIntB 64 s.data.toList = .ok v) (h1 : -1000000000000000000 < v) (h2 : v < 1000000000000000000) (hne : (⟨(Lib.itoa v).toArray⟩ : ByteArray) ≠ s) (ht : Lib.TabBelow Tryd.prog w.heap.size w "internal/strconv.uint64pow10" .u64 Lib.pow10Tab) :
    Calls Tryd.prog 20 #[.string s] w fun e w' => e = .returned (.tuple #[.int .i64 (numV s.data.toList), .bool (numB s.data.toList)]) ∧ Below w.heap.size w w' := by
  have en := Lib.hid (num_no h)
  have HP := Lib.hid hp
  have HT := Lib.hid ht
  clear hp h ht
  go_enter Tryd.func20, Tryd.ntmps20
  go_wp2_with fail
  refine (parse_ok s v _ hs HP.out).mono ?_
  rintro e w1 ⟨rfl, hb⟩
  have HB := Lib.hid hb
  clear hb
  go_wp2_with fail
  refine (Dec.impl_decimal v _ (by omega) (by omega) (HT.out _ HB.out)).mono ?_
  rintro e w2 ⟨rfl, hb⟩
  have HB2 := Lib.hid hb
  clear hb
  obtain ⟨x, hx⟩ : ∃ x : ByteArray, x = ⟨(Lib.itoa v).toArray⟩ := ⟨_, rfl⟩
  rw [← hx] at hne ⊢
  have hxs := str_ne hne
  clear hx hne
  go_wp2_with fail
  go_ret2
  exact ⟨ret_two en.out.1.symm en.out.2.symm, HB.out.trans (HB2.out.mono HB.out.size)⟩
theorem impl_readDecimal (s : ByteArray) (w : World) (hs : s.size ≤ 1048576) (hw : Tabs.Sent w) (ht : Lib.TabBelow Tryd.prog w.heap.size w "internal/strconv.uint64pow10" .u64 Lib.pow10Tab) :
    Calls Tryd.prog 20 #[.string s] w fun e w' => e = .returned (.tuple #[.int .i64 (numV s.data.toList), .bool (numB s.data.toList)]) ∧ Below w.heap.size w w' := by
  cases h : num s.data.toList with
  | some v => exact impl_yes s v w hs h ht
  | none =>
    by_cases hx : ∃ v, Lib.parseIntB 64 s.data.toList = .ok v
    · obtain ⟨v, hv⟩ := hx
      by_cases hr : -1000000000000000000 < v ∧ v < 1000000000000000000
      · refine impl_other s v w hs h hv hr.1 hr.2 (fun hc => ?_) ht
        have h1 := num_itoa v hr.1 hr.2
        have h2 : s.data.toList = Lib.itoa v := by rw [← hc]
        rw [← h2, h] at h1
        cases h1
      · exact impl_far s v w hs h hv (by omega)
    · exact impl_bad s w hs h (fun v hv => hx ⟨v, hv⟩) hw
end Go.Proofs.YtnambnddoebeiaaDoor.ReadDec
