
/-
  Whether two profiles are equal, in the model and in the program. Condition: at most 1048576 heights in the first one.
-/
import Derived.Test.YtcdmijldkmmgmaaSame
import Derived.Test.YtcdmijldkmmgmaaProfOk2
namespace Go.Proofs.Ytcdmijldkmmgmaa.Prof
open Go.RowKit
open Plain
open Ints (Ints Own)

def sameP (d f l : Int) (zs : List Int) (d2 f2 l2 : Int) (ys : List Int) : Bool := d == d2 && (f == f2 && (l == l2 && decide (zs = ys)))
theorem same_1 {d f l d2 f2 l2 : Int} {zs ys : List Int} (h : (d == d2) = false) : sameP d f l zs d2 f2 l2 ys = false := by unfold sameP; rw [h]; rfl
theorem same_2 {d f l d2 f2 l2 : Int} {zs ys : List Int} (h : (f == f2) = false) : sameP d f l zs d2 f2 l2 ys = false := by unfold sameP; rw [h]; simp
theorem same_3 {d f l d2 f2 l2 : Int} {zs ys : List Int} (h : (l == l2) = false) : sameP d f l zs d2 f2 l2 ys = false := by unfold sameP; rw [h]; simp
theorem same_4 {d f l d2 f2 l2 : Int} {zs ys : List Int} (h1 : (d == d2) = true) (h2 : (f == f2) = true) (h3 : (l == l2) = true) : sameP d f l zs d2 f2 l2 ys = decide (zs = ys) := by unfold sameP; rw [h1, h2, h3]; rfl
set_option maxHeartbeats 1000000 in
theorem spec_same (d f l d2 f2 l2 : Int) (v v2 : Value) (zs ys : List Int) (w : World) (hn : zs.length ≤ 1048576) (h : Ints w v zs) (h2 : Ints w v2 ys) :
    Calls Try.prog 36 #[.agg #[.int .i64 d, .int .i64 f, .int .i64 l, v], .agg #[.int .i64 d2, .int .i64 f2, .int .i64 l2, v2]] w fun e w' => e = .returned (.bool (sameP d f l zs d2 f2 l2 ys)) ∧ On w w' := by
  have HI := Lib.hid h
  have HJ := Lib.hid h2
  obtain ⟨a, cap, rfl, -⟩ := h
  obtain ⟨a2, cap2, rfl, -⟩ := h2
  cases h1 : d == d2 with
  | false =>
    have en := Lib.hid (same_1 (f := f) (f2 := f2) (l := l) (l2 := l2) (zs := zs) (ys := ys) h1)
    go_enter Try.func36, Try.ntmps36
    go_wp2_with fail
    go_ret
    exact ⟨ret_bool en.out.symm, by repeat (first | with_reducible exact On.refl _ | apply On.alloc)⟩
  | true =>
    cases k1 : f == f2 with
    | false =>
      have en := Lib.hid (same_2 (d := d) (d2 := d2) (l := l) (l2 := l2) (zs := zs) (ys := ys) k1)
      go_enter Try.func36, Try.ntmps36
      go_wp2_with fail
      go_ret
      exact ⟨ret_bool en.out.symm, by repeat (first | with_reducible exact On.refl _ | apply On.alloc)⟩
    | true =>
      cases k2 : l == l2 with
      | false =>
        have en := Lib.hid (same_3 (d := d) (d2 := d2) (f := f) (f2 := f2) (zs := zs) (ys := ys) k2)
        go_enter Try.func36, Try.ntmps36
        go_wp2_with fail
        go_ret
        exact ⟨ret_bool en.out.symm, by repeat (first | with_reducible exact On.refl _ | apply On.alloc)⟩
      | true =>
        have en := Lib.hid (same_4 (zs := zs) (ys := ys) h1 k1 k2)
        have HC := Lib.hid (fun w' (hb : On w w') => Same.spec _ _ zs ys w' hn (HI.out.below hb) (HJ.out.below hb))
        go_enter Try.func36, Try.ntmps36
        go_wp2_with fail
        refine (HC.out _ (by repeat (first | with_reducible exact On.refl _ | apply On.alloc))).mono ?_
        rintro e w1 ⟨rfl, h1⟩
        go_wp2_with fail
        go_ret
        exact ⟨ret_bool en.out.symm, by repeat (first | with_reducible exact On.refl _ | apply On.alloc | refine On.trans ?_ h1)⟩
set_option maxHeartbeats 1000000 in
theorem impl_same (d f l d2 f2 l2 : Int) (v v2 : Value) (zs ys : List Int) (w : World) (hn : zs.length ≤ 1048576) (h : Ints w v zs) (h2 : Ints w v2 ys) :
    Calls Try.prog 37 #[.agg #[.int .i64 d, .int .i64 f, .int .i64 l, v], .agg #[.int .i64 d2, .int .i64 f2, .int .i64 l2, v2]] w fun e w' => e = .returned (.bool (sameP d f l zs d2 f2 l2 ys)) ∧ On w w' := by
  have HI := Lib.hid h
  have HJ := Lib.hid h2
  obtain ⟨a, cap, rfl, -⟩ := h
  obtain ⟨a2, cap2, rfl, -⟩ := h2
  cases h1 : d == d2 with
  | false =>
    have en := Lib.hid (same_1 (f := f) (f2 := f2) (l := l) (l2 := l2) (zs := zs) (ys := ys) h1)
    go_enter Try.func37, Try.ntmps37
    go_wp2_with fail
    go_ret
    exact ⟨ret_bool en.out.symm, by repeat (first | with_reducible exact On.refl _ | apply On.alloc)⟩
  | true =>
    cases k1 : f == f2 with
    | false =>
      have en := Lib.hid (same_2 (d := d) (d2 := d2) (l := l) (l2 := l2) (zs := zs) (ys := ys) k1)
      go_enter Try.func37, Try.ntmps37
      go_wp2_with fail
      go_ret
      exact ⟨ret_bool en.out.symm, by repeat (first | with_reducible exact On.refl _ | apply On.alloc)⟩
    | true =>
      cases k2 : l == l2 with
      | false =>
        have en := Lib.hid (same_3 (d := d) (d2 := d2) (f := f) (f2 := f2) (zs := zs) (ys := ys) k2)
        go_enter Try.func37, Try.ntmps37
        go_wp2_with fail
        go_ret
        exact ⟨ret_bool en.out.symm, by repeat (first | with_reducible exact On.refl _ | apply On.alloc)⟩
      | true =>
        have en := Lib.hid (same_4 (zs := zs) (ys := ys) h1 k1 k2)
        have HC := Lib.hid (fun w' (hb : On w w') => Same.lib _ _ zs ys w' hn (HI.out.below hb) (HJ.out.below hb))
        go_enter Try.func37, Try.ntmps37
        go_wp2_with fail
        refine (HC.out _ (by repeat (first | with_reducible exact On.refl _ | apply On.alloc))).mono ?_
        rintro e w1 ⟨rfl, h1⟩
        go_wp2_with fail
        go_ret
        exact ⟨ret_bool en.out.symm, by repeat (first | with_reducible exact On.refl _ | apply On.alloc | refine On.trans ?_ h1)⟩
end Go.Proofs.Ytcdmijldkmmgmaa.Prof
