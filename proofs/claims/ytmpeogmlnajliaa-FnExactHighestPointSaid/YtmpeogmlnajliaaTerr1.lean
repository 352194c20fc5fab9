
/-
  When a terrain is valid, its parts: sizes, the grid, the ground, in the model and in the program. Conditions: each theorem's own.
-/
import Derived.Test.YtmpeogmlnajliaaTerr0
import Derived.Test.YtmpeogmlnajliaaOnH
import Derived.Test.YtmpeogmlnajliaaPoint
namespace Go.Proofs.Ytmpeogmlnajliaa.Terr
open Go.RowKit
open Plain
open Point (okB)

theorem prod_s {a s : Int} (a0 : 0 ≤ a) (a1 : a ≤ 23) (s0 : 1 ≤ s) (s1 : s ≤ 10000) : 0 ≤ a * s ∧ a * s ≤ 230000 := by
  have h1 : a * s ≤ 23 * s := Int.mul_le_mul_of_nonneg_right a1 (by omega)
  have h2 : 0 ≤ a * s := Int.mul_nonneg a0 (by omega)
  omega
theorem prod_n {x y : Int} (x0 : 2 ≤ x) (x1 : x ≤ 24) (y0 : 2 ≤ y) (y1 : y ≤ 24) : 4 ≤ x * y ∧ x * y ≤ 576 := by
  have h1 : x * y ≤ 24 * y := Int.mul_le_mul_of_nonneg_right x1 (by omega)
  have h2 : 2 * y ≤ x * y := Int.mul_le_mul_of_nonneg_right x0 (by omega)
  omega
/-- The measures of a grid. -/
def three (s x y : Int) : Bool := inB s 1 10000 && (inB x 2 24 && inB y 2 24)
def sizeB (s x y : Int) : Bool := three s x y && (decide ((x - 1) * s ≤ 200000) && decide ((y - 1) * s ≤ 200000))
theorem size_three {s x y : Int} (h : three s x y = false) : sizeB s x y = false := by unfold sizeB; rw [h]; rfl
theorem size_yes {s x y : Int} (h : three s x y = true) : sizeB s x y = (decide ((x - 1) * s ≤ 200000) && decide ((y - 1) * s ≤ 200000)) := by unfold sizeB; rw [h]; rfl
theorem of_three {s x y : Int} (h : three s x y = true) : (1 ≤ s ∧ s ≤ 10000) ∧ (2 ≤ x ∧ x ≤ 24) ∧ (2 ≤ y ∧ y ≤ 24) := by
  unfold three at h
  rw [Bool.and_eq_true, Bool.and_eq_true] at h
  exact ⟨of_inB h.1, of_inB h.2.1, of_inB h.2.2⟩
theorem of_size {s x y : Int} (h : sizeB s x y = true) : (1 ≤ s ∧ s ≤ 10000) ∧ (2 ≤ x ∧ x ≤ 24) ∧ (2 ≤ y ∧ y ≤ 24) ∧ (x - 1) * s ≤ 200000 ∧ (y - 1) * s ≤ 200000 := by
  unfold sizeB at h
  rw [Bool.and_eq_true, Bool.and_eq_true] at h
  obtain ⟨h1, h2, h3⟩ := of_three h.1
  exact ⟨h1, h2, h3, of_decide_eq_true h.2.1, of_decide_eq_true h.2.2⟩
theorem three_1 {s x y : Int} (h : inB s 1 10000 = false) : three s x y = false := by unfold three; rw [h]; rfl
theorem three_2 {s x y : Int} (h : inB x 2 24 = false) : three s x y = false := by unfold three; rw [h]; simp
theorem three_3 {s x y : Int} (h : inB y 2 24 = false) : three s x y = false := by unfold three; rw [h]; simp
theorem three_yes {s x y : Int} (h1 : inB s 1 10000 = true) (h2 : inB x 2 24 = true) (h3 : inB y 2 24 = true) : three s x y = true := by unfold three; rw [h1, h2, h3]; rfl

set_option maxHeartbeats 1000000 in
theorem spec_size (s x y : Int) (w : World) :
    Calls Try.prog 46 #[.int .i64 s, .int .i64 x, .int .i64 y] w fun e w' => e = .returned (.bool (sizeB s x y)) ∧ w = w' := by
  cases h1 : inB s 1 10000 with
  | false =>
    have en := Lib.hid (size_three (three_1 (x := x) (y := y) h1))
    go_enter Try.func46, Try.ntmps46
    go_wp2_with (go_at_call 47; refine (Arith.l00In _ _ _ _).mono ?_; rintro e w' ⟨rfl, rfl⟩)
    go_ret
    exact ⟨ret_bool en.out.symm, rfl⟩
  | true =>
    cases h2 : inB x 2 24 with
    | false =>
      have en := Lib.hid (size_three (three_2 (s := s) (y := y) h2))
      go_enter Try.func46, Try.ntmps46
      go_wp2_with (go_at_call 47; refine (Arith.l00In _ _ _ _).mono ?_; rintro e w' ⟨rfl, rfl⟩)
      go_ret
      exact ⟨ret_bool en.out.symm, rfl⟩
    | true =>
      cases h3 : inB y 2 24 with
      | false =>
        have en := Lib.hid (size_three (three_3 (s := s) (x := x) h3))
        go_enter Try.func46, Try.ntmps46
        go_wp2_with (go_at_call 47; refine (Arith.l00In _ _ _ _).mono ?_; rintro e w' ⟨rfl, rfl⟩)
        go_ret
        exact ⟨ret_bool en.out.symm, rfl⟩
      | true =>
        have ht := three_yes h1 h2 h3
        have hz := Lib.hid (size_yes ht)
        obtain ⟨⟨s0, s1⟩, ⟨x0, x1⟩, y0, y1⟩ := of_three ht
        obtain ⟨p0, p1⟩ := prod_s (a := x - 1) (by omega) (by omega) s0 s1
        obtain ⟨q0, q1⟩ := prod_s (a := y - 1) (by omega) (by omega) s0 s1
        have e1 : IntKind.i64.wrap ((x - 1) * s) = (x - 1) * s := IntWalk.i64_in _ (by omega)
        have e2 : IntKind.i64.wrap ((y - 1) * s) = (y - 1) * s := IntWalk.i64_in _ (by omega)
        cases d1 : decide ((x - 1) * s ≤ 200000) with
        | false =>
          have en := Lib.hid (show sizeB s x y = false by rw [hz.out, d1, Bool.false_and])
          go_enter Try.func46, Try.ntmps46
          go_wp2_with (go_at_call 47; refine (Arith.l00In _ _ _ _).mono ?_; rintro e w' ⟨rfl, rfl⟩)
          go_ret
          exact ⟨ret_bool en.out.symm, rfl⟩
        | true =>
          have en := Lib.hid (show sizeB s x y = decide ((y - 1) * s ≤ 200000) by rw [hz.out, d1, Bool.true_and])
          go_enter Try.func46, Try.ntmps46
          go_wp2_with (go_at_call 47; refine (Arith.l00In _ _ _ _).mono ?_; rintro e w' ⟨rfl, rfl⟩)
          go_ret
          exact ⟨ret_bool en.out.symm, rfl⟩
theorem impl_place (s x y i k : Int) (w : World) (i0 : 0 ≤ i * s) (i1 : i * s ≤ 230000) (k0 : 0 ≤ k * s) (k1 : k * s ≤ 230000) :
    Calls Try.prog 51 #[.agg #[.int .i64 s, .int .i64 x, .int .i64 y], .int .i64 i, .int .i64 k] w fun e w' => e = .returned (.agg #[.int .i64 (i * s), .int .i64 (k * s)]) ∧ On w w' := by
  have e1 : IntKind.i64.wrap (i * s) = i * s := IntWalk.i64_in _ (by omega)
  have e2 : IntKind.i64.wrap (k * s) = k * s := IntWalk.i64_in _ (by omega)
  go_enter Try.func51, Try.ntmps51
  go_wp2_with fail
  refine bodyPost_ret (v := .agg #[.int .i64 (i * s), .int .i64 (k * s)]) (by simp [results, Try.results51, go_sem]) rfl ⟨rfl, ?_⟩
  repeat (first | with_reducible exact On.refl _ | apply On.alloc | refine On.setCell ?_ (by (try simp) <;> omega) _)
theorem impl_corner (s x y : Int) (w : World) (s0 : 1 ≤ s) (s1 : s ≤ 10000) (x0 : 2 ≤ x) (x1 : x ≤ 24) (y0 : 2 ≤ y) (y1 : y ≤ 24) :
    Calls Try.prog 54 #[.agg #[.int .i64 s, .int .i64 x, .int .i64 y]] w fun e w' => e = .returned (.agg #[.int .i64 ((x - 1) * s), .int .i64 ((y - 1) * s)]) ∧ On w w' := by
  obtain ⟨p0, p1⟩ := prod_s (a := x - 1) (by omega) (by omega) s0 s1
  obtain ⟨q0, q1⟩ := prod_s (a := y - 1) (by omega) (by omega) s0 s1
  have HP := Lib.hid (fun w => impl_place s x y (x - 1) (y - 1) w p0 p1 q0 q1)
  go_enter Try.func54, Try.ntmps54
  go_wp2_with fail
  refine (HP.out _).mono ?_
  rintro e w1 ⟨rfl, h1⟩
  obtain ⟨hc, hf⟩ := bcell h1
  obtain ⟨z1, z2⟩ : w.heap.size < w1.heap.size ∧ w.heap.size + 1 < w1.heap.size := by have := h1.size; simp at this; omega
  have hO : On w w1 := by refine On.trans ?_ h1; repeat (first | with_reducible exact On.refl _ | apply On.alloc)
  go_wp2_with fail
  refine bodyPost_ret (v := .agg #[.int .i64 ((x - 1) * s), .int .i64 ((y - 1) * s)]) (by simp [results, Try.results54, go_sem, hc]) rfl ⟨rfl, ?_⟩
  repeat (first | with_reducible exact hO | refine On.setCell ?_ (by (try simp) <;> omega) _)
theorem impl_grid (s x y : Int) (a b : Option Addr) (n cap m dap : Nat) (w : World) :
    Calls Try.prog 34 #[.agg #[.int .i64 s, .int .i64 x, .int .i64 y, .slice a n cap, .slice b m dap]] w fun e w' => e = .returned (.agg #[.int .i64 s, .int .i64 x, .int .i64 y]) ∧ On w w' := by
  go_enter Try.func34, Try.ntmps34
  go_wp2_with fail
  refine bodyPost_ret (v := .agg #[.int .i64 s, .int .i64 x, .int .i64 y]) (by simp [results, Try.results34, go_sem]) rfl ⟨rfl, ?_⟩
  repeat (first | with_reducible exact On.refl _ | apply On.alloc | refine On.setCell ?_ (by (try simp) <;> omega) _)
set_option maxHeartbeats 1000000 in
theorem impl_gridValid (s x y : Int) (w : World) :
    Calls Try.prog 48 #[.agg #[.int .i64 s, .int .i64 x, .int .i64 y]] w fun e w' => e = .returned (.bool (sizeB s x y)) ∧ On w w' := by
  cases h1 : inB s 1 10000 with
  | false =>
    have en := Lib.hid (size_three (three_1 (x := x) (y := y) h1))
    go_enter Try.func48, Try.ntmps48
    go_wp2_with (go_at_call 52; refine (Arith.within _ _ _ _).mono ?_; rintro e w' ⟨rfl, rfl⟩)
    go_ret
    exact ⟨ret_bool en.out.symm, by repeat (first | with_reducible exact On.refl _ | apply On.alloc)⟩
  | true =>
    cases h2 : inB x 2 24 with
    | false =>
      have en := Lib.hid (size_three (three_2 (s := s) (y := y) h2))
      go_enter Try.func48, Try.ntmps48
      go_wp2_with (go_at_call 52; refine (Arith.within _ _ _ _).mono ?_; rintro e w' ⟨rfl, rfl⟩)
      go_ret
      exact ⟨ret_bool en.out.symm, by repeat (first | with_reducible exact On.refl _ | apply On.alloc)⟩
    | true =>
      cases h3 : inB y 2 24 with
      | false =>
        have en := Lib.hid (size_three (three_3 (s := s) (x := x) h3))
        go_enter Try.func48, Try.ntmps48
        go_wp2_with (go_at_call 52; refine (Arith.within _ _ _ _).mono ?_; rintro e w' ⟨rfl, rfl⟩)
        go_ret
        exact ⟨ret_bool en.out.symm, by repeat (first | with_reducible exact On.refl _ | apply On.alloc)⟩
      | true =>
        have ht := three_yes h1 h2 h3
        obtain ⟨⟨s0, s1⟩, ⟨x0, x1⟩, y0, y1⟩ := of_three ht
        obtain ⟨p0, p1⟩ := prod_s (a := x - 1) (by omega) (by omega) s0 s1
        obtain ⟨q0, q1⟩ := prod_s (a := y - 1) (by omega) (by omega) s0 s1
        have a1 : inB ((x - 1) * s) 0 200000 = decide ((x - 1) * s ≤ 200000) := decide_eq_decide.2 ⟨fun h => h.2, fun h => ⟨p0, h⟩⟩
        have a2 : inB ((y - 1) * s) 0 200000 = decide ((y - 1) * s ≤ 200000) := decide_eq_decide.2 ⟨fun h => h.2, fun h => ⟨q0, h⟩⟩
        have hok : okB ((x - 1) * s) ((y - 1) * s) = sizeB s x y := by
          rw [size_yes ht]
          unfold okB
          rw [a1, a2]
        clear a1 a2
        have HC := Lib.hid (fun w => impl_corner s x y w s0 s1 x0 x1 y0 y1)
        have HV := Lib.hid (fun w => Point.impl_ok ((x - 1) * s) ((y - 1) * s) w)
        have HE := Lib.hid hok
        clear hok
        go_enter Try.func48, Try.ntmps48
        go_wp2_with (go_at_call 52; refine (Arith.within _ _ _ _).mono ?_; rintro e w' ⟨rfl, rfl⟩)
        refine (HC.out _).mono ?_
        rintro e w1 ⟨rfl, k1⟩
        go_wp2_with fail
        refine (HV.out _).mono ?_
        rintro e w2 ⟨rfl, k2⟩
        go_wp2_with fail
        go_ret
        exact ⟨ret_bool HE.out, by repeat (first | with_reducible exact On.refl _ | apply On.alloc | refine On.trans ?_ k2 | refine On.trans ?_ k1)⟩
/-- A height and a class of the ground. -/
def gB (h c : Int) : Bool := inB h 0 90000 && inB c 0 7
theorem gB_1 {h c : Int} (k : inB h 0 90000 = false) : gB h c = false := by unfold gB; rw [k]; rfl
theorem gB_2 {h c : Int} (k : inB h 0 90000 = true) : gB h c = inB c 0 7 := by unfold gB; rw [k]; rfl
theorem impl_ground (h c : Int) (w : World) :
    Calls Try.prog 49 #[.int .i64 h, .int .i64 c] w fun e w' => e = .returned (.bool (gB h c)) ∧ w = w' := by
  cases k : inB h 0 90000 with
  | false =>
    have en := Lib.hid (gB_1 (c := c) k)
    go_enter Try.func49, Try.ntmps49
    go_wp2_with (go_at_call 52; refine (Arith.within _ _ _ _).mono ?_; rintro e w' ⟨rfl, rfl⟩)
    go_ret
    exact ⟨ret_bool en.out.symm, rfl⟩
  | true =>
    have en := Lib.hid (gB_2 (c := c) k)
    go_enter Try.func49, Try.ntmps49
    go_wp2_with (go_at_call 52; refine (Arith.within _ _ _ _).mono ?_; rintro e w' ⟨rfl, rfl⟩)
    go_ret
    exact ⟨ret_bool en.out.symm, rfl⟩
/-- The ground of the first k grid points is as it may be. -/
def GTo (zs cs : List Int) (k : Nat) : Prop := ∀ i, i < k → gB (zs.getD i 0) (cs.getD i 0) = true
def allG (zs cs : List Int) : Bool := (List.range zs.length).all fun i => gB (zs.getD i 0) (cs.getD i 0)
theorem gTo_zero (zs cs : List Int) : GTo zs cs 0 := fun i h => by omega
theorem gTo_succ {zs cs : List Int} {k : Nat} (h : GTo zs cs k) (hk : gB (zs.getD k 0) (cs.getD k 0) = true) : GTo zs cs (k + 1) := fun i hi => by
  by_cases g : i = k
  · rw [g]; exact hk
  · exact h i (by omega)
theorem allG_bad {zs cs : List Int} {k : Nat} (hk : k < zs.length) (h : gB (zs.getD k 0) (cs.getD k 0) = false) : allG zs cs = false := by
  unfold allG
  rw [List.all_eq_false]
  exact ⟨k, List.mem_range.2 hk, by rw [h]; simp⟩
theorem allG_all {zs cs : List Int} (h : GTo zs cs zs.length) : allG zs cs = true := by
  unfold allG
  rw [List.all_eq_true]
  exact fun i hi => h i (List.mem_range.1 hi)
theorem gTo_of {zs cs : List Int} (h : allG zs cs = true) : GTo zs cs zs.length := fun i hi => by
  unfold allG at h
  rw [List.all_eq_true] at h
  exact h i (List.mem_range.2 hi)
/-- Whether a terrain is valid. -/
def okT (s x y : Int) (zs cs : List Int) : Bool := sizeB s x y && (decide ((zs.length : Int) = x * y) && (decide (cs.length = zs.length) && allG zs cs))
theorem okT_size {s x y : Int} {zs cs : List Int} (h : sizeB s x y = false) : okT s x y zs cs = false := by unfold okT; rw [h]; rfl
theorem okT_len {s x y : Int} {zs cs : List Int} (h : ¬ (zs.length : Int) = x * y) : okT s x y zs cs = false := by unfold okT; rw [decide_eq_false h]; simp
theorem okT_len2 {s x y : Int} {zs cs : List Int} (h : ¬ cs.length = zs.length) : okT s x y zs cs = false := by unfold okT; rw [decide_eq_false h]; simp
theorem okT_all {s x y : Int} {zs cs : List Int} (h : allG zs cs = false) : okT s x y zs cs = false := by unfold okT; rw [h]; simp
theorem okT_yes {s x y : Int} {zs cs : List Int} (h1 : sizeB s x y = true) (h2 : (zs.length : Int) = x * y) (h3 : cs.length = zs.length) (h4 : allG zs cs = true) : okT s x y zs cs = true := by
  unfold okT; rw [h1, decide_eq_true h2, decide_eq_true h3, h4]; rfl
theorem of_okT {s x y : Int} {zs cs : List Int} (h : okT s x y zs cs = true) : sizeB s x y = true ∧ (zs.length : Int) = x * y ∧ cs.length = zs.length ∧ GTo zs cs zs.length := by
  unfold okT at h
  rw [Bool.and_eq_true, Bool.and_eq_true, Bool.and_eq_true] at h
  exact ⟨h.1, of_decide_eq_true h.2.1, of_decide_eq_true h.2.2.1, gTo_of h.2.2.2⟩
end Go.Proofs.Ytmpeogmlnajliaa.Terr
