
/-
  Profiles: what the laws' copy, comparison and count of them return. Condition: at most 1048576 heights.
-/
import Derived.Test.YtmmhekakihimfaaInts
import Derived.Test.YtmmhekakihimfaaOn
set_option linter.unusedSimpArgs false
namespace Go.Proofs.Ytmmhekakihimfaa.Prof
open Go.RowKit
open Ints (Ints Own)

theorem toProfile (d f l : Int) (v : Value) (zs : List Int) (w : World) (hn : zs.length ≤ 1048576) (h : Ints w v zs) :
    Calls Try.prog 17 #[.agg #[.int .i64 d, .int .i64 f, .int .i64 l, v]] w fun e w' => ∃ a cap, e = .returned (.agg #[.int .i64 d, .int .i64 f, .int .i64 l, .slice a zs.length cap]) ∧ Own w.heap.size w' (.slice a zs.length cap) zs ∧ On w w' := by
  have HI := Lib.hid h
  obtain ⟨a, cap, rfl, -⟩ := h
  have HC := Lib.hid (fun w' (hb : On w w') => Ints.copyOwn _ zs w' hn (HI.out.below hb))
  go_enter Try.func17, Try.ntmps17
  go_wp2_with fail
  refine (HC.out _ (by repeat (first | exact On.refl _ | apply On.alloc | refine On.setCell ?_ (by (try simp) <;> omega) _))).mono ?_
  rintro e w1 ⟨v1, rfl, hi, hb⟩
  have hb' : On _ w1 := hb
  have HJ := Lib.hid hi
  obtain ⟨a1, cap1, rfl, -⟩ := hi
  obtain ⟨hc, hf⟩ := bcell hb'
  obtain ⟨z0, z1, z2⟩ : w.heap.size < w1.heap.size ∧ w.heap.size + 1 < w1.heap.size ∧ w.heap.size + 2 < w1.heap.size := by have := hb'.size; simp at this; omega
  go_wp2_with fail
  have hO : On w w1 := by refine On.trans ?_ hb'; repeat (first | exact On.refl _ | apply On.alloc | refine On.setCell ?_ (by (try simp) <;> omega) _)
  refine bodyPost_ret (v := .agg #[.int .i64 d, .int .i64 f, .int .i64 l, .slice a1 zs.length cap1]) (by simp [results, Try.results17, go_sem, hc, z0, z1, z2]) rfl ⟨a1, cap1, rfl, ?_, ?_⟩
  · refine Own.mono (B := w.heap.size + 3) ?_ (by omega)
    repeat (refine Own.setCell ?_ (by simp) _)
    exact HJ.out.mono (by simp)
  · repeat (first | with_reducible exact hO | (refine On.setCell ?_ (by (try simp) <;> omega) _))
theorem eqProfile (d f l : Int) (v v2 : Value) (zs : List Int) (w : World) (hn : zs.length ≤ 1048576) (h : Ints w v zs) (h2 : Ints w v2 zs) :
    Calls Try.prog 19 #[.agg #[.int .i64 d, .int .i64 f, .int .i64 l, v], .agg #[.int .i64 d, .int .i64 f, .int .i64 l, v2]] w fun e w' => e = .returned (.bool true) ∧ On w w' := by
  have HI := Lib.hid h
  have HJ := Lib.hid h2
  obtain ⟨a, cap, rfl, -⟩ := h
  obtain ⟨a2, cap2, rfl, -⟩ := h2
  have HC := Lib.hid (fun w' (hb : On w w') => Ints.eq _ _ zs w' hn (HI.out.below hb) (HJ.out.below hb))
  go_enter Try.func19, Try.ntmps19
  go_wp2_with fail
  refine (HC.out _ (by repeat (first | exact On.refl _ | apply On.alloc))).mono ?_
  rintro e w1 ⟨rfl, n, rfl⟩
  go_wp2_with fail
  go_ret
  exact ⟨rfl, by repeat (first | exact On.refl _ | apply On.alloc | apply On.drewN)⟩
/-- What is left of a count. -/
def rest (left len : Nat) : Int := if len ≤ left then ((left - len : Nat) : Int) else -1
theorem rest_bd {left len : Nat} (h : left ≤ 1048576) : -1 ≤ rest left len ∧ rest left len ≤ 1048576 := by unfold rest; split <;> omega
theorem rest_yes {left len : Nat} (h : len ≤ left) : rest left len = ((left - len : Nat) : Int) := if_pos h
theorem rest_no {left len : Nat} (h : ¬ len ≤ left) : rest left len = -1 := if_neg h
theorem szInts (left len : Nat) (a : Option Addr) (cap : Nat) (w : World) (h : left ≤ 1048576) (hl : len ≤ maxLen) :
    Calls Try.prog 47 #[.slice a len cap, .int .i64 left] w fun e w' => e = .returned (.int .i64 (rest left len)) ∧ w = w' := by
  unfold maxLen at hl
  by_cases hle : len ≤ left
  · have en := Lib.hid (show (left : Int) - (len : Int) = rest left len by rw [rest_yes hle]; omega)
    have h0 : ¬ (left : Int) - (len : Int) < 0 := by omega
    go_enter Try.func47, Try.ntmps47
    go_wp2_with fail
    go_ret
    exact ⟨ret_int en.out, rfl⟩
  · have en := Lib.hid (show (-1 : Int) = rest left len from (rest_no hle).symm)
    have h0 : (left : Int) - (len : Int) < 0 := by omega
    go_enter Try.func47, Try.ntmps47
    go_wp2_with fail
    go_ret
    exact ⟨ret_int en.out, rfl⟩
theorem szProfile (left len : Nat) (d f l : Int) (a : Option Addr) (cap : Nat) (w : World) (h : left ≤ 1048576) (hl : len ≤ maxLen) :
    Calls Try.prog 15 #[.agg #[.int .i64 d, .int .i64 f, .int .i64 l, .slice a len cap], .int .i64 left] w fun e w' => e = .returned (.int .i64 (rest left len)) ∧ On w w' := by
  have HS := Lib.hid (fun w => szInts left len a cap w h hl)
  obtain ⟨b0, b1⟩ := rest_bd (len := len) h
  generalize rest left len = r at *
  by_cases h0 : r < 0
  · obtain rfl : r = -1 := by omega
    go_enter Try.func15, Try.ntmps15
    go_wp2_with fail
    refine (HS.out _).mono ?_
    rintro e w1 ⟨rfl, rfl⟩
    go_wp2_with fail
    go_ret
    exact ⟨rfl, by repeat (first | exact On.refl _ | apply On.alloc)⟩
  · go_enter Try.func15, Try.ntmps15
    go_wp2_with fail
    refine (HS.out _).mono ?_
    rintro e w1 ⟨rfl, rfl⟩
    go_wp2_with fail
    go_ret
    exact ⟨rfl, by repeat (first | exact On.refl _ | apply On.alloc)⟩
end Go.Proofs.Ytmmhekakihimfaa.Prof
