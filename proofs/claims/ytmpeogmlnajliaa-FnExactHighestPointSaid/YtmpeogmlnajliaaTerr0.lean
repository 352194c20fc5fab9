
/-
  Terrains: what the laws' copy, comparison and count of them return. Condition: at most 1048576 heights and classes.
-/
import Derived.Test.YtmpeogmlnajliaaInts
import Derived.Test.YtmpeogmlnajliaaOn
namespace Go.Proofs.Ytmpeogmlnajliaa.Terr
open Go.RowKit
open Ints (Ints Own)

set_option maxHeartbeats 1000000 in
theorem toTerrain (s x y : Int) (v u : Value) (zs cs : List Int) (w : World) (hn : zs.length ≤ 1048576) (hm : cs.length ≤ 1048576) (h : Ints w v zs) (k : Ints w u cs) :
    Calls Try.prog 14 #[.agg #[.int .i64 s, .int .i64 x, .int .i64 y, v, u]] w fun e w' => ∃ a cap b dap, e = .returned (.agg #[.int .i64 s, .int .i64 x, .int .i64 y, .slice a zs.length cap, .slice b cs.length dap]) ∧ Own w.heap.size w' (.slice a zs.length cap) zs ∧ Own w.heap.size w' (.slice b cs.length dap) cs ∧ On w w' := by
  have HI := Lib.hid h
  have HJ := Lib.hid k
  obtain ⟨a, cap, rfl, -⟩ := h
  obtain ⟨b, dap, rfl, -⟩ := k
  have HC := Lib.hid (fun w' (hb : On w w') => Ints.copyOwn _ zs w' hn (HI.out.below hb))
  have HD := Lib.hid (fun w' (hb : On w w') => Ints.copyOwn _ cs w' hm (HJ.out.below hb))
  go_enter Try.func14, Try.ntmps14
  go_wp2_with fail
  refine (HC.out _ (by repeat (first | exact On.refl _ | apply On.alloc | refine On.setCell ?_ (by (try simp) <;> omega) _))).mono ?_
  rintro e w1 ⟨v1, rfl, hi, hb⟩
  have hb' : On _ w1 := hb
  have HA := Lib.hid (hi.mono (B' := w.heap.size + 3) (by simp))
  obtain ⟨a1, cap1, rfl, -⟩ := hi
  obtain ⟨hc, hf⟩ := bcell hb'
  obtain ⟨z0, z1, z2⟩ : w.heap.size < w1.heap.size ∧ w.heap.size + 1 < w1.heap.size ∧ w.heap.size + 2 < w1.heap.size := by have := hb'.size; simp at this; omega
  have hO : On w w1 := by refine On.trans ?_ hb'; repeat (first | exact On.refl _ | apply On.alloc | refine On.setCell ?_ (by (try simp) <;> omega) _)
  go_wp2_with fail
  refine (HD.out _ (by repeat (first | with_reducible exact hO | refine On.setCell ?_ (by (try simp) <;> omega) _))).mono ?_
  rintro e w2 ⟨v2, rfl, hi2, hb2⟩
  have hb2' : On _ w2 := hb2
  have HB := Lib.hid (hi2.mono (B' := w.heap.size + 3) (by simp; omega))
  have HA2 := Lib.hid ((HA.out.setCell (by simp) _).below hb2')
  obtain ⟨b1, dap1, rfl, -⟩ := hi2
  obtain ⟨hc2, hf2⟩ := bcell hb2'
  obtain ⟨y0, y1, y2⟩ : w.heap.size < w2.heap.size ∧ w.heap.size + 1 < w2.heap.size ∧ w.heap.size + 2 < w2.heap.size := by have := hb2'.size; simp at this; omega
  have hO2 : On w w2 := by refine On.trans ?_ hb2'; repeat (first | with_reducible exact hO | refine On.setCell ?_ (by (try simp) <;> omega) _)
  go_wp2_with fail
  refine bodyPost_ret (v := .agg #[.int .i64 s, .int .i64 x, .int .i64 y, .slice a1 zs.length cap1, .slice b1 cs.length dap1]) (by simp [results, Try.results14, go_sem, hc, hc2, z1]) rfl ⟨a1, cap1, b1, dap1, rfl, ?_, ?_, ?_⟩
  · refine Own.mono (B := w.heap.size + 3) ?_ (by omega)
    repeat (first | with_reducible exact HA2.out | refine Own.setCell ?_ (by simp) _)
  · refine Own.mono (B := w.heap.size + 3) ?_ (by omega)
    repeat (first | with_reducible exact HB.out | refine Own.setCell ?_ (by simp) _)
  · repeat (first | with_reducible exact hO2 | (refine On.setCell ?_ (by (try simp) <;> omega) _))
theorem eqTerrain (s x y : Int) (v u v2 u2 : Value) (zs cs : List Int) (w : World) (hn : zs.length ≤ 1048576) (hm : cs.length ≤ 1048576) (h : Ints w v zs) (k : Ints w u cs) (h2 : Ints w v2 zs) (k2 : Ints w u2 cs) :
    Calls Try.prog 17 #[.agg #[.int .i64 s, .int .i64 x, .int .i64 y, v, u], .agg #[.int .i64 s, .int .i64 x, .int .i64 y, v2, u2]] w fun e w' => e = .returned (.bool true) ∧ On w w' := by
  have HI := Lib.hid h
  have HJ := Lib.hid h2
  have KI := Lib.hid k
  have KJ := Lib.hid k2
  obtain ⟨a, cap, rfl, -⟩ := h
  obtain ⟨a2, cap2, rfl, -⟩ := h2
  obtain ⟨b, dap, rfl, -⟩ := k
  obtain ⟨b2, dap2, rfl, -⟩ := k2
  have HC := Lib.hid (fun w' (hb : On w w') => Ints.eq _ _ zs w' hn (HI.out.below hb) (HJ.out.below hb))
  have HD := Lib.hid (fun w' (hb : On w w') => Ints.eq _ _ cs w' hm (KI.out.below hb) (KJ.out.below hb))
  go_enter Try.func17, Try.ntmps17
  go_wp2_with fail
  refine (HC.out _ (by repeat (first | exact On.refl _ | apply On.alloc))).mono ?_
  rintro e w1 ⟨rfl, n, rfl⟩
  go_wp2_with fail
  refine (HD.out _ (by repeat (first | exact On.refl _ | apply On.drewN | apply On.alloc))).mono ?_
  rintro e w1 ⟨rfl, n2, rfl⟩
  go_wp2_with fail
  go_ret
  exact ⟨rfl, by repeat (first | exact On.refl _ | apply On.alloc | apply On.drewN)⟩
/-- What is left of a count. -/
def rest (left len : Nat) : Int := if len ≤ left then ((left - len : Nat) : Int) else -1
theorem rest_bd {left len : Nat} (h : left ≤ 1048576) : -1 ≤ rest left len ∧ rest left len ≤ 1048576 := by unfold rest; split <;> omega
theorem rest_yes {left len : Nat} (h : len ≤ left) : rest left len = ((left - len : Nat) : Int) := if_pos h
theorem rest_no {left len : Nat} (h : ¬ len ≤ left) : rest left len = -1 := if_neg h
theorem szInts (left len : Nat) (a : Option Addr) (cap : Nat) (w : World) (h : left ≤ 1048576) (hl : len ≤ maxLen) :
    Calls Try.prog 18 #[.slice a len cap, .int .i64 left] w fun e w' => e = .returned (.int .i64 (rest left len)) ∧ w = w' := by
  unfold maxLen at hl
  by_cases hle : len ≤ left
  · have en := Lib.hid (show (left : Int) - (len : Int) = rest left len by rw [rest_yes hle]; omega)
    have h0 : ¬ (left : Int) - (len : Int) < 0 := by omega
    go_enter Try.func18, Try.ntmps18
    go_wp2_with fail
    go_ret
    exact ⟨ret_int en.out, rfl⟩
  · have en := Lib.hid (show (-1 : Int) = rest left len from (rest_no hle).symm)
    have h0 : (left : Int) - (len : Int) < 0 := by omega
    go_enter Try.func18, Try.ntmps18
    go_wp2_with fail
    go_ret
    exact ⟨ret_int en.out, rfl⟩
/-- What is left of a count behind a terrain. -/
def rest2 (left len men : Nat) : Int := if len ≤ left then rest (left - len) men else -1
set_option maxHeartbeats 1000000 in
theorem szTerrain (left len men : Nat) (s x y : Int) (a b : Option Addr) (cap dap : Nat) (w : World) (h : left ≤ 1048576) (hl : len ≤ maxLen) (hm : men ≤ maxLen) :
    Calls Try.prog 12 #[.agg #[.int .i64 s, .int .i64 x, .int .i64 y, .slice a len cap, .slice b men dap], .int .i64 left] w fun e w' => e = .returned (.int .i64 (rest2 left len men)) ∧ On w w' := by
  have hS := fun w => szInts left len a cap w h hl
  by_cases hle : len ≤ left
  · rw [rest_yes hle] at hS
    have hT := fun w => szInts (left - len) men b dap w (by omega) hm
    have en := Lib.hid (show rest2 left len men = rest (left - len) men from if_pos hle)
    obtain ⟨b0, b1⟩ := rest_bd (left := left - len) (len := men) (by omega)
    obtain ⟨m, hm⟩ : ∃ m, m = left - len := ⟨_, rfl⟩
    rw [← hm] at hS hT en b0 b1
    have h0 : ¬ (m : Int) < 0 := by omega
    have HS := Lib.hid hS
    have HT := Lib.hid hT
    clear hS hT hm hle
    generalize rest m men = r at *
    by_cases h1 : r < 0
    · obtain rfl : r = -1 := by omega
      go_enter Try.func12, Try.ntmps12
      go_wp2_with fail
      refine (HS.out _).mono ?_
      rintro e w1 ⟨rfl, rfl⟩
      go_wp2_with fail
      refine (HT.out _).mono ?_
      rintro e w1 ⟨rfl, rfl⟩
      go_wp2_with fail
      go_ret
      exact ⟨ret_int en.out.symm, by repeat (first | exact On.refl _ | apply On.alloc)⟩
    · go_enter Try.func12, Try.ntmps12
      go_wp2_with fail
      refine (HS.out _).mono ?_
      rintro e w1 ⟨rfl, rfl⟩
      go_wp2_with fail
      refine (HT.out _).mono ?_
      rintro e w1 ⟨rfl, rfl⟩
      go_wp2_with fail
      go_ret
      exact ⟨ret_int en.out.symm, by repeat (first | exact On.refl _ | apply On.alloc)⟩
  · rw [rest_no hle] at hS
    have en := Lib.hid (show rest2 left len men = -1 from if_neg hle)
    have HS := Lib.hid hS
    clear hS hle
    go_enter Try.func12, Try.ntmps12
    go_wp2_with fail
    refine (HS.out _).mono ?_
    rintro e w1 ⟨rfl, rfl⟩
    go_wp2_with fail
    go_ret
    exact ⟨ret_int en.out.symm, by repeat (first | exact On.refl _ | apply On.alloc)⟩
end Go.Proofs.Ytmpeogmlnajliaa.Terr
