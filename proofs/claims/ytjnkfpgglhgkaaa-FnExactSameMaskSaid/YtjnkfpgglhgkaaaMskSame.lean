
/-
  Whether two masks are equal, in the model and in the program. Condition: at most 1048576 numbers in each list of the first one.
-/
import Derived.Test.YtjnkfpgglhgkaaaSame
import Derived.Deep.DeepCutAuto
import Derived.Deep.RegionWith
import Derived.Test.YtjnkfpgglhgkaaaMsk0
import Derived.Test.YtjnkfpgglhgkaaaArith
namespace Go.Proofs.Ytjnkfpgglhgkaaa.Msk
open Go.RowKit
open Plain
open Ints (Ints Own)

def sameM (zs cs ys ds : List Int) : Bool := decide (zs = ys) && decide (cs = ds)
set_option maxHeartbeats 2000000 in
theorem spec_same (v u v2 u2 : Value) (zs cs ys ds : List Int) (w : World) (hn : zs.length ≤ 1048576) (hm : cs.length ≤ 1048576) (h : Ints w v zs) (k : Ints w u cs) (h2 : Ints w v2 ys) (k2 : Ints w u2 ds) :
    Calls Try.prog 18 #[.agg #[v, u], .agg #[v2, u2]] w fun e w' => e = .returned (.bool (sameM zs cs ys ds)) ∧ On w w' := by
  have HZ := Lib.hid (fun w' (hb : On w w') => Same.spec _ _ zs ys w' hn (h.below hb) (h2.below hb))
  have HC := Lib.hid (fun w' (hb : On w w') => Same.spec _ _ cs ds w' hm (k.below hb) (k2.below hb))
  have en := Lib.hid (show sameM zs cs ys ds = (decide (zs = ys) && decide (cs = ds)) from rfl)
  obtain ⟨a, cap, rfl, -⟩ := h
  obtain ⟨b, dap, rfl, -⟩ := k
  obtain ⟨a2, cap2, rfl, -⟩ := h2
  obtain ⟨b2, dap2, rfl, -⟩ := k2
  generalize decide (zs = ys) = s1 at *
  generalize decide (cs = ds) = s2 at *
  cases s1 with
  | false =>
    go_enter Try.func18, Try.ntmps18
    go_wp2_with fail
    refine (HZ.out _ (by repeat (first | with_reducible exact On.refl _ | with_reducible exact Below.refl _ _ | apply On.alloc))).mono ?_
    rintro e w1 ⟨rfl, h1⟩
    go_wp2_with fail
    go_ret
    exact ⟨ret_bool (by rw [en.out]; rfl), by refine On.trans ?_ h1; repeat (first | with_reducible exact On.refl _ | apply On.alloc)⟩
  | true =>
    go_enter Try.func18, Try.ntmps18
    go_wp2_with fail
    refine (HZ.out _ (by repeat (first | with_reducible exact On.refl _ | with_reducible exact Below.refl _ _ | apply On.alloc))).mono ?_
    rintro e w1 ⟨rfl, h1⟩
    obtain ⟨hc1, hf1⟩ := bcell h1
    obtain ⟨y1', y2'⟩ : w.heap.size < w1.heap.size ∧ w.heap.size + 1 < w1.heap.size := by have := h1.size; simp at this; omega
    have HO1 := Lib.hid (show On w w1 by repeat (first | with_reducible exact On.refl _ | apply On.alloc | refine On.trans ?_ h1))
    go_wp2_with fail
    refine (HC.out _ HO1.out).mono ?_
    rintro e w2 ⟨rfl, h2⟩
    go_wp2_with fail
    go_ret
    exact ⟨ret_bool (by rw [en.out]; simp), HO1.out.trans h2⟩
set_option maxHeartbeats 2000000 in
theorem impl_same (v u v2 u2 : Value) (zs cs ys ds : List Int) (w : World) (hn : zs.length ≤ 1048576) (hm : cs.length ≤ 1048576) (h : Ints w v zs) (k : Ints w u cs) (h2 : Ints w v2 ys) (k2 : Ints w u2 ds) :
    Calls Try.prog 19 #[.agg #[v, u], .agg #[v2, u2]] w fun e w' => e = .returned (.bool (sameM zs cs ys ds)) ∧ On w w' := by
  have HZ := Lib.hid (fun w' (hb : On w w') => Same.lib _ _ zs ys w' hn (h.below hb) (h2.below hb))
  have HC := Lib.hid (fun w' (hb : On w w') => Same.lib _ _ cs ds w' hm (k.below hb) (k2.below hb))
  have en := Lib.hid (show sameM zs cs ys ds = (decide (zs = ys) && decide (cs = ds)) from rfl)
  obtain ⟨a, cap, rfl, -⟩ := h
  obtain ⟨b, dap, rfl, -⟩ := k
  obtain ⟨a2, cap2, rfl, -⟩ := h2
  obtain ⟨b2, dap2, rfl, -⟩ := k2
  generalize decide (zs = ys) = s1 at *
  generalize decide (cs = ds) = s2 at *
  cases s1 with
  | false =>
    go_enter Try.func19, Try.ntmps19
    go_wp2_with fail
    refine (HZ.out _ (by repeat (first | with_reducible exact On.refl _ | with_reducible exact Below.refl _ _ | apply On.alloc))).mono ?_
    rintro e w1 ⟨rfl, h1⟩
    go_wp2_with fail
    go_ret
    exact ⟨ret_bool (by rw [en.out]; rfl), by refine On.trans ?_ h1; repeat (first | with_reducible exact On.refl _ | apply On.alloc)⟩
  | true =>
    go_enter Try.func19, Try.ntmps19
    go_wp2_with fail
    refine (HZ.out _ (by repeat (first | with_reducible exact On.refl _ | with_reducible exact Below.refl _ _ | apply On.alloc))).mono ?_
    rintro e w1 ⟨rfl, h1⟩
    obtain ⟨hc1, hf1⟩ := bcell h1
    obtain ⟨y1', y2'⟩ : w.heap.size < w1.heap.size ∧ w.heap.size + 1 < w1.heap.size := by have := h1.size; simp at this; omega
    have HO1 := Lib.hid (show On w w1 by repeat (first | with_reducible exact On.refl _ | apply On.alloc | refine On.trans ?_ h1))
    go_wp2_with fail
    refine (HC.out _ HO1.out).mono ?_
    rintro e w2 ⟨rfl, h2⟩
    go_wp2_with fail
    go_ret
    exact ⟨ret_bool (by rw [en.out]; simp), HO1.out.trans h2⟩
end Go.Proofs.Ytjnkfpgglhgkaaa.Msk
