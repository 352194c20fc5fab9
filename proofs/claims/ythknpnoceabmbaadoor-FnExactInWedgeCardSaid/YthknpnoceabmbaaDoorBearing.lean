
/-
  What Bearing is, in the model and in the program. Condition: the program's variable of sines holds what its text lays.
-/
import Derived.Test.YthknpnoceabmbaaDoorBear
import Derived.Test.YthknpnoceabmbaaDoorWayTo0
namespace Go.Proofs.YthknpnoceabmbaaDoor.Bear
open Go.RowKit
open Plain
open Sine (TabG TabAt)
open _root_.Go.Proofs.YthknpnoceabmbaaDoor.Reach
open Point

def bear (x y u v : Int) : Int := if okB x y = true ∧ okB u v = true then (bearing (u - x) (v - y) : Nat) else 0
theorem bear_1 {x y u v : Int} (h : okB x y = false) : bear x y u v = 0 := if_neg (by rw [h]; simp)
theorem bear_2 {x y u v : Int} (h : okB u v = false) : bear x y u v = 0 := if_neg (by rw [h]; simp)
theorem bear_3 {x y u v : Int} (h1 : okB x y = true) (h2 : okB u v = true) : bear x y u v = (bearing (u - x) (v - y) : Nat) := if_pos ⟨h1, h2⟩
theorem peak_0 {e n : Int} (h : reach e n (peak e n) ≤ reach e n 0) : bearing e n = 0 := by rw [← bearing_peak, if_pos h]
theorem peak_1 {e n : Int} (h : reach e n 0 < reach e n (peak e n)) : bearing e n = peak e n := by rw [← bearing_peak, if_neg (by omega)]
set_option maxHeartbeats 2000000 in
theorem impl_bearing_ok (x y u v : Int) (w : World) (k1 : okB x y = true) (k2 : okB u v = true) (ht : TabG w) :
    Calls Tryd.prog 17 #[.agg #[.int .i64 x, .int .i64 y], .agg #[.int .i64 u, .int .i64 v]] w fun r w' => r = .returned (.int .i64 (bearing (u - x) (v - y) : Nat)) ∧ On w w' := by
  obtain ⟨x0, x1, y0, y1⟩ := of_okB k1
  obtain ⟨u0, u1, v0, v1⟩ := of_okB k2
  have HW := Lib.hid (fun w => WayTo0.impl_wayTo x y u v w (by omega) (by omega) (by omega) (by omega))
  obtain ⟨e, he⟩ : ∃ e, e = u - x := ⟨_, rfl⟩
  obtain ⟨n, hn⟩ : ∃ n, n = v - y := ⟨_, rfl⟩
  rw [← he, ← hn] at HW
  rw [← he, ← hn]
  have HQ := Lib.hid (fun w => impl_quarter e n w)
  have HP := Lib.hid (fun (w1 : World) (h : On w w1) => impl_peakFrom e n w1 (by omega) (by omega) (by omega) (by omega) (TabAt.on ht h))
  have HR := Lib.hid (fun (d : Nat) (w1 : World) (h : On w w1) => impl_reach e n d w1 (by omega) (by omega) (by omega) (by omega) (TabAt.on ht h))
  have R0 := Lib.hid (show ∀ (w1 : World), On w w1 → Calls Tryd.prog 35 #[.agg #[.int .i64 e, .int .i64 n], .int .i64 0] w1 fun x w' => x = .returned (.int .i64 (reach e n 0)) ∧ On w1 w' from fun w1 h => HR.out 0 w1 h)
  have hpl := peak_le e n
  clear he hn ht x0 x1 y0 y1 u0 u1 v0 v1
  obtain ⟨p, hp⟩ : ∃ p, p = peak e n := ⟨_, rfl⟩
  obtain ⟨r0, hr0⟩ : ∃ r, r = reach e n 0 := ⟨_, rfl⟩
  obtain ⟨r1, hr1⟩ : ∃ r, r = reach e n (peak e n) := ⟨_, rfl⟩
  have R1 := Lib.hid (HR.out (peak e n))
  rw [← hr1, ← hp] at R1
  rw [← hr0] at R0
  rw [← hp] at HP hpl
  by_cases hle : r1 ≤ r0
  · have HB := Lib.hid (show bearing e n = 0 from peak_0 (by rw [← hr0, ← hr1]; exact hle))
    clear hp hr0 hr1
    go_enter Tryd.func17, Tryd.ntmps17
    go_wp2_with fail
    refine (impl_ok x y _).mono ?_
    rintro r w1 ⟨rfl, h1⟩
    obtain ⟨hc1, hf1⟩ := bcell h1
    obtain ⟨z1, z1'⟩ : w.heap.size < w1.heap.size ∧ w.heap.size + 1 < w1.heap.size := by have := h1.size; (try simp at this); omega
    go_wp2_with fail
    refine (impl_ok u v _).mono ?_
    rintro r w2 ⟨rfl, h2⟩
    obtain ⟨hc2, hf2⟩ := bcell h2
    obtain ⟨z2, z2'⟩ : w.heap.size < w2.heap.size ∧ w.heap.size + 1 < w2.heap.size := by have := h2.size; (try simp at this); omega
    go_wp2_with fail
    refine (HW.out _).mono ?_
    rintro r w3 ⟨rfl, h3⟩
    obtain ⟨hc3, hf3⟩ := bcell h3
    go_wp2_with fail
    have hO3 : On w w3 := by repeat (first | exact On.refl _ | apply On.alloc | refine On.trans ?_ h3 | refine On.trans ?_ h2 | refine On.trans ?_ h1)
    refine wp_region_on (by kernel_rfl) (by kernel_rfl) ?_
    repeat (refine wpQuiet_step (fun K hK => ?_); go_simp; first | (refine hK _ ?_; clear hK K) | (apply Exists.intro; refine ⟨fun v1 hv1 => ?_, hK _ ?_⟩; (first | with_reducible exact rfl | with_reducible exact ⟨rfl, rfl⟩ | with_reducible exact Calls.on hv1 (HQ.out _) | with_reducible exact Calls.on hv1 (HP.out _ (On.trans (On.alloc hO3 _) hv1)) | (obtain ⟨hc, hf⟩ := bcell hv1; go_simp; first | exact rfl | exact ⟨rfl, rfl⟩ | with_reducible exact Calls.on hv1 (HQ.out _) | with_reducible exact Calls.on hv1 (HP.out _ (On.trans (On.alloc hO3 _) hv1)))); clear hK K))
    refine wpQuiet_nil ?_
    intro w4 h4
    obtain ⟨hc4, hf4⟩ := bcell h4
    obtain ⟨z4, z4'⟩ : w3.heap.size < w4.heap.size ∧ w.heap.size < w4.heap.size := by have := h4.size; have := h3.size; (try simp at this); (try simp at *); omega
    have hO4 : On w w4 := On.trans (On.alloc hO3 _) h4
    go_wp2_with fail
    refine wp_region_on (by kernel_rfl) (by kernel_rfl) ?_
    repeat (refine wpQuiet_step (fun K hK => ?_); go_simp; first | (refine hK _ ?_; clear hK K) | (apply Exists.intro; refine ⟨fun v1 hv1 => ?_, hK _ ?_⟩; (first | with_reducible exact rfl | with_reducible exact ⟨rfl, rfl⟩ | with_reducible exact Calls.on hv1 (R0.out _ (On.trans hO4 hv1)) | with_reducible exact Calls.on hv1 (R1.out _ (On.trans hO4 hv1)) | (obtain ⟨hc, hf⟩ := bcell hv1; go_simp; first | exact rfl | exact ⟨rfl, rfl⟩ | with_reducible exact Calls.on hv1 (R0.out _ (On.trans hO4 hv1)) | with_reducible exact Calls.on hv1 (R1.out _ (On.trans hO4 hv1)))); clear hK K))
    refine wpQuiet_nil ?_
    intro w5 h5
    go_wp2_with fail
    go_ret
    exact ⟨ret_int (by rw [HB.out]; rfl), On.trans hO4 h5⟩
  · have hle' : r0 < r1 := by omega
    have HB := Lib.hid (show bearing e n = p from by rw [hp]; exact peak_1 (by rw [← hr0, ← hr1]; exact hle'))
    clear hp hr0 hr1 hle
    go_enter Tryd.func17, Tryd.ntmps17
    go_wp2_with fail
    refine (impl_ok x y _).mono ?_
    rintro r w1 ⟨rfl, h1⟩
    obtain ⟨hc1, hf1⟩ := bcell h1
    obtain ⟨z1, z1'⟩ : w.heap.size < w1.heap.size ∧ w.heap.size + 1 < w1.heap.size := by have := h1.size; (try simp at this); omega
    go_wp2_with fail
    refine (impl_ok u v _).mono ?_
    rintro r w2 ⟨rfl, h2⟩
    obtain ⟨hc2, hf2⟩ := bcell h2
    obtain ⟨z2, z2'⟩ : w.heap.size < w2.heap.size ∧ w.heap.size + 1 < w2.heap.size := by have := h2.size; (try simp at this); omega
    go_wp2_with fail
    refine (HW.out _).mono ?_
    rintro r w3 ⟨rfl, h3⟩
    obtain ⟨hc3, hf3⟩ := bcell h3
    go_wp2_with fail
    have hO3 : On w w3 := by repeat (first | exact On.refl _ | apply On.alloc | refine On.trans ?_ h3 | refine On.trans ?_ h2 | refine On.trans ?_ h1)
    refine wp_region_on (by kernel_rfl) (by kernel_rfl) ?_
    repeat (refine wpQuiet_step (fun K hK => ?_); go_simp; first | (refine hK _ ?_; clear hK K) | (apply Exists.intro; refine ⟨fun v1 hv1 => ?_, hK _ ?_⟩; (first | with_reducible exact rfl | with_reducible exact ⟨rfl, rfl⟩ | with_reducible exact Calls.on hv1 (HQ.out _) | with_reducible exact Calls.on hv1 (HP.out _ (On.trans (On.alloc hO3 _) hv1)) | (obtain ⟨hc, hf⟩ := bcell hv1; go_simp; first | exact rfl | exact ⟨rfl, rfl⟩ | with_reducible exact Calls.on hv1 (HQ.out _) | with_reducible exact Calls.on hv1 (HP.out _ (On.trans (On.alloc hO3 _) hv1)))); clear hK K))
    refine wpQuiet_nil ?_
    intro w4 h4
    obtain ⟨hc4, hf4⟩ := bcell h4
    obtain ⟨z4, z4'⟩ : w3.heap.size < w4.heap.size ∧ w.heap.size < w4.heap.size := by have := h4.size; have := h3.size; (try simp at this); (try simp at *); omega
    have hO4 : On w w4 := On.trans (On.alloc hO3 _) h4
    go_wp2_with fail
    refine wp_region_on (by kernel_rfl) (by kernel_rfl) ?_
    repeat (refine wpQuiet_step (fun K hK => ?_); go_simp; first | (refine hK _ ?_; clear hK K) | (apply Exists.intro; refine ⟨fun v1 hv1 => ?_, hK _ ?_⟩; (first | with_reducible exact rfl | with_reducible exact ⟨rfl, rfl⟩ | with_reducible exact Calls.on hv1 (R0.out _ (On.trans hO4 hv1)) | with_reducible exact Calls.on hv1 (R1.out _ (On.trans hO4 hv1)) | (obtain ⟨hc, hf⟩ := bcell hv1; go_simp; first | exact rfl | exact ⟨rfl, rfl⟩ | with_reducible exact Calls.on hv1 (R0.out _ (On.trans hO4 hv1)) | with_reducible exact Calls.on hv1 (R1.out _ (On.trans hO4 hv1)))); clear hK K))
    refine wpQuiet_nil ?_
    intro w5 h5
    go_wp2_with fail
    go_ret
    exact ⟨ret_int (by rw [HB.out]), On.trans hO4 h5⟩
end Go.Proofs.YthknpnoceabmbaaDoor.Bear
