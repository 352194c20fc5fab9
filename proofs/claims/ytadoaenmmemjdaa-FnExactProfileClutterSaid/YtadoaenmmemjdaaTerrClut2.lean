
/-
  The class of clutter at a point of a terrain, whole, in the model and in the program. Conditions: each theorem's own.
-/
import Derived.Test.YtadoaenmmemjdaaTerrClut
namespace Go.Proofs.Ytadoaenmmemjdaa.Terr
open Go.RowKit
open Plain
open Ints (Ints Own)

theorem ret_ii {a b c d : Int} (h1 : a = b) (h2 : c = d) : Ending.returned (.tuple #[.int .i64 a, .int .i64 c]) = .returned (.tuple #[.int .i64 b, .int .i64 d]) := by rw [h1, h2]
set_option maxHeartbeats 2000000 in
theorem impl_clutter (bc oc m dap n cap : Nat) (a : Option Addr) (s x y px py : Int) (cs : List Int) (w : World) (hbc : bc < w.heap.size) (hcell : ∀ i, i < m → w.cell? ⟨bc, oc + i, none⟩ = some (.int .i64 (cs.getD i 0)))
    (hm : (m : Int) = x * y) (s0 : 1 ≤ s) (s1 : s ≤ 10000) (x0 : 2 ≤ x) (x1 : x ≤ 24) (y0 : 2 ≤ y) (y1 : y ≤ 24) (hi : inT s x y px py = true) :
    Calls Try.prog 39 #[.agg #[.int .i64 s, .int .i64 x, .int .i64 y, .slice a n cap, .slice (some ⟨bc, oc, none⟩) m dap], .agg #[.int .i64 px, .int .i64 py]] w fun e w' => e = .returned (.int .i64 (cs.getD (nearI s x px py).toNat 0)) ∧ On w w' := by
  have hb1 : bc < w.heap.size + 1 := by omega
  have hb2 : bc < w.heap.size + 1 + 1 := by omega
  have hb3 : bc ≠ w.heap.size := by omega
  have hb4 : bc ≠ w.heap.size + 1 := by omega
  obtain ⟨⟨c0, c1⟩, ⟨r0, r1⟩, ⟨rx0, rx1⟩, i0, i1⟩ := near_bd s0 x0 x1 y1 hi
  obtain ⟨⟨p0, p1⟩, q0, q1⟩ := of_inT hi
  obtain ⟨z0, z1⟩ := prod_s (a := x - 1) (by omega) (by omega) s0 s1
  obtain ⟨z2, z3⟩ := prod_s (a := y - 1) (by omega) (by omega) s0 s1
  have hidx := hcell (nearI s x px py).toNat (by omega)
  have e1 : IntKind.i64.wrap (2 * px) = 2 * px := IntWalk.i64_in _ (by omega)
  have e2 : IntKind.i64.wrap (2 * px + s) = 2 * px + s := IntWalk.i64_in _ (by omega)
  have e3 : IntKind.i64.wrap (2 * s) = 2 * s := IntWalk.i64_in _ (by omega)
  have e4 : IntKind.i64.wrap (2 * py) = 2 * py := IntWalk.i64_in _ (by omega)
  have e5 : IntKind.i64.wrap (2 * py + s) = 2 * py + s := IntWalk.i64_in _ (by omega)
  have t0 : ¬ 2 * s = 0 := by omega
  have t0s : ¬ s = 0 := by omega
  have t1 : (2 * px + s).tdiv (2 * s) = cellOf px s := Int.tdiv_eq_ediv_of_nonneg (by omega)
  have t2 : (2 * py + s).tdiv (2 * s) = cellOf py s := Int.tdiv_eq_ediv_of_nonneg (by omega)
  obtain ⟨c, hc⟩ : ∃ c, c = cellOf px s := ⟨_, rfl⟩
  obtain ⟨r, hr⟩ : ∃ r, r = cellOf py s := ⟨_, rfl⟩
  rw [← hc] at t1
  rw [← hr] at t2
  have u1 : (2 * px + s) / (2 * s) = c := hc.symm
  have u2 : (2 * py + s) / (2 * s) = r := hr.symm
  have b1 : IntKind.i64.wrap c = c := IntWalk.i64_in _ (by omega)
  have b2 : IntKind.i64.wrap r = r := IntWalk.i64_in _ (by omega)
  have hN : nearI s x px py = r * x + c := by rw [hc, hr]; rfl
  rw [← hr] at rx0 rx1
  obtain ⟨j, hj⟩ := Int.eq_ofNat_of_zero_le i0
  rw [hN] at hj
  have e6 : IntKind.i64.wrap (r * x) = r * x := IntWalk.i64_in _ (by omega)
  have e7 : IntKind.i64.wrap (r * x + c) = (j : Int) := by rw [hj]; exact IntWalk.i64_in _ (by omega)
  have e8 : r * x + c = (j : Int) := hj
  have e9 : IntKind.i64.wrap (j : Int) = (j : Int) := IntWalk.i64_in _ (by omega)
  have hjm : j < m := by omega
  have hjmi : (j : Int) < (m : Int) := by omega
  have hZ : (nearI s x px py).toNat = j := by rw [hN, hj]; exact Int.toNat_natCast j
  rw [hZ] at hidx
  have HE := Lib.hid (show cs.getD j 0 = cs.getD (nearI s x px py).toNat 0 by rw [hZ])
  obtain ⟨u, hu⟩ : ∃ u, u = cs.getD j 0 := ⟨_, rfl⟩
  rw [← hu] at hidx HE
  have hx := fun w => impl_index s x y c r w rx0 (by omega) (by omega) (by omega)
  rw [e8] at hx
  have HX := Lib.hid hx
  have HG := Lib.hid (fun w => impl_grid s x y a (some ⟨bc, oc, none⟩) n cap m dap w)
  clear hu hZ hN hc hr hj hm hi hcell hx
  go_enter Try.func39, Try.ntmps39
  go_wp2_with fail
  refine wp_region_onh (by kernel_rfl) (by kernel_rfl) ?_
  repeat (refine rest_step (fun K hK => ?_); go_simp; first | (refine hK _ ?_; clear hK K) | (apply Exists.intro; refine ⟨fun v1 hv1 => ?_, hK _ ?_⟩; (first | with_reducible exact rfl | with_reducible exact ⟨rfl, rfl⟩ | with_reducible exact Calls.on hv1 (HG.out _) | with_reducible exact Calls.on hv1 (HX.out _) | (obtain ⟨hc, hf⟩ := bcell hv1; go_simp; first | with_reducible exact rfl | with_reducible exact ⟨rfl, rfl⟩ | exact rfl | exact ⟨rfl, rfl⟩)); clear hK K))
  refine rest_nil ?_
  intro w1 h1
  go_wp2_with fail
  go_ret
  exact ⟨ret_int HE.out, On.trans (On.alloc (On.alloc (On.refl _) _) _) h1⟩
theorem at_cells {s x y px py : Int} {zs cs : List Int} {n m : Nat} (hzn : zs.length = n) (hcm : cs.length = m) (hc : atC s x y zs cs px py = 0) : inT s x y px py = true ∧ (1 ≤ s ∧ s ≤ 10000) ∧ (2 ≤ x ∧ x ≤ 24) ∧ (2 ≤ y ∧ y ≤ 24) ∧ (n : Int) = x * y ∧ (m : Int) = x * y ∧ 0 < n ∧ 0 < m ∧ GTo zs cs n := by
  obtain ⟨ho, hi⟩ := of_at hc
  obtain ⟨hs, h1, h2, h3⟩ := of_okT ho
  obtain ⟨⟨s0, s1⟩, ⟨x0, x1⟩, ⟨y0, y1⟩, -, -⟩ := of_size hs
  obtain ⟨p0, p1⟩ := prod_n x0 x1 y0 y1
  rw [hzn] at h1 h2 h3
  rw [hcm] at h2
  exact ⟨hi, ⟨s0, s1⟩, ⟨x0, x1⟩, ⟨y0, y1⟩, h1, by omega, by omega, by omega, h3⟩
end Go.Proofs.Ytadoaenmmemjdaa.Terr
