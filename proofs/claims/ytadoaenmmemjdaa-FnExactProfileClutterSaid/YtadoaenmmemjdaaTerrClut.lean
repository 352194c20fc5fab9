
/-
  The class of clutter at a point of a terrain, in the model and in the program. Conditions: each theorem's own.
-/
import Derived.Test.YtadoaenmmemjdaaTerrIn
namespace Go.Proofs.Ytadoaenmmemjdaa.Terr
open Go.RowKit
open Plain
open Ints (Ints Own)

/-- The number of the grid line that is nearest to a coordinate. -/
def cellOf (p s : Int) : Int := (2 * p + s) / (2 * s)
theorem cell_bd {p s m : Int} (s0 : 1 ≤ s) (p0 : 0 ≤ p) (p1 : p ≤ m * s) : 0 ≤ cellOf p s ∧ cellOf p s ≤ m := by
  have e : (m + 1) * (2 * s) = 2 * (m * s) + 2 * s := by rw [Int.add_mul, Int.one_mul, Int.mul_left_comm]
  refine ⟨Int.ediv_nonneg (by omega) (by omega), ?_⟩
  have : cellOf p s < m + 1 := Int.ediv_lt_of_lt_mul (by omega) (by rw [e]; omega)
  omega
/-- The index of the grid point that is nearest to a point. -/
def nearI (s x px py : Int) : Int := cellOf py s * x + cellOf px s
theorem near_bd {s x y px py : Int} (s0 : 1 ≤ s) (x0 : 2 ≤ x) (x1 : x ≤ 24) (y1 : y ≤ 24) (h : inT s x y px py = true) :
    (0 ≤ cellOf px s ∧ cellOf px s ≤ x - 1) ∧ (0 ≤ cellOf py s ∧ cellOf py s ≤ y - 1) ∧ (0 ≤ cellOf py s * x ∧ cellOf py s * x ≤ 552) ∧ 0 ≤ nearI s x px py ∧ nearI s x px py < x * y := by
  obtain ⟨⟨p0, p1⟩, q0, q1⟩ := of_inT h
  obtain ⟨c0, c1⟩ := cell_bd s0 p0 p1
  obtain ⟨r0, r1⟩ := cell_bd s0 q0 q1
  have h1 : cellOf py s * x ≤ (y - 1) * x := Int.mul_le_mul_of_nonneg_right r1 (by omega)
  have h2 : 0 ≤ cellOf py s * x := Int.mul_nonneg r0 (by omega)
  have h3 : cellOf py s * x ≤ cellOf py s * 24 := Int.mul_le_mul_of_nonneg_left x1 r0
  have e : (y - 1) * x = x * y - x := by rw [Int.sub_mul, Int.one_mul, Int.mul_comm]
  unfold nearI
  exact ⟨⟨c0, c1⟩, ⟨r0, r1⟩, ⟨h2, by omega⟩, by omega, by omega⟩
/-- The code of a terrain and a point, and what is returned with it. -/
def atC (s x y : Int) (zs cs : List Int) (px py : Int) : Int := if okT s x y zs cs = false then 1 else if inT s x y px py = false then 2 else 0
theorem at_no {s x y px py : Int} {zs cs : List Int} (h : okT s x y zs cs = false) : atC s x y zs cs px py = 1 := if_pos h
theorem at_far {s x y px py : Int} {zs cs : List Int} (h : okT s x y zs cs = true) (k : inT s x y px py = false) : atC s x y zs cs px py = 2 := by unfold atC; rw [h, if_neg (by simp), if_pos k]
theorem at_ok {s x y px py : Int} {zs cs : List Int} (h : okT s x y zs cs = true) (k : inT s x y px py = true) : atC s x y zs cs px py = 0 := by unfold atC; rw [h, if_neg (by simp), k, if_neg (by simp)]
theorem of_at {s x y px py : Int} {zs cs : List Int} (h : atC s x y zs cs px py = 0) : okT s x y zs cs = true ∧ inT s x y px py = true := by
  cases ho : okT s x y zs cs with
  | false => rw [at_no ho] at h; omega
  | true =>
    cases hi : inT s x y px py with
    | false => rw [at_far ho hi] at h; omega
    | true => exact ⟨rfl, rfl⟩
def clutV (s x y : Int) (zs cs : List Int) (px py : Int) : Int := if atC s x y zs cs px py = 0 then cs.getD (nearI s x px py).toNat 0 else 0
theorem impl_index (s x y c r : Int) (w : World) (r0 : 0 ≤ r * x) (r1 : r * x ≤ 1000) (c0 : 0 ≤ c) (c1 : c ≤ 1000) :
    Calls Try.prog 54 #[.agg #[.int .i64 s, .int .i64 x, .int .i64 y], .int .i64 c, .int .i64 r] w fun e w' => e = .returned (.int .i64 (r * x + c)) ∧ On w w' := by
  have e1 : IntKind.i64.wrap (r * x) = r * x := IntWalk.i64_in _ (by omega)
  go_enter Try.func54, Try.ntmps54
  go_wp2_with fail
  go_ret
  exact ⟨rfl, by repeat (first | with_reducible exact On.refl _ | apply On.alloc)⟩
set_option maxHeartbeats 2000000 in
theorem spec_clutter (g bc oc m dap : Nat) (s x y px py : Int) (v : Value) (cs : List Int) (w : World) (hp : TIn w g s x y v (.slice (some ⟨bc, oc, none⟩) m dap)) (hbc : bc < w.heap.size) (hcell : ∀ i, i < m → w.cell? ⟨bc, oc + i, none⟩ = some (.int .i64 (cs.getD i 0)))
    (hm : (m : Int) = x * y) (s0 : 1 ≤ s) (s1 : s ≤ 10000) (x0 : 2 ≤ x) (x1 : x ≤ 24) (y0 : 2 ≤ y) (y1 : y ≤ 24) (hi : inT s x y px py = true) :
    Calls Try.prog 38 #[.pointer (some ⟨g, 0, none⟩), .agg #[.int .i64 px, .int .i64 py]] w fun e w' => e = .returned (.int .i64 (cs.getD (nearI s x px py).toNat 0)) ∧ On w w' := by
  obtain ⟨k0, k1, k2, k3, k4⟩ := hp
  have hg := World.block_lt_of_cell? w _ k0
  have hg1 : g < w.heap.size + 1 := by simp at hg; omega
  have hg2 : g ≠ w.heap.size := by simp at hg; omega
  have hb1 : bc < w.heap.size + 1 := by omega
  have hb2 : bc ≠ w.heap.size := by omega
  obtain ⟨⟨c0, c1⟩, ⟨r0, r1⟩, ⟨rx0, rx1⟩, i0, i1⟩ := near_bd s0 x0 x1 y1 hi
  obtain ⟨⟨p0, p1⟩, q0, q1⟩ := of_inT hi
  obtain ⟨z0, z1⟩ := prod_s (a := x - 1) (by omega) (by omega) s0 s1
  obtain ⟨z2, z3⟩ := prod_s (a := y - 1) (by omega) (by omega) s0 s1
  have hidx := hcell (nearI s x px py).toNat (by omega)
  have e1 : IntKind.i64.wrap (2 * px) = 2 * px := IntWalk.i64_in _ (by omega)
  have e2 : IntKind.i64.wrap (2 * px + s) = 2 * px + s := IntWalk.i64_in _ (by omega)
  have e3 : IntKind.i64.wrap (2 * s) = 2 * s := IntWalk.i64_in _ (by omega)
  have e4 : IntKind.i64.wrap (2 * py) = 2 * py := IntWalk.i64_in _ (by omega)
  have e5 : IntKind.i64.wrap (2 * py + s) = 2 * py + s := IntWalk.i64_in _ (by omega)
  have t0 : ¬ 2 * s = 0 := by omega
  have t0s : ¬ s = 0 := by omega
  have t1 : (2 * px + s).tdiv (2 * s) = cellOf px s := Int.tdiv_eq_ediv_of_nonneg (by omega)
  have t2 : (2 * py + s).tdiv (2 * s) = cellOf py s := Int.tdiv_eq_ediv_of_nonneg (by omega)
  obtain ⟨c, hc⟩ : ∃ c, c = cellOf px s := ⟨_, rfl⟩
  obtain ⟨r, hr⟩ : ∃ r, r = cellOf py s := ⟨_, rfl⟩
  rw [← hc] at t1
  rw [← hr] at t2
  have u1 : (2 * px + s) / (2 * s) = c := hc.symm
  have u2 : (2 * py + s) / (2 * s) = r := hr.symm
  have b1 : IntKind.i64.wrap c = c := IntWalk.i64_in _ (by omega)
  have b2 : IntKind.i64.wrap r = r := IntWalk.i64_in _ (by omega)
  have hN : nearI s x px py = r * x + c := by rw [hc, hr]; rfl
  rw [← hr] at rx0 rx1
  obtain ⟨j, hj⟩ := Int.eq_ofNat_of_zero_le i0
  rw [hN] at hj
  have e6 : IntKind.i64.wrap (r * x) = r * x := IntWalk.i64_in _ (by omega)
  have e7 : IntKind.i64.wrap (r * x + c) = (j : Int) := by rw [hj]; exact IntWalk.i64_in _ (by omega)
  have e8 : r * x + c = (j : Int) := hj
  have e9 : IntKind.i64.wrap (j : Int) = (j : Int) := IntWalk.i64_in _ (by omega)
  have hjm : j < m := by omega
  have hjmi : (j : Int) < (m : Int) := by omega
  have hZ : (nearI s x px py).toNat = j := by rw [hN, hj]; exact Int.toNat_natCast j
  rw [hZ] at hidx
  have HE := Lib.hid (show cs.getD j 0 = cs.getD (nearI s x px py).toNat 0 by rw [hZ])
  obtain ⟨u, hu⟩ : ∃ u, u = cs.getD j 0 := ⟨_, rfl⟩
  rw [← hu] at hidx HE
  clear hu hZ hN hc hr hj hm hi hcell
  go_enter Try.func38, Try.ntmps38
  go_wp2_with fail
  refine wp_region_onh (by kernel_rfl) (by kernel_rfl) ?_
  repeat (refine rest_step (fun K hK => ?_); go_simp; first | (refine hK _ ?_; clear hK K) | (apply Exists.intro; refine ⟨fun v1 hv1 => ?_, hK _ ?_⟩; (first | with_reducible exact rfl | with_reducible exact ⟨rfl, rfl⟩ | (obtain ⟨hc, hf⟩ := bcell hv1; go_simp; first | with_reducible exact rfl | with_reducible exact ⟨rfl, rfl⟩ | exact rfl | exact ⟨rfl, rfl⟩)); clear hK K))
  refine rest_nil ?_
  intro w1 h1
  obtain ⟨hc1, hf1⟩ := bcell h1
  have y1' : w.heap.size < w1.heap.size := by have := h1.size; simp at this; omega
  have y2' : g < w1.heap.size := by omega
  have y3' : bc < w1.heap.size := by omega
  go_wp2_with fail
  refine wp_region_onh (by kernel_rfl) (by kernel_rfl) ?_
  repeat (refine rest_step (fun K hK => ?_); go_simp; first | (refine hK _ ?_; clear hK K) | (apply Exists.intro; refine ⟨fun v1 hv1 => ?_, hK _ ?_⟩; (first | with_reducible exact rfl | with_reducible exact ⟨rfl, rfl⟩ | (obtain ⟨hc, hf⟩ := bcell hv1; go_simp; first | with_reducible exact rfl | with_reducible exact ⟨rfl, rfl⟩ | exact rfl | exact ⟨rfl, rfl⟩)); clear hK K))
  refine rest_nil ?_
  intro w2 h2
  obtain ⟨hc2, hf2⟩ := bcell h2
  have y4' : w.heap.size < w2.heap.size := by have := h2.size; omega
  have y5' : g < w2.heap.size := by omega
  have y6' : bc < w2.heap.size := by omega
  go_wp2_with fail
  refine wp_region_onh (by kernel_rfl) (by kernel_rfl) ?_
  repeat (refine rest_step (fun K hK => ?_); go_simp; first | (refine hK _ ?_; clear hK K) | (apply Exists.intro; refine ⟨fun v1 hv1 => ?_, hK _ ?_⟩; (first | with_reducible exact rfl | with_reducible exact ⟨rfl, rfl⟩ | (obtain ⟨hc, hf⟩ := bcell hv1; go_simp; first | with_reducible exact rfl | with_reducible exact ⟨rfl, rfl⟩ | exact rfl | exact ⟨rfl, rfl⟩)); clear hK K))
  refine rest_nil ?_
  intro w3 h3
  go_wp2_with fail
  go_ret
  exact ⟨ret_int HE.out, by repeat (first | with_reducible exact On.refl _ | apply On.alloc | refine On.trans ?_ h3 | refine On.trans ?_ h2 | refine On.trans ?_ h1)⟩
end Go.Proofs.Ytadoaenmmemjdaa.Terr
