
/-
  The height at a point of a terrain, the model's. Conditions: each theorem's own.
-/
import Derived.Test.YtadoaenmmemjdaaTerrH
namespace Go.Proofs.Ytadoaenmmemjdaa.Terr
open Go.RowKit
open Plain
open Ints (Ints Own)

set_option maxRecDepth 100000 in
set_option maxHeartbeats 4000000 in
theorem spec_heightOf (g bz oz n cap I K A X : Nat) (s x y px py u v h0 h1 h2 h3 : Int) (z : Value) (zs : List Int) (w : World) (sp : Spot s x y px py zs n I K A X u v h0 h1 h2 h3)
    (hp : TIn w g s x y (.slice (some ⟨bz, oz, none⟩) n cap) z) (hbz : bz < w.heap.size) (hcell : ∀ i, i < n → w.cell? ⟨bz, oz + i, none⟩ = some (.int .i64 (zs.getD i 0))) (hn : n ≤ 576)
    (s0 : 1 ≤ s) (s1 : s ≤ 10000) (x0 : 2 ≤ x) (x1 : x ≤ 24) (y0 : 2 ≤ y) (y1 : y ≤ 24) (hi : inT s x y px py = true) :
    Calls Try.prog 47 #[.pointer (some ⟨g, 0, none⟩), .agg #[.int .i64 px, .int .i64 py]] w fun e w' => e = .returned (.int .i64 (hgt s x y zs px py)) ∧ On w w' := by
  obtain ⟨k0, k1, k2, k3, k4⟩ := hp
  have hg := World.block_lt_of_cell? w _ k0
  have hg1 : g < w.heap.size + 1 := by simp at hg; omega
  have hg2 : g ≠ w.heap.size := by simp at hg; omega
  have hb1 : bz < w.heap.size + 1 := by omega
  have hb2 : bz ≠ w.heap.size := by omega
  have cA0 : w.cell? ⟨bz, oz + A, none⟩ = some (.int .i64 h0) := by rw [← sp.g0]; exact hcell A (by have := sp.hAn; omega)
  have cA1 : w.cell? ⟨bz, oz + (A + 1), none⟩ = some (.int .i64 h1) := by rw [← sp.g1]; exact hcell (A + 1) (by have := sp.hAn; omega)
  have cA2 : w.cell? ⟨bz, oz + (A + X), none⟩ = some (.int .i64 h2) := by rw [← sp.g2]; exact hcell (A + X) (by have := sp.hAn; omega)
  have cA3 : w.cell? ⟨bz, oz + (A + X + 1), none⟩ = some (.int .i64 h3) := by rw [← sp.g3]; exact hcell (A + X + 1) (by have := sp.hAn; omega)
  obtain ⟨⟨p0, p1⟩, q0, q1⟩ := of_inT hi
  obtain ⟨-, -, -, ⟨d0, d1⟩, d2⟩ := li_bd s0 s1 x0 x1 p0 p1
  obtain ⟨-, -, -, ⟨e0, e1⟩, e2⟩ := li_bd s0 s1 y0 y1 q0 q1
  obtain ⟨hx, hI, hK, hI2, hK2, hA, hAn, hu, hv, u0, u1, v0, v1, is0, is1, ks0, ks1, kx0, kx1, -, -, -, -, ⟨b00, b01⟩, ⟨b10, b11⟩, ⟨b20, b21⟩, ⟨b30, b31⟩, hout⟩ := sp
  have wI : IntKind.i64.wrap ((I : Int) * s) = (I : Int) * s := IntWalk.i64_in _ (by omega)
  have wK : IntKind.i64.wrap ((K : Int) * s) = (K : Int) * s := IntWalk.i64_in _ (by omega)
  have wu : IntKind.i64.wrap (px - (I : Int) * s) = u := by rw [hu]; exact IntWalk.i64_in _ (by omega)
  have wv : IntKind.i64.wrap (py - (K : Int) * s) = v := by rw [hv]; exact IntWalk.i64_in _ (by omega)
  have wu2 : IntKind.i64.wrap u = u := IntWalk.i64_in _ (by omega)
  have wv2 : IntKind.i64.wrap v = v := IntWalk.i64_in _ (by omega)
  obtain ⟨m1, m2⟩ := mb (a := h0) (b := s - u) (A := 90000) (B := 10000) b00 b01 (by omega) (by omega)
  obtain ⟨m3, m4⟩ := mb (a := h1) (b := u) (A := 90000) (B := 10000) b10 b11 u0 (by omega)
  obtain ⟨m5, m6⟩ := mb (a := h2) (b := s - u) (A := 90000) (B := 10000) b20 b21 (by omega) (by omega)
  obtain ⟨m7, m8⟩ := mb (a := h3) (b := u) (A := 90000) (B := 10000) b30 b31 u0 (by omega)
  obtain ⟨n1, n2⟩ := mb (a := h0 * (s - u)) (b := s - v) (A := 900000000) (B := 10000) m1 (by omega) (by omega) (by omega)
  obtain ⟨n3, n4⟩ := mb (a := h1 * u) (b := s - v) (A := 900000000) (B := 10000) m3 (by omega) (by omega) (by omega)
  obtain ⟨n5, n6⟩ := mb (a := h2 * (s - u)) (b := v) (A := 900000000) (B := 10000) m5 (by omega) v0 (by omega)
  obtain ⟨n7, n8⟩ := mb (a := h3 * u) (b := v) (A := 900000000) (B := 10000) m7 (by omega) v0 (by omega)
  obtain ⟨o1, o2⟩ := mb (a := s) (b := s) (A := 10000) (B := 10000) (by omega) s1 (by omega) s1
  have o3 : 1 ≤ s * s := by have := Int.mul_pos (a := s) (b := s) (by omega) (by omega); omega
  have w1 : IntKind.i64.wrap (s - u) = s - u := IntWalk.i64_in _ (by omega)
  have w2 : IntKind.i64.wrap (s - v) = s - v := IntWalk.i64_in _ (by omega)
  have w3 : IntKind.i64.wrap (h0 * (s - u)) = h0 * (s - u) := IntWalk.i64_in _ (by omega)
  have w4 : IntKind.i64.wrap (h1 * u) = h1 * u := IntWalk.i64_in _ (by omega)
  have w5 : IntKind.i64.wrap (h2 * (s - u)) = h2 * (s - u) := IntWalk.i64_in _ (by omega)
  have w6 : IntKind.i64.wrap (h3 * u) = h3 * u := IntWalk.i64_in _ (by omega)
  have wss : IntKind.i64.wrap (s * s) = s * s := IntWalk.i64_in _ (by omega)
  have w7 : IntKind.i64.wrap (h0 * (s - u) * (s - v)) = h0 * (s - u) * (s - v) := IntWalk.i64_in _ (by omega)
  have w8 : IntKind.i64.wrap (h1 * u * (s - v)) = h1 * u * (s - v) := IntWalk.i64_in _ (by omega)
  have w9 : IntKind.i64.wrap (h0 * (s - u) * (s - v) + h1 * u * (s - v)) = h0 * (s - u) * (s - v) + h1 * u * (s - v) := IntWalk.i64_in _ (by omega)
  have w10 : IntKind.i64.wrap (h2 * (s - u) * v) = h2 * (s - u) * v := IntWalk.i64_in _ (by omega)
  have w11 : IntKind.i64.wrap (h0 * (s - u) * (s - v) + h1 * u * (s - v) + h2 * (s - u) * v) = h0 * (s - u) * (s - v) + h1 * u * (s - v) + h2 * (s - u) * v := IntWalk.i64_in _ (by omega)
  have w12 : IntKind.i64.wrap (h3 * u * v) = h3 * u * v := IntWalk.i64_in _ (by omega)
  have hflat := hSum_flat h0 h1 h2 h3 s u v
  have hs0 : 0 ≤ hSum h0 h1 h2 h3 s u v ∧ hSum h0 h1 h2 h3 s u v ≤ 40000000000000 := by rw [← hflat]; omega
  obtain ⟨hs0, hs1⟩ := hs0
  have w13 : IntKind.i64.wrap (h0 * (s - u) * (s - v) + h1 * u * (s - v) + h2 * (s - u) * v + h3 * u * v) = hSum h0 h1 h2 h3 s u v := by rw [hflat]; exact IntWalk.i64_in _ (by omega)
  have w14 : IntKind.i64.wrap (hSum h0 h1 h2 h3 s u v) = hSum h0 h1 h2 h3 s u v := IntWalk.i64_in _ (by omega)
  have hM1 := fun w => Turn.spec_min (px / s) (x - 2) w
  rw [smin_gmin, show Turn.gmin (px / s) (x - 2) = (I : Int) from hI] at hM1
  have hM2 := fun w => Turn.spec_min (py / s) (y - 2) w
  rw [smin_gmin, show Turn.gmin (py / s) (y - 2) = (K : Int) from hK] at hM2
  have HM1 := Lib.hid hM1
  have HM2 := Lib.hid hM2
  have sn : ¬ s = 0 := by omega
  have tx : px.tdiv s = px / s := Int.tdiv_eq_ediv_of_nonneg p0
  have ty : py.tdiv s = py / s := Int.tdiv_eq_ediv_of_nonneg q0
  have wx : IntKind.i64.wrap (px / s) = px / s := IntWalk.i64_in _ (by omega)
  have wy : IntKind.i64.wrap (py / s) = py / s := IntWalk.i64_in _ (by omega)
  have wx2 : IntKind.i64.wrap (x - 2) = x - 2 := IntWalk.i64_in _ (by omega)
  have wy2 : IntKind.i64.wrap (y - 2) = y - 2 := IntWalk.i64_in _ (by omega)
  obtain ⟨A1, hA1⟩ : ∃ A1, A1 = A + 1 := ⟨_, rfl⟩
  obtain ⟨A2, hA2⟩ : ∃ A2, A2 = A + X := ⟨_, rfl⟩
  obtain ⟨A3, hA3⟩ : ∃ A3, A3 = A + X + 1 := ⟨_, rfl⟩
  rw [← hA1] at cA1
  rw [← hA2] at cA2
  rw [← hA3] at cA3
  have i0 : A < n := by omega
  have i1 : A1 < n := by omega
  have i2 : A2 < n := by omega
  have i3 : A3 < n := by omega
  have j0 : (A : Int) < (n : Int) := by omega
  have j1 : (A1 : Int) < (n : Int) := by omega
  have j2 : (A2 : Int) < (n : Int) := by omega
  have j3 : (A3 : Int) < (n : Int) := by omega
  have f1 : (A : Int) + 1 = (A1 : Int) := by omega
  have f2 : (A : Int) + x = (A2 : Int) := by omega
  have f3 : (A2 : Int) + 1 = (A3 : Int) := by omega
  have wA : IntKind.i64.wrap (A : Int) = (A : Int) := IntWalk.i64_in _ (by omega)
  have wA1 : IntKind.i64.wrap (A1 : Int) = (A1 : Int) := IntWalk.i64_in _ (by omega)
  have wA2 : IntKind.i64.wrap (A2 : Int) = (A2 : Int) := IntWalk.i64_in _ (by omega)
  have wA3 : IntKind.i64.wrap (A3 : Int) = (A3 : Int) := IntWalk.i64_in _ (by omega)
  have wkx : IntKind.i64.wrap ((K : Int) * x) = (K : Int) * x := IntWalk.i64_in _ (by omega)
  have hfin := near_div_pp (hSum h0 h1 h2 h3 s u v) (s * s) (by omega) hs0
  have HE := Lib.hid (show (2 * hSum h0 h1 h2 h3 s u v + s * s) / (2 * s * s) = hgt s x y zs px py by rw [hout, hfin, Int.mul_assoc])
  have z1 : 0 < 2 * s * s := by rw [Int.mul_assoc]; omega
  have z2 : 2 * s * s ≤ 200000000 := by rw [Int.mul_assoc]; omega
  have wz : IntKind.i64.wrap (2 * s * s) = 2 * s * s := IntWalk.i64_in _ (by omega)
  generalize hSum h0 h1 h2 h3 s u v = S at *
  clear hA1 hA2 hA3 hfin hflat hout hI hK hM1 hM2 hcell hi hx hI2 hK2
  go_enter Try.func47, Try.ntmps47
  go_wp2_with fail
  refine wp_region_onh (by kernel_rfl) (by kernel_rfl) ?_
  repeat (refine rest_step (fun K hK => ?_); go_simp; first | (refine hK _ ?_; clear hK K) | (apply Exists.intro; refine ⟨fun v1 hv1 => ?_, hK _ ?_⟩; (first | with_reducible exact rfl | with_reducible exact ⟨rfl, rfl⟩ | with_reducible exact Calls.on_same hv1 (HM1.out _) | (obtain ⟨hc, hf⟩ := bcell hv1; go_simp; first | with_reducible exact rfl | with_reducible exact ⟨rfl, rfl⟩ | exact rfl | exact ⟨rfl, rfl⟩)); clear hK K))
  refine rest_nil ?_
  intro v1 r1
  obtain ⟨hc1, hf1⟩ := bcell r1
  obtain ⟨y1', y2', y3'⟩ : w.heap.size < v1.heap.size ∧ g < v1.heap.size ∧ bz < v1.heap.size := by have := r1.size; simp at this; omega
  go_wp2_with fail
  refine wp_region_onh (by kernel_rfl) (by kernel_rfl) ?_
  repeat (refine rest_step (fun K hK => ?_); go_simp; first | (refine hK _ ?_; clear hK K) | (apply Exists.intro; refine ⟨fun v1 hv1 => ?_, hK _ ?_⟩; (first | with_reducible exact rfl | with_reducible exact ⟨rfl, rfl⟩ | with_reducible exact Calls.on_same hv1 (HM2.out _) | (obtain ⟨hc, hf⟩ := bcell hv1; go_simp; first | with_reducible exact rfl | with_reducible exact ⟨rfl, rfl⟩ | exact rfl | exact ⟨rfl, rfl⟩)); clear hK K))
  refine rest_nil ?_
  intro v2 r2
  obtain ⟨hc2, hf2⟩ := bcell r2
  obtain ⟨y4', y5', y6'⟩ : w.heap.size < v2.heap.size ∧ g < v2.heap.size ∧ bz < v2.heap.size := by have := r2.size; omega
  go_wp2_with fail
  refine wp_region_onh (by kernel_rfl) (by kernel_rfl) ?_
  repeat (refine rest_step (fun K hK => ?_); go_simp; first | (refine hK _ ?_; clear hK K) | (apply Exists.intro; refine ⟨fun v1 hv1 => ?_, hK _ ?_⟩; (first | with_reducible exact rfl | with_reducible exact ⟨rfl, rfl⟩ | (obtain ⟨hc, hf⟩ := bcell hv1; go_simp; first | with_reducible exact rfl | with_reducible exact ⟨rfl, rfl⟩ | exact rfl | exact ⟨rfl, rfl⟩)); clear hK K))
  refine rest_nil ?_
  intro v3 r3
  obtain ⟨hc3, hf3⟩ := bcell r3
  obtain ⟨y7', y8', y9'⟩ : w.heap.size < v3.heap.size ∧ g < v3.heap.size ∧ bz < v3.heap.size := by have := r3.size; omega
  go_wp2_with fail
  refine wp_region_onh (by kernel_rfl) (by kernel_rfl) ?_
  repeat (refine rest_step (fun K hK => ?_); go_simp; first | (refine hK _ ?_; clear hK K) | (apply Exists.intro; refine ⟨fun v1 hv1 => ?_, hK _ ?_⟩; (first | with_reducible exact rfl | with_reducible exact ⟨rfl, rfl⟩ | (obtain ⟨hc, hf⟩ := bcell hv1; go_simp; first | with_reducible exact rfl | with_reducible exact ⟨rfl, rfl⟩ | exact rfl | exact ⟨rfl, rfl⟩)); clear hK K))
  refine rest_nil ?_
  intro v4 r4
  have hT4 : TIn v4 g s x y (.slice (some ⟨bz, oz, none⟩) n cap) z := TIn.on (TIn.on (TIn.on (TIn.on (TIn.on ⟨k0, k1, k2, k3, k4⟩ (On.alloc (On.refl w) _)) r1) r2) r3) r4
  have hO4 : On w v4 := On.trans (On.trans (On.trans (On.trans (On.alloc (On.refl w) _) r1) r2) r3) r4
  have dA0 := (hO4.cell (p := ⟨bz, oz + A, none⟩) (by exact hbz)).trans cA0
  have dA1 := (hO4.cell (p := ⟨bz, oz + A1, none⟩) (by exact hbz)).trans cA1
  have dA2 := (hO4.cell (p := ⟨bz, oz + A2, none⟩) (by exact hbz)).trans cA2
  have dA3 := (hO4.cell (p := ⟨bz, oz + A3, none⟩) (by exact hbz)).trans cA3
  have HO4 := Lib.hid hO4
  obtain ⟨l0, l1, l2, l3, l4⟩ := hT4
  have x1' : g < v4.heap.size := World.block_lt_of_cell? v4 _ l0
  have x2' : bz < v4.heap.size := hO4.lts _ hbz
  clear hc1 hf1 hc2 hf2 hc3 hf3 k0 k1 k2 k3 k4 cA0 cA1 cA2 cA3 r1 r2 r3 r4 hO4 y1' y2' y3' y4' y5' y6' y7' y8' y9'
  go_wp2_with fail
  refine wp_region_onh (by kernel_rfl) (by kernel_rfl) ?_
  repeat (refine rest_step (fun K hK => ?_); go_simp; first | (refine hK _ ?_; clear hK K) | (apply Exists.intro; refine ⟨fun v1 hv1 => ?_, hK _ ?_⟩; (first | with_reducible exact rfl | with_reducible exact ⟨rfl, rfl⟩ | (obtain ⟨hc, hf⟩ := bcell hv1; go_simp; first | with_reducible exact rfl | with_reducible exact ⟨rfl, rfl⟩ | exact rfl | exact ⟨rfl, rfl⟩)); clear hK K))
  refine rest_nil ?_
  intro v5 r5
  go_wp2_with fail
  go_ret
  exact ⟨ret_int HE.out, HO4.out.trans r5⟩
end Go.Proofs.Ytadoaenmmemjdaa.Terr
