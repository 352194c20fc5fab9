
/-
  The height at a point of a terrain, the program's. Conditions: each theorem's own.
-/
import Derived.Test.YtadoaenmmemjdaaTerrHS
namespace Go.Proofs.Ytadoaenmmemjdaa.Terr
open Go.RowKit
open Plain
open Ints (Ints Own)

theorem impl_lineBefore (p s m u : Int) (I : Nat) (w : World) (s0 : 1 ≤ s) (s1 : s ≤ 10000) (m0 : 2 ≤ m) (m1 : m ≤ 24) (p0 : 0 ≤ p) (p1 : p ≤ 230000) (hI : li p s m = (I : Int)) (is0 : 0 ≤ (I : Int) * s) (is1 : (I : Int) * s ≤ 230000) (hu : p - (I : Int) * s = u) (_u0 : 0 ≤ u) (_u1 : u ≤ s) :
    Calls Try.prog 51 #[.int .i64 p, .int .i64 s, .int .i64 m] w fun e w' => e = .returned (.tuple #[.int .i64 I, .int .i64 u]) ∧ w = w' := by
  have hM := fun w => Turn.impl_least (p / s) (m - 2) w
  rw [show Turn.gmin (p / s) (m - 2) = (I : Int) from hI] at hM
  have HM := Lib.hid hM
  have q0 : 0 ≤ p / s := Int.ediv_nonneg p0 (by omega)
  have q1 : p / s ≤ p := Int.ediv_le_self _ p0
  have HU := Lib.hid hu
  have sp : 0 < s := by omega
  clear hM hI hu
  go_enter Try.func51, Try.ntmps51
  go_wp2_with fail
  refine (HM.out _).mono ?_
  rintro e w1 ⟨rfl, rfl⟩
  go_wp2_with fail
  go_ret2
  exact ⟨ret_ii rfl HU.out, rfl⟩
set_option maxHeartbeats 1000000 in
theorem impl_row (s x y : Int) (bz oz n cap K L0 L1 : Nat) (w : World) (h0 : (K : Int) * x = (L0 : Int)) (h1 : ((K : Int) + 1) * x = (L1 : Int)) (hl0 : L0 < L1) (hn : L1 ≤ n) (hm : n ≤ 576) (hc : n ≤ cap) (hK : K ≤ 24) :
    Calls Try.prog 52 #[.agg #[.int .i64 s, .int .i64 x, .int .i64 y], .slice (some ⟨bz, oz, none⟩) n cap, .int .i64 K] w fun e w' => e = .returned (.slice (some ⟨bz, oz + L0, none⟩) (L1 - L0) (cap - L0)) ∧ On w w' := by
  have hX0 := fun w => impl_index s x y 0 (K : Int) w (by omega) (by omega) (by omega) (by omega)
  rw [Int.add_zero, h0] at hX0
  have hX1 := fun w => impl_index s x y 0 ((K : Int) + 1) w (by omega) (by omega) (by omega) (by omega)
  rw [Int.add_zero, h1] at hX1
  have HX0 := Lib.hid hX0
  have HX1 := Lib.hid hX1
  have w1 : IntKind.i64.wrap ((K : Int) + 1) = (K : Int) + 1 := IntWalk.i64_in _ (by omega)
  have hl : L0 ≤ L1 := by omega
  have c1 : L1 ≤ cap := by omega
  have c4 : L0 < cap := by omega
  have c5 : ¬ cap = L0 := by omega
  have c6 : ¬ cap - L0 = 0 := by omega
  have c7 : ¬ cap ≤ L0 := by omega
  have c2 : (L0 : Int) ≤ (L1 : Int) := by omega
  have c3 : (L1 : Int) ≤ (cap : Int) := by omega
  clear hX0 hX1 h0 h1
  go_enter Try.func52, Try.ntmps52
  go_wp2_with fail
  refine wp_region_onh (by kernel_rfl) (by kernel_rfl) ?_
  repeat (refine rest_step (fun K hK => ?_); go_simp; first | (refine hK _ ?_; clear hK K) | (apply Exists.intro; refine ⟨fun v1 hv1 => ?_, hK _ ?_⟩; (first | with_reducible exact rfl | with_reducible exact ⟨rfl, rfl⟩ | with_reducible exact Calls.on hv1 (HX0.out _) | with_reducible exact Calls.on hv1 (HX1.out _) | (obtain ⟨hc, hf⟩ := bcell hv1; go_simp; first | with_reducible exact rfl | with_reducible exact ⟨rfl, rfl⟩ | exact rfl | exact ⟨rfl, rfl⟩)); clear hK K))
  refine rest_nil ?_
  intro v1 r1
  go_wp2_with fail
  go_ret
  exact ⟨rfl, by repeat (first | with_reducible exact On.refl _ | apply On.alloc | refine On.trans ?_ r1)⟩
set_option maxRecDepth 100000 in
set_option maxHeartbeats 4000000 in
theorem impl_heightOf (bz oz n cap I K A X m dap : Nat) (b : Option Addr) (s x y px py u v h0 h1 h2 h3 : Int) (zs : List Int) (w : World) (sp : Spot s x y px py zs n I K A X u v h0 h1 h2 h3)
    (hbz : bz < w.heap.size) (hcell : ∀ i, i < n → w.cell? ⟨bz, oz + i, none⟩ = some (.int .i64 (zs.getD i 0))) (hn : n ≤ 576) (hxy : (n : Int) = x * y) (hcap : n ≤ cap)
    (s0 : 1 ≤ s) (s1 : s ≤ 10000) (x0 : 2 ≤ x) (x1 : x ≤ 24) (y0 : 2 ≤ y) (y1 : y ≤ 24) (hi : inT s x y px py = true) :
    Calls Try.prog 37 #[.agg #[.int .i64 s, .int .i64 x, .int .i64 y, .slice (some ⟨bz, oz, none⟩) n cap, .slice b m dap], .agg #[.int .i64 px, .int .i64 py]] w fun e w' => e = .returned (.int .i64 (hgt s x y zs px py)) ∧ On w w' := by
  have hb1 : bz < w.heap.size + 1 := by omega
  have hb2 : bz < w.heap.size + 1 + 1 := by omega
  have cA0 : w.cell? ⟨bz, oz + A, none⟩ = some (.int .i64 h0) := by rw [← sp.g0]; exact hcell A (by have := sp.hAn; omega)
  have cA1 : w.cell? ⟨bz, oz + (A + 1), none⟩ = some (.int .i64 h1) := by rw [← sp.g1]; exact hcell (A + 1) (by have := sp.hAn; omega)
  have cA2 : w.cell? ⟨bz, oz + (A + X), none⟩ = some (.int .i64 h2) := by rw [← sp.g2]; exact hcell (A + X) (by have := sp.hAn; omega)
  have cA3 : w.cell? ⟨bz, oz + (A + X + 1), none⟩ = some (.int .i64 h3) := by rw [← sp.g3]; exact hcell (A + X + 1) (by have := sp.hAn; omega)
  obtain ⟨⟨p0, p1⟩, q0, q1⟩ := of_inT hi
  obtain ⟨-, -, -, ⟨d0, d1⟩, d2⟩ := li_bd s0 s1 x0 x1 p0 p1
  obtain ⟨-, -, -, ⟨e0, e1⟩, e2⟩ := li_bd s0 s1 y0 y1 q0 q1
  obtain ⟨hx, hI, hK, hI2, hK2, hA, hAn, hu, hv, u0, u1, v0, v1, is0, is1, ks0, ks1, kx0, kx1, -, -, -, -, ⟨b00, b01⟩, ⟨b10, b11⟩, ⟨b20, b21⟩, ⟨b30, b31⟩, hout⟩ := sp
  have wI : IntKind.i64.wrap ((I : Int) * s) = (I : Int) * s := IntWalk.i64_in _ (by omega)
  have wK : IntKind.i64.wrap ((K : Int) * s) = (K : Int) * s := IntWalk.i64_in _ (by omega)
  have wu : IntKind.i64.wrap (px - (I : Int) * s) = u := by rw [hu]; exact IntWalk.i64_in _ (by omega)
  have wv : IntKind.i64.wrap (py - (K : Int) * s) = v := by rw [hv]; exact IntWalk.i64_in _ (by omega)
  have wu2 : IntKind.i64.wrap u = u := IntWalk.i64_in _ (by omega)
  have wv2 : IntKind.i64.wrap v = v := IntWalk.i64_in _ (by omega)
  obtain ⟨m1, m2⟩ := mb (a := h0) (b := s - u) (A := 90000) (B := 10000) b00 b01 (by omega) (by omega)
  obtain ⟨m3, m4⟩ := mb (a := h1) (b := u) (A := 90000) (B := 10000) b10 b11 u0 (by omega)
  obtain ⟨m5, m6⟩ := mb (a := h2) (b := s - u) (A := 90000) (B := 10000) b20 b21 (by omega) (by omega)
  obtain ⟨m7, m8⟩ := mb (a := h3) (b := u) (A := 90000) (B := 10000) b30 b31 u0 (by omega)
  obtain ⟨n1, n2⟩ := mb (a := h0 * (s - u)) (b := s - v) (A := 900000000) (B := 10000) m1 (by omega) (by omega) (by omega)
  obtain ⟨n3, n4⟩ := mb (a := h1 * u) (b := s - v) (A := 900000000) (B := 10000) m3 (by omega) (by omega) (by omega)
  obtain ⟨n5, n6⟩ := mb (a := h2 * (s - u)) (b := v) (A := 900000000) (B := 10000) m5 (by omega) v0 (by omega)
  obtain ⟨n7, n8⟩ := mb (a := h3 * u) (b := v) (A := 900000000) (B := 10000) m7 (by omega) v0 (by omega)
  obtain ⟨o1, o2⟩ := mb (a := s) (b := s) (A := 10000) (B := 10000) (by omega) s1 (by omega) s1
  have o3 : 1 ≤ s * s := by have := Int.mul_pos (a := s) (b := s) (by omega) (by omega); omega
  have w1 : IntKind.i64.wrap (s - u) = s - u := IntWalk.i64_in _ (by omega)
  have w2 : IntKind.i64.wrap (s - v) = s - v := IntWalk.i64_in _ (by omega)
  have w3 : IntKind.i64.wrap (h0 * (s - u)) = h0 * (s - u) := IntWalk.i64_in _ (by omega)
  have w4 : IntKind.i64.wrap (h1 * u) = h1 * u := IntWalk.i64_in _ (by omega)
  have w5 : IntKind.i64.wrap (h2 * (s - u)) = h2 * (s - u) := IntWalk.i64_in _ (by omega)
  have w6 : IntKind.i64.wrap (h3 * u) = h3 * u := IntWalk.i64_in _ (by omega)
  have wss : IntKind.i64.wrap (s * s) = s * s := IntWalk.i64_in _ (by omega)
  have w7 : IntKind.i64.wrap (h0 * (s - u) + h1 * u) = h0 * (s - u) + h1 * u := IntWalk.i64_in _ (by omega)
  have w8 : IntKind.i64.wrap (h2 * (s - u) + h3 * u) = h2 * (s - u) + h3 * u := IntWalk.i64_in _ (by omega)
  obtain ⟨r1, r2⟩ := mb (a := h0 * (s - u) + h1 * u) (b := s - v) (A := 1800000000) (B := 10000) (by omega) (by omega) (by omega) (by omega)
  obtain ⟨r3, r4⟩ := mb (a := h2 * (s - u) + h3 * u) (b := v) (A := 1800000000) (B := 10000) (by omega) (by omega) v0 (by omega)
  have w9 : IntKind.i64.wrap ((h0 * (s - u) + h1 * u) * (s - v)) = (h0 * (s - u) + h1 * u) * (s - v) := IntWalk.i64_in _ (by omega)
  have w10 : IntKind.i64.wrap ((h2 * (s - u) + h3 * u) * v) = (h2 * (s - u) + h3 * u) * v := IntWalk.i64_in _ (by omega)
  have hS : hSum h0 h1 h2 h3 s u v = (h0 * (s - u) + h1 * u) * (s - v) + (h2 * (s - u) + h3 * u) * v := rfl
  have w11 : IntKind.i64.wrap ((h0 * (s - u) + h1 * u) * (s - v) + (h2 * (s - u) + h3 * u) * v) = hSum h0 h1 h2 h3 s u v := by rw [hS]; exact IntWalk.i64_in _ (by omega)
  have hs0 : 0 ≤ hSum h0 h1 h2 h3 s u v ∧ hSum h0 h1 h2 h3 s u v ≤ 40000000000000 := by rw [hS]; omega
  obtain ⟨hs0, hs1⟩ := hs0
  obtain ⟨L0, hL0⟩ := Int.eq_ofNat_of_zero_le kx0
  have hL1 : ((K : Int) + 1) * x = ((L0 + X : Nat) : Int) := by rw [Int.add_mul, Int.one_mul]; omega
  have hL2 : ((K : Int) + 1 + 1) * x = ((L0 + X + X : Nat) : Int) := by rw [Int.add_mul, Int.one_mul, hL1]; omega
  have hAL : A = L0 + I := by omega
  have hXn : L0 + X + X ≤ n := by
    have h5 : ((K : Int) + 1 + 1) * x ≤ y * x := Int.mul_le_mul_of_nonneg_right (by omega) (by omega)
    have h6 : y * x = x * y := Int.mul_comm y x
    omega
  have hk1 : (((K + 1 : Nat)) : Int) = (K : Int) + 1 := by omega
  have hR0 := fun w => impl_row s x y bz oz n cap K L0 (L0 + X) w hL0 hL1 (by omega) (by omega) hn hcap (by omega)
  rw [Nat.add_sub_cancel_left] at hR0
  have hR1 := fun w => impl_row s x y bz oz n cap (K + 1) (L0 + X) (L0 + X + X) w (by rw [hk1]; exact hL1) (by rw [hk1]; exact hL2) (by omega) hXn hn hcap (by omega)
  rw [Nat.add_sub_cancel_left, hk1] at hR1
  obtain ⟨P0, hP0⟩ : ∃ P, P = oz + L0 := ⟨_, rfl⟩
  obtain ⟨P1, hP1⟩ : ∃ P, P = oz + (L0 + X) := ⟨_, rfl⟩
  obtain ⟨I1, hI1⟩ : ∃ J, J = I + 1 := ⟨_, rfl⟩
  rw [← hP0] at hR0
  rw [← hP1] at hR1
  have c0 : w.cell? ⟨bz, P0 + I, none⟩ = some (.int .i64 h0) := by rw [show P0 + I = oz + A from by omega]; exact cA0
  have c1 : w.cell? ⟨bz, P0 + I1, none⟩ = some (.int .i64 h1) := by rw [show P0 + I1 = oz + (A + 1) from by omega]; exact cA1
  have c2 : w.cell? ⟨bz, P1 + I, none⟩ = some (.int .i64 h2) := by rw [show P1 + I = oz + (A + X) from by omega]; exact cA2
  have c3 : w.cell? ⟨bz, P1 + I1, none⟩ = some (.int .i64 h3) := by rw [show P1 + I1 = oz + (A + X + 1) from by omega]; exact cA3
  have i0 : I < X := by omega
  have i1 : I1 < X := by omega
  have j0 : (I : Int) < (X : Int) := by omega
  have j1 : (I1 : Int) < (X : Int) := by omega
  have f1 : (I : Int) + 1 = (I1 : Int) := by omega
  have wI1 : IntKind.i64.wrap (I1 : Int) = (I1 : Int) := IntWalk.i64_in _ (by omega)
  have HLX := Lib.hid (fun w => impl_lineBefore px s x u I w s0 s1 x0 x1 p0 d2 hI is0 is1 hu u0 u1)
  have HLY := Lib.hid (fun w => impl_lineBefore py s y v K w s0 s1 y0 y1 q0 e2 hK ks0 ks1 hv v0 v1)
  have HG := Lib.hid (fun w => impl_grid s x y (some ⟨bz, oz, none⟩) b n cap m dap w)
  have HN := Lib.hid (fun w => Arith.nearest (hSum h0 h1 h2 h3 s u v) (s * s) w (by omega) (by omega) (by omega) (by omega) (by omega))
  have HR0 := Lib.hid hR0
  have HR1 := Lib.hid hR1
  have HE := Lib.hid hout.symm
  have wk : IntKind.i64.wrap ((K : Int) + 1) = (K : Int) + 1 := IntWalk.i64_in _ (by omega)
  generalize hSum h0 h1 h2 h3 s u v = S at *
  have wS : IntKind.i64.wrap S = S := IntWalk.i64_in _ (by omega)
  clear hP0 hP1 hI1 hk1 hAL hL0 hL1 hL2 hXn hout hI hK hR0 hR1 hcell hi hx hI2 hK2 cA0 cA1 cA2 cA3 hA hAn hxy hS hu hv
  go_enter Try.func37, Try.ntmps37
  go_wp2_with fail
  refine (HLX.out _).mono ?_
  rintro e v1 ⟨rfl, rfl⟩
  go_wp2_with fail
  refine (HLY.out _).mono ?_
  rintro e v1 ⟨rfl, rfl⟩
  go_wp2_with fail
  refine wp_region_onh (by kernel_rfl) (by kernel_rfl) ?_
  repeat (refine rest_step (fun K hK => ?_); go_simp; first | (refine hK _ ?_; clear hK K) | (apply Exists.intro; refine ⟨fun v1 hv1 => ?_, hK _ ?_⟩; (first | with_reducible exact rfl | with_reducible exact ⟨rfl, rfl⟩ | with_reducible exact Calls.on hv1 (HG.out _) | with_reducible exact Calls.on hv1 (HR0.out _) | with_reducible exact Calls.on hv1 (HR1.out _) | (obtain ⟨hc, hf⟩ := bcell hv1; go_simp; first | with_reducible exact rfl | with_reducible exact ⟨rfl, rfl⟩ | exact rfl | exact ⟨rfl, rfl⟩)); clear hK K))
  refine rest_nil ?_
  intro v3 r3
  obtain ⟨hc3, hf3⟩ := bcell r3
  obtain ⟨y1', y2', y3'⟩ : w.heap.size < v3.heap.size ∧ w.heap.size + 1 < v3.heap.size ∧ bz < v3.heap.size := by have := r3.size; simp at this; omega
  go_wp2_with fail
  refine wp_region_onh (by kernel_rfl) (by kernel_rfl) ?_
  repeat (refine rest_step (fun K hK => ?_); go_simp; first | (refine hK _ ?_; clear hK K) | (apply Exists.intro; refine ⟨fun v1 hv1 => ?_, hK _ ?_⟩; (first | with_reducible exact rfl | with_reducible exact ⟨rfl, rfl⟩ | (obtain ⟨hc, hf⟩ := bcell hv1; go_simp; first | with_reducible exact rfl | with_reducible exact ⟨rfl, rfl⟩ | exact rfl | exact ⟨rfl, rfl⟩)); clear hK K))
  refine rest_nil ?_
  intro v4 r4
  obtain ⟨hc4, hf4⟩ := bcell r4
  obtain ⟨y4', y5', y6'⟩ : w.heap.size < v4.heap.size ∧ w.heap.size + 1 < v4.heap.size ∧ bz < v4.heap.size := by have := r4.size; omega
  go_wp2_with fail
  refine (HN.out _).mono ?_
  rintro e v5 ⟨rfl, q, rfl⟩
  go_wp2_with fail
  go_ret
  exact ⟨ret_int HE.out, by repeat (first | with_reducible exact On.refl _ | apply On.drewN | apply On.alloc | refine On.trans ?_ r4 | refine On.trans ?_ r3)⟩
end Go.Proofs.Ytadoaenmmemjdaa.Terr
