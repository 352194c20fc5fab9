
/-
  The class of clutter at a point of a terrain, whole, in the model and in the program. Conditions: each theorem's own.
-/
import Derived.Test.YtcdmijldkmmgmabTerrClut
namespace Go.Proofs.Ytcdmijldkmmgmab.Terr
open Go.RowKit
open Plain
open Ints (Ints Own)

theorem ret_ii {a b c d : Int} (h1 : a = b) (h2 : c = d) : Ending.returned (.tuple #[.int .i64 a, .int .i64 c]) = .returned (.tuple #[.int .i64 b, .int .i64 d]) := by rw [h1, h2]
set_option maxHeartbeats 2000000 in
theorem impl_clutter (bc oc m dap n cap : Nat) (a : Option Addr) (s x y px py : Int) (cs : List Int) (w : World) (hbc : bc < w.heap.size) (hcell : ∀ i, i < m → w.cell? ⟨bc, oc + i, none⟩ = some (.int .i64 (cs.getD i 0)))
    (hm : (m : Int) = x * y) (s0 : 1 ≤ s) (s1 : s ≤ 10000) (x0 : 2 ≤ x) (x1 : x ≤ 24) (y0 : 2 ≤ y) (y1 : y ≤ 24) (hi : inT s x y px py = true) :
    Calls Try.prog 51 #[.agg #[.int .i64 s, .int .i64 x, .int .i64 y, .slice a n cap, .slice (some ⟨bc, oc, none⟩) m dap], .agg #[.int .i64 px, .int .i64 py]] w fun e w' => e = .returned (.int .i64 (cs.getD (nearI s x px py).toNat 0)) ∧ On w w' := by
  have hb1 : bc < w.heap.size + 1 := by omega
  have hb2 : bc < w.heap.size + 1 + 1 := by omega
  have hb3 : bc ≠ w.heap.size := by omega
  have hb4 : bc ≠ w.heap.size + 1 := by omega
  obtain ⟨⟨c0, c1⟩, ⟨r0, r1⟩, ⟨rx0, rx1⟩, i0, i1⟩ := near_bd s0 x0 x1 y1 hi
  obtain ⟨⟨p0, p1⟩, q0, q1⟩ := of_inT hi
  obtain ⟨z0, z1⟩ := prod_s (a := x - 1) (by omega) (by omega) s0 s1
  obtain ⟨z2, z3⟩ := prod_s (a := y - 1) (by omega) (by omega) s0 s1
  have hidx := hcell (nearI s x px py).toNat (by omega)
  have e1 : IntKind.i64.wrap (2 * px) = 2 * px := IntWalk.i64_in _ (by omega)
  have e2 : IntKind.i64.wrap (2 * px + s) = 2 * px + s := IntWalk.i64_in _ (by omega)
  have e3 : IntKind.i64.wrap (2 * s) = 2 * s := IntWalk.i64_in _ (by omega)
  have e4 : IntKind.i64.wrap (2 * py) = 2 * py := IntWalk.i64_in _ (by omega)
  have e5 : IntKind.i64.wrap (2 * py + s) = 2 * py + s := IntWalk.i64_in _ (by omega)
  have t0 : ¬ 2 * s = 0 := by omega
  have t0s : ¬ s = 0 := by omega
  have t1 : (2 * px + s).tdiv (2 * s) = cellOf px s := Int.tdiv_eq_ediv_of_nonneg (by omega)
  have t2 : (2 * py + s).tdiv (2 * s) = cellOf py s := Int.tdiv_eq_ediv_of_nonneg (by omega)
  obtain ⟨c, hc⟩ : ∃ c, c = cellOf px s := ⟨_, rfl⟩
  obtain ⟨r, hr⟩ : ∃ r, r = cellOf py s := ⟨_, rfl⟩
  rw [← hc] at t1
  rw [← hr] at t2
  have u1 : (2 * px + s) / (2 * s) = c := hc.symm
  have u2 : (2 * py + s) / (2 * s) = r := hr.symm
  have b1 : IntKind.i64.wrap c = c := IntWalk.i64_in _ (by omega)
  have b2 : IntKind.i64.wrap r = r := IntWalk.i64_in _ (by omega)
  have hN : nearI s x px py = r * x + c := by rw [hc, hr]; rfl
  rw [← hr] at rx0 rx1
  obtain ⟨j, hj⟩ := Int.eq_ofNat_of_zero_le i0
  rw [hN] at hj
  have e6 : IntKind.i64.wrap (r * x) = r * x := IntWalk.i64_in _ (by omega)
  have e7 : IntKind.i64.wrap (r * x + c) = (j : Int) := by rw [hj]; exact IntWalk.i64_in _ (by omega)
  have e8 : r * x + c = (j : Int) := hj
  have e9 : IntKind.i64.wrap (j : Int) = (j : Int) := IntWalk.i64_in _ (by omega)
  have hjm : j < m := by omega
  have hjmi : (j : Int) < (m : Int) := by omega
  have hZ : (nearI s x px py).toNat = j := by rw [hN, hj]; exact Int.toNat_natCast j
  rw [hZ] at hidx
  have HE := Lib.hid (show cs.getD j 0 = cs.getD (nearI s x px py).toNat 0 by rw [hZ])
  obtain ⟨u, hu⟩ : ∃ u, u = cs.getD j 0 := ⟨_, rfl⟩
  rw [← hu] at hidx HE
  have hx := fun w => impl_index s x y c r w rx0 (by omega) (by omega) (by omega)
  rw [e8] at hx
  have HX := Lib.hid hx
  have HG := Lib.hid (fun w => impl_grid s x y a (some ⟨bc, oc, none⟩) n cap m dap w)
  clear hu hZ hN hc hr hj hm hi hcell hx
  go_enter Try.func51, Try.ntmps51
  go_wp2_with fail
  refine wp_region_onh (by kernel_rfl) (by kernel_rfl) ?_
  repeat (refine rest_step (fun K hK => ?_); go_simp; first | (refine hK _ ?_; clear hK K) | (apply Exists.intro; refine ⟨fun v1 hv1 => ?_, hK _ ?_⟩; (first | with_reducible exact rfl | with_reducible exact ⟨rfl, rfl⟩ | with_reducible exact Calls.on hv1 (HG.out _) | with_reducible exact Calls.on hv1 (HX.out _) | (obtain ⟨hc, hf⟩ := bcell hv1; go_simp; first | with_reducible exact rfl | with_reducible exact ⟨rfl, rfl⟩ | exact rfl | exact ⟨rfl, rfl⟩)); clear hK K))
  refine rest_nil ?_
  intro w1 h1
  go_wp2_with fail
  go_ret
  exact ⟨ret_int HE.out, On.trans (On.alloc (On.alloc (On.refl _) _) _) h1⟩
set_option maxHeartbeats 2000000 in
theorem valueAt_clutterOf (s x y px py : Int) (a b : Option Addr) (n cap m dap : Nat) (zs cs : List Int) (w : World) (hzn : zs.length = n) (hcm : cs.length = m) (hn : n ≤ 1048576) (hm : m ≤ 1048576) (h : Ints w (.slice a n cap) zs) (k : Ints w (.slice b m dap) cs) (val : Int) (hv : atC s x y zs cs px py ≠ 0 → val = 0)
    (hK : atC s x y zs cs px py = 0 → ∀ w', On w w' → Calls Try.prog 51 #[.agg #[.int .i64 s, .int .i64 x, .int .i64 y, .slice a n cap, .slice b m dap], .agg #[.int .i64 px, .int .i64 py]] w' fun e w'' => e = .returned (.int .i64 val) ∧ On w' w'') :
    Calls Try.prog 48 #[.agg #[.int .i64 s, .int .i64 x, .int .i64 y, .slice a n cap, .slice b m dap], .agg #[.int .i64 px, .int .i64 py], .func (Fn.func 51) #[.agg #[.int .i64 s, .int .i64 x, .int .i64 y, .slice a n cap, .slice b m dap]] #[]] w fun e w' => e = .returned (.tuple #[.int .i64 val, .int .i64 (atC s x y zs cs px py)]) ∧ On w w' := by
  have HV := Lib.hid (fun w' (hb : On w w') => impl_validT s x y a b n cap m dap zs cs w' hzn hcm hn hm (h.below hb) (k.below hb))
  clear h k
  cases ho : okT s x y zs cs with
  | false =>
    have hc := at_no (px := px) (py := py) ho
    have en := Lib.hid (hv (by omega))
    have HC := Lib.hid hc
    clear hc hv hK
    go_enter Try.func48, Try.ntmps48
    go_wp2_with fail
    refine (HV.out _ (by repeat (first | with_reducible exact On.refl _ | with_reducible exact Below.refl _ _ | apply On.alloc))).mono ?_
    rintro e w1 ⟨rfl, h1⟩
    go_wp2_with fail
    go_ret2
    exact ⟨ret_ii en.out.symm HC.out.symm, by repeat (first | with_reducible exact On.refl _ | apply On.alloc | refine On.trans ?_ h1)⟩
  | true =>
    obtain ⟨hs, -⟩ := of_okT ho
    obtain ⟨⟨s0, s1⟩, ⟨x0, x1⟩, ⟨y0, y1⟩, -, -⟩ := of_size hs
    have HG := Lib.hid (fun w => impl_grid s x y a b n cap m dap w)
    have HI := Lib.hid (fun w => impl_contains s x y px py w s0 s1 x0 x1 y0 y1)
    cases hi : inT s x y px py with
    | false =>
      have hc := at_far ho hi
      have en := Lib.hid (hv (by omega))
      have HC := Lib.hid hc
      clear hc hv hK hs
      go_enter Try.func48, Try.ntmps48
      go_wp2_with fail
      refine (HV.out _ (by repeat (first | with_reducible exact On.refl _ | with_reducible exact Below.refl _ _ | apply On.alloc))).mono ?_
      rintro e w1 ⟨rfl, h1⟩
      obtain ⟨hc1, hf1⟩ := bcell h1
      obtain ⟨y1', y2'⟩ : w.heap.size < w1.heap.size ∧ w.heap.size + 1 < w1.heap.size := by have := h1.size; simp at this; omega
      go_wp2_with fail
      refine wp_region_onh (by kernel_rfl) (by kernel_rfl) ?_
      repeat (refine rest_step (fun K hK => ?_); go_simp; first | (refine hK _ ?_; clear hK K) | (apply Exists.intro; refine ⟨fun v1 hv1 => ?_, hK _ ?_⟩; (first | with_reducible exact rfl | with_reducible exact ⟨rfl, rfl⟩ | with_reducible exact Calls.on hv1 (HG.out _) | with_reducible exact Calls.on hv1 (HI.out _) | (obtain ⟨hc, hf⟩ := bcell hv1; go_simp; first | with_reducible exact rfl | with_reducible exact ⟨rfl, rfl⟩ | exact rfl | exact ⟨rfl, rfl⟩)); clear hK K))
      refine rest_nil ?_
      intro w2 h2
      go_wp2_with fail
      go_ret2
      exact ⟨ret_ii en.out.symm HC.out.symm, by repeat (first | with_reducible exact On.refl _ | apply On.alloc | refine On.trans ?_ h2 | refine On.trans ?_ h1)⟩
    | true =>
      have hc := at_ok ho hi
      have HC := Lib.hid hc
      have HK := Lib.hid (hK hc)
      clear hc hv hK hs
      go_enter Try.func48, Try.ntmps48
      go_wp2_with fail
      refine (HV.out _ (by repeat (first | with_reducible exact On.refl _ | with_reducible exact Below.refl _ _ | apply On.alloc))).mono ?_
      rintro e w1 ⟨rfl, h1⟩
      obtain ⟨hc1, hf1⟩ := bcell h1
      obtain ⟨y1', y2'⟩ : w.heap.size < w1.heap.size ∧ w.heap.size + 1 < w1.heap.size := by have := h1.size; simp at this; omega
      have hO1 : On w w1 := by repeat (first | with_reducible exact On.refl _ | apply On.alloc | refine On.trans ?_ h1)
      go_wp2_with fail
      refine wp_region_onh (by kernel_rfl) (by kernel_rfl) ?_
      repeat (refine rest_step (fun K hK => ?_); go_simp; first | (refine hK _ ?_; clear hK K) | (apply Exists.intro; refine ⟨fun v1 hv1 => ?_, hK _ ?_⟩; (first | with_reducible exact rfl | with_reducible exact ⟨rfl, rfl⟩ | with_reducible exact Calls.on hv1 (HG.out _) | with_reducible exact Calls.on hv1 (HI.out _) | (obtain ⟨hc, hf⟩ := bcell hv1; go_simp; first | with_reducible exact rfl | with_reducible exact ⟨rfl, rfl⟩ | exact rfl | exact ⟨rfl, rfl⟩)); clear hK K))
      refine rest_nil ?_
      intro w2 h2
      obtain ⟨hc2, hf2⟩ := bcell h2
      obtain ⟨y3', y4'⟩ : w.heap.size < w2.heap.size ∧ w.heap.size + 1 < w2.heap.size := by have := h2.size; omega
      have hO2 : On w w2 := hO1.trans h2
      go_wp2_with fail
      refine (HK.out _ hO2).mono ?_
      rintro e w3 ⟨rfl, h3⟩
      go_wp2_with fail
      go_ret2
      exact ⟨ret_ii rfl HC.out.symm, hO2.trans h3⟩
theorem at_cells {s x y px py : Int} {zs cs : List Int} {n m : Nat} (hzn : zs.length = n) (hcm : cs.length = m) (hc : atC s x y zs cs px py = 0) : inT s x y px py = true ∧ (1 ≤ s ∧ s ≤ 10000) ∧ (2 ≤ x ∧ x ≤ 24) ∧ (2 ≤ y ∧ y ≤ 24) ∧ (n : Int) = x * y ∧ (m : Int) = x * y ∧ 0 < n ∧ 0 < m ∧ GTo zs cs n := by
  obtain ⟨ho, hi⟩ := of_at hc
  obtain ⟨hs, h1, h2, h3⟩ := of_okT ho
  obtain ⟨⟨s0, s1⟩, ⟨x0, x1⟩, ⟨y0, y1⟩, -, -⟩ := of_size hs
  obtain ⟨p0, p1⟩ := prod_n x0 x1 y0 y1
  rw [hzn] at h1 h2 h3
  rw [hcm] at h2
  exact ⟨hi, ⟨s0, s1⟩, ⟨x0, x1⟩, ⟨y0, y1⟩, h1, by omega, by omega, by omega, h3⟩
set_option maxHeartbeats 2000000 in
theorem impl_clutterAt (s x y px py : Int) (a b : Option Addr) (n cap m dap : Nat) (zs cs : List Int) (w : World) (hzn : zs.length = n) (hcm : cs.length = m) (hn : n ≤ 1048576) (hm : m ≤ 1048576) (h : Ints w (.slice a n cap) zs) (k : Ints w (.slice b m dap) cs) :
    Calls Try.prog 22 #[.agg #[.int .i64 s, .int .i64 x, .int .i64 y, .slice a n cap, .slice b m dap], .agg #[.int .i64 px, .int .i64 py]] w fun e w' => e = .returned (.tuple #[.int .i64 (clutV s x y zs cs px py), .int .i64 (atC s x y zs cs px py)]) ∧ On w w' := by
  have HV := Lib.hid (fun w' (hb : On w w') => valueAt_clutterOf s x y px py a b n cap m dap zs cs w' hzn hcm hn hm (h.below hb) (k.below hb) (clutV s x y zs cs px py) (fun hc => if_neg hc) (fun hc w'' hb' => by
    obtain ⟨hi, ⟨s0, s1⟩, ⟨x0, x1⟩, ⟨y0, y1⟩, -, hmm, -, m0, -⟩ := at_cells hzn hcm hc
    obtain ⟨bc, oc, rfl, hlt, hcell⟩ := slice_of k hcm m0
    rw [show clutV s x y zs cs px py = cs.getD (nearI s x px py).toNat 0 from if_pos hc]
    exact impl_clutter bc oc m dap n cap a s x y px py cs w'' (hb'.lts _ (hb.lts _ hlt)) (fun i hi' => ((hb.trans hb').cell (p := ⟨bc, oc + i, none⟩) (by exact hlt)).trans (hcell i hi')) hmm s0 s1 x0 x1 y0 y1 hi))
  clear h k
  go_enter Try.func22, Try.ntmps22
  go_wp2_with fail
  refine (HV.out _ (by repeat (first | with_reducible exact On.refl _ | with_reducible exact Below.refl _ _ | apply On.alloc))).mono ?_
  rintro e w1 ⟨rfl, h1⟩
  go_wp2_with fail
  go_ret2
  exact ⟨rfl, by repeat (first | with_reducible exact On.refl _ | apply On.alloc | refine On.trans ?_ h1)⟩
set_option maxHeartbeats 2000000 in
theorem spec_clutterAt (s x y px py : Int) (a b : Option Addr) (n cap m dap : Nat) (zs cs : List Int) (w : World) (hzn : zs.length = n) (hcm : cs.length = m) (hn : n ≤ 1048576) (hm : m ≤ 1048576) (h : Ints w (.slice a n cap) zs) (k : Ints w (.slice b m dap) cs) :
    Calls Try.prog 21 #[.agg #[.int .i64 s, .int .i64 x, .int .i64 y, .slice a n cap, .slice b m dap], .agg #[.int .i64 px, .int .i64 py]] w fun e w' => e = .returned (.tuple #[.int .i64 (clutV s x y zs cs px py), .int .i64 (atC s x y zs cs px py)]) ∧ On w w' := by
  have HO := Lib.hid (fun w' (hb : On w w') hp => spec_okT w.heap.size n cap m dap s x y a b zs cs w' hzn hcm hn hm hp (h.below hb) (k.below hb))
  cases ho : okT s x y zs cs with
  | false =>
    have hc := at_no (px := px) (py := py) ho
    have en := Lib.hid (show clutV s x y zs cs px py = 0 from if_neg (by omega))
    have HC := Lib.hid hc
    clear hc h k
    go_enter Try.func21, Try.ntmps21
    go_wp2_with fail
    refine (HO.out _ (by repeat (first | with_reducible exact On.refl _ | with_reducible exact Below.refl _ _ | apply On.alloc)) ⟨by simp [go_sem], by simp [go_sem], by simp [go_sem], by simp [go_sem], by simp [go_sem]⟩).mono ?_
    rintro e w1 ⟨rfl, h1⟩
    go_wp2_with fail
    go_ret2
    exact ⟨ret_ii en.out.symm HC.out.symm, by repeat (first | with_reducible exact On.refl _ | apply On.alloc | refine On.trans ?_ h1)⟩
  | true =>
    obtain ⟨hs, -⟩ := of_okT ho
    obtain ⟨⟨s0, s1⟩, ⟨x0, x1⟩, ⟨y0, y1⟩, -, -⟩ := of_size hs
    have HI := Lib.hid (fun w' hp => spec_in w.heap.size s x y px py (.slice a n cap) (.slice b m dap) w' hp s0 s1 x0 x1 y0 y1)
    cases hi : inT s x y px py with
    | false =>
      have hc := at_far ho hi
      have en := Lib.hid (show clutV s x y zs cs px py = 0 from if_neg (by omega))
      have HC := Lib.hid hc
      clear hc h k hs
      go_enter Try.func21, Try.ntmps21
      go_wp2_with fail
      refine (HO.out _ (by repeat (first | with_reducible exact On.refl _ | with_reducible exact Below.refl _ _ | apply On.alloc)) ⟨by simp [go_sem], by simp [go_sem], by simp [go_sem], by simp [go_sem], by simp [go_sem]⟩).mono ?_
      rintro e w1 ⟨rfl, h1⟩
      have HT := Lib.hid (show TIn w1 w.heap.size s x y (.slice a n cap) (.slice b m dap) from TIn.on ⟨by simp [go_sem], by simp [go_sem], by simp [go_sem], by simp [go_sem], by simp [go_sem]⟩ h1)
      have r0 : w1.cell? ⟨w.heap.size + 1, 0, none⟩ = some (.int .i64 px) := (h1.cell (by simp)).trans (by simp [go_sem])
      have r1 : w1.cell? ⟨w.heap.size + 1, 1, none⟩ = some (.int .i64 py) := (h1.cell (by simp)).trans (by simp [go_sem])
      go_wp2_with fail
      refine (HI.out _ HT.out).mono ?_
      rintro e w2 ⟨rfl, h2⟩
      go_wp2_with fail
      go_ret2
      exact ⟨ret_ii en.out.symm HC.out.symm, by repeat (first | with_reducible exact On.refl _ | apply On.alloc | refine On.trans ?_ h2 | refine On.trans ?_ h1)⟩
    | true =>
      have hc := at_ok ho hi
      obtain ⟨-, -, -, -, -, hmm, -, m0, -⟩ := at_cells hzn hcm hc
      obtain ⟨bc, oc, rfl, hlt, hcell⟩ := slice_of k hcm m0
      have he : clutV s x y zs cs px py = cs.getD (nearI s x px py).toNat 0 := if_pos hc
      have HV := Lib.hid (fun w' (hb : On w w') hp => spec_clutter w.heap.size bc oc m dap s x y px py (.slice a n cap) cs w' hp (hb.lts _ hlt) (fun i hi' => (hb.cell (p := ⟨bc, oc + i, none⟩) (by exact hlt)).trans (hcell i hi')) hmm s0 s1 x0 x1 y0 y1 hi)
      have en := Lib.hid he
      have HC := Lib.hid hc
      clear hc h k hs he
      go_enter Try.func21, Try.ntmps21
      go_wp2_with fail
      refine (HO.out _ (by repeat (first | with_reducible exact On.refl _ | with_reducible exact Below.refl _ _ | apply On.alloc)) ⟨by simp [go_sem], by simp [go_sem], by simp [go_sem], by simp [go_sem], by simp [go_sem]⟩).mono ?_
      rintro e w1 ⟨rfl, h1⟩
      have HT := Lib.hid (show TIn w1 w.heap.size s x y (.slice a n cap) (.slice (some ⟨bc, oc, none⟩) m dap) from TIn.on ⟨by simp [go_sem], by simp [go_sem], by simp [go_sem], by simp [go_sem], by simp [go_sem]⟩ h1)
      have hO1 : On w w1 := by repeat (first | with_reducible exact On.refl _ | apply On.alloc | refine On.trans ?_ h1)
      have r0 : w1.cell? ⟨w.heap.size + 1, 0, none⟩ = some (.int .i64 px) := (h1.cell (by simp)).trans (by simp [go_sem])
      have r1 : w1.cell? ⟨w.heap.size + 1, 1, none⟩ = some (.int .i64 py) := (h1.cell (by simp)).trans (by simp [go_sem])
      go_wp2_with fail
      refine (HI.out _ HT.out).mono ?_
      rintro e w2 ⟨rfl, h2⟩
      have r2 := (h2.cell (p := ⟨w.heap.size + 1, 0, none⟩) (by exact World.block_lt_of_cell? w1 _ r0)).trans r0
      have r3 := (h2.cell (p := ⟨w.heap.size + 1, 1, none⟩) (by exact World.block_lt_of_cell? w1 _ r1)).trans r1
      go_wp2_with fail
      refine (HV.out _ (hO1.trans h2) (HT.out.on h2)).mono ?_
      rintro e w3 ⟨rfl, h3⟩
      go_wp2_with fail
      go_ret2
      exact ⟨ret_ii en.out.symm HC.out.symm, (hO1.trans h2).trans h3⟩
end Go.Proofs.Ytcdmijldkmmgmab.Terr
