
/-
  The slope of a profile, in the model and in the program. Conditions: each theorem's own.
-/
import Derived.Test.YtmmhekakihimfaaWEdge
namespace Go.Proofs.Ytmmhekakihimfaa.Nu
open Go.RowKit Go.Shelf
open Plain
open Ints (Ints Own)
open Prof (PIn clr off_bd off slice_of okP of_okP ret_ii)
open Iter (Kp pts pts_succ)
open Go.Proofs.Ytmmhekakihimfaa.Edge (smax spec_max)
attribute [local go_sem] Oper.semAt_some

theorem bulge_small {a b : Int} (a0 : 0 ≤ a) (a1 : a ≤ 283000) (b0 : 0 ≤ b) (b1 : b ≤ 283000) : 0 ≤ Earth.bulge a b ∧ Earth.bulge a b ≤ 47142 := by
  obtain ⟨h1, h2⟩ := Earth.ten_bd a0 a1 b0 b1
  unfold Earth.bulge
  rw [near_div_pp _ _ (by omega) h1]
  omega
theorem bulge_zero {b : Int} : Earth.bulge 0 b = 0 := by
  unfold Earth.bulge
  rw [near_div_pp _ _ (by omega) (by omega)]
  omega
theorem bulge_one {b : Int} (b0 : 0 ≤ b) (b1 : b ≤ 100) : Earth.bulge 1 b = 0 := by
  unfold Earth.bulge
  rw [near_div_pp _ _ (by omega) (by omega)]
  omega
/-- Only in a short profile a point between both ends lies at the first one. -/
theorem off_zero {d n k : Int} (d0 : 1 ≤ d) (k0 : 1 ≤ k) (k1 : k ≤ n - 1) (n1 : n ≤ 64) (h : off d n k = 0) : d ≤ 100 := by
  have m1 : d * 1 ≤ d * k := Int.mul_le_mul_of_nonneg_left k0 (by omega)
  have m0 : 0 ≤ d * k := Int.mul_nonneg (by omega) (by omega)
  have m2 : 0 ≤ d * (n - k) := Int.mul_nonneg (by omega) (by omega)
  have e : d * n = d * (n - k) + d * k := by rw [← Int.mul_add]; congr 1; omega
  by_cases g : n < 2 * k
  · rw [Prof.off_hi g, near_div_pp _ _ (by omega) m2] at h
    have h2 : (2 * (d * (n - k)) + n) / (2 * n) = d := by omega
    have h3 := Int.ediv_mul_le (2 * (d * (n - k)) + n) (b := 2 * n) (by omega)
    rw [h2] at h3
    have h4 : d * (2 * n) = 2 * (d * n) := Int.mul_left_comm d 2 n
    omega
  · rw [Prof.off_lo g, near_div_pp _ _ (by omega) m0] at h
    have h3 : 2 * (d * k) + n < 1 * (2 * n) := by
      have := Int.lt_ediv_add_one_mul_self (2 * (d * k) + n) (show 0 < 2 * n by omega)
      rw [h] at this; omega
    omega
def slp (d f n k z : Int) : Int := near (1000000 * (z + Earth.bulge (off d n k) (d - off d n k) - f)) (smax 1 (off d n k))
theorem slp_impl {d f n k z : Int} (d0 : 1 ≤ d) (k0 : 1 ≤ k) (k1 : k ≤ n - 1) (n1 : n ≤ 64) : near (1000000 * (z + Earth.bulge (Turn.gmax (off d n k) 1) (d - Turn.gmax (off d n k) 1) - f)) (Turn.gmax (off d n k) 1) = slp d f n k z := by
  obtain ⟨o0, o1⟩ := off_bd (d := d) (n := n) (i := k) (by omega) (by omega) (by omega) (by omega)
  have hz := fun h => off_zero (d := d) (n := n) (k := k) d0 k0 k1 n1 h
  unfold slp
  generalize off d n k = o at *
  by_cases h : o = 0
  · subst h
    have hd := hz rfl
    rw [show Turn.gmax 0 1 = 1 from rfl, show smax 1 0 = 1 from rfl, bulge_one (by omega) (by omega), bulge_zero]
  · rw [show Turn.gmax o 1 = o from by unfold Turn.gmax; rw [if_neg (by omega)], show smax 1 o = o from by unfold smax; rw [if_neg (by omega)]]
theorem slp_bd {d f n k z : Int} (z0 : 0 ≤ z) (z1 : z ≤ 90000) (d0 : 1 ≤ d) (d1 : d ≤ 283000) (f0 : 0 ≤ f) (f1 : f ≤ 180000) (k0 : 0 ≤ k) (k1 : k ≤ n) (n0 : 1 ≤ n) : -180000000000 ≤ slp d f n k z ∧ slp d f n k z ≤ 180000000000 := by
  obtain ⟨o0, o1⟩ := off_bd (d := d) (n := n) (i := k) (by omega) k0 k1 (by omega)
  obtain ⟨b0, b1⟩ := bulge_small (a := off d n k) (b := d - off d n k) o0 (by omega) (by omega) (by omega)
  have s := (smax_bd (x := off d n k) o0 (by omega)).1
  exact near_le _ _ (by omega) 180000000000 (by omega) (by omega)
def slpAt (d f n : Int) (zs : List Int) (k : Nat) : Int := slp d f n k (zs.getD k 0)
/-- The greatest one so far, as the model bears it. -/
def mxS (val : Nat → Int) (k : Nat) : Int := if k = 0 then -1152921504606846976 else (sel gtr val k).2
theorem mxS_step {val : Nat → Int} {k : Nat} (hv : -1152921504606846976 ≤ val (k + 1)) : smax (mxS val k) (val (k + 1)) = mxS val (k + 1) := by
  unfold mxS
  rw [if_neg (by omega : ¬ k + 1 = 0), sel]
  by_cases h : k = 0
  · rw [if_pos h, if_pos (.inl h)]; unfold smax; split
    · omega
    · rfl
  · rw [if_neg h]
    unfold smax
    by_cases g : (sel gtr val k).2 < val (k + 1)
    · rw [if_neg (by omega), if_pos (.inr (decide_eq_true g))]
    · rw [if_neg (show ¬ (k = 0 ∨ gtr (val (k + 1)) (sel gtr val k).2 = true) by rintro (q | q); exact h q; exact g (of_decide_eq_true q))]
      split <;> omega
def bmx (v : Int) (pre : List (Nat × Int)) : Int := pre.foldl (fun s x => Turn.gmax s x.2) v
theorem bmx_snoc (v : Int) (pre : List (Nat × Int)) (x : Nat × Int) : bmx v (pre ++ [x]) = Turn.gmax (bmx v pre) x.2 := by unfold bmx; rw [List.foldl_append]; rfl
theorem bmx_pts (val : Nat → Int) : ∀ k, bmx (val 1) (pts val k) = if k = 0 then val 1 else (sel gtr val k).2
  | 0 => rfl
  | k + 1 => by
    rw [pts_succ, bmx_snoc, bmx_pts val k, if_neg (by omega : ¬ k + 1 = 0), sel]
    unfold Turn.gmax
    by_cases h : k = 0
    · subst h; simp
    · rw [if_neg h]
      by_cases g : (sel gtr val k).2 < val (k + 1)
      · rw [if_pos g, if_pos (.inr (decide_eq_true g))]
      · rw [if_neg g, if_neg (show ¬ (k = 0 ∨ gtr (val (k + 1)) (sel gtr val k).2 = true) by rintro (q | q); exact h q; exact g (of_decide_eq_true q))]
theorem bmx_mxS {val : Nat → Int} {k : Nat} (h : k ≠ 0) : bmx (val 1) (pts val k) = mxS val k := by rw [bmx_pts]; unfold mxS; rw [if_neg h, if_neg h]
theorem mxS_bd {val : Nat → Int} {k : Nat} (h : k ≠ 0) (hv : ∀ j, 1 ≤ j → j ≤ k → -180000000000 ≤ val j ∧ val j ≤ 180000000000) : -180000000000 ≤ mxS val k ∧ mxS val k ≤ 180000000000 := by
  obtain ⟨h1, h2, h3⟩ := sel_pos (b := gtr) (val := val) h
  unfold mxS; rw [if_neg h, h3]; exact hv _ h1 h2
set_option maxHeartbeats 4000000 in
theorem spec_slope (g n cap b off : Nat) (d f l : Int) (zs : List Int) (w : World) (hp : PIn w g d f l (.slice (some ⟨b, off, none⟩) (n + 1) cap)) (hb : b < w.heap.size) (hz : ∀ k, k ≤ n → w.cell? ⟨b, off + k, none⟩ = some (.int .i64 (zs.getD k 0))) (hzb : ∀ k, k ≤ n → 0 ≤ zs.getD k 0 ∧ zs.getD k 0 ≤ 90000)
    (d0 : 1 ≤ d) (d1 : d ≤ 283000) (f0 : 0 ≤ f) (f1 : f ≤ 180000) (n0 : 1 ≤ n) (n1 : n ≤ 64) :
    Calls Try.prog 90 #[.pointer (some ⟨g, 0, none⟩)] w fun e w' => e = .returned (.int .i64 (mxS (slpAt d f n zs) (n - 1))) ∧ On w w' := by
  have HP := Lib.hid hp
  have hO := fun (k : Nat) (hk : k < n - 1) w' (h : On w w') => Prof.spec_offset g n cap d f l ((k : Int) + 1) _ w' (hp.on h) d0 d1 (by omega) (by omega) n0 n1
  have HO := Lib.hid hO
  have HZ := Lib.hid (fun (k : Nat) (hk : k < n - 1) w' (h : On w w') => (h.cell (p := ⟨b, off + (k + 1), none⟩) (by exact hb)).trans (hz (k + 1) (by omega)))
  have HZB := Lib.hid (fun (k : Nat) (hk : k < n - 1) => hzb (k + 1) (by omega))
  have HSB := Lib.hid (fun (k : Nat) (hk : k < n - 1) => show -180000000000 ≤ slpAt d f n zs (k + 1) ∧ slpAt d f n zs (k + 1) ≤ 180000000000 from slp_bd (hzb (k + 1) (by omega)).1 (hzb (k + 1) (by omega)).2 d0 d1 f0 f1 (by omega) (by omega) (by omega))
  have HOB := Lib.hid (fun (k : Nat) (hk : k < n - 1) => off_bd (d := d) (n := n) (i := (k : Int) + 1) (by omega) (by omega) (by omega) (by omega))
  obtain ⟨val, hval⟩ : ∃ val : Nat → Int, val = slpAt d f n zs := ⟨_, rfl⟩
  have HD := Lib.hid (fun (k : Nat) => show near (1000000 * (zs.getD (k + 1) 0 + Earth.bulge (Prof.off d n ((k : Int) + 1)) (d - Prof.off d n ((k : Int) + 1)) - f)) (smax 1 (Prof.off d n ((k : Int) + 1))) = val (k + 1) by rw [hval]; rfl)
  rw [← hval] at HSB ⊢
  clear hO hz hzb hp hval
  go_enter Try.func90, Try.ntmps90
  go_wp2_with fail
  go_loopw [3, 4] (fun x i wr => ∃ k : Nat, k ≤ n - 1 ∧ x = .int .i64 (mxS val k) ∧ i = .int .i64 ((k : Int) + 1) ∧ On w wr) (fun _ i _ => n - (intOf i).toNat)
  case atStart => exact ⟨0, Nat.zero_le _, rfl, rfl, On.refl _⟩
  case round =>
    obtain ⟨k, hk, rfl, rfl, ho⟩ := hrel
    obtain ⟨q0, q1, q2, q3⟩ := HP.out.on ho
    have hg := World.block_lt_of_cell? wr _ q0
    by_cases hlt : k < n - 1
    · have hki : (k : Int) + 1 < (n : Int) := by omega
      have hkj : (k : Int) + 1 < (n : Int) + 1 := by omega
      have hkn : k + 1 < n + 1 := by omega
      have HS := Lib.hid (mxS_step (val := val) (k := k) (by have := (HSB.out k hlt).1; omega))
      have HC := Lib.hid (fun w' h => HO.out k hlt w' h)
      have HZ1 := Lib.hid (fun w' h => HZ.out k hlt w' h)
      have HD1 := Lib.hid (HD.out k)
      obtain ⟨z0, z1⟩ := HZB.out k hlt
      obtain ⟨o0, o1⟩ := HOB.out k hlt
      obtain ⟨b0, b1⟩ := bulge_small (a := Prof.off d n ((k : Int) + 1)) (b := d - Prof.off d n ((k : Int) + 1)) o0 (by omega) (by omega) (by omega)
      have HB := Lib.hid (fun w => Earth.spec_bulge (Prof.off d n ((k : Int) + 1)) (d - Prof.off d n ((k : Int) + 1)) w o0 (by omega) (by omega) (by omega))
      obtain ⟨s0, s1⟩ := smax_bd (x := Prof.off d n ((k : Int) + 1)) o0 (by omega)
      have HM1 := Lib.hid (fun w => spec_max 1 (Prof.off d n ((k : Int) + 1)) w)
      have HN := Lib.hid (fun w => Arith.l01Div (1000000 * (zs.getD (k + 1) 0 + Earth.bulge (Prof.off d n ((k : Int) + 1)) (d - Prof.off d n ((k : Int) + 1)) - f)) (smax 1 (Prof.off d n ((k : Int) + 1))) w (by omega) (by omega) (by omega) (by omega) (by omega))
      rw [HD1.out] at HN
      have hm2 := fun w => spec_max (mxS val k) (val (k + 1)) w
      rw [HS.out] at hm2
      have HM2 := Lib.hid hm2
      generalize Prof.off d n ((k : Int) + 1) = o at *
      generalize Earth.bulge o (d - o) = u at *
      generalize smax 1 o = s at *
      generalize zs.getD (k + 1) 0 = z at *
      have e1 : IntKind.i64.wrap (d - o) = d - o := IntWalk.i64_in _ (by omega)
      have e2 : IntKind.i64.wrap (z + u) = z + u := IntWalk.i64_in _ (by omega)
      have e3 : IntKind.i64.wrap (z + u - f) = z + u - f := IntWalk.i64_in _ (by omega)
      have e4 : IntKind.i64.wrap (1000000 * (z + u - f)) = 1000000 * (z + u - f) := IntWalk.i64_in _ (by omega)
      generalize mxS val k = x at *
      clear hm2
      go_wp2_with fail
      refine (HC.out _ ho).mono ?_
      rintro e w1 ⟨rfl, k1⟩
      have HO1 := Lib.hid (ho.trans k1)
      obtain ⟨q0, q1, q2, q3⟩ := HP.out.on HO1.out
      have hz1 := HZ1.out _ HO1.out
      have hg1 := World.block_lt_of_cell? w1 _ q0
      have hb1 := World.block_lt_of_cell? w1 _ hz1
      clear k1
      go_wp2_with fail
      refine wp_region_onh (by kernel_rfl) (by kernel_rfl) ?_
      repeat (refine rest_step (fun K hK => ?_); go_simp; first | (refine hK _ ?_; clear hK K) | (apply Exists.intro; refine ⟨fun v1 hv1 => ?_, hK _ ?_⟩; (first | with_reducible exact rfl | with_reducible exact ⟨rfl, rfl⟩ | with_reducible exact Calls.on_same hv1 (HB.out _) | (obtain ⟨hc, hf⟩ := bcell hv1; go_simp; first | with_reducible exact rfl | with_reducible exact ⟨rfl, rfl⟩ | exact rfl | exact ⟨rfl, rfl⟩)); clear hK K))
      refine rest_nil ?_
      intro w2 h2
      have HO2 := Lib.hid (HO1.out.trans h2)
      obtain ⟨q0, q1, q2, q3⟩ := HP.out.on HO2.out
      have hg2 := World.block_lt_of_cell? w2 _ q0
      clear h2
      go_wp2_with fail
      refine wp_region_onh (by kernel_rfl) (by kernel_rfl) ?_
      repeat (refine rest_step (fun K hK => ?_); go_simp; first | (refine hK _ ?_; clear hK K) | (apply Exists.intro; refine ⟨fun v1 hv1 => ?_, hK _ ?_⟩; (first | with_reducible exact rfl | with_reducible exact ⟨rfl, rfl⟩ | with_reducible exact Calls.on_same hv1 (HM1.out _) | with_reducible exact Calls.on_same hv1 (HN.out _) | with_reducible exact Calls.on_same hv1 (HM2.out _) | (obtain ⟨hc, hf⟩ := bcell hv1; go_simp; first | with_reducible exact rfl | with_reducible exact ⟨rfl, rfl⟩ | exact rfl | exact ⟨rfl, rfl⟩)); clear hK K))
      refine rest_nil ?_
      intro w3 h3
      go_wp2_with fail
      go_roundw
      case rel => exact ⟨k + 1, by omega, rfl, by go_num, HO2.out.trans h3⟩
      case measure => simp [intOf]; omega
    · obtain rfl : k = n - 1 := by omega
      have hki : ¬ (((n - 1 : Nat) : Int) + 1 < (n : Int)) := by omega
      go_wp2_with fail
      go_ret
      exact ⟨rfl, ho⟩
set_option maxHeartbeats 4000000 in
theorem impl_slopeTo (n cap k b off : Nat) (d f l z : Int) (w : World) (hb : b < w.heap.size) (hz : w.cell? ⟨b, off + k, none⟩ = some (.int .i64 z)) (z0 : 0 ≤ z) (z1 : z ≤ 90000)
    (d0 : 1 ≤ d) (d1 : d ≤ 283000) (f0 : 0 ≤ f) (f1 : f ≤ 180000) (k0 : 1 ≤ k) (k1 : k < n) (n0 : 1 ≤ n) (n1 : n ≤ 64) :
    Calls Try.prog 110 #[.agg #[.int .i64 d, .int .i64 f, .int .i64 l, .slice (some ⟨b, off, none⟩) (n + 1) cap], .int .i64 k] w fun e w' => e = .returned (.int .i64 (slp d f n k z)) ∧ On w w' := by
  have HO := Lib.hid (fun w => Prof.impl_offset n cap d f l k (some ⟨b, off, none⟩) w d0 d1 (by omega) (by omega) n0 n1)
  obtain ⟨o0, o1⟩ := off_bd (d := d) (n := n) (i := k) (by omega) (by omega) (by omega) (by omega)
  have HG := Lib.hid (fun w => Turn.impl_greatest (Prof.off d n k) 1 w)
  have hx : 1 ≤ Turn.gmax (Prof.off d n k) 1 ∧ Turn.gmax (Prof.off d n k) 1 ≤ d := by unfold Turn.gmax; split <;> omega
  have HD := Lib.hid (slp_impl (f := f) (z := z) (n := (n : Int)) (k := (k : Int)) d0 (by omega) (by omega) (by omega))
  generalize Prof.off d n k = o at *
  generalize Turn.gmax o 1 = x at *
  obtain ⟨x0, x1⟩ := hx
  obtain ⟨b0, b1⟩ := bulge_small (a := x) (b := d - x) (by omega) (by omega) (by omega) (by omega)
  have hB := fun w => Earth.impl_bulgeAt x (d - x) w
  rw [Earth.bulgeAt_yes (inB_yes (by omega) (by omega)) (inB_yes (by omega) (by omega))] at hB
  have HB := Lib.hid hB
  have HN := Lib.hid (fun w => Arith.nearest (1000000 * (z + Earth.bulge x (d - x) - f)) x w (by omega) (by omega) (by omega) (by omega) (by omega))
  generalize Earth.bulge x (d - x) = u at *
  have e1 : IntKind.i64.wrap (d - x) = d - x := IntWalk.i64_in _ (by omega)
  have e2 : IntKind.i64.wrap (z + u) = z + u := IntWalk.i64_in _ (by omega)
  have e3 : IntKind.i64.wrap (z + u - f) = z + u - f := IntWalk.i64_in _ (by omega)
  have e4 : IntKind.i64.wrap (1000000 * (z + u - f)) = 1000000 * (z + u - f) := IntWalk.i64_in _ (by omega)
  have hkn : k < n + 1 := by omega
  have hkj : (k : Int) < (n : Int) + 1 := by omega
  have HZ := Lib.hid hz
  clear hB hz
  go_enter Try.func110, Try.ntmps110
  go_wp2_with fail
  refine (HO.out _).mono ?_
  rintro e w1 ⟨rfl, h1⟩
  obtain ⟨p0, p1, p2, p3⟩ : PIn w1 w.heap.size d f l (.slice (some ⟨b, off, none⟩) (n + 1) cap) := PIn.on ⟨by simp [go_sem], by simp [go_sem], by simp [go_sem], by simp [go_sem]⟩ h1
  have HO1 := Lib.hid (show On w w1 by refine On.trans ?_ h1; repeat (first | with_reducible exact On.refl _ | apply On.alloc))
  have hz1 := (HO1.out.cell (p := ⟨b, off + k, none⟩) (by exact hb)).trans HZ.out
  have hg1 := World.block_lt_of_cell? w1 _ p0
  have hb1 := World.block_lt_of_cell? w1 _ hz1
  clear h1
  go_wp2_with (go_at_call 45; refine (HG.out _).mono ?_; rintro e w' ⟨rfl, rfl⟩)
  refine wp_region_onh (by kernel_rfl) (by kernel_rfl) ?_
  repeat (refine rest_step (fun K hK => ?_); go_simp; first | (refine hK _ ?_; clear hK K) | (apply Exists.intro; refine ⟨fun v1 hv1 => ?_, hK _ ?_⟩; (first | with_reducible exact rfl | with_reducible exact ⟨rfl, rfl⟩ | with_reducible exact Calls.on_drew hv1 (HB.out _) | with_reducible exact Calls.on_drew hv1 (HN.out _) | (obtain ⟨hc, hf⟩ := bcell hv1; go_simp; first | with_reducible exact rfl | with_reducible exact ⟨rfl, rfl⟩ | exact rfl | exact ⟨rfl, rfl⟩)); clear hK K))
  refine rest_nil ?_
  intro w2 h2
  go_wp2_with fail
  go_ret
  exact ⟨ret_int HD.out, HO1.out.trans h2⟩
set_option maxRecDepth 100000 in
set_option maxHeartbeats 4000000 in
theorem impl_slope (n cap b off : Nat) (d f l : Int) (zs : List Int) (w : World) (hb : b < w.heap.size) (hz : ∀ k, k ≤ n → w.cell? ⟨b, off + k, none⟩ = some (.int .i64 (zs.getD k 0))) (hzb : ∀ k, k ≤ n → 0 ≤ zs.getD k 0 ∧ zs.getD k 0 ≤ 90000)
    (d0 : 1 ≤ d) (d1 : d ≤ 283000) (f0 : 0 ≤ f) (f1 : f ≤ 180000) (n0 : 2 ≤ n) (n1 : n ≤ 64) :
    Calls Try.prog 94 #[.agg #[.int .i64 d, .int .i64 f, .int .i64 l, .slice (some ⟨b, off, none⟩) (n + 1) cap]] w fun e w' => e = .returned (.int .i64 (mxS (slpAt d f n zs) (n - 1))) ∧ On w w' := by
  obtain ⟨val, hval⟩ : ∃ val : Nat → Int, val = slpAt d f n zs := ⟨_, rfl⟩
  have hT := fun (k : Nat) (k0 : 1 ≤ k) (k1 : k < n) w' (hb' : b < w'.heap.size) (hz' : w'.cell? ⟨b, off + k, none⟩ = some (.int .i64 (zs.getD k 0))) => show Calls Try.prog 110 #[.agg #[.int .i64 d, .int .i64 f, .int .i64 l, .slice (some ⟨b, off, none⟩) (n + 1) cap], .int .i64 k] w' (fun e w'' => e = .returned (.int .i64 (val k)) ∧ On w' w'') by
    rw [hval]; exact impl_slopeTo n cap k b off d f l (zs.getD k 0) w' hb' hz' (hzb k (by omega)).1 (hzb k (by omega)).2 d0 d1 f0 f1 k0 k1 (by omega) n1
  have HT1 := Lib.hid (fun w' (h : On w w') => hT 1 (Nat.le_refl _) (by omega) w' (h.lts _ hb) ((h.cell (p := ⟨b, off + 1, none⟩) (by exact hb)).trans (hz 1 (by omega))))
  have HV := Lib.hid (fun (Bad : Nat → Prop) (W1 : World) (ho : On w W1) (hbad : ¬ Bad b) (k : Nat) W' (k0 : 1 ≤ k) (k1 : k < n) (hk : Kp Bad W1 W') => hT k k0 k1 W' (Nat.lt_of_lt_of_le (ho.lts _ hb) hk.1) (hk.2 _ _ hbad ((ho.cell (p := ⟨b, off + k, none⟩) (by exact hb)).trans (hz k (by omega)))))
  have HE := Lib.hid (bmx_mxS (val := val) (k := n - 1) (by omega))
  rw [← hval]
  clear hz hzb hval hT
  refine (callsIn_wide (n := 6)).1 ?_
  refine callsIn_of_wp_marks Try.func94 rfl trivial ?_ rfl
  simp only [Try.ntmps94, List.size_toArray, List.length_cons, List.length_nil, Nat.reduceAdd, Nat.reduceSub, Array.replicate_succ, Array.replicate_zero, List.push_toArray, List.append_toArray, List.nil_append, List.cons_append]
  gi_wp2
  refine ⟨trivial, (callsIn_wide.2 (HT1.out _ (by repeat (first | with_reducible exact On.refl _ | apply On.alloc)))).mono ?_⟩
  rintro e w1 ⟨rfl, h1⟩
  have HO := Lib.hid (show On w w1 by refine On.trans ?_ h1; repeat (first | with_reducible exact On.refl _ | apply On.alloc))
  obtain ⟨p0, p1, p2, p3⟩ : PIn w1 w.heap.size d f l (.slice (some ⟨b, off, none⟩) (n + 1) cap) := PIn.on ⟨by simp [go_sem], by simp [go_sem], by simp [go_sem], by simp [go_sem]⟩ h1
  have z1 : w.heap.size < w1.heap.size := World.block_lt_of_cell? w1 _ p0
  clear h1
  gi_wp2
  refine ⟨trivial, (callsIn_wide.2 (Iter.inner d f l (some ⟨b, off, none⟩) (n + 1) cap 110 #[.agg #[.int .i64 d, .int .i64 f, .int .i64 l, .slice (some ⟨b, off, none⟩) (n + 1) cap]] _)).mono ?_⟩
  rintro e w2 ⟨rfl, hp2, hq2, h2⟩
  simp only [World.size_alloc] at hp2 hq2
  have bx : w2.cell? ⟨w1.heap.size, 0, none⟩ = some (.int .i64 (val 1)) := (h2.cell (by simp)).trans (by simp [go_sem])
  have fx : w2.frozen? ⟨w1.heap.size, 0, none⟩ = false := (h2.frozen (by simp)).trans (by simp [go_sem])
  have HO2 := Lib.hid (show On w w2 by refine On.trans ?_ h2; repeat (first | with_reducible exact HO.out | apply On.alloc | refine On.setCell ?_ (by (try simp) <;> omega) _))
  have hwz := HO.out.size
  have hb1 := HO.out.lts _ hb
  have hsz2 : w1.heap.size + 1 + 1 < w2.heap.size := World.block_lt_of_cell? w2 _ hq2
  clear h2
  have Bb : ¬ (b = w1.heap.size) := by omega
  gi_wp2
  refine wpIn_rangeFunc_ownG rfl (by omega) (gf := 85) (lb := #[.pointer (some ⟨w1.heap.size + 1, 0, none⟩), .pointer (some ⟨w1.heap.size + 1 + 1, 0, none⟩)]) rfl trivial (enters_of Try.func85 (by kernel_rfl) rfl)
    (Iter.iter_slopeTo 5 (by omega) (fun k => k = w1.heap.size) (w1.heap.size + 1) (w1.heap.size + 1 + 1) n cap d f l (some ⟨b, off, none⟩) (.agg #[.int .i64 d, .int .i64 f, .int .i64 l, .slice (some ⟨b, off, none⟩) (n + 1) cap]) val w2 (by omega) n1 hp2 hq2 (by omega) (by omega) (fun k W' k0 k1 hk => HV.out _ w2 HO2.out Bb k W' k0 k1 hk))
    (fun h k => Kp.trans h k) (fun W l o o' _ h hc _ => Kp.put W l o o' h hc) (Below.refl _ _) (fun _ => rfl)
    (fun pre W => (W.cell? ⟨w1.heap.size, 0, none⟩ = some (.int .i64 (bmx (val 1) pre)) ∧ W.frozen? ⟨w1.heap.size, 0, none⟩ = false) ∧ Below w.heap.size w W)
    (fun _ _ _ => False)
    (OwnFrom.and (Own.from (fun s A Bw row hs hg hr => ⟨cell_kept hs.1 hg hr, (frozen_kept hs.1 hg hr).trans hs.2⟩) _) (ownFrom_below (Nat.le_refl _) (by omega)))
    (fun _ _ _ _ _ hs _ _ => hs)
    ⟨⟨bx, fx⟩, HO2.out⟩
    (fun x => { tmps := #[Value.agg #[Value.int IntKind.i64 d, Value.int IntKind.i64 f, Value.int IntKind.i64 l, Value.slice (some ⟨b, off, none⟩) (n + 1) cap], Value.pointer (some ⟨w.heap.size, 0, none⟩), Value.int IntKind.i64 0, Value.pointer (some ⟨w1.heap.size, 0, none⟩), undef, .int .i64 x.2, Value.agg #[Value.int IntKind.i64 d, Value.int IntKind.i64 f, Value.int IntKind.i64 l, Value.slice (some ⟨b, off, none⟩) (n + 1) cap], Value.int IntKind.i64 (val 1), Value.agg #[Value.int IntKind.i64 d, Value.int IntKind.i64 f, Value.int IntKind.i64 l, Value.slice (some ⟨b, off, none⟩) (n + 1) cap], Value.agg #[Value.int IntKind.i64 d, Value.int IntKind.i64 f, Value.int IntKind.i64 l, Value.slice (some ⟨b, off, none⟩) (n + 1) cap], Value.func (Fn.func 110) #[Value.agg #[Value.int IntKind.i64 d, Value.int IntKind.i64 f, Value.int IntKind.i64 l, Value.slice (some ⟨b, off, none⟩) (n + 1) cap]] #[], Value.func (Fn.func 85) #[] #[Value.pointer (some ⟨w1.heap.size + 1, 0, none⟩), Value.pointer (some ⟨w1.heap.size + 1 + 1, 0, none⟩)], .int .i64 (x.1 : Int), .int .i64 x.2, undef, undef, undef, undef], defers := [] }) ?assign ?body ?done ?stop
  case assign =>
    intro l x W K hK
    gi_wp2
    exact hK
  case body =>
    rintro lp pre x W ⟨⟨hx, gx⟩, hB⟩ -
    have E := Lib.hid (bmx_snoc (val 1) pre x)
    have HG := Lib.hid (fun w => Turn.impl_greatest (bmx (val 1) pre) x.2 w)
    have HX := Lib.hid hx
    have HB := Lib.hid hB
    have hwW : w1.heap.size < W.heap.size := World.block_lt_of_cell? W _ hx
    generalize bmx (val 1) pre = p at *
    clear hB
    gi_wp2
    refine ⟨trivial, (CallsIn.inRound lp (callsIn_wide.2 (HG.out _))).mono ?_⟩
    rintro e wa ⟨rfl, rfl⟩
    gi_wp2
    refine ⟨(KeepsOthers.setCell _ _ _).from _, Kp.setCell _ _ _ rfl, ⟨?_, ?_⟩, ?_⟩
    · rw [E.out]; simp [go_sem, hx]
    · simp [World.frozen?_setCell, gx]
    · exact HB.out.setCell (p := ⟨w1.heap.size, 0, none⟩) (by show w.heap.size ≤ w1.heap.size; omega) _
  case done =>
    rintro D ys W hD rfl ⟨⟨hx, gx⟩, hB⟩ hK
    rw [HE.out] at hx
    have HK := Lib.hid hK
    gi_wp2
    refine ⟨by simp, .inl ⟨_, _, rfl, run_takeDeferred hK, ?_⟩⟩
    refine ⟨_, results_tmp rfl _ _ _, ?_⟩
    exact ⟨rfl, hB.trans (belowK_b (w := w) (Nat.le_refl _) W D _ _ (by omega) HK.out rfl rfl)⟩
  case stop =>
    rintro D c pre W _ _ h _
    exact h.elim
end Go.Proofs.Ytmmhekakihimfaa.Nu
