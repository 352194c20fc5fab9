
/-
  What the program's logarithm is, from its parts. No condition but that the number fits its kind.
-/
import Derived.Test.YtednfkjdidlenaaDoorLogImpl
namespace Go.Proofs.YtednfkjdidlenaaDoor.Log
open Go.RowKit
open Plain

theorem ten_exp (x : Int) : tmD x x + tmD x x + tmD (two x) (two x) + 0 + tmD (four x) x = 2 * tmD x x + tmD (two x) (two x) + tmD (four x) x := by omega
set_option maxHeartbeats 1000000 in
theorem impl_tenth (x : Int) (w : World) (h : Fig x) :
    Calls Tryd.prog 46 #[.agg #[.int .i64 x, .int .i64 0]] w fun e w' => e = .returned (.agg #[.int .i64 (tenV x), .int .i64 (tenD x)]) ∧ On w w' := by
  obtain ⟨d1, d2⟩ := tmD_bd x x
  obtain ⟨d3, d4⟩ := tmD_bd (two x) (two x)
  obtain ⟨d5, d6⟩ := tmD_bd (four x) x
  obtain ⟨d7, d8⟩ := tmD_bd (five x) (five x)
  obtain ⟨a1, ha1⟩ : ∃ a, a = tmD x x := ⟨_, rfl⟩
  obtain ⟨a2, ha2⟩ : ∃ a, a = tmD (two x) (two x) := ⟨_, rfl⟩
  obtain ⟨a3, ha3⟩ : ∃ a, a = tmD (four x) x := ⟨_, rfl⟩
  obtain ⟨a4, ha4⟩ : ∃ a, a = tmD (five x) (five x) := ⟨_, rfl⟩
  have c1 := fun w => impl_timesI x x 0 0 w h h (by omega) (by omega) (by omega) (by omega)
  have c2 := fun w => impl_timesI (two x) (two x) a1 a1 w (two_fig h) (two_fig h) (by omega) (by omega) (by omega) (by omega)
  have c3 := fun w => impl_timesI (four x) x (a1 + a1 + a2) 0 w (four_fig h) h (by omega) (by omega) (by omega) (by omega)
  have c4 := fun w => impl_timesI (five x) (five x) (a1 + a1 + a2 + a3) (a1 + a1 + a2 + a3) w (five_fig h) (five_fig h) (by omega) (by omega) (by omega) (by omega)
  have HT := Lib.hid (show a1 + a1 + a2 + a3 + (a1 + a1 + a2 + a3) + a4 = tenD x by unfold tenD; rw [← ha1, ← ha2, ← ha3, ← ha4]; omega)
  simp only [Int.add_zero, Int.zero_add] at c1 c3
  rw [show tmV x x = two x from rfl, ← ha1] at c1
  rw [show tmV (two x) (two x) = four x from rfl, ← ha2] at c2
  rw [show tmV (four x) x = five x from rfl, ← ha3] at c3
  rw [show tmV (five x) (five x) = tenV x from rfl, ← ha4] at c4
  have C1 := Lib.hid c1
  have C2 := Lib.hid c2
  have C3 := Lib.hid c3
  have C4 := Lib.hid c4
  clear c1 c2 c3 c4 ha1 ha2 ha3 ha4 d1 d2 d3 d4 d5 d6 d7 d8
  go_enter Tryd.func46, Tryd.ntmps46
  go_wp2_with fail
  refine (C1.out _).mono ?_
  rintro e w1 ⟨rfl, h1⟩
  obtain ⟨hc1, hf1⟩ := bcell h1
  obtain ⟨z1, z1'⟩ : w.heap.size < w1.heap.size ∧ w.heap.size + 1 < w1.heap.size := by have := h1.size; (try simp at this); omega
  go_wp2_with fail
  refine (C2.out _).mono ?_
  rintro e w2 ⟨rfl, h2⟩
  obtain ⟨hc2, hf2⟩ := bcell h2
  obtain ⟨z2, z2', z2''⟩ : w.heap.size < w2.heap.size ∧ w.heap.size + 1 < w2.heap.size ∧ w1.heap.size < w2.heap.size := by have := h2.size; (try simp at this); omega
  go_wp2_with fail
  refine (C3.out _).mono ?_
  rintro e w3 ⟨rfl, h3⟩
  obtain ⟨hc3, hf3⟩ := bcell h3
  obtain ⟨z3, z3', z3'', z3'''⟩ : w.heap.size < w3.heap.size ∧ w.heap.size + 1 < w3.heap.size ∧ w1.heap.size < w3.heap.size ∧ w2.heap.size < w3.heap.size := by have := h3.size; (try simp at this); omega
  go_wp2_with fail
  refine (C4.out _).mono ?_
  rintro e w4 ⟨rfl, h4⟩
  obtain ⟨hc4, hf4⟩ := bcell h4
  go_wp2_with fail
  refine bodyPost_ret (v := .agg #[.int .i64 (tenV x), .int .i64 (a1 + a1 + a2 + a3 + (a1 + a1 + a2 + a3) + a4)]) (by simp [results, Tryd.results46, go_sem, hc1, hc2, hc3, hc4, z1, z1', z2, z2', z3, z3']) rfl ⟨by rw [HT.out], ?_⟩
  repeat (first | exact On.refl _ | refine On.setCell ?_ (by (try simp) <;> omega) _ | apply On.alloc | refine On.trans ?_ h4 | refine On.trans ?_ h3 | refine On.trans ?_ h2 | refine On.trans ?_ h1)
/-- The two powers of ten, as the program reckons them. -/
theorem exp_low (n : Nat) : 8 - Turn.gmin (dg n) 8 = ((8 - dg n : Nat) : Int) := by unfold Turn.gmin; split <;> omega
theorem exp_high (n : Nat) : Turn.gmax (dg n) 8 - 8 = ((dg n - 8 : Nat) : Int) := by unfold Turn.gmax; split <;> omega
theorem fig_prog {n : Nat} (hn : n ≤ 9223372036854775807) : n * pw (8 - dg n) / pw (dg n - 8) = fig n ∧ n * pw (8 - dg n) ≤ 9223372036854775807 := by
  unfold fig pw
  by_cases h : dg n ≤ 8
  · rw [if_pos h, show dg n - 8 = 0 from by omega, Nat.pow_zero, Nat.div_one]
    exact ⟨rfl, by have := fig_up (n := n) (k := 8) h (by omega); omega⟩
  · rw [if_neg h, show 8 - dg n = 0 from by omega, Nat.pow_zero, Nat.mul_one]
    exact ⟨rfl, hn⟩
theorem pw_pos (k : Nat) : 0 < pw k := Nat.pow_pos (by decide)
set_option maxHeartbeats 1000000 in
theorem impl_log (n : Nat) (w : World) (h0 : 0 < n) (h1 : n ≤ 9223372036854775807) :
    Calls Tryd.prog 39 #[.int .i64 n] w fun e w' => e = .returned (.int .i64 (logN n)) ∧ On w w' := by
  have hd := dg_le (n := n) (by omega)
  have ff := fig_fig h0
  obtain ⟨hf, hb⟩ := fig_prog h1
  obtain ⟨k1, hk1⟩ : ∃ k, k = 8 - dg n := ⟨_, rfl⟩
  obtain ⟨k2, hk2⟩ : ∃ k, k = dg n - 8 := ⟨_, rfl⟩
  obtain ⟨p1, hp1⟩ : ∃ p, p = pw k1 := ⟨_, rfl⟩
  obtain ⟨p2, hp2⟩ : ∃ p, p = pw k2 := ⟨_, rfl⟩
  have p20 : 0 < p2 := by rw [hp2]; exact pw_pos _
  have e1 := exp_low n
  have e2 := exp_high n
  rw [← hk1] at hf hb e1
  rw [← hk2] at hf e2
  rw [← hp1, ← hp2] at hf
  rw [← hp1] at hb
  have T1 := fun w => impl_tenTo k1 w (by omega)
  have T2 := fun w => impl_tenTo k2 w (by omega)
  rw [← hp1] at T1
  rw [← hp2] at T2
  have HT1 := Lib.hid T1
  have HT2 := Lib.hid T2
  obtain ⟨⟨m1, m2, m3, m4⟩, m5, m6⟩ := Turn.mm_bd (dg n) 8
  have l1 : 0 ≤ Turn.gmin (dg n) 8 := by omega
  have l2 : Turn.gmin (dg n) 8 ≤ 8 := m4
  have l3 : 8 ≤ Turn.gmax (dg n) 8 := m2
  have l4 : Turn.gmax (dg n) 8 ≤ 18 := by omega
  have b1 : (0 : Int) ≤ (n : Int) * (p1 : Int) := Int.mul_nonneg (by omega) (by omega)
  have b2 : (n : Int) * (p1 : Int) ≤ 9223372036854775807 := by rw [← Int.natCast_mul]; omega
  have HF := Lib.hid (show (n : Int) * (p1 : Int) / (p2 : Int) = (fig n : Nat) by rw [← hf, Int.natCast_ediv, Int.natCast_mul])
  have E1 := Lib.hid e1
  have E2 := Lib.hid e2
  clear hf hb e1 e2 T1 T2 hk1 hk2 hp1 hp2 m1 m2 m3 m4 m5 m6
  have hp2i : (0 : Int) < (p2 : Int) := by omega
  have hn1 : ¬ ((n : Int) < 1) := by omega
  go_enter Tryd.func39, Tryd.ntmps39
  go_wp2_with fail
  refine (impl_digits n _ h1).mono ?_
  rintro e w1 ⟨rfl, rfl⟩
  go_wp2_with fail
  refine (Turn.impl_least _ _ _).mono ?_
  rintro e w1 ⟨rfl, rfl⟩
  go_wp2_with fail
  rw [E1.out]
  refine (HT1.out _).mono ?_
  rintro e w1 ⟨rfl, rfl⟩
  go_wp2_with fail
  refine (Turn.impl_greatest _ _ _).mono ?_
  rintro e w1 ⟨rfl, rfl⟩
  go_wp2_with fail
  rw [E2.out]
  refine (HT2.out _).mono ?_
  rintro e w1 ⟨rfl, rfl⟩
  go_wp2_with fail
  go_loopw [3, 4, 22] (fun r x i wr => ∃ k : Nat, k ≤ 4 ∧ i = .int .i64 k ∧ x = .int .i64 (itX k (fig n)) ∧ r = .int .i64 (itR k (fig n) (dg n)) ∧ On w wr) (fun _ _ i _ => (4 - intOf i).toNat)
  case atStart => exact ⟨0, by omega, rfl, by rw [HF.out]; rfl, rfl, On.refl _⟩
  case round =>
    obtain ⟨k, hk, rfl, rfl, rfl, ho⟩ := hrel
    obtain ⟨r0, r1⟩ := itR_le (x := (fig n : Int)) (r := (dg n : Int)) (by omega) (by omega) k hk
    have fx := itX_fig ff k
    obtain ⟨t0, t1⟩ := tenD_bd (itX k (fig n))
    by_cases h4 : k < 4
    · go_wp2_with fail
      refine (impl_tenth _ _ fx).mono ?_
      rintro e w1 ⟨rfl, ho1⟩
      go_wp2_with fail
      go_roundw
      case rel => exact ⟨k + 1, by omega, by go_num, rfl, rfl, by repeat (first | exact ho | apply On.alloc | refine On.setCell ?_ (by have := ho.size; have := ho1.size; (try simp at *) <;> omega) _ | refine On.trans ?_ ho1)⟩
      case measure => simp [intOf]; omega
    · obtain rfl : k = 4 := by omega
      go_wp2
      go_ret
      exact ⟨rfl, ho⟩
theorem impl_logDb (n : Int) (w : World) (h1 : n ≤ 9223372036854775807) :
    Calls Tryd.prog 39 #[.int .i64 n] w fun e w' => e = .returned (.int .i64 (logDb n)) ∧ On w w' := by
  by_cases h : n < 1
  · rw [logDb_no h]
    go_enter Tryd.func39, Tryd.ntmps39
    go_wp2
    go_ret
    exact ⟨rfl, On.refl _⟩
  · obtain ⟨m, rfl⟩ := Int.eq_ofNat_of_zero_le (a := n) (by omega)
    rw [logDb_yes (by omega)]
    exact impl_log m w (by omega) (by omega)
end Go.Proofs.YtednfkjdidlenaaDoor.Log
