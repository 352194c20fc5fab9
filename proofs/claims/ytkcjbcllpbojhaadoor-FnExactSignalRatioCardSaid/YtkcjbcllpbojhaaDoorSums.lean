
/-
  What sums and means of lists of levels are, in the model and in the program. Condition: at most 1048576 levels.
-/
import Derived.Test.YtkcjbcllpbojhaaDoorSumPlain
namespace Go.Proofs.YtkcjbcllpbojhaaDoor.Sum
open Go.RowKit
open Plain
open Log (ret_ii)
open Ints (Ints)

theorem spec_max (a b : Int) (w : World) :
    Calls Tryd.prog 52 #[.int .i64 a, .int .i64 b] w fun e w' => e = .returned (.int .i64 (Turn.gmax a b)) ∧ w = w' := by
  by_cases h : b < a
  · have en := Lib.hid (show a = Turn.gmax a b by unfold Turn.gmax; split <;> omega)
    go_enter Tryd.func52, Tryd.ntmps52
    go_wp2
    go_ret
    exact ⟨ret_int en.out, rfl⟩
  · have en := Lib.hid (show b = Turn.gmax a b by unfold Turn.gmax; split <;> omega)
    go_enter Tryd.func52, Tryd.ntmps52
    go_wp2
    go_ret
    exact ⟨ret_int en.out, rfl⟩
theorem impl_check_some (b off cap : Nat) (zs : List Int) (w : World) (hn : zs.length ≤ 1048576) (h0 : 0 < zs.length)
    (hcell : ∀ i, i < zs.length → w.cell? ⟨b, off + i, none⟩ = some (.int .i64 (zs.getD i 0))) :
    Calls Tryd.prog 68 #[.slice (some ⟨b, off, none⟩) zs.length cap] w fun e w' => e = .returned (.int .i64 (codeOf zs)) ∧ w = w' := by
  have HC := Lib.hid hcell
  clear hcell
  have hne : ((zs.length : Int) == 0) = false := beq_eq_false_iff_ne.2 (by omega)
  go_enter Tryd.func68, Tryd.ntmps68
  go_wp2
  go_loop [7] (fun i => ∃ k : Nat, k ≤ zs.length ∧ i = .int .i64 k ∧ LvTo zs k) (fun i => zs.length - (intOf i).toNat)
  case atStart => exact ⟨0, Nat.zero_le _, rfl, lvTo_zero _⟩
  case round =>
    obtain ⟨k, hk, rfl, hall⟩ := hrel
    have HA := Lib.hid hall
    clear hall
    by_cases hlt : k < zs.length
    · have hlti : (k : Int) < (zs.length : Int) := by omega
      obtain ⟨z, hz⟩ : ∃ z, z = zs.getD k 0 := ⟨_, rfl⟩
      have hc1 : w.cell? ⟨b, off + k, none⟩ = some (.int .i64 z) := by rw [hz]; exact HC.out k hlt
      cases hin : inB z (-300000) 300000 with
      | true =>
        have HN := Lib.hid (lvTo_succ HA.out (by rw [← hz]; exact hin))
        clear hz
        go_wp2_with (go_at_call 86; refine (impl_level _ _).mono ?_; rintro e w' ⟨rfl, rfl⟩)
        go_round
        case rel => exact ⟨k + 1, by omega, by go_num, HN.out⟩
        case measure => simp [intOf]; omega
      | false =>
        have en := Lib.hid (code_range (lvB_bad hlt (by rw [← hz]; exact hin)))
        clear hz
        go_wp2_with (go_at_call 86; refine (impl_level _ _).mono ?_; rintro e w' ⟨rfl, rfl⟩)
        go_ret
        exact ⟨ret_int en.out.symm, rfl⟩
    · obtain rfl : k = zs.length := by omega
      have hb := lvB_all HA.out
      by_cases h64 : 64 < zs.length
      · have en := Lib.hid (code_full hb h64)
        clear hb
        go_wp2
        go_ret
        exact ⟨ret_int en.out.symm, rfl⟩
      · have en := Lib.hid (code_ok hb h64 h0)
        clear hb
        go_wp2
        go_ret
        exact ⟨ret_int en.out.symm, rfl⟩
theorem impl_check_none (a : Option Addr) (cap : Nat) (w : World) :
    Calls Tryd.prog 68 #[.slice a 0 cap] w fun e w' => e = .returned (.int .i64 6) ∧ w = w' := by
  go_enter Tryd.func68, Tryd.ntmps68
  go_wp2
  refine wp_loop_rounds 1 ?_
  rw [rounds_succ]
  go_wp2
  go_ret
  exact ⟨rfl, rfl⟩
theorem impl_check (v : Value) (zs : List Int) (w : World) (hn : zs.length ≤ 1048576) (h : Ints w v zs) :
    Calls Tryd.prog 68 #[v] w fun e w' => e = .returned (.int .i64 (codeOf zs)) ∧ w = w' := by
  obtain ⟨a, cap, rfl, hc⟩ := h
  by_cases h0 : 0 < zs.length
  · obtain ⟨b, off, rfl, hlt, hcell⟩ := hc h0
    exact impl_check_some b off cap zs w hn h0 hcell
  · obtain rfl : zs = [] := List.eq_nil_of_length_eq_zero (by omega)
    exact impl_check_none a cap w

set_option maxHeartbeats 1000000 in
theorem spec_sumL (b off cap : Nat) (zs : List Int) (w : World) (h : codeOf zs = 0) (hcell : ∀ i, i < zs.length → w.cell? ⟨b, off + i, none⟩ = some (.int .i64 (zs.getD i 0))) :
    Calls Tryd.prog 38 #[.slice (some ⟨b, off, none⟩) zs.length cap] w fun e w' => e = .returned (.int .i64 (sumL zs)) ∧ w = w' := by
  obtain ⟨c1, c2, c3⟩ := of_code h
  have hlv := lvTo_of c1
  have hmb := most_bd hlv c3
  have hm := most_ge zs zs.length
  obtain ⟨s0, s1⟩ := sum_all h
  obtain ⟨g0, g1⟩ := most_all h
  obtain ⟨y, hy⟩ : ∃ y, y = zs.getD 0 0 := ⟨_, rfl⟩
  have hc0 : w.cell? ⟨b, off, none⟩ = some (.int .i64 y) := by have := hcell 0 c3; rw [Nat.add_zero] at this; rw [hy]; exact this
  have HY := Lib.hid hy
  clear hy
  have HC := Lib.hid hcell
  have HV := Lib.hid hlv
  have HB := Lib.hid hmb
  have HM := Lib.hid hm
  have HS := Lib.hid (show sumL zs = most zs - 90000 + logDb (sum zs) from rfl)
  clear hcell hlv hmb hm c1 h
  go_enter Tryd.func38, Tryd.ntmps38
  go_wp2
  go_loop [3, 4] (fun m i => ∃ k : Nat, 1 ≤ k ∧ k ≤ zs.length ∧ i = .int .i64 k ∧ m = .int .i64 (mostTo zs k)) (fun _ i => zs.length - (intOf i).toNat)
  case atStart => exact ⟨1, by omega, by omega, rfl, by rw [most_one, HY.out]⟩
  case round =>
    obtain ⟨k, k1, hk, rfl, rfl⟩ := hrel
    by_cases hlt : k < zs.length
    · have hlti : (k : Int) < (zs.length : Int) := by omega
      obtain ⟨z, hz⟩ : ∃ z, z = zs.getD k 0 := ⟨_, rfl⟩
      have hc1 : w.cell? ⟨b, off + k, none⟩ = some (.int .i64 z) := by rw [hz]; exact HC.out k hlt
      have HN := Lib.hid (show Turn.gmax (mostTo zs k) z = mostTo zs (k + 1) by rw [hz]; rfl)
      clear hz
      go_wp2_with (go_at_call 52; refine (spec_max _ _ _).mono ?_; rintro e w' ⟨rfl, rfl⟩)
      go_round
      case rel => exact ⟨k + 1, by omega, by omega, by go_num, by rw [HN.out]⟩
      case measure => simp [intOf]; omega
    · obtain rfl : k = zs.length := by omega
      rw [show mostTo zs zs.length = most zs from rfl]
      go_wp2
      go_loop [5, 6] (fun s i => ∃ k : Nat, k ≤ zs.length ∧ i = .int .i64 k ∧ s = .int .i64 (sumTo zs (most zs) k)) (fun _ i => zs.length - (intOf i).toNat)
      case atStart => exact ⟨0, by omega, rfl, rfl⟩
      case round =>
        obtain ⟨k, hk, rfl, rfl⟩ := hrel
        obtain ⟨t0, t1⟩ := sum_bd (m := most zs) HM.out k hk
        by_cases hlt : k < zs.length
        · have hlti : (k : Int) < (zs.length : Int) := by omega
          obtain ⟨z0, z1⟩ := of_lv (HV.out k hlt)
          have z2 := HM.out k hlt
          rw [show mostTo zs zs.length = most zs from rfl] at z2
          have HN := Lib.hid (sum_step zs (most zs) k)
          obtain ⟨z, hz⟩ : ∃ z, z = zs.getD k 0 := ⟨_, rfl⟩
          rw [← hz] at z0 z1 z2 HN
          have hc1 : w.cell? ⟨b, off + k, none⟩ = some (.int .i64 z) := by rw [hz]; exact HC.out k hlt
          clear hz
          obtain ⟨p0, p1⟩ := part_bd (v := z - most zs) (by omega)
          have HP := Lib.hid (fun w => spec_part (z - most zs) w (by omega) (by omega))
          go_wp2_with (go_at_call 62; refine (HP.out _).mono ?_; rintro e w' ⟨rfl, rfl⟩)
          go_round
          case rel => exact ⟨k + 1, by omega, by go_num, by rw [HN.out]⟩
          case measure => simp [intOf]; omega
        · obtain rfl : k = zs.length := by omega
          rw [show sumTo zs (most zs) zs.length = sum zs from rfl] at t0 t1 ⊢
          have HL := Lib.hid (fun w => Log.spec_logI (sum zs) w (by omega) (by omega))
          obtain ⟨l0, l1⟩ := logDb_bd (n := sum zs) (by omega)
          go_wp2_with (go_at_call 61; refine (HL.out _).mono ?_; rintro e w' ⟨rfl, rfl⟩)
          go_ret
          exact ⟨ret_int HS.out.symm, rfl⟩
set_option maxHeartbeats 2000000 in
theorem impl_sum_yes (b off cap : Nat) (zs : List Int) (w : World) (h : codeOf zs = 0) (hlt0 : b < w.heap.size) (hcell : ∀ i, i < zs.length → w.cell? ⟨b, off + i, none⟩ = some (.int .i64 (zs.getD i 0))) :
    Calls Tryd.prog 43 #[.slice (some ⟨b, off, none⟩) zs.length cap] w fun e w' => e = .returned (.tuple #[.int .i64 (sumV zs), .int .i64 (codeOf zs)]) ∧ On w w' := by
  obtain ⟨c1, c2, c3⟩ := of_code h
  have hlv := lvTo_of c1
  have hm := most_ge zs zs.length
  obtain ⟨s0, s1⟩ := sum_all h
  obtain ⟨g0, g1⟩ := most_all h
  obtain ⟨y, hy⟩ : ∃ y, y = zs.getD 0 0 := ⟨_, rfl⟩
  have hc0 : w.cell? ⟨b, off, none⟩ = some (.int .i64 y) := by have := hcell 0 c3; rw [Nat.add_zero] at this; rw [hy]; exact this
  have HY := Lib.hid hy
  clear hy
  have hk := impl_check_some b off cap zs w (by omega) c3 hcell
  rw [h] at hk
  have HK := Lib.hid hk
  have HC := Lib.hid hcell
  have HV := Lib.hid hlv
  have HM := Lib.hid hm
  have HS := Lib.hid ((sumV_yes h).trans (show sumL zs = most zs - 90000 + logDb (sum zs) from rfl))
  have HZ := Lib.hid h
  clear hcell hlv hm c1 h hk
  go_enter Tryd.func43, Tryd.ntmps43
  go_wp2_with fail
  refine (HK.out).mono ?_
  rintro e w1 ⟨rfl, rfl⟩
  go_wp2_with fail
  go_loop [5, 21] (fun m i => ∃ k : Nat, k ≤ zs.length ∧ i = .int .i64 k ∧ m = .int .i64 (mostTo zs k)) (fun _ i => zs.length - (intOf i).toNat)
  case atStart => exact ⟨0, by omega, rfl, by rw [HY.out]; rfl⟩
  case round =>
    obtain ⟨k, hk, rfl, rfl⟩ := hrel
    by_cases hlt : k < zs.length
    · have hlti : (k : Int) < (zs.length : Int) := by omega
      obtain ⟨z, hz⟩ : ∃ z, z = zs.getD k 0 := ⟨_, rfl⟩
      have hc1 : w.cell? ⟨b, off + k, none⟩ = some (.int .i64 z) := by rw [hz]; exact HC.out k hlt
      have HN := Lib.hid (show Turn.gmax (mostTo zs k) z = mostTo zs (k + 1) by rw [hz]; rfl)
      clear hz
      go_wp2_with (go_at_call 58; refine (Turn.impl_greatest _ _ _).mono ?_; rintro e w' ⟨rfl, rfl⟩)
      go_round
      case rel => exact ⟨k + 1, by omega, by go_num, by rw [HN.out]⟩
      case measure => simp [intOf]; omega
    · obtain rfl : k = zs.length := by omega
      rw [show mostTo zs zs.length = most zs from rfl]
      go_wp2_with fail
      go_loopw [8, 31] (fun s i wr => ∃ k : Nat, k ≤ zs.length ∧ i = .int .i64 k ∧ s = .int .i64 (sumTo zs (most zs) k) ∧ On w wr) (fun _ i _ => zs.length - (intOf i).toNat)
      case atStart => exact ⟨0, by omega, rfl, rfl, On.refl _⟩
      case round =>
        obtain ⟨k, hk, rfl, rfl, ho⟩ := hrel
        obtain ⟨t0, t1⟩ := sum_bd (m := most zs) HM.out k hk
        by_cases hlt : k < zs.length
        · have hlti : (k : Int) < (zs.length : Int) := by omega
          obtain ⟨z0, z1⟩ := of_lv (HV.out k hlt)
          have z2 := HM.out k hlt
          rw [show mostTo zs zs.length = most zs from rfl] at z2
          have HN := Lib.hid (sum_step zs (most zs) k)
          obtain ⟨z, hz⟩ : ∃ z, z = zs.getD k 0 := ⟨_, rfl⟩
          rw [← hz] at z0 z1 z2 HN
          have hc1 : wr.cell? ⟨b, off + k, none⟩ = some (.int .i64 z) := by rw [hz]; exact (ho.cell (by exact hlt0)).trans (HC.out k hlt)
          clear hz
          obtain ⟨p0, p1⟩ := part_bd (v := z - most zs) (by omega)
          have HP := Lib.hid (fun w => impl_part (z - most zs) w (by omega) (by omega))
          have HO := Lib.hid ho
          clear ho
          go_wp2_with fail
          refine (HP.out _).mono ?_
          rintro e w1 ⟨rfl, ho1⟩
          go_wp2_with fail
          go_roundw
          case rel => exact ⟨k + 1, by omega, by go_num, by rw [HN.out], HO.out.trans ho1⟩
          case measure => simp [intOf]; omega
        · obtain rfl : k = zs.length := by omega
          rw [show sumTo zs (most zs) zs.length = sum zs from rfl] at t0 t1 ⊢
          have HL := Lib.hid (fun w => Log.impl_logDb (sum zs) w (by omega))
          obtain ⟨l0, l1⟩ := logDb_bd (n := sum zs) (by omega)
          have HO := Lib.hid ho
          clear ho
          go_wp2_with fail
          refine (HL.out _).mono ?_
          rintro e w1 ⟨rfl, ho1⟩
          go_wp2_with fail
          go_ret2
          exact ⟨ret_ii HS.out.symm HZ.out.symm, HO.out.trans ho1⟩
theorem impl_sum (v : Value) (zs : List Int) (w : World) (hn : zs.length ≤ 1048576) (h : Ints w v zs) :
    Calls Tryd.prog 43 #[v] w fun e w' => e = .returned (.tuple #[.int .i64 (sumV zs), .int .i64 (codeOf zs)]) ∧ On w w' := by
  by_cases hc : codeOf zs = 0
  · obtain ⟨_, _, h0⟩ := of_code hc
    obtain ⟨a, cap, rfl, hcl⟩ := h
    obtain ⟨b, off, rfl, hlt, hcell⟩ := hcl h0
    exact impl_sum_yes b off cap zs w hc hlt hcell
  · have HK := Lib.hid (fun w h => impl_check v zs w hn h)
    have en := Lib.hid (sumV_no hc)
    have hb := code_bad hc
    have HI := Lib.hid h
    clear hc h
    go_enter Tryd.func43, Tryd.ntmps43
    go_wp2_with fail
    refine (HK.out _ HI.out).mono ?_
    rintro e w1 ⟨rfl, rfl⟩
    go_wp2_with fail
    go_ret2
    exact ⟨ret_ii en.out.symm rfl, On.refl _⟩
end Go.Proofs.YtkcjbcllpbojhaaDoor.Sum
