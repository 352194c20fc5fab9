
/-
  Chains and alternatives of outages and the nines of an availability, in the model and in the program. Conditions: each theorem's own.
-/
import Derived.Test.YtafhphceojamoaaDoorFadeP
import Derived.Test.YtafhphceojamoaaDoorFade
namespace Go.Proofs.YtafhphceojamoaaDoor.Fade
open Go.RowKit
open Plain
open Span (SpanG)
open Ints (Ints)
open Free (okV okC ret_ii)
open Tab (ret_int)

set_option maxHeartbeats 1000000 in
theorem spec_ser (v : Value) (zs : List Int) (w : World) (hz : listC zs = 0) (h : Ints w v zs) :
    Calls Tryd.prog 59 #[v] w fun e w' => e = .returned (.int .i64 (1000000 - serTo zs zs.length)) ∧ w = w' := by
  obtain ⟨hl, hall⟩ := of_list hz
  have hok := allTo_of hall
  obtain ⟨a, cap, rfl, hc⟩ := h
  obtain ⟨n, hn⟩ : ∃ n, n = zs.length := ⟨_, rfl⟩
  have HN := Lib.hid hn
  have HC := Lib.hid hc
  have HK := Lib.hid hok
  have HB := Lib.hid (ser_bd (zs := zs) (n := zs.length) hok)
  rw [← hn] at hl ⊢
  clear hc hn hall hok hz
  go_enter Tryd.func59, Tryd.ntmps59
  go_wp2_with fail
  go_loop [3, 4] (fun x i => ∃ k : Nat, k ≤ n ∧ x = .int .i64 (serTo zs k) ∧ i = .int .i64 k) (fun _ i => n - (intOf i).toNat)
  case atStart => exact ⟨0, Nat.zero_le _, rfl, rfl⟩
  case round =>
    obtain ⟨k, hk, rfl, rfl⟩ := hrel
    obtain ⟨s0, s1⟩ := HB.out k (by rw [← HN.out]; exact hk)
    by_cases hlt : k < n
    · have hlti : (k : Int) < (n : Int) := by omega
      obtain ⟨b, off, rfl, hb, hcell⟩ := HC.out (by rw [← HN.out]; omega)
      obtain ⟨z, hz⟩ : ∃ z, z = zs.getD k 0 := ⟨_, rfl⟩
      have hc1 := hcell k (by rw [← HN.out]; exact hlt)
      rw [← hz] at hc1
      obtain ⟨z0, z1⟩ := of_inB (show inB z 0 1000000 = true by rw [hz]; exact HK.out k (by rw [← HN.out]; exact hlt))
      obtain ⟨p0, p1⟩ := ser_prod (a := serTo zs k) (z := 1000000 - z) s0 s1 (by omega) (by omega)
      have hs : serTo zs k * (1000000 - z) / 1000000 = serTo zs (k + 1) := by rw [hz]; rfl
      generalize serTo zs k = S at *
      have HS := Lib.hid hs
      clear hz hcell hs
      go_wp2_with fail
      go_round
      case rel => exact ⟨k + 1, by omega, by rw [← HS.out], by go_num⟩
      case measure => simp [intOf]; omega
    · obtain rfl : k = n := by omega
      go_wp2_with fail
      go_ret
      exact ⟨by rw [HN.out]; rfl, rfl⟩
set_option maxHeartbeats 1000000 in
theorem spec_par (v : Value) (zs : List Int) (w : World) (hz : listC zs = 0) (h : Ints w v zs) :
    Calls Tryd.prog 62 #[v] w fun e w' => e = .returned (.int .i64 (parTo zs zs.length)) ∧ w = w' := by
  obtain ⟨hl, hall⟩ := of_list hz
  have hok := allTo_of hall
  obtain ⟨a, cap, rfl, hc⟩ := h
  obtain ⟨n, hn⟩ : ∃ n, n = zs.length := ⟨_, rfl⟩
  have HN := Lib.hid hn
  have HC := Lib.hid hc
  have HK := Lib.hid hok
  have HB := Lib.hid (par_bd (zs := zs) (n := zs.length) hok)
  rw [← hn] at hl ⊢
  clear hc hn hall hok hz
  go_enter Tryd.func62, Tryd.ntmps62
  go_wp2_with fail
  go_loop [3, 4] (fun x i => ∃ k : Nat, k ≤ n ∧ x = .int .i64 (parTo zs k) ∧ i = .int .i64 k) (fun _ i => n - (intOf i).toNat)
  case atStart => exact ⟨0, Nat.zero_le _, rfl, rfl⟩
  case round =>
    obtain ⟨k, hk, rfl, rfl⟩ := hrel
    obtain ⟨s0, s1⟩ := HB.out k (by rw [← HN.out]; exact hk)
    by_cases hlt : k < n
    · have hlti : (k : Int) < (n : Int) := by omega
      obtain ⟨b, off, rfl, hb, hcell⟩ := HC.out (by rw [← HN.out]; omega)
      obtain ⟨z, hz⟩ : ∃ z, z = zs.getD k 0 := ⟨_, rfl⟩
      have hc1 := hcell k (by rw [← HN.out]; exact hlt)
      rw [← hz] at hc1
      obtain ⟨z0, z1⟩ := of_inB (show inB z 0 1000000 = true by rw [hz]; exact HK.out k (by rw [← HN.out]; exact hlt))
      obtain ⟨p0, p1⟩ := ser_prod (a := parTo zs k) (z := z) s0 s1 (by omega) (by omega)
      have hs : (parTo zs k * z + 1000000 - 1) / 1000000 = parTo zs (k + 1) := by rw [hz]; rfl
      generalize parTo zs k = S at *
      have HS := Lib.hid hs
      clear hz hcell hs
      go_wp2_with fail
      go_round
      case rel => exact ⟨k + 1, by omega, by rw [← HS.out], by go_num⟩
      case measure => simp [intOf]; omega
    · obtain rfl : k = n := by omega
      go_wp2_with fail
      go_ret
      exact ⟨by rw [HN.out]; rfl, rfl⟩
set_option maxHeartbeats 1000000 in
theorem impl_ser (v : Value) (zs : List Int) (w : World) (hz : listC zs = 0) (h : Ints w v zs) :
    Calls Tryd.prog 61 #[v] w fun e w' => e = .returned (.int .i64 (1000000 - serTo zs zs.length)) ∧ w = w' := by
  obtain ⟨hl, hall⟩ := of_list hz
  have hok := allTo_of hall
  obtain ⟨a, cap, rfl, hc⟩ := h
  obtain ⟨n, hn⟩ : ∃ n, n = zs.length := ⟨_, rfl⟩
  have HN := Lib.hid hn
  have HC := Lib.hid hc
  have HK := Lib.hid hok
  have HB := Lib.hid (ser_bd (zs := zs) (n := zs.length) hok)
  rw [← hn] at hl ⊢
  clear hc hn hall hok hz
  go_enter Tryd.func61, Tryd.ntmps61
  go_wp2_with fail
  go_loop [3, 8] (fun x i => ∃ k : Nat, k ≤ n ∧ x = .int .i64 (serTo zs k) ∧ i = .int .i64 k) (fun _ i => n - (intOf i).toNat)
  case atStart => exact ⟨0, Nat.zero_le _, rfl, rfl⟩
  case round =>
    obtain ⟨k, hk, rfl, rfl⟩ := hrel
    obtain ⟨s0, s1⟩ := HB.out k (by rw [← HN.out]; exact hk)
    by_cases hlt : k < n
    · have hlti : (k : Int) < (n : Int) := by omega
      obtain ⟨b, off, rfl, hb, hcell⟩ := HC.out (by rw [← HN.out]; omega)
      obtain ⟨z, hz⟩ : ∃ z, z = zs.getD k 0 := ⟨_, rfl⟩
      have hc1 := hcell k (by rw [← HN.out]; exact hlt)
      rw [← hz] at hc1
      obtain ⟨z0, z1⟩ := of_inB (show inB z 0 1000000 = true by rw [hz]; exact HK.out k (by rw [← HN.out]; exact hlt))
      obtain ⟨p0, p1⟩ := ser_prod (a := serTo zs k) (z := 1000000 - z) s0 s1 (by omega) (by omega)
      have hs : serTo zs k * (1000000 - z) / 1000000 = serTo zs (k + 1) := by rw [hz]; rfl
      generalize serTo zs k = S at *
      have HS := Lib.hid hs
      clear hz hcell hs
      go_wp2_with fail
      go_round
      case rel => exact ⟨k + 1, by omega, by rw [← HS.out], by go_num⟩
      case measure => simp [intOf]; omega
    · obtain rfl : k = n := by omega
      go_wp2_with fail
      go_ret
      exact ⟨by rw [HN.out]; rfl, rfl⟩
set_option maxHeartbeats 1000000 in
theorem impl_par (v : Value) (zs : List Int) (w : World) (hz : listC zs = 0) (h : Ints w v zs) :
    Calls Tryd.prog 63 #[v] w fun e w' => e = .returned (.int .i64 (parTo zs zs.length)) ∧ w = w' := by
  obtain ⟨hl, hall⟩ := of_list hz
  have hok := allTo_of hall
  obtain ⟨a, cap, rfl, hc⟩ := h
  obtain ⟨n, hn⟩ : ∃ n, n = zs.length := ⟨_, rfl⟩
  have HN := Lib.hid hn
  have HC := Lib.hid hc
  have HK := Lib.hid hok
  have HB := Lib.hid (par_bd (zs := zs) (n := zs.length) hok)
  rw [← hn] at hl ⊢
  clear hc hn hall hok hz
  go_enter Tryd.func63, Tryd.ntmps63
  go_wp2_with fail
  go_loop [3, 8] (fun x i => ∃ k : Nat, k ≤ n ∧ x = .int .i64 (parTo zs k) ∧ i = .int .i64 k) (fun _ i => n - (intOf i).toNat)
  case atStart => exact ⟨0, Nat.zero_le _, rfl, rfl⟩
  case round =>
    obtain ⟨k, hk, rfl, rfl⟩ := hrel
    obtain ⟨s0, s1⟩ := HB.out k (by rw [← HN.out]; exact hk)
    by_cases hlt : k < n
    · have hlti : (k : Int) < (n : Int) := by omega
      obtain ⟨b, off, rfl, hb, hcell⟩ := HC.out (by rw [← HN.out]; omega)
      obtain ⟨z, hz⟩ : ∃ z, z = zs.getD k 0 := ⟨_, rfl⟩
      have hc1 := hcell k (by rw [← HN.out]; exact hlt)
      rw [← hz] at hc1
      obtain ⟨z0, z1⟩ := of_inB (show inB z 0 1000000 = true by rw [hz]; exact HK.out k (by rw [← HN.out]; exact hlt))
      obtain ⟨p0, p1⟩ := ser_prod (a := parTo zs k) (z := z) s0 s1 (by omega) (by omega)
      have hs : (parTo zs k * z + 1000000 - 1) / 1000000 = parTo zs (k + 1) := by rw [hz]; rfl
      generalize parTo zs k = S at *
      have HS := Lib.hid hs
      clear hz hcell hs
      go_wp2_with fail
      go_round
      case rel => exact ⟨k + 1, by omega, by rw [← HS.out], by go_num⟩
      case measure => simp [intOf]; omega
    · obtain rfl : k = n := by omega
      go_wp2_with fail
      go_ret
      exact ⟨by rw [HN.out]; rfl, rfl⟩
theorem spec_ask (v : Value) (zs : List Int) (w : World) (hq : zs.length ≤ 1048576) (h : Ints w v zs) :
    Calls Tryd.prog 58 #[v] w fun e w' => e = .returned (.int .i64 (listC zs)) ∧ w = w' := by
  obtain ⟨a, cap, rfl, hc⟩ := h
  obtain ⟨n, hn⟩ : ∃ n, n = zs.length := ⟨_, rfl⟩
  have HN := Lib.hid hn
  have HC := Lib.hid hc
  rw [← hn] at hq ⊢
  clear hc hn
  by_cases h64 : 64 < n
  · have en := Lib.hid (list_full (zs := zs) (by rw [← HN.out]; exact h64))
    have h64i : (64 : Int) < (n : Int) := by omega
    go_enter Tryd.func58, Tryd.ntmps58
    go_wp2_with fail
    go_ret
    exact ⟨ret_int en.out.symm, rfl⟩
  · have h64i : ¬ (64 : Int) < (n : Int) := by omega
    have H6 := Lib.hid (show ¬ 64 < zs.length by rw [← HN.out]; exact h64)
    go_enter Tryd.func58, Tryd.ntmps58
    go_wp2_with fail
    go_loop [3] (fun i => ∃ k : Nat, k ≤ n ∧ i = .int .i64 k ∧ AllTo okO zs k) (fun i => n - (intOf i).toNat)
    case atStart => exact ⟨0, Nat.zero_le _, rfl, allTo_zero _ _⟩
    case round =>
      obtain ⟨k, hk, rfl, hall⟩ := hrel
      have HA := Lib.hid hall
      clear hall
      by_cases hlt : k < n
      · have hlti : (k : Int) < (n : Int) := by omega
        obtain ⟨b, off, rfl, hb, hcell⟩ := HC.out (by rw [← HN.out]; omega)
        obtain ⟨z, hz⟩ : ∃ z, z = zs.getD k 0 := ⟨_, rfl⟩
        have hc1 := hcell k (by rw [← HN.out]; exact hlt)
        rw [← hz] at hc1
        cases hin : inB z 0 1000000 with
        | true =>
          have HS := Lib.hid (allTo_succ (p := okO) HA.out (by rw [← hz]; exact hin))
          clear hz hcell
          go_wp2_with (go_at_call 49; refine (spec_l13Outage _ _).mono ?_; rintro e w' ⟨rfl, rfl⟩)
          go_round
          case rel => exact ⟨k + 1, by omega, by go_num, HS.out⟩
          case measure => simp [intOf]; omega
        | false =>
          have en := Lib.hid (list_bad H6.out (all_bad (p := okO) (zs := zs) (k := k) (by rw [← HN.out]; exact hlt) (by rw [← hz]; exact hin)))
          clear hz hcell
          go_wp2_with (go_at_call 49; refine (spec_l13Outage _ _).mono ?_; rintro e w' ⟨rfl, rfl⟩)
          go_ret
          exact ⟨ret_int en.out.symm, rfl⟩
      · obtain rfl : k = n := by omega
        have en := Lib.hid (list_ok H6.out (all_all (p := okO) (by rw [← HN.out]; exact HA.out)))
        go_wp2_with fail
        go_ret
        exact ⟨ret_int en.out.symm, rfl⟩
theorem impl_ask (v : Value) (zs : List Int) (w : World) (hq : zs.length ≤ 1048576) (h : Ints w v zs) (hg : SpanG w) :
    Calls Tryd.prog 60 #[v] w fun e w' => e = .returned (.int .i64 (listC zs)) ∧ On w w' := by
  have HAL := Lib.hid (fun w1 (h1 : Ints w1 v zs) (hg1 : SpanG w1) => show Calls Tryd.prog 47 #[.int .i64 12, v] w1 fun e w' => e = .returned (.bool (zs.all okO)) ∧ On w1 w' from Span.allows_12 v zs w1 hq h1 hg1)
  have HI := Lib.hid h
  obtain ⟨a, cap, rfl, hc⟩ := h
  have HG := Lib.hid hg
  obtain ⟨n, hn⟩ : ∃ n, n = zs.length := ⟨_, rfl⟩
  have HN := Lib.hid hn
  rw [← hn] at hq HI HAL ⊢
  clear hc hn hg
  by_cases h64 : 64 < n
  · have en := Lib.hid (list_full (zs := zs) (by rw [← HN.out]; exact h64))
    have h64i : (64 : Int) < (n : Int) := by omega
    go_enter Tryd.func60, Tryd.ntmps60
    go_wp2_with fail
    go_ret
    exact ⟨ret_int en.out.symm, On.refl _⟩
  · have h64i : ¬ (64 : Int) < (n : Int) := by omega
    have H6 := Lib.hid (show ¬ 64 < zs.length by rw [← HN.out]; exact h64)
    cases hb : zs.all okO with
    | false =>
      have en := Lib.hid (list_bad H6.out hb)
      rw [hb] at HAL
      clear hb
      go_enter Tryd.func60, Tryd.ntmps60
      go_wp2_with fail
      refine (HAL.out _ HI.out HG.out).mono ?_
      rintro e w1 ⟨rfl, k1⟩
      go_wp2_with fail
      go_ret
      exact ⟨ret_int en.out.symm, k1⟩
    | true =>
      have en := Lib.hid (list_ok H6.out hb)
      rw [hb] at HAL
      clear hb
      go_enter Tryd.func60, Tryd.ntmps60
      go_wp2_with fail
      refine (HAL.out _ HI.out HG.out).mono ?_
      rintro e w1 ⟨rfl, k1⟩
      go_wp2_with fail
      go_ret
      exact ⟨ret_int en.out.symm, k1⟩
theorem list_bne {zs : List Int} (h : listC zs ≠ 0) : (listC zs == 0) = false := beq_eq_false_iff_ne.2 h
theorem spec_SeriesOutage (v : Value) (zs : List Int) (w : World) (hq : zs.length ≤ 1048576) (h : Ints w v zs) :
    Calls Tryd.prog 21 #[v] w fun e w' => e = .returned (.tuple #[.int .i64 (serV zs), .int .i64 (listC zs)]) ∧ w = w' := by
  by_cases hc : listC zs = 0
  · have HK := Lib.hid (fun w h => spec_ask v zs w hq h)
    have en := Lib.hid (serV_yes hc)
    have hb : (listC zs == 0) = true := beq_iff_eq.2 hc
    have HI := Lib.hid h
    have HL := Lib.hid (fun w h => spec_ser v zs w hc h)
    have HZ := Lib.hid hc
    have ob : 0 ≤ serTo zs zs.length ∧ serTo zs zs.length ≤ 1000000 := ser_bd (allTo_of (of_list hc).2) _ (Nat.le_refl _)
    clear hc h
    go_enter Tryd.func21, Tryd.ntmps21
    go_wp2_with fail
    refine (HK.out _ HI.out).mono ?_
    rintro e w1 ⟨rfl, rfl⟩
    go_wp2_with fail
    refine (HL.out _ HI.out).mono ?_
    rintro e w1 ⟨rfl, rfl⟩
    go_wp2_with fail
    go_ret2
    exact ⟨ret_ii en.out.symm HZ.out.symm, rfl⟩
  · have HK := Lib.hid (fun w h => spec_ask v zs w hq h)
    have en := Lib.hid (serV_no hc)
    have hb := list_bne hc
    have HI := Lib.hid h
    clear hc h
    go_enter Tryd.func21, Tryd.ntmps21
    go_wp2_with fail
    refine (HK.out _ HI.out).mono ?_
    rintro e w1 ⟨rfl, rfl⟩
    go_wp2_with fail
    go_ret2
    exact ⟨ret_ii en.out.symm rfl, rfl⟩
theorem impl_SeriesOutage (v : Value) (zs : List Int) (w : World) (hq : zs.length ≤ 1048576) (h : Ints w v zs) (hg : SpanG w) :
    Calls Tryd.prog 23 #[v] w fun e w' => e = .returned (.tuple #[.int .i64 (serV zs), .int .i64 (listC zs)]) ∧ On w w' := by
  by_cases hc : listC zs = 0
  · have HK := Lib.hid (fun w h hg => impl_ask v zs w hq h hg)
    have HG := Lib.hid hg
    clear hg
    have en := Lib.hid (serV_yes hc)
    have hb : (listC zs == 0) = true := beq_iff_eq.2 hc
    have HI := Lib.hid h
    have HL := Lib.hid (fun w h => impl_ser v zs w hc h)
    have HZ := Lib.hid hc
    have ob : 0 ≤ serTo zs zs.length ∧ serTo zs zs.length ≤ 1000000 := ser_bd (allTo_of (of_list hc).2) _ (Nat.le_refl _)
    clear hc h
    go_enter Tryd.func23, Tryd.ntmps23
    go_wp2_with fail
    refine (HK.out _ HI.out HG.out).mono ?_
    rintro e w1 ⟨rfl, k1⟩
    have K1 := Lib.hid k1
    clear k1
    go_wp2_with fail
    refine (HL.out _ (HI.out.below K1.out)).mono ?_
    rintro e w2 ⟨rfl, rfl⟩
    go_wp2_with fail
    go_ret2
    exact ⟨ret_ii en.out.symm HZ.out.symm, K1.out⟩
  · have HK := Lib.hid (fun w h hg => impl_ask v zs w hq h hg)
    have HG := Lib.hid hg
    clear hg
    have en := Lib.hid (serV_no hc)
    have hb := list_bne hc
    have HI := Lib.hid h
    clear hc h
    go_enter Tryd.func23, Tryd.ntmps23
    go_wp2_with fail
    refine (HK.out _ HI.out HG.out).mono ?_
    rintro e w1 ⟨rfl, k1⟩
    have K1 := Lib.hid k1
    clear k1
    go_wp2_with fail
    go_ret2
    exact ⟨ret_ii en.out.symm rfl, K1.out⟩
theorem spec_ParallelOutage (v : Value) (zs : List Int) (w : World) (hq : zs.length ≤ 1048576) (h : Ints w v zs) :
    Calls Tryd.prog 25 #[v] w fun e w' => e = .returned (.tuple #[.int .i64 (parV zs), .int .i64 (listC zs)]) ∧ w = w' := by
  by_cases hc : listC zs = 0
  · have HK := Lib.hid (fun w h => spec_ask v zs w hq h)
    have en := Lib.hid (parV_yes hc)
    have hb : (listC zs == 0) = true := beq_iff_eq.2 hc
    have HI := Lib.hid h
    have HL := Lib.hid (fun w h => spec_par v zs w hc h)
    have HZ := Lib.hid hc
    have ob : 0 ≤ serTo zs zs.length ∧ serTo zs zs.length ≤ 1000000 := ser_bd (allTo_of (of_list hc).2) _ (Nat.le_refl _)
    clear hc h
    go_enter Tryd.func25, Tryd.ntmps25
    go_wp2_with fail
    refine (HK.out _ HI.out).mono ?_
    rintro e w1 ⟨rfl, rfl⟩
    go_wp2_with fail
    refine (HL.out _ HI.out).mono ?_
    rintro e w1 ⟨rfl, rfl⟩
    go_wp2_with fail
    go_ret2
    exact ⟨ret_ii en.out.symm HZ.out.symm, rfl⟩
  · have HK := Lib.hid (fun w h => spec_ask v zs w hq h)
    have en := Lib.hid (parV_no hc)
    have hb := list_bne hc
    have HI := Lib.hid h
    clear hc h
    go_enter Tryd.func25, Tryd.ntmps25
    go_wp2_with fail
    refine (HK.out _ HI.out).mono ?_
    rintro e w1 ⟨rfl, rfl⟩
    go_wp2_with fail
    go_ret2
    exact ⟨ret_ii en.out.symm rfl, rfl⟩
theorem impl_ParallelOutage (v : Value) (zs : List Int) (w : World) (hq : zs.length ≤ 1048576) (h : Ints w v zs) (hg : SpanG w) :
    Calls Tryd.prog 26 #[v] w fun e w' => e = .returned (.tuple #[.int .i64 (parV zs), .int .i64 (listC zs)]) ∧ On w w' := by
  by_cases hc : listC zs = 0
  · have HK := Lib.hid (fun w h hg => impl_ask v zs w hq h hg)
    have HG := Lib.hid hg
    clear hg
    have en := Lib.hid (parV_yes hc)
    have hb : (listC zs == 0) = true := beq_iff_eq.2 hc
    have HI := Lib.hid h
    have HL := Lib.hid (fun w h => impl_par v zs w hc h)
    have HZ := Lib.hid hc
    have ob : 0 ≤ serTo zs zs.length ∧ serTo zs zs.length ≤ 1000000 := ser_bd (allTo_of (of_list hc).2) _ (Nat.le_refl _)
    clear hc h
    go_enter Tryd.func26, Tryd.ntmps26
    go_wp2_with fail
    refine (HK.out _ HI.out HG.out).mono ?_
    rintro e w1 ⟨rfl, k1⟩
    have K1 := Lib.hid k1
    clear k1
    go_wp2_with fail
    refine (HL.out _ (HI.out.below K1.out)).mono ?_
    rintro e w2 ⟨rfl, rfl⟩
    go_wp2_with fail
    go_ret2
    exact ⟨ret_ii en.out.symm HZ.out.symm, K1.out⟩
  · have HK := Lib.hid (fun w h hg => impl_ask v zs w hq h hg)
    have HG := Lib.hid hg
    clear hg
    have en := Lib.hid (parV_no hc)
    have hb := list_bne hc
    have HI := Lib.hid h
    clear hc h
    go_enter Tryd.func26, Tryd.ntmps26
    go_wp2_with fail
    refine (HK.out _ HI.out HG.out).mono ?_
    rintro e w1 ⟨rfl, k1⟩
    have K1 := Lib.hid k1
    clear k1
    go_wp2_with fail
    go_ret2
    exact ⟨ret_ii en.out.symm rfl, K1.out⟩
def okN (o : Int) : Bool := inB o 0 1000000
def tens5 : Nat → Int
  | 0 => 100000 | 1 => 10000 | 2 => 1000 | 3 => 100 | 4 => 10 | 5 => 1 | _ => 0
def tens6 : Nat → Int
  | 0 => 1 | 1 => 10 | 2 => 100 | 3 => 1000 | 4 => 10000 | 5 => 100000 | _ => 1000000
set_option maxHeartbeats 2000000 in
theorem spec_NinesOf (o : Int) (w : World) :
    Calls Tryd.prog 29 #[.int .i64 o] w fun e w' => e = .returned (.tuple #[.int .i64 (okV (okN o) (ninesV o)), .int .i64 (okC (okN o))]) ∧ w = w' := by
  cases h0 : inB o 0 1000000 with
  | false =>
    have en := Lib.hid (show okV (okN o) (ninesV o) = 0 ∧ okC (okN o) = 2 by unfold okN; rw [h0]; exact ⟨rfl, rfl⟩)
    go_enter Tryd.func29, Tryd.ntmps29
    go_wp2_with (go_at_call 49; refine (spec_l13Outage _ _).mono ?_; rintro e w' ⟨rfl, rfl⟩)
    go_ret2
    exact ⟨ret_ii en.out.1.symm en.out.2.symm, rfl⟩
  | true =>
    have en := Lib.hid (show okV (okN o) (ninesV o) = ninesV o ∧ okC (okN o) = 0 by unfold okN; rw [h0]; exact ⟨rfl, rfl⟩)
    obtain ⟨o0, o1⟩ := of_inB h0
    go_enter Tryd.func29, Tryd.ntmps29
    go_wp2_with (go_at_call 49; refine (spec_l13Outage _ _).mono ?_; rintro e w' ⟨rfl, rfl⟩)
    go_loop [4, 5] (fun x y => ∃ k : Nat, k ≤ 6 ∧ x = .int .i64 k ∧ y = .int .i64 (tens5 k) ∧ (k = 0 ∨ o ≤ 10 ^ (6 - k))) (fun x _ => 6 - (intOf x).toNat)
    case atStart => exact ⟨0, by omega, rfl, rfl, .inl rfl⟩
    case round =>
      obtain ⟨k, hk, rfl, rfl, hp⟩ := hrel
      by_cases g0 : k = 0
      · subst g0
        have hp' : True := by trivial
        rw [show tens5 0 = 100000 from rfl]
        by_cases hq : o ≤ 100000
        · clear hp en
          go_wp2_with fail
          go_round
          case rel => exact ⟨1, by omega, by first | rfl | go_num, by first | rfl | go_num, .inr (by simp; omega)⟩
          case measure => simp [intOf]
        · have em := Lib.hid (nines_at (o := o) 0 (by omega) (.inl rfl) (.inr (by simp; omega)))
          clear hp
          go_wp2_with fail
          go_ret2
          exact ⟨ret_ii (by rw [en.out.1, em.out]; rfl) en.out.2.symm, rfl⟩
      by_cases g1 : k = 1
      · subst g1
        have hp' : o ≤ 100000 := by simp at hp; omega
        rw [show tens5 1 = 10000 from rfl]
        by_cases hq : o ≤ 10000
        · clear hp en
          go_wp2_with fail
          go_round
          case rel => exact ⟨2, by omega, by first | rfl | go_num, by first | rfl | go_num, .inr (by simp; omega)⟩
          case measure => simp [intOf]
        · have em := Lib.hid (nines_at (o := o) 1 (by omega) (.inr (by simp; omega)) (.inr (by simp; omega)))
          clear hp
          go_wp2_with fail
          go_ret2
          exact ⟨ret_ii (by rw [en.out.1, em.out]; rfl) en.out.2.symm, rfl⟩
      by_cases g2 : k = 2
      · subst g2
        have hp' : o ≤ 10000 := by simp at hp; omega
        rw [show tens5 2 = 1000 from rfl]
        by_cases hq : o ≤ 1000
        · clear hp en
          go_wp2_with fail
          go_round
          case rel => exact ⟨3, by omega, by first | rfl | go_num, by first | rfl | go_num, .inr (by simp; omega)⟩
          case measure => simp [intOf]
        · have em := Lib.hid (nines_at (o := o) 2 (by omega) (.inr (by simp; omega)) (.inr (by simp; omega)))
          clear hp
          go_wp2_with fail
          go_ret2
          exact ⟨ret_ii (by rw [en.out.1, em.out]; rfl) en.out.2.symm, rfl⟩
      by_cases g3 : k = 3
      · subst g3
        have hp' : o ≤ 1000 := by simp at hp; omega
        rw [show tens5 3 = 100 from rfl]
        by_cases hq : o ≤ 100
        · clear hp en
          go_wp2_with fail
          go_round
          case rel => exact ⟨4, by omega, by first | rfl | go_num, by first | rfl | go_num, .inr (by simp; omega)⟩
          case measure => simp [intOf]
        · have em := Lib.hid (nines_at (o := o) 3 (by omega) (.inr (by simp; omega)) (.inr (by simp; omega)))
          clear hp
          go_wp2_with fail
          go_ret2
          exact ⟨ret_ii (by rw [en.out.1, em.out]; rfl) en.out.2.symm, rfl⟩
      by_cases g4 : k = 4
      · subst g4
        have hp' : o ≤ 100 := by simp at hp; omega
        rw [show tens5 4 = 10 from rfl]
        by_cases hq : o ≤ 10
        · clear hp en
          go_wp2_with fail
          go_round
          case rel => exact ⟨5, by omega, by first | rfl | go_num, by first | rfl | go_num, .inr (by simp; omega)⟩
          case measure => simp [intOf]
        · have em := Lib.hid (nines_at (o := o) 4 (by omega) (.inr (by simp; omega)) (.inr (by simp; omega)))
          clear hp
          go_wp2_with fail
          go_ret2
          exact ⟨ret_ii (by rw [en.out.1, em.out]; rfl) en.out.2.symm, rfl⟩
      by_cases g5 : k = 5
      · subst g5
        have hp' : o ≤ 10 := by simp at hp; omega
        rw [show tens5 5 = 1 from rfl]
        by_cases hq : o ≤ 1
        · clear hp en
          go_wp2_with fail
          go_round
          case rel => exact ⟨6, by omega, by first | rfl | go_num, by first | rfl | go_num, .inr (by simp; omega)⟩
          case measure => simp [intOf]
        · have em := Lib.hid (nines_at (o := o) 5 (by omega) (.inr (by simp; omega)) (.inr (by simp; omega)))
          clear hp
          go_wp2_with fail
          go_ret2
          exact ⟨ret_ii (by rw [en.out.1, em.out]; rfl) en.out.2.symm, rfl⟩
      by_cases g6 : k = 6
      · subst g6
        have hp' : o ≤ 1 := by simp at hp; omega
        rw [show tens5 6 = 0 from rfl]
        have em := Lib.hid (nines_at (o := o) 6 (by omega) (.inr (by simp; omega)) (.inl rfl))
        clear hp
        go_wp2_with fail
        go_ret2
        exact ⟨ret_ii (by rw [en.out.1, em.out]; rfl) en.out.2.symm, rfl⟩
      omega
set_option maxHeartbeats 2000000 in
theorem impl_NinesOf (o : Int) (w : World) (hg : SpanG w) :
    Calls Tryd.prog 30 #[.int .i64 o] w fun e w' => e = .returned (.tuple #[.int .i64 (okV (okN o) (ninesV o)), .int .i64 (okC (okN o))]) ∧ On w w' := by
  have HG := Lib.hid hg
  cases h0 : inB o 0 1000000 with
  | false =>
    have en := Lib.hid (show okV (okN o) (ninesV o) = 0 ∧ okC (okN o) = 2 by unfold okN; rw [h0]; exact ⟨rfl, rfl⟩)
    go_enter Tryd.func30, Tryd.ntmps30
    go_wp2_with fail
    refine (Span.allows1_12 o _ _ (by simp [go_sem]) (HG.out.on (by repeat (first | with_reducible exact On.refl _ | apply On.alloc)))).mono ?_
    rintro e w1 ⟨rfl, k1⟩
    have HO1 := Lib.hid (show On w w1 by refine On.trans ?_ k1; repeat (first | with_reducible exact On.refl _ | apply On.alloc))
    clear k1
    go_wp2_with fail
    go_ret2
    exact ⟨ret_ii en.out.1.symm en.out.2.symm, HO1.out⟩
  | true =>
    have en := Lib.hid (show okV (okN o) (ninesV o) = ninesV o ∧ okC (okN o) = 0 by unfold okN; rw [h0]; exact ⟨rfl, rfl⟩)
    obtain ⟨o0, o1⟩ := of_inB h0
    go_enter Tryd.func30, Tryd.ntmps30
    go_wp2_with fail
    refine (Span.allows1_12 o _ _ (by simp [go_sem]) (HG.out.on (by repeat (first | with_reducible exact On.refl _ | apply On.alloc)))).mono ?_
    rintro e w1 ⟨rfl, k1⟩
    have HO1 := Lib.hid (show On w w1 by refine On.trans ?_ k1; repeat (first | with_reducible exact On.refl _ | apply On.alloc))
    clear k1
    go_wp2_with fail
    go_loop [4] (fun x => ∃ k : Nat, k ≤ 6 ∧ x = .int .i64 (6 - (k : Int)) ∧ (k = 0 ∨ ¬ o ≤ 10 ^ (k - 1))) (fun x => (intOf x).toNat)
    case atStart => exact ⟨0, by omega, rfl, .inl rfl⟩
    case round =>
      obtain ⟨k, hk, rfl, hp⟩ := hrel
      by_cases g0 : k = 0
      · subst g0
        have hp' : True := by trivial
        rw [show (6 : Int) - ((0 : Nat) : Int) = 6 from rfl]
        have HT := Lib.hid (fun w => show Calls Tryd.prog 66 #[.int .i64 0] w fun x w' => x = .returned (.int .i64 1) ∧ w = w' from Log.impl_tenTo 0 w (by omega))
        by_cases hq : o ≤ 1
        · have em := Lib.hid (nines_at (o := o) 6 (by omega) (.inr (by simp; omega)) (.inl rfl))
          clear hp
          go_wp2_with fail
          refine (HT.out _).mono ?_
          rintro e w2 ⟨rfl, rfl⟩
          go_wp2_with fail
          go_ret2
          exact ⟨ret_ii (by rw [en.out.1, em.out]; rfl) en.out.2.symm, HO1.out⟩
        · clear hp en
          go_wp2_with fail
          refine (HT.out _).mono ?_
          rintro e w2 ⟨rfl, rfl⟩
          go_wp2_with fail
          go_round
          case rel => exact ⟨1, by omega, by first | rfl | go_num, .inr (by simp; omega)⟩
          case measure => simp [intOf]
      by_cases g1 : k = 1
      · subst g1
        have hp' : ¬ o ≤ 1 := by simp at hp; omega
        rw [show (6 : Int) - ((1 : Nat) : Int) = 5 from rfl]
        have HT := Lib.hid (fun w => show Calls Tryd.prog 66 #[.int .i64 1] w fun x w' => x = .returned (.int .i64 10) ∧ w = w' from Log.impl_tenTo 1 w (by omega))
        by_cases hq : o ≤ 10
        · have em := Lib.hid (nines_at (o := o) 5 (by omega) (.inr (by simp; omega)) (.inr (by simp; omega)))
          clear hp
          go_wp2_with fail
          refine (HT.out _).mono ?_
          rintro e w2 ⟨rfl, rfl⟩
          go_wp2_with fail
          go_ret2
          exact ⟨ret_ii (by rw [en.out.1, em.out]; rfl) en.out.2.symm, HO1.out⟩
        · clear hp en
          go_wp2_with fail
          refine (HT.out _).mono ?_
          rintro e w2 ⟨rfl, rfl⟩
          go_wp2_with fail
          go_round
          case rel => exact ⟨2, by omega, by first | rfl | go_num, .inr (by simp; omega)⟩
          case measure => simp [intOf]
      by_cases g2 : k = 2
      · subst g2
        have hp' : ¬ o ≤ 10 := by simp at hp; omega
        rw [show (6 : Int) - ((2 : Nat) : Int) = 4 from rfl]
        have HT := Lib.hid (fun w => show Calls Tryd.prog 66 #[.int .i64 2] w fun x w' => x = .returned (.int .i64 100) ∧ w = w' from Log.impl_tenTo 2 w (by omega))
        by_cases hq : o ≤ 100
        · have em := Lib.hid (nines_at (o := o) 4 (by omega) (.inr (by simp; omega)) (.inr (by simp; omega)))
          clear hp
          go_wp2_with fail
          refine (HT.out _).mono ?_
          rintro e w2 ⟨rfl, rfl⟩
          go_wp2_with fail
          go_ret2
          exact ⟨ret_ii (by rw [en.out.1, em.out]; rfl) en.out.2.symm, HO1.out⟩
        · clear hp en
          go_wp2_with fail
          refine (HT.out _).mono ?_
          rintro e w2 ⟨rfl, rfl⟩
          go_wp2_with fail
          go_round
          case rel => exact ⟨3, by omega, by first | rfl | go_num, .inr (by simp; omega)⟩
          case measure => simp [intOf]
      by_cases g3 : k = 3
      · subst g3
        have hp' : ¬ o ≤ 100 := by simp at hp; omega
        rw [show (6 : Int) - ((3 : Nat) : Int) = 3 from rfl]
        have HT := Lib.hid (fun w => show Calls Tryd.prog 66 #[.int .i64 3] w fun x w' => x = .returned (.int .i64 1000) ∧ w = w' from Log.impl_tenTo 3 w (by omega))
        by_cases hq : o ≤ 1000
        · have em := Lib.hid (nines_at (o := o) 3 (by omega) (.inr (by simp; omega)) (.inr (by simp; omega)))
          clear hp
          go_wp2_with fail
          refine (HT.out _).mono ?_
          rintro e w2 ⟨rfl, rfl⟩
          go_wp2_with fail
          go_ret2
          exact ⟨ret_ii (by rw [en.out.1, em.out]; rfl) en.out.2.symm, HO1.out⟩
        · clear hp en
          go_wp2_with fail
          refine (HT.out _).mono ?_
          rintro e w2 ⟨rfl, rfl⟩
          go_wp2_with fail
          go_round
          case rel => exact ⟨4, by omega, by first | rfl | go_num, .inr (by simp; omega)⟩
          case measure => simp [intOf]
      by_cases g4 : k = 4
      · subst g4
        have hp' : ¬ o ≤ 1000 := by simp at hp; omega
        rw [show (6 : Int) - ((4 : Nat) : Int) = 2 from rfl]
        have HT := Lib.hid (fun w => show Calls Tryd.prog 66 #[.int .i64 4] w fun x w' => x = .returned (.int .i64 10000) ∧ w = w' from Log.impl_tenTo 4 w (by omega))
        by_cases hq : o ≤ 10000
        · have em := Lib.hid (nines_at (o := o) 2 (by omega) (.inr (by simp; omega)) (.inr (by simp; omega)))
          clear hp
          go_wp2_with fail
          refine (HT.out _).mono ?_
          rintro e w2 ⟨rfl, rfl⟩
          go_wp2_with fail
          go_ret2
          exact ⟨ret_ii (by rw [en.out.1, em.out]; rfl) en.out.2.symm, HO1.out⟩
        · clear hp en
          go_wp2_with fail
          refine (HT.out _).mono ?_
          rintro e w2 ⟨rfl, rfl⟩
          go_wp2_with fail
          go_round
          case rel => exact ⟨5, by omega, by first | rfl | go_num, .inr (by simp; omega)⟩
          case measure => simp [intOf]
      by_cases g5 : k = 5
      · subst g5
        have hp' : ¬ o ≤ 10000 := by simp at hp; omega
        rw [show (6 : Int) - ((5 : Nat) : Int) = 1 from rfl]
        have HT := Lib.hid (fun w => show Calls Tryd.prog 66 #[.int .i64 5] w fun x w' => x = .returned (.int .i64 100000) ∧ w = w' from Log.impl_tenTo 5 w (by omega))
        by_cases hq : o ≤ 100000
        · have em := Lib.hid (nines_at (o := o) 1 (by omega) (.inr (by simp; omega)) (.inr (by simp; omega)))
          clear hp
          go_wp2_with fail
          refine (HT.out _).mono ?_
          rintro e w2 ⟨rfl, rfl⟩
          go_wp2_with fail
          go_ret2
          exact ⟨ret_ii (by rw [en.out.1, em.out]; rfl) en.out.2.symm, HO1.out⟩
        · clear hp en
          go_wp2_with fail
          refine (HT.out _).mono ?_
          rintro e w2 ⟨rfl, rfl⟩
          go_wp2_with fail
          go_round
          case rel => exact ⟨6, by omega, by first | rfl | go_num, .inr (by simp; omega)⟩
          case measure => simp [intOf]
      by_cases g6 : k = 6
      · subst g6
        have hp' : ¬ o ≤ 100000 := by simp at hp; omega
        rw [show (6 : Int) - ((6 : Nat) : Int) = 0 from rfl]
        have HT := Lib.hid (fun w => show Calls Tryd.prog 66 #[.int .i64 6] w fun x w' => x = .returned (.int .i64 1000000) ∧ w = w' from Log.impl_tenTo 6 w (by omega))
        have em := Lib.hid (nines_at (o := o) 0 (by omega) (.inl rfl) (.inr (by simp; omega)))
        clear hp
        go_wp2_with fail
        refine (HT.out _).mono ?_
        rintro e w2 ⟨rfl, rfl⟩
        go_wp2_with fail
        go_ret2
        exact ⟨ret_ii (by rw [en.out.1, em.out]; rfl) en.out.2.symm, HO1.out⟩
      omega
end Go.Proofs.YtafhphceojamoaaDoor.Fade
