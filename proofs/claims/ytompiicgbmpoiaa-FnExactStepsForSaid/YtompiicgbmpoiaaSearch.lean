
/-
  What sort.Search returns for a property that fails further on once it fails. Condition: at most 1048576 indices.
-/
import Derived.Test.YtompiicgbmpoiaaLead
import Derived.Test.YtompiicgbmpoiaaOn
import Derived.IntWalk
import Derived.Handy
namespace Go.Proofs.Ytompiicgbmpoiaa.Search
open Go.RowKit
open Plain
set_option maxRecDepth 100000 in
set_option maxHeartbeats 2000000 in
theorem loss (c1 c2 : Value) (p : Nat → Bool) (n : Nat) (w : World) (hn : n ≤ 1048576) (hu : Mono p n)
    (hc : ∀ k, k < n → ∀ w1, On w w1 → Calls Try.prog 61 #[.int .i64 k, c1, c2] w1 fun e w' => e = .returned (.bool (!p k)) ∧ On w1 w') :
    Calls Try.prog 37 #[.int .i64 n, .func (Fn.func 61) #[] #[c1, c2]] w fun e w' => e = .returned (.int .i64 (leadN p n : Nat)) ∧ On w w' := by
  have HCL := Lib.hid hc
  have HU := Lib.hid hu
  have HB0 := Lib.hid (sb_start p n)
  clear hc hu
  go_enter Try.func37, Try.ntmps37
  go_wp2_with fail
  go_loopw [5, 6] (fun x y wr => ∃ i j : Nat, x = .int .i64 i ∧ y = .int .i64 j ∧ j ≤ n ∧ i ≤ j ∧ Sb p n i j ∧ On w wr) (fun x y _ => (intOf y - intOf x).toNat)
  case atStart => exact ⟨0, n, rfl, rfl, Nat.le_refl _, Nat.zero_le _, HB0.out, On.refl _⟩
  case round =>
    obtain ⟨i, j, rfl, rfl, hj, hij, hs, ho⟩ := hrel
    have HS := Lib.hid hs
    clear hs
    by_cases hlt : i < j
    · obtain ⟨m, hm⟩ : ∃ m, m = (i + j) / 2 := ⟨_, rfl⟩
      have m1 : i ≤ m := by omega
      have m2 : m < j := by omega
      have hmi : ((i : Int) + j) / 2 = m := by omega
      have HMI := Lib.hid hmi
      clear hm hmi
      cases hq : p m with
      | false =>
        have HB := Lib.hid (sb_hi HS.out m1 m2 hq)
        have HM := Lib.hid (HCL.out m (by omega) _ ho)
        rw [hq] at HM
        clear hq
        go_wp2_with fail
        rw [HMI.out]
        refine HM.out.mono ?_
        rintro x w1 ⟨rfl, h1⟩
        go_wp2_with fail
        go_roundw
        case rel => exact ⟨i, m, rfl, by rw [← HMI.out], by omega, by omega, HB.out, ho.trans h1⟩
        case measure => simp [intOf]; omega
      | true =>
        have HB := Lib.hid (sb_lo HU.out HS.out m2 hq)
        have HM := Lib.hid (HCL.out m (by omega) _ ho)
        rw [hq] at HM
        clear hq
        go_wp2_with fail
        rw [HMI.out]
        refine HM.out.mono ?_
        rintro x w1 ⟨rfl, h1⟩
        go_wp2_with fail
        go_roundw
        case rel => exact ⟨m + 1, j, by go_num, rfl, by omega, by omega, HB.out, ho.trans h1⟩
        case measure => simp [intOf]; omega
    · obtain rfl : i = j := by omega
      have en := Lib.hid (sb_end HS.out)
      go_wp2_with fail
      go_ret
      exact ⟨ret_int (by rw [en.out]), ho⟩
set_option maxRecDepth 100000 in
set_option maxHeartbeats 2000000 in
theorem width (c1 c2 : Value) (p : Nat → Bool) (n : Nat) (w : World) (hn : n ≤ 1048576) (hu : Mono p n)
    (hc : ∀ k, k < n → ∀ w1, On w w1 → Calls Try.prog 38 #[.int .i64 k, c1, c2] w1 fun e w' => e = .returned (.bool (!p k)) ∧ On w1 w') :
    Calls Try.prog 37 #[.int .i64 n, .func (Fn.func 38) #[] #[c1, c2]] w fun e w' => e = .returned (.int .i64 (leadN p n : Nat)) ∧ On w w' := by
  have HCL := Lib.hid hc
  have HU := Lib.hid hu
  have HB0 := Lib.hid (sb_start p n)
  clear hc hu
  go_enter Try.func37, Try.ntmps37
  go_wp2_with fail
  go_loopw [5, 6] (fun x y wr => ∃ i j : Nat, x = .int .i64 i ∧ y = .int .i64 j ∧ j ≤ n ∧ i ≤ j ∧ Sb p n i j ∧ On w wr) (fun x y _ => (intOf y - intOf x).toNat)
  case atStart => exact ⟨0, n, rfl, rfl, Nat.le_refl _, Nat.zero_le _, HB0.out, On.refl _⟩
  case round =>
    obtain ⟨i, j, rfl, rfl, hj, hij, hs, ho⟩ := hrel
    have HS := Lib.hid hs
    clear hs
    by_cases hlt : i < j
    · obtain ⟨m, hm⟩ : ∃ m, m = (i + j) / 2 := ⟨_, rfl⟩
      have m1 : i ≤ m := by omega
      have m2 : m < j := by omega
      have hmi : ((i : Int) + j) / 2 = m := by omega
      have HMI := Lib.hid hmi
      clear hm hmi
      cases hq : p m with
      | false =>
        have HB := Lib.hid (sb_hi HS.out m1 m2 hq)
        have HM := Lib.hid (HCL.out m (by omega) _ ho)
        rw [hq] at HM
        clear hq
        go_wp2_with fail
        rw [HMI.out]
        refine HM.out.mono ?_
        rintro x w1 ⟨rfl, h1⟩
        go_wp2_with fail
        go_roundw
        case rel => exact ⟨i, m, rfl, by rw [← HMI.out], by omega, by omega, HB.out, ho.trans h1⟩
        case measure => simp [intOf]; omega
      | true =>
        have HB := Lib.hid (sb_lo HU.out HS.out m2 hq)
        have HM := Lib.hid (HCL.out m (by omega) _ ho)
        rw [hq] at HM
        clear hq
        go_wp2_with fail
        rw [HMI.out]
        refine HM.out.mono ?_
        rintro x w1 ⟨rfl, h1⟩
        go_wp2_with fail
        go_roundw
        case rel => exact ⟨m + 1, j, by go_num, rfl, by omega, by omega, HB.out, ho.trans h1⟩
        case measure => simp [intOf]; omega
    · obtain rfl : i = j := by omega
      have en := Lib.hid (sb_end HS.out)
      go_wp2_with fail
      go_ret
      exact ⟨ret_int (by rw [en.out]), ho⟩
set_option maxRecDepth 100000 in
set_option maxHeartbeats 2000000 in
theorem steps (c1 c2 : Value) (p : Nat → Bool) (n : Nat) (w : World) (hn : n ≤ 1048576) (hu : Mono p n)
    (hc : ∀ k, k < n → ∀ w1, On w w1 → Calls Try.prog 42 #[.int .i64 k, c1, c2] w1 fun e w' => e = .returned (.bool (!p k)) ∧ On w1 w') :
    Calls Try.prog 37 #[.int .i64 n, .func (Fn.func 42) #[] #[c1, c2]] w fun e w' => e = .returned (.int .i64 (leadN p n : Nat)) ∧ On w w' := by
  have HCL := Lib.hid hc
  have HU := Lib.hid hu
  have HB0 := Lib.hid (sb_start p n)
  clear hc hu
  go_enter Try.func37, Try.ntmps37
  go_wp2_with fail
  go_loopw [5, 6] (fun x y wr => ∃ i j : Nat, x = .int .i64 i ∧ y = .int .i64 j ∧ j ≤ n ∧ i ≤ j ∧ Sb p n i j ∧ On w wr) (fun x y _ => (intOf y - intOf x).toNat)
  case atStart => exact ⟨0, n, rfl, rfl, Nat.le_refl _, Nat.zero_le _, HB0.out, On.refl _⟩
  case round =>
    obtain ⟨i, j, rfl, rfl, hj, hij, hs, ho⟩ := hrel
    have HS := Lib.hid hs
    clear hs
    by_cases hlt : i < j
    · obtain ⟨m, hm⟩ : ∃ m, m = (i + j) / 2 := ⟨_, rfl⟩
      have m1 : i ≤ m := by omega
      have m2 : m < j := by omega
      have hmi : ((i : Int) + j) / 2 = m := by omega
      have HMI := Lib.hid hmi
      clear hm hmi
      cases hq : p m with
      | false =>
        have HB := Lib.hid (sb_hi HS.out m1 m2 hq)
        have HM := Lib.hid (HCL.out m (by omega) _ ho)
        rw [hq] at HM
        clear hq
        go_wp2_with fail
        rw [HMI.out]
        refine HM.out.mono ?_
        rintro x w1 ⟨rfl, h1⟩
        go_wp2_with fail
        go_roundw
        case rel => exact ⟨i, m, rfl, by rw [← HMI.out], by omega, by omega, HB.out, ho.trans h1⟩
        case measure => simp [intOf]; omega
      | true =>
        have HB := Lib.hid (sb_lo HU.out HS.out m2 hq)
        have HM := Lib.hid (HCL.out m (by omega) _ ho)
        rw [hq] at HM
        clear hq
        go_wp2_with fail
        rw [HMI.out]
        refine HM.out.mono ?_
        rintro x w1 ⟨rfl, h1⟩
        go_wp2_with fail
        go_roundw
        case rel => exact ⟨m + 1, j, by go_num, rfl, by omega, by omega, HB.out, ho.trans h1⟩
        case measure => simp [intOf]; omega
    · obtain rfl : i = j := by omega
      have en := Lib.hid (sb_end HS.out)
      go_wp2_with fail
      go_ret
      exact ⟨ret_int (by rw [en.out]), ho⟩
end Go.Proofs.Ytompiicgbmpoiaa.Search
