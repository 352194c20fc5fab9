
/-
  The model's searches for the worst point of a profile. Conditions: each theorem's own.
-/
import Derived.Test.YtmmhekakihimfaaShare
import Derived.Test.YtmmhekakihimfaaSel
namespace Go.Proofs.Ytmmhekakihimfaa.Nu
open Go.RowKit
open Plain
open Ints (Ints Own)
open Prof (PIn clr off_bd off slice_of okP of_okP ret_ii)

/-- The values at the points of a profile. -/
def shrAt (d f l n fr : Int) (zs : List Int) (k : Nat) : Int := shr d f l n fr k (zs.getD k 0)
def nuAt (d f l n fr : Int) (zs : List Int) (k : Nat) : Int := nu d f l n fr k (zs.getD k 0)
set_option maxHeartbeats 2000000 in
theorem spec_l05Worst (g n cap b off : Nat) (d f l fr : Int) (zs : List Int) (w : World) (hp : PIn w g d f l (.slice (some ⟨b, off, none⟩) (n + 1) cap)) (hb : b < w.heap.size) (hz : ∀ k, k ≤ n → w.cell? ⟨b, off + k, none⟩ = some (.int .i64 (zs.getD k 0))) (hzb : ∀ k, k ≤ n → 0 ≤ zs.getD k 0 ∧ zs.getD k 0 ≤ 90000)
    (d0 : 1 ≤ d) (d1 : d ≤ 283000) (f0 : 0 ≤ f) (f1 : f ≤ 180000) (l0 : 0 ≤ l) (l1 : l ≤ 180000) (n0 : 1 ≤ n) (n1 : n ≤ 64) (fr0 : 1 ≤ fr) (fr1 : fr ≤ 100000000) :
    Calls Try.prog 69 #[.pointer (some ⟨g, 0, none⟩), .int .i64 fr] w fun e w' => e = .returned (.tuple #[.int .i64 (selI lss (shrAt d f l n fr zs) (n - 1)), .int .i64 (sel lss (shrAt d f l n fr zs) (n - 1)).2]) ∧ On w w' := by
  have HP := Lib.hid hp
  have hs := fun (k : Nat) (hk : k < n - 1) w' (h : On w w') => spec_share g n cap (k + 1) b off d f l (zs.getD (k + 1) 0) fr w' (hp.on h) (h.lts _ hb) ((h.cell (p := ⟨b, off + (k + 1), none⟩) (by exact hb)).trans (hz (k + 1) (by omega))) (hzb (k + 1) (by omega)).1 (hzb (k + 1) (by omega)).2 d0 d1 f0 f1 l0 l1 (by omega) n0 n1 fr0 fr1
  obtain ⟨val, hval⟩ : ∃ val : Nat → Int, val = shrAt d f l n fr zs := ⟨_, rfl⟩
  have HS := Lib.hid (fun (k : Nat) (hk : k < n - 1) w' (h : On w w') => show Calls Try.prog 96 #[.pointer (some ⟨g, 0, none⟩), .int .i64 fr, .int .i64 ((k : Int) + 1)] w' (fun e w'' => e = .returned (.int .i64 (val (k + 1))) ∧ On w' w'') by
    rw [hval]; exact hs k hk w' h)
  rw [← hval]
  clear hs hval hz hzb hp
  go_enter Try.func69, Try.ntmps69
  go_wp2_with fail
  go_loopw [6, 7, 8] (fun x y i wr => ∃ k : Nat, k ≤ n - 1 ∧ (x = .int .i64 (selI lss val k) ∧ y = .int .i64 (sel lss val k).2) ∧ i = .int .i64 ((k : Int) + 1) ∧ On w wr) (fun _ _ i _ => n - (intOf i).toNat)
  case atStart => exact ⟨0, Nat.zero_le _, ⟨rfl, rfl⟩, rfl, On.refl _⟩
  case round =>
    obtain ⟨k, hk, ⟨rfl, rfl⟩, rfl, ho⟩ := hrel
    obtain ⟨q0, q1, q2, q3⟩ := HP.out.on ho
    have hg := World.block_lt_of_cell? wr _ q0
    by_cases hlt : k < n - 1
    · have hki : (k : Int) + 1 < (n : Int) := by omega
      obtain ⟨z, hz⟩ : ∃ z, z = val (k + 1) := ⟨_, rfl⟩
      have hS := fun w' ho => HS.out k hlt w' ho
      rw [← hz] at hS
      have HSK := Lib.hid hS
      have EK := Lib.hid (show k = 0 ∨ lss z (sel lss val k).2 = true → selI lss val (k + 1) = (k : Int) + 1 ∧ (sel lss val (k + 1)).2 = z from fun h => by rw [hz] at h ⊢; exact ⟨selI_take h, by rw [sel_take h]⟩)
      have EN := Lib.hid (show k ≠ 0 → lss z (sel lss val k).2 = false → selI lss val (k + 1) = selI lss val k ∧ sel lss val (k + 1) = sel lss val k from fun h g => by rw [hz] at g; exact ⟨selI_keep h g, sel_keep h g⟩)
      have hneg := selI_neg (b := lss) (val := val) (k := k)
      generalize selI lss val k = x at *
      clear hz hS
      by_cases k0 : k = 0
      · have hx : x < 0 := hneg.2 k0
        have E := Lib.hid (EK.out (.inl k0))
        generalize (sel lss val k).2 = y at *
        clear hneg k0
        go_wp2_with fail
        refine (HSK.out _ ho).mono ?_
        rintro e w1 ⟨rfl, k1⟩
        go_wp2_with fail
        go_roundw
        case rel => exact ⟨k + 1, by omega, ⟨by rw [E.out.1], by rw [E.out.2]⟩, by go_num, ho.trans k1⟩
        case measure => simp [intOf]; omega
      · have hx : ¬ x < 0 := fun h => k0 (hneg.1 h)
        by_cases hlz : z < (sel lss val k).2
        · have E := Lib.hid (EK.out (.inr (decide_eq_true hlz)))
          generalize (sel lss val k).2 = y at *
          clear hneg k0
          go_wp2_with fail
          refine (HSK.out _ ho).mono ?_
          rintro e w1 ⟨rfl, k1⟩
          go_wp2_with fail
          go_roundw
          case rel => exact ⟨k + 1, by omega, ⟨by rw [E.out.1], by rw [E.out.2]⟩, by go_num, ho.trans k1⟩
          case measure => simp [intOf]; omega
        · have E := Lib.hid (EN.out k0 (decide_eq_false hlz))
          have EY := Lib.hid (show (sel lss val (k + 1)).2 = (sel lss val k).2 by rw [E.out.2])
          generalize (sel lss val k).2 = y at *
          clear hneg k0
          go_wp2_with fail
          refine (HSK.out _ ho).mono ?_
          rintro e w1 ⟨rfl, k1⟩
          go_wp2_with fail
          go_roundw
          case rel => exact ⟨k + 1, by omega, ⟨by rw [E.out.1], by rw [EY.out]⟩, by go_num, ho.trans k1⟩
          case measure => simp [intOf]; omega
    · obtain rfl : k = n - 1 := by omega
      have hki : ¬ (((n - 1 : Nat) : Int) + 1 < (n : Int)) := by omega
      go_wp2_with fail
      go_ret2
      exact ⟨rfl, ho⟩
set_option maxHeartbeats 2000000 in
theorem spec_l10Worst (g n cap b off : Nat) (d f l fr : Int) (zs : List Int) (w : World) (hp : PIn w g d f l (.slice (some ⟨b, off, none⟩) (n + 1) cap)) (hb : b < w.heap.size) (hz : ∀ k, k ≤ n → w.cell? ⟨b, off + k, none⟩ = some (.int .i64 (zs.getD k 0))) (hzb : ∀ k, k ≤ n → 0 ≤ zs.getD k 0 ∧ zs.getD k 0 ≤ 90000)
    (d0 : 1 ≤ d) (d1 : d ≤ 283000) (f0 : 0 ≤ f) (f1 : f ≤ 180000) (l0 : 0 ≤ l) (l1 : l ≤ 180000) (n0 : 1 ≤ n) (n1 : n ≤ 64) (fr0 : 1 ≤ fr) (fr1 : fr ≤ 100000000) :
    Calls Try.prog 55 #[.pointer (some ⟨g, 0, none⟩), .int .i64 fr] w fun e w' => e = .returned (.tuple #[.int .i64 (selI gtr (nuAt d f l n fr zs) (n - 1)), .int .i64 (sel gtr (nuAt d f l n fr zs) (n - 1)).2]) ∧ On w w' := by
  have HP := Lib.hid hp
  have hs := fun (k : Nat) (hk : k < n - 1) w' (h : On w w') => spec_nu g n cap (k + 1) b off d f l (zs.getD (k + 1) 0) fr w' (hp.on h) (h.lts _ hb) ((h.cell (p := ⟨b, off + (k + 1), none⟩) (by exact hb)).trans (hz (k + 1) (by omega))) (hzb (k + 1) (by omega)).1 (hzb (k + 1) (by omega)).2 d0 d1 f0 f1 l0 l1 (by omega) n0 n1 fr0 fr1
  obtain ⟨val, hval⟩ : ∃ val : Nat → Int, val = nuAt d f l n fr zs := ⟨_, rfl⟩
  have HS := Lib.hid (fun (k : Nat) (hk : k < n - 1) w' (h : On w w') => show Calls Try.prog 49 #[.pointer (some ⟨g, 0, none⟩), .int .i64 fr, .int .i64 ((k : Int) + 1)] w' (fun e w'' => e = .returned (.int .i64 (val (k + 1))) ∧ On w' w'') by
    rw [hval]; exact hs k hk w' h)
  rw [← hval]
  clear hs hval hz hzb hp
  go_enter Try.func55, Try.ntmps55
  go_wp2_with fail
  go_loopw [6, 7, 8] (fun x y i wr => ∃ k : Nat, k ≤ n - 1 ∧ (x = .int .i64 (selI gtr val k) ∧ y = .int .i64 (sel gtr val k).2) ∧ i = .int .i64 ((k : Int) + 1) ∧ On w wr) (fun _ _ i _ => n - (intOf i).toNat)
  case atStart => exact ⟨0, Nat.zero_le _, ⟨rfl, rfl⟩, rfl, On.refl _⟩
  case round =>
    obtain ⟨k, hk, ⟨rfl, rfl⟩, rfl, ho⟩ := hrel
    obtain ⟨q0, q1, q2, q3⟩ := HP.out.on ho
    have hg := World.block_lt_of_cell? wr _ q0
    by_cases hlt : k < n - 1
    · have hki : (k : Int) + 1 < (n : Int) := by omega
      obtain ⟨z, hz⟩ : ∃ z, z = val (k + 1) := ⟨_, rfl⟩
      have hS := fun w' ho => HS.out k hlt w' ho
      rw [← hz] at hS
      have HSK := Lib.hid hS
      have EK := Lib.hid (show k = 0 ∨ gtr z (sel gtr val k).2 = true → selI gtr val (k + 1) = (k : Int) + 1 ∧ (sel gtr val (k + 1)).2 = z from fun h => by rw [hz] at h ⊢; exact ⟨selI_take h, by rw [sel_take h]⟩)
      have EN := Lib.hid (show k ≠ 0 → gtr z (sel gtr val k).2 = false → selI gtr val (k + 1) = selI gtr val k ∧ sel gtr val (k + 1) = sel gtr val k from fun h g => by rw [hz] at g; exact ⟨selI_keep h g, sel_keep h g⟩)
      have hneg := selI_neg (b := gtr) (val := val) (k := k)
      generalize selI gtr val k = x at *
      clear hz hS
      by_cases k0 : k = 0
      · have hx : x < 0 := hneg.2 k0
        have E := Lib.hid (EK.out (.inl k0))
        generalize (sel gtr val k).2 = y at *
        clear hneg k0
        go_wp2_with fail
        refine (HSK.out _ ho).mono ?_
        rintro e w1 ⟨rfl, k1⟩
        go_wp2_with fail
        go_roundw
        case rel => exact ⟨k + 1, by omega, ⟨by rw [E.out.1], by rw [E.out.2]⟩, by go_num, ho.trans k1⟩
        case measure => simp [intOf]; omega
      · have hx : ¬ x < 0 := fun h => k0 (hneg.1 h)
        by_cases hlz : (sel gtr val k).2 < z
        · have E := Lib.hid (EK.out (.inr (decide_eq_true hlz)))
          generalize (sel gtr val k).2 = y at *
          clear hneg k0
          go_wp2_with fail
          refine (HSK.out _ ho).mono ?_
          rintro e w1 ⟨rfl, k1⟩
          go_wp2_with fail
          go_roundw
          case rel => exact ⟨k + 1, by omega, ⟨by rw [E.out.1], by rw [E.out.2]⟩, by go_num, ho.trans k1⟩
          case measure => simp [intOf]; omega
        · have E := Lib.hid (EN.out k0 (decide_eq_false hlz))
          have EY := Lib.hid (show (sel gtr val (k + 1)).2 = (sel gtr val k).2 by rw [E.out.2])
          generalize (sel gtr val k).2 = y at *
          clear hneg k0
          go_wp2_with fail
          refine (HSK.out _ ho).mono ?_
          rintro e w1 ⟨rfl, k1⟩
          go_wp2_with fail
          go_roundw
          case rel => exact ⟨k + 1, by omega, ⟨by rw [E.out.1], by rw [EY.out]⟩, by go_num, ho.trans k1⟩
          case measure => simp [intOf]; omega
    · obtain rfl : k = n - 1 := by omega
      have hki : ¬ (((n - 1 : Nat) : Int) + 1 < (n : Int)) := by omega
      go_wp2_with fail
      go_ret2
      exact ⟨rfl, ho⟩
end Go.Proofs.Ytmmhekakihimfaa.Nu
