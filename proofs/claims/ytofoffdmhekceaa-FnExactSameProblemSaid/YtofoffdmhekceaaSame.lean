
/-
  Whether two slices of numbers are equal, in the model and in the library. Condition: at most 1048576 numbers in the first one.
-/
import Derived.Test.YtofoffdmhekceaaInts
import Derived.Test.YtofoffdmhekceaaOn
namespace Go.Proofs.Ytofoffdmhekceaa.Same
open Go.RowKit
open Ints (Ints)

theorem spec_some (b off cap b2 off2 cap2 : Nat) (zs ys : List Int) (w : World) (n : Nat) (hz : zs.length = n) (hy : ys.length = n) (hn : n ≤ 1048576)
    (hcell : ∀ i, i < n → w.cell? ⟨b, off + i, none⟩ = some (.int .i64 (zs.getD i 0))) (hcell2 : ∀ i, i < n → w.cell? ⟨b2, off2 + i, none⟩ = some (.int .i64 (ys.getD i 0))) :
    Calls Try.prog 72 #[.slice (some ⟨b, off, none⟩) n cap, .slice (some ⟨b2, off2, none⟩) n cap2] w fun e w' => e = .returned (.bool (decide (zs = ys))) ∧ On w w' := by
  have HC := Lib.hid hcell
  have HC2 := Lib.hid hcell2
  have HZ := Lib.hid hz
  have HY := Lib.hid hy
  clear hcell hcell2 hz hy
  go_enter Try.func72, Try.ntmps72
  go_wp2
  go_loopw [5] (fun i wr => ∃ k : Nat, k ≤ n ∧ i = .int .i64 k ∧ (∀ j, j < k → zs.getD j 0 = ys.getD j 0) ∧ ∃ m, wr = w.drewN m) (fun i _ => n - (intOf i).toNat)
  case atStart => exact ⟨0, Nat.zero_le _, rfl, fun j h => by omega, 0, rfl⟩
  case round =>
    obtain ⟨k, hk, rfl, hall, m, rfl⟩ := hrel
    have HA := Lib.hid hall
    clear hall
    by_cases hlt : k < n
    · have hlti : (k : Int) < (n : Int) := by omega
      obtain ⟨z, hz⟩ : ∃ z, z = zs.getD k 0 := ⟨_, rfl⟩
      obtain ⟨y, hy⟩ : ∃ y, y = ys.getD k 0 := ⟨_, rfl⟩
      have hc1 : w.cell? ⟨b, off + k, none⟩ = some (.int .i64 z) := by rw [hz]; exact HC.out k hlt
      have hc2 : w.cell? ⟨b2, off2 + k, none⟩ = some (.int .i64 y) := by rw [hy]; exact HC2.out k hlt
      by_cases hzy : z = y
      · have HN := Lib.hid (fun j (hj : j < k + 1) => show zs.getD j 0 = ys.getD j 0 by
          by_cases g : j = k
          · rw [g, ← hz, ← hy]; exact hzy
          · exact HA.out j (by omega))
        clear hz hy
        subst hzy
        go_wp2
        go_quiet (fail)
        go_wp2
        go_roundw
        case rel => exact ⟨k + 1, by omega, by go_num, HN.out, _, rfl⟩
        case measure => simp [intOf]; omega
      · have en := Lib.hid (show decide (zs = ys) = false from decide_eq_false (fun h => hzy (by rw [hz, hy, h])))
        have hb : (z == y) = false := beq_eq_false_iff_ne.2 hzy
        have hb2 : (z != y) = true := by rw [bne, hb]; rfl
        clear hz hy hzy
        go_wp2
        go_quiet (fail)
        go_wp2
        go_ret
        exact ⟨ret_bool en.out.symm, by repeat (first | with_reducible exact On.refl _ | apply On.drewN | apply On.drew)⟩
    · obtain rfl : k = n := by omega
      have en := Lib.hid (show decide (zs = ys) = true from decide_eq_true (List.ext_getElem (by rw [HZ.out, HY.out]) fun j h1 h2 => by
        have := HA.out j (by rw [← HZ.out]; exact h1)
        simpa [h1, h2] using this))
      go_wp2
      go_ret
      exact ⟨ret_bool en.out.symm, by repeat (first | with_reducible exact On.refl _ | apply On.drewN | apply On.drew)⟩
theorem spec_none (a a2 : Option Addr) (cap cap2 : Nat) (w : World) :
    Calls Try.prog 72 #[.slice a 0 cap, .slice a2 0 cap2] w fun e w' => e = .returned (.bool true) ∧ On w w' := by
  go_enter Try.func72, Try.ntmps72
  go_wp2
  refine wp_loop_rounds 1 ?_
  rw [rounds_succ]
  go_wp2
  go_ret
  exact ⟨rfl, On.refl _⟩
theorem spec_len (a a2 : Option Addr) (n m cap cap2 : Nat) (w : World) (h : n ≠ m) :
    Calls Try.prog 72 #[.slice a n cap, .slice a2 m cap2] w fun e w' => e = .returned (.bool false) ∧ On w w' := by
  have b1 : ((n : Int) == (m : Int)) = false := beq_eq_false_iff_ne.2 (by omega)
  have b2 : ((n : Int) != (m : Int)) = true := by rw [bne, b1]; rfl
  go_enter Try.func72, Try.ntmps72
  go_wp2
  go_ret
  exact ⟨rfl, On.refl _⟩
/-- The comparison of two slices. -/
theorem spec (v v2 : Value) (zs ys : List Int) (w : World) (hn : zs.length ≤ 1048576) (h : Ints w v zs) (h2 : Ints w v2 ys) :
    Calls Try.prog 72 #[v, v2] w fun e w' => e = .returned (.bool (decide (zs = ys))) ∧ On w w' := by
  obtain ⟨a, cap, rfl, hc⟩ := h
  obtain ⟨a2, cap2, rfl, hc2⟩ := h2
  by_cases hl : zs.length = ys.length
  · by_cases h0 : 0 < zs.length
    · obtain ⟨b, off, rfl, hlt, hcell⟩ := hc h0
      obtain ⟨b2, off2, rfl, hlt2, hcell2⟩ := hc2 (by omega)
      rw [← hl] at hcell2 ⊢
      exact spec_some b off cap b2 off2 cap2 zs ys w zs.length rfl hl.symm hn hcell hcell2
    · have e1 : zs = [] := List.eq_nil_of_length_eq_zero (by omega)
      have e2 : ys = [] := List.eq_nil_of_length_eq_zero (by omega)
      subst e1 e2
      exact spec_none a a2 cap cap2 w
  · rw [decide_eq_false (fun h => hl (by rw [h]))]
    exact spec_len a a2 _ _ cap cap2 w hl
theorem lib_some (b off cap b2 off2 cap2 : Nat) (zs ys : List Int) (w : World) (n : Nat) (hz : zs.length = n) (hy : ys.length = n) (hn : n ≤ 1048576)
    (hcell : ∀ i, i < n → w.cell? ⟨b, off + i, none⟩ = some (.int .i64 (zs.getD i 0))) (hcell2 : ∀ i, i < n → w.cell? ⟨b2, off2 + i, none⟩ = some (.int .i64 (ys.getD i 0))) :
    Calls Try.prog 43 #[.slice (some ⟨b, off, none⟩) n cap, .slice (some ⟨b2, off2, none⟩) n cap2] w fun e w' => e = .returned (.bool (decide (zs = ys))) ∧ On w w' := by
  have HC := Lib.hid hcell
  have HC2 := Lib.hid hcell2
  have HZ := Lib.hid hz
  have HY := Lib.hid hy
  clear hcell hcell2 hz hy
  go_enter Try.func43, Try.ntmps43
  go_wp2
  go_loopw [13] (fun i wr => ∃ k : Nat, k ≤ n ∧ i = .int .i64 k ∧ (∀ j, j < k → zs.getD j 0 = ys.getD j 0) ∧ ∃ m, wr = w.drewN m) (fun i _ => n - (intOf i).toNat)
  case atStart => exact ⟨0, Nat.zero_le _, rfl, fun j h => by omega, 0, rfl⟩
  case round =>
    obtain ⟨k, hk, rfl, hall, m, rfl⟩ := hrel
    have HA := Lib.hid hall
    clear hall
    by_cases hlt : k < n
    · have hlti : (k : Int) < (n : Int) := by omega
      obtain ⟨z, hz⟩ : ∃ z, z = zs.getD k 0 := ⟨_, rfl⟩
      obtain ⟨y, hy⟩ : ∃ y, y = ys.getD k 0 := ⟨_, rfl⟩
      have hc1 : w.cell? ⟨b, off + k, none⟩ = some (.int .i64 z) := by rw [hz]; exact HC.out k hlt
      have hc2 : w.cell? ⟨b2, off2 + k, none⟩ = some (.int .i64 y) := by rw [hy]; exact HC2.out k hlt
      by_cases hzy : z = y
      · have HN := Lib.hid (fun j (hj : j < k + 1) => show zs.getD j 0 = ys.getD j 0 by
          by_cases g : j = k
          · rw [g, ← hz, ← hy]; exact hzy
          · exact HA.out j (by omega))
        clear hz hy
        subst hzy
        go_wp2
        go_quiet (fail)
        go_wp2
        go_roundw
        case rel => exact ⟨k + 1, by omega, by go_num, HN.out, _, rfl⟩
        case measure => simp [intOf]; omega
      · have en := Lib.hid (show decide (zs = ys) = false from decide_eq_false (fun h => hzy (by rw [hz, hy, h])))
        have hb : (z == y) = false := beq_eq_false_iff_ne.2 hzy
        have hb2 : (z != y) = true := by rw [bne, hb]; rfl
        clear hz hy hzy
        go_wp2
        go_quiet (fail)
        go_wp2
        go_ret
        exact ⟨ret_bool en.out.symm, by repeat (first | with_reducible exact On.refl _ | apply On.drewN | apply On.drew)⟩
    · obtain rfl : k = n := by omega
      have en := Lib.hid (show decide (zs = ys) = true from decide_eq_true (List.ext_getElem (by rw [HZ.out, HY.out]) fun j h1 h2 => by
        have := HA.out j (by rw [← HZ.out]; exact h1)
        simpa [h1, h2] using this))
      go_wp2
      go_ret
      exact ⟨ret_bool en.out.symm, by repeat (first | with_reducible exact On.refl _ | apply On.drewN | apply On.drew)⟩
theorem lib_none (a a2 : Option Addr) (cap cap2 : Nat) (w : World) :
    Calls Try.prog 43 #[.slice a 0 cap, .slice a2 0 cap2] w fun e w' => e = .returned (.bool true) ∧ On w w' := by
  go_enter Try.func43, Try.ntmps43
  go_wp2
  refine wp_loop_rounds 1 ?_
  rw [rounds_succ]
  go_wp2
  go_ret
  exact ⟨rfl, On.refl _⟩
theorem lib_len (a a2 : Option Addr) (n m cap cap2 : Nat) (w : World) (h : n ≠ m) :
    Calls Try.prog 43 #[.slice a n cap, .slice a2 m cap2] w fun e w' => e = .returned (.bool false) ∧ On w w' := by
  have b1 : ((n : Int) == (m : Int)) = false := beq_eq_false_iff_ne.2 (by omega)
  have b2 : ((n : Int) != (m : Int)) = true := by rw [bne, b1]; rfl
  go_enter Try.func43, Try.ntmps43
  go_wp2
  go_ret
  exact ⟨rfl, On.refl _⟩
/-- The comparison of two slices. -/
theorem lib (v v2 : Value) (zs ys : List Int) (w : World) (hn : zs.length ≤ 1048576) (h : Ints w v zs) (h2 : Ints w v2 ys) :
    Calls Try.prog 43 #[v, v2] w fun e w' => e = .returned (.bool (decide (zs = ys))) ∧ On w w' := by
  obtain ⟨a, cap, rfl, hc⟩ := h
  obtain ⟨a2, cap2, rfl, hc2⟩ := h2
  by_cases hl : zs.length = ys.length
  · by_cases h0 : 0 < zs.length
    · obtain ⟨b, off, rfl, hlt, hcell⟩ := hc h0
      obtain ⟨b2, off2, rfl, hlt2, hcell2⟩ := hc2 (by omega)
      rw [← hl] at hcell2 ⊢
      exact lib_some b off cap b2 off2 cap2 zs ys w zs.length rfl hl.symm hn hcell hcell2
    · have e1 : zs = [] := List.eq_nil_of_length_eq_zero (by omega)
      have e2 : ys = [] := List.eq_nil_of_length_eq_zero (by omega)
      subst e1 e2
      exact lib_none a a2 cap cap2 w
  · rw [decide_eq_false (fun h => hl (by rw [h]))]
    exact lib_len a a2 _ _ cap cap2 w hl
end Go.Proofs.Ytofoffdmhekceaa.Same
