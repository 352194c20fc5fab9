
/-
  When a profile is valid, whole: the model by value, the program. Condition: at most 1048576 heights.
-/
import Derived.Test.YtmmhekakihimfaaProfOk
import Derived.Test.YtmmhekakihimfaaOnH
namespace Go.Proofs.Ytmmhekakihimfaa.Prof
open Go.RowKit
open Plain
open Ints (Ints Own)

theorem slice_of {w : World} {a : Option Addr} {cap : Nat} {zs : List Int} (h : Ints w (.slice a zs.length cap) zs) (h0 : 0 < zs.length) : ∃ b off, a = some ⟨b, off, none⟩ ∧ b < w.heap.size ∧ ∀ i, i < zs.length → w.cell? ⟨b, off + i, none⟩ = some (.int .i64 (zs.getD i 0)) := by
  obtain ⟨a', cap', he, hc⟩ := h
  injection he with h1 h2 h3
  subst h1
  exact hc h0
set_option maxHeartbeats 1000000 in
theorem spec_ok_none (g : Nat) (d f l : Int) (a : Option Addr) (cap : Nat) (w : World) (hp : PIn w g d f l (.slice a 0 cap)) (h1 : inB d 1 283000 = true) (h2 : inB f 0 180000 = true) (h3 : inB l 0 180000 = true) :
    Calls Try.prog 57 #[.pointer (some ⟨g, 0, none⟩)] w fun e w' => e = .returned (.bool false) ∧ ∃ n, w' = w.drewN n := by
  obtain ⟨k0, k1, k2, k3⟩ := hp
  go_enter Try.func57, Try.ntmps57
  go_wp2_with (go_at_call 41; refine (Arith.l00In _ _ _ _).mono ?_; rintro e w' ⟨rfl, rfl⟩)
  refine wp_loop_rounds 1 ?_
  rw [rounds_succ]
  go_wp2_with fail
  go_quiet (fail)
  go_wp2_with fail
  go_ret
  exact ⟨rfl, _, rfl⟩
theorem spec_ok (g : Nat) (d f l : Int) (a : Option Addr) (cap : Nat) (zs : List Int) (w : World) (hn : zs.length ≤ 1048576) (hp : PIn w g d f l (.slice a zs.length cap)) (h : Ints w (.slice a zs.length cap) zs) :
    Calls Try.prog 57 #[.pointer (some ⟨g, 0, none⟩)] w fun e w' => e = .returned (.bool (okP d f l zs)) ∧ ∃ n, w' = w.drewN n := by
  cases h1 : inB d 1 283000 with
  | false =>
    rw [okP_d h1]
    obtain ⟨k0, k1, k2, k3⟩ := hp
    go_enter Try.func57, Try.ntmps57
    go_wp2_with (go_at_call 41; refine (Arith.l00In _ _ _ _).mono ?_; rintro e w' ⟨rfl, rfl⟩)
    go_ret
    exact ⟨rfl, 0, rfl⟩
  | true =>
    cases h2 : inB f 0 180000 with
    | false =>
      rw [okP_far (.inl h2)]
      obtain ⟨k0, k1, k2, k3⟩ := hp
      go_enter Try.func57, Try.ntmps57
      go_wp2_with (go_at_call 41; refine (Arith.l00In _ _ _ _).mono ?_; rintro e w' ⟨rfl, rfl⟩)
      go_ret
      exact ⟨rfl, 0, rfl⟩
    | true =>
      cases h3 : inB l 0 180000 with
      | false =>
        rw [okP_far (.inr h3)]
        obtain ⟨k0, k1, k2, k3⟩ := hp
        go_enter Try.func57, Try.ntmps57
        go_wp2_with (go_at_call 41; refine (Arith.l00In _ _ _ _).mono ?_; rintro e w' ⟨rfl, rfl⟩)
        go_ret
        exact ⟨rfl, 0, rfl⟩
      | true =>
        by_cases h0 : 0 < zs.length
        · obtain ⟨b, off, rfl, _, hcell⟩ := slice_of h h0
          exact spec_ok_some g b off cap zs.length d f l zs w rfl hn h0 hp hcell h1 h2 h3
        · obtain rfl : zs = [] := List.eq_nil_of_length_eq_zero (by omega)
          rw [okP_n (by simp)]
          exact spec_ok_none g d f l a cap w hp h1 h2 h3
theorem steps (d f l : Int) (a : Option Addr) (n cap : Nat) (w : World) (hn : n ≤ 1048576) :
    Calls Try.prog 52 #[.agg #[.int .i64 d, .int .i64 f, .int .i64 l, .slice a n cap]] w fun e w' => e = .returned (.int .i64 ((n : Int) - 1)) ∧ On w w' := by
  go_enter Try.func52, Try.ntmps52
  go_wp2_with fail
  go_ret
  exact ⟨rfl, by repeat (first | exact On.refl _ | apply On.alloc)⟩
set_option maxHeartbeats 600000 in
theorem impl_valid_some (b off cap n : Nat) (d f l : Int) (zs : List Int) (w : World) (hl : n = zs.length) (hn : 2 ≤ n ∧ n ≤ 65) (hlt : b < w.heap.size)
    (hcell : ∀ i, i < n → w.cell? ⟨b, off + i, none⟩ = some (.int .i64 (zs.getD i 0))) (h1 : inB d 1 283000 = true) :
    Calls Try.prog 59 #[.agg #[.int .i64 d, .int .i64 f, .int .i64 l, .slice (some ⟨b, off, none⟩) n cap]] w fun e w' => e = .returned (.bool (okP d f l zs)) ∧ On w w' := by
  have HC := Lib.hid hcell
  have HN := Lib.hid hl
  have H1 := Lib.hid h1
  have h2 : inB (n : Int) 2 65 = true := inB_yes (by omega) (by omega)
  obtain ⟨n0, n1⟩ := hn
  have hlt1 : b < w.heap.size + 1 := by omega
  clear hcell hl
  go_enter Try.func59, Try.ntmps59
  go_wp2_with (go_at_call 43; refine (Arith.within _ _ _ _).mono ?_; rintro e w' ⟨rfl, rfl⟩)
  go_loop [19] (fun i => ∃ k : Nat, k ≤ n ∧ i = .int .i64 k ∧ AllTo htB zs k) (fun i => n - (intOf i).toNat)
  case atStart => exact ⟨0, Nat.zero_le _, rfl, allTo_zero _ _⟩
  case round =>
    obtain ⟨k, hk, rfl, hall⟩ := hrel
    have HA := Lib.hid hall
    clear hall
    by_cases hlt2 : k < n
    · have hlti : (k : Int) < (n : Int) := by omega
      obtain ⟨z, hz⟩ : ∃ z, z = zs.getD k 0 := ⟨_, rfl⟩
      have hc1 : w.cell? ⟨b, off + k, none⟩ = some (.int .i64 z) := by rw [hz]; exact HC.out k hlt2
      cases hin : inB z 0 90000 with
      | true =>
        have HS := Lib.hid (allTo_succ (p := htB) HA.out (by rw [← hz]; exact hin))
        clear hz
        go_wp2_with (go_at_call 43; refine (Arith.within _ _ _ _).mono ?_; rintro e w' ⟨rfl, rfl⟩)
        go_round
        case rel => exact ⟨k + 1, by omega, by go_num, HS.out⟩
        case measure => simp [intOf]; omega
      | false =>
        have en := Lib.hid (okP_z (d := d) (f := f) (l := l) (all_bad (p := htB) (by rw [← HN.out]; exact hlt2) (by rw [← hz]; exact hin)))
        clear hz
        go_wp2_with (go_at_call 43; refine (Arith.within _ _ _ _).mono ?_; rintro e w' ⟨rfl, rfl⟩)
        go_ret
        exact ⟨ret_bool en.out.symm, by repeat (first | exact On.refl _ | apply On.alloc)⟩
    · obtain rfl : k = n := by omega
      have hb := all_all (by rw [← HN.out]; exact HA.out)
      obtain ⟨m, hm⟩ : ∃ m, k = m + 1 := ⟨k - 1, by omega⟩
      have hmn : m < k := by omega
      have hmni : (m : Int) < (k : Int) := by omega
      have h0n : 0 < k := by omega
      have h0ni : (0 : Int) < (k : Int) := by omega
      obtain ⟨z0, hz0⟩ : ∃ z, z = zs.getD 0 0 := ⟨_, rfl⟩
      obtain ⟨zl, hzl⟩ : ∃ z, z = zs.getD m 0 := ⟨_, rfl⟩
      have c0 : w.cell? ⟨b, off, none⟩ = some (.int .i64 z0) := by rw [hz0]; exact HC.out 0 (by omega)
      have cl : w.cell? ⟨b, off + m, none⟩ = some (.int .i64 zl) := by rw [hzl]; exact HC.out m (by omega)
      have E := Lib.hid (show zs.getD (zs.length - 1) 0 = zl by rw [← HN.out, hzl, hm]; rfl)
      have E0 := Lib.hid hz0
      have HB := Lib.hid hb
      have hst := fun w => steps d f l (some ⟨b, off, none⟩) k cap w (by omega)
      rw [show ((k : Int) - 1) = (m : Int) from by omega] at hst
      have HST := Lib.hid hst
      clear hb hz0 hzl hst hm
      cases hf : inB f z0 180000 with
      | false =>
        have en := Lib.hid (okP_ends (d := d) (f := f) (l := l) (zs := zs) (.inl (by rw [← E0.out]; exact hf)))
        go_wp2_with fail
        refine wp_region_onh (by kernel_rfl) (by kernel_rfl) ?_
        repeat (refine rest_step (fun K hK => ?_); go_simp; first | (refine hK _ ?_; clear hK K) | (apply Exists.intro; refine ⟨fun v1 hv1 => ?_, hK _ ?_⟩; (first | with_reducible exact rfl | with_reducible exact ⟨rfl, rfl⟩ | with_reducible exact Calls.on_same hv1 (Arith.within _ _ _ _) | (obtain ⟨hc, hf⟩ := bcell hv1; go_simp; first | exact rfl | exact ⟨rfl, rfl⟩)); clear hK K))
        refine rest_nil ?_
        intro w1 h1
        go_wp2_with fail
        go_ret
        exact ⟨ret_bool en.out.symm, by repeat (first | exact On.refl _ | apply On.alloc | refine On.trans ?_ h1)⟩
      | true =>
        have en := Lib.hid (show okP d f l zs = inB l zl 180000 by unfold okP; rw [H1.out, decide_eq_true (by rw [← HN.out]; exact ⟨n0, n1⟩), HB.out, ← E0.out, hf, E.out]; rfl)
        go_wp2_with fail
        refine wp_region_onh (by kernel_rfl) (by kernel_rfl) ?_
        repeat (refine rest_step (fun K hK => ?_); go_simp; first | (refine hK _ ?_; clear hK K) | (apply Exists.intro; refine ⟨fun v1 hv1 => ?_, hK _ ?_⟩; (first | with_reducible exact rfl | with_reducible exact ⟨rfl, rfl⟩ | with_reducible exact Calls.on_same hv1 (Arith.within _ _ _ _) | with_reducible exact Calls.on hv1 (HST.out _) | (obtain ⟨hc, hf⟩ := bcell hv1; go_simp; first | exact rfl | exact ⟨rfl, rfl⟩)); clear hK K))
        refine rest_nil ?_
        intro w1 h1
        go_wp2_with fail
        go_ret
        exact ⟨ret_bool en.out.symm, by repeat (first | exact On.refl _ | apply On.alloc | refine On.trans ?_ h1)⟩
theorem impl_valid (d f l : Int) (a : Option Addr) (cap : Nat) (zs : List Int) (w : World) (hn : zs.length ≤ 1048576) (h : Ints w (.slice a zs.length cap) zs) :
    Calls Try.prog 59 #[.agg #[.int .i64 d, .int .i64 f, .int .i64 l, .slice a zs.length cap]] w fun e w' => e = .returned (.bool (okP d f l zs)) ∧ On w w' := by
  cases h1 : inB d 1 283000 with
  | false =>
    have en := Lib.hid (okP_d (f := f) (l := l) (zs := zs) h1)
    clear h
    go_enter Try.func59, Try.ntmps59
    go_wp2_with (go_at_call 43; refine (Arith.within _ _ _ _).mono ?_; rintro e w' ⟨rfl, rfl⟩)
    go_ret
    exact ⟨ret_bool en.out.symm, by repeat (first | exact On.refl _ | apply On.alloc)⟩
  | true =>
    by_cases h2 : 2 ≤ zs.length ∧ zs.length ≤ 65
    · obtain ⟨b, off, rfl, hlt, hcell⟩ := slice_of h (by omega)
      exact impl_valid_some b off cap zs.length d f l zs w rfl h2 hlt hcell h1
    · have en := Lib.hid (okP_n (d := d) (f := f) (l := l) h2)
      have h3 : inB (zs.length : Int) 2 65 = false := inB_no (by omega)
      clear h h2
      go_enter Try.func59, Try.ntmps59
      go_wp2_with (go_at_call 43; refine (Arith.within _ _ _ _).mono ?_; rintro e w' ⟨rfl, rfl⟩)
      go_ret
      exact ⟨ret_bool en.out.symm, by repeat (first | exact On.refl _ | apply On.alloc)⟩
end Go.Proofs.Ytmmhekakihimfaa.Prof
