
/-
  When a mask is valid, in the model and in the program: the whole tests. Condition: at most 1048576 numbers in each list.
-/
import Derived.Test.YtjnkfpgglhgkaaaDoorMskOk
namespace Go.Proofs.YtjnkfpgglhgkaaaDoor.Msk
open Go.RowKit
open Plain
open Ints (Ints Own)

theorem ne_b {x y : Int} (h : ¬ x = y) : (x == y) = false ∧ (x != y) = true := by
  have b1 : (x == y) = false := beq_eq_false_iff_ne.2 h
  exact ⟨b1, by rw [bne, b1]; rfl⟩
theorem eq_b {x y : Int} (h : x = y) : (x == y) = true ∧ (x != y) = false := by
  have b1 : (x == y) = true := by rw [h]; exact beq_self_eq_true y
  exact ⟨b1, by rw [bne, b1]; rfl⟩
set_option maxHeartbeats 4000000 in
theorem spec_ok (g : Nat) (v0 v1 : Value) (os ls : List Int) (w : World) (q0 : os.length ≤ 1048576) (q1 : ls.length ≤ 1048576) (hp : In w g v0 v1) (h0 : Ints w v0 os) (h1 : Ints w v1 ls) :
    Calls Tryd.prog 15 #[.pointer (some ⟨g, 0, none⟩)] w fun e w' => e = .returned (.bool (okM os ls)) ∧ On w w' := by
  have HP := Lib.hid hp
  obtain ⟨k0, k1⟩ := hp
  have HR := Lib.hid (spec_rises v0 os 0 100000 w q0 h0)
  have h0' := h0
  have h1' := h1
  obtain ⟨a0, cap0, rfl, -⟩ := h0
  obtain ⟨a1, cap1, rfl, -⟩ := h1
  by_cases g2 : os.length < 2
  · have en := Lib.hid (okM_n (os := os) (ls := ls) (by omega))
    have i1 : ((os.length : Nat) : Int) < 2 := by omega
    clear h0' h1'
    go_enter Tryd.func15, Tryd.ntmps15
    go_wp2_with fail
    go_ret
    exact ⟨ret_bool en.out.symm, On.refl _⟩
  by_cases g12 : 12 < os.length
  · have en := Lib.hid (okM_n (os := os) (ls := ls) (by omega))
    have i1 : ¬ ((os.length : Nat) : Int) < 2 := by omega
    have i2 : (12 : Int) < ((os.length : Nat) : Int) := by omega
    clear h0' h1'
    go_enter Tryd.func15, Tryd.ntmps15
    go_wp2_with fail
    go_ret
    exact ⟨ret_bool en.out.symm, On.refl _⟩
  have i1 : ¬ ((os.length : Nat) : Int) < 2 := by omega
  have i2 : ¬ (12 : Int) < ((os.length : Nat) : Int) := by omega
  by_cases gl : ls.length = os.length
  · obtain ⟨n, hn⟩ : ∃ n, n = os.length := ⟨_, rfl⟩
    rw [← hn] at gl i1 i2 g2 g12 q0 h0' k0 HR HP
    rw [gl] at h1' k1 q1 HP
    obtain ⟨b0, o0, rfl, hb0, hc0⟩ := slice_of h0' hn.symm (by omega)
    obtain ⟨b1, o1, rfl, hb1, hc1⟩ := slice_of h1' gl (by omega)
    obtain ⟨y, hy⟩ : ∃ y, y = os.getD 0 0 := ⟨_, rfl⟩
    obtain ⟨z, hz⟩ : ∃ z, z = ls.getD 0 0 := ⟨_, rfl⟩
    have c0 : w.cell? ⟨b0, o0, none⟩ = some (.int .i64 y) := by rw [hy]; exact hc0 0 (by omega)
    have c1 : w.cell? ⟨b1, o1, none⟩ = some (.int .i64 z) := by rw [hz]; exact hc1 0 (by omega)
    have nn : (((n : Nat) : Int) == ((n : Nat) : Int)) = true ∧ (((n : Nat) : Int) != ((n : Nat) : Int)) = false := eq_b rfl
    obtain ⟨nn, nn'⟩ := nn
    have n0 : (0 : Int) < ((n : Nat) : Int) := by omega
    by_cases hy0 : y = 0
    · by_cases hz0 : z = 0
      · have EO := Lib.hid (show os.getD 0 0 = 0 by rw [← hy]; exact hy0)
        have EL := Lib.hid (show ls.getD 0 0 = 0 by rw [← hz]; exact hz0)
        have HC := Lib.hid hc1
        have HN := Lib.hid hn
        have HL := Lib.hid gl
        subst hy0
        subst hz0
        cases hr : rise 0 100000 os with
        | false =>
          have en := Lib.hid (okM_os (ls := ls) (by rw [← rise_climb EO.out]; exact hr))
          rw [hr] at HR
          clear h0' h1' hc0 hc1 hy hz hr hn gl
          go_enter Tryd.func15, Tryd.ntmps15
          go_wp2_with (go_at_call 27; with_reducible refine HR.out.mono ?_; rintro e w3 ⟨rfl, h3⟩; have H00 := Lib.hid h3; clear h3)
          go_ret
          exact ⟨ret_bool en.out.symm, H00.out⟩
        | true =>
          have HT := Lib.hid (show climb 1 100000 os = true by rw [← rise_climb EO.out]; exact hr)
          rw [hr] at HR
          clear h0' h1' hc0 hc1 hy hz hr hn gl
          go_enter Tryd.func15, Tryd.ntmps15
          go_wp2_with (go_at_call 27; with_reducible refine HR.out.mono ?_; rintro e w3 ⟨rfl, h3⟩; have H00 := Lib.hid h3; clear h3)
          go_loopw [4] (fun i wr => ∃ k : Nat, k ≤ n ∧ i = .int .i64 k ∧ AllN (flatAt 0 120000 ls) k ∧ On w wr) (fun i _ => n - (intOf i).toNat)
          case atStart => exact ⟨0, Nat.zero_le _, rfl, allN_zero _, H00.out⟩
          case round =>
            obtain ⟨k, hk, rfl, hall, ho⟩ := hrel
            have HA := Lib.hid hall
            have HO := Lib.hid ho
            obtain ⟨k0, k1⟩ := HP.out.on ho
            have hg := World.block_lt_of_cell? _ _ k0
            by_cases hlt : k < n
            · have hlti : (k : Int) < (n : Int) := by omega
              have hcell := HC.out
              obtain ⟨z, hz1⟩ : ∃ z, z = ls.getD k 0 := ⟨_, rfl⟩
              have c1 : wr.cell? ⟨b1, o1 + k, none⟩ = some (.int .i64 z) := by rw [hz1, ho.cell (by exact hb1)]; exact hcell k hlt
              have hb' := ho.lts _ hb1
              cases hin : inB z 0 120000 with
              | false =>
                have HI := Lib.hid (show ∀ w1, Calls Tryd.prog 28 #[.int .i64 z, .int .i64 0, .int .i64 120000] w1 (fun e w' => e = .returned (.bool false) ∧ w1 = w') from fun w1 => by have := Arith.l00In z 0 120000 w1; rw [hin] at this; exact this)
                have en := Lib.hid (okM_ls (os := os) (by rw [← flat_climb EL.out]; exact allN_bad (k := k) (by rw [HL.out]; exact hlt) (flat_in (by rw [← hz1]; exact hin))))
                clear hz1 hcell ho hin hall
                go_wp2_with fail
                refine wp_region_onh (by kernel_rfl) (by kernel_rfl) ?_
                repeat (refine rest_step (fun K hK => ?_); go_simp; first | (refine hK _ ?_; clear hK K) | (apply Exists.intro; refine ⟨fun v1 hv1 => ?_, hK _ ?_⟩; (first | with_reducible exact rfl | with_reducible exact ⟨rfl, rfl⟩ | with_reducible exact Calls.on_same hv1 (HI.out _) | (obtain ⟨hc, hf⟩ := bcell hv1; go_simp; first | with_reducible exact rfl | with_reducible exact ⟨rfl, rfl⟩ | exact rfl | exact ⟨rfl, rfl⟩)); clear hK K))
                refine rest_nil ?_
                intro w9 hw9
                go_wp2_with fail
                go_ret
                exact ⟨ret_bool en.out.symm, HO.out.trans hw9⟩
              | true =>
                have HI := Lib.hid (show ∀ w1, Calls Tryd.prog 28 #[.int .i64 z, .int .i64 0, .int .i64 120000] w1 (fun e w' => e = .returned (.bool true) ∧ w1 = w') from fun w1 => by have := Arith.l00In z 0 120000 w1; rw [hin] at this; exact this)
                cases k with
                | zero =>
                  have c0 : wr.cell? ⟨b1, o1, none⟩ = some (.int .i64 z) := c1
                  have hn0 : (0 : Int) < (n : Int) := by omega
                  have HS := Lib.hid (allN_succ HA.out (show flatAt 0 120000 ls 0 = true from flat_0 (by rw [← hz1]; exact hin)))
                  clear hz1 hcell ho hin hall c1 hlti
                  try simp only [Int.natCast_zero, Int.ofNat_zero, Int.Nat.cast_ofNat_Int, Nat.cast_zero] at *
                  go_wp2_with fail
                  refine wp_region_onh (by kernel_rfl) (by kernel_rfl) ?_
                  repeat (refine rest_step (fun K hK => ?_); go_simp; first | (refine hK _ ?_; clear hK K) | (apply Exists.intro; refine ⟨fun v1 hv1 => ?_, hK _ ?_⟩; (first | with_reducible exact rfl | with_reducible exact ⟨rfl, rfl⟩ | with_reducible exact Calls.on_same hv1 (HI.out _) | (obtain ⟨hc, hf⟩ := bcell hv1; go_simp; first | with_reducible exact rfl | with_reducible exact ⟨rfl, rfl⟩ | exact rfl | exact ⟨rfl, rfl⟩)); clear hK K))
                  refine rest_nil ?_
                  intro w9 hw9
                  go_wp2_with fail
                  go_roundw
                  case rel => exact ⟨1, by omega, by go_num, HS.out, HO.out.trans hw9⟩
                  case measure => simp [intOf]; omega
                | succ m =>
                  obtain ⟨y, hy⟩ : ∃ y, y = ls.getD m 0 := ⟨_, rfl⟩
                  have c2 : wr.cell? ⟨b1, o1 + m, none⟩ = some (.int .i64 y) := by rw [hy, ho.cell (by exact hb1)]; exact hcell m (by omega)
                  have k0' : (0 : Int) < ((m + 1 : Nat) : Int) := by omega
                  have wm : IntKind.i64.wrap (m : Int) = (m : Int) := IntWalk.i64_in _ (by omega)
                  have hm0 : (m : Int) < (n : Int) := by omega
                  have hm1 : (m : Int) + 1 < (n : Int) := by omega
                  have hm2 : m < n := by omega
                  by_cases hr : z < y
                  · have en := Lib.hid (okM_ls (os := os) (by rw [← flat_climb EL.out]; exact allN_bad (k := m + 1) (by rw [HL.out]; exact hlt) (flat_no (by rw [← hz1, ← hy]; omega))))
                    clear hz1 hcell hy ho hin hall
                    go_wp2_with fail
                    refine wp_region_onh (by kernel_rfl) (by kernel_rfl) ?_
                    repeat (refine rest_step (fun K hK => ?_); go_simp; first | (refine hK _ ?_; clear hK K) | (apply Exists.intro; refine ⟨fun v1 hv1 => ?_, hK _ ?_⟩; (first | with_reducible exact rfl | with_reducible exact ⟨rfl, rfl⟩ | with_reducible exact Calls.on_same hv1 (HI.out _) | (obtain ⟨hc, hf⟩ := bcell hv1; go_simp; first | with_reducible exact rfl | with_reducible exact ⟨rfl, rfl⟩ | exact rfl | exact ⟨rfl, rfl⟩)); clear hK K))
                    refine rest_nil ?_
                    intro w9 hw9
                    go_wp2_with fail
                    go_ret
                    exact ⟨ret_bool en.out.symm, HO.out.trans hw9⟩
                  · have HS := Lib.hid (allN_succ HA.out (show flatAt 0 120000 ls (m + 1) = true from flat_yes (by rw [← hz1]; exact hin) (by rw [← hz1, ← hy]; omega)))
                    clear hz1 hcell hy ho hin hall
                    go_wp2_with fail
                    refine wp_region_onh (by kernel_rfl) (by kernel_rfl) ?_
                    repeat (refine rest_step (fun K hK => ?_); go_simp; first | (refine hK _ ?_; clear hK K) | (apply Exists.intro; refine ⟨fun v1 hv1 => ?_, hK _ ?_⟩; (first | with_reducible exact rfl | with_reducible exact ⟨rfl, rfl⟩ | with_reducible exact Calls.on_same hv1 (HI.out _) | (obtain ⟨hc, hf⟩ := bcell hv1; go_simp; first | with_reducible exact rfl | with_reducible exact ⟨rfl, rfl⟩ | exact rfl | exact ⟨rfl, rfl⟩)); clear hK K))
                    refine rest_nil ?_
                    intro w9 hw9
                    go_wp2_with fail
                    go_roundw
                    case rel => exact ⟨m + 1 + 1, by omega, by go_num, HS.out, HO.out.trans hw9⟩
                    case measure => simp [intOf]; omega
            · obtain rfl : k = n := by omega
              have en := Lib.hid (okM_yes (os := os) (ls := ls) (by rw [← HN.out]; omega) (by rw [HL.out, HN.out]) HT.out (by rw [← flat_climb EL.out]; exact allN_all (by rw [HL.out]; exact HA.out)))
              clear ho
              go_wp2_with fail
              go_ret
              exact ⟨ret_bool en.out.symm, HO.out⟩
      · have en := Lib.hid (okM_ls (os := os) (climb_no0 (s := 0) (hi := 120000) (zs := ls) (by omega) (by rw [← hz]; exact hz0)))
        obtain ⟨z1, z2⟩ := ne_b hz0
        subst hy0
        clear h0' h1' hc0 hc1 hy hz hn gl hz0
        go_enter Tryd.func15, Tryd.ntmps15
        go_wp2_with fail
        go_ret
        exact ⟨ret_bool en.out.symm, On.refl _⟩
    · have en := Lib.hid (okM_os (ls := ls) (climb_no0 (s := 1) (hi := 100000) (zs := os) (by omega) (by rw [← hy]; exact hy0)))
      obtain ⟨z1, z2⟩ := ne_b hy0
      clear h0' h1' hc0 hc1 hy hz hn gl hy0
      go_enter Tryd.func15, Tryd.ntmps15
      go_wp2_with fail
      go_ret
      exact ⟨ret_bool en.out.symm, On.refl _⟩
  · have en := Lib.hid (okM_len (os := os) (ls := ls) gl)
    obtain ⟨z1, z2⟩ := ne_b (x := ((ls.length : Nat) : Int)) (y := ((os.length : Nat) : Int)) (by omega)
    clear h0' h1' gl
    go_enter Tryd.func15, Tryd.ntmps15
    go_wp2_with fail
    go_ret
    exact ⟨ret_bool en.out.symm, On.refl _⟩
set_option maxHeartbeats 2000000 in
theorem impl_valid (v0 v1 : Value) (os ls : List Int) (w : World) (q0 : os.length ≤ 1048576) (q1 : ls.length ≤ 1048576) (h0 : Ints w v0 os) (h1 : Ints w v1 ls) :
    Calls Tryd.prog 18 #[.agg #[v0, v1]] w fun e w' => e = .returned (.bool (okM os ls)) ∧ On w w' := by
  have HA := Lib.hid (fun w' (hb : On w w') => impl_climbs v0 os 1 100000 w' q0 (by omega) (by omega) (by omega) (h0.below hb))
  have HB := Lib.hid (fun w' (hb : On w w') => impl_climbs v1 ls 0 120000 w' q1 (by omega) (by omega) (by omega) (h1.below hb))
  obtain ⟨a0, cap0, rfl, -⟩ := h0
  obtain ⟨a1, cap1, rfl, -⟩ := h1
  cases g2 : inB ((os.length : Nat) : Int) 2 12 with
  | false =>
    have en := Lib.hid (okM_n (os := os) (ls := ls) (fun g => by rw [inB_yes (by omega) (by omega)] at g2; cases g2))
    go_enter Tryd.func18, Tryd.ntmps18
    go_wp2_with (go_at_call 30; refine (Arith.within _ _ _ _).mono ?_; rintro e w' ⟨rfl, rfl⟩)
    go_ret
    exact ⟨ret_bool en.out.symm, by repeat (first | with_reducible exact On.refl _ | apply On.alloc | apply On.drewN)⟩
  | true =>
    have hb := of_inB g2
    by_cases gl : ls.length = os.length
    · have en := Lib.hid (show okM os ls = (climb 1 100000 os && climb 0 120000 ls) by
        unfold okM; rw [decide_eq_true (by omega : 2 ≤ os.length ∧ os.length ≤ 12), decide_eq_true gl]; rfl)
      obtain ⟨n, hn⟩ : ∃ n, n = os.length := ⟨_, rfl⟩
      rw [← hn] at gl g2 hb HA
      rw [gl] at HB
      rw [gl, ← hn]
      obtain ⟨nn, nn'⟩ := eq_b (x := ((n : Nat) : Int)) (y := ((n : Nat) : Int)) rfl
      clear gl hn q0 q1
      generalize climb 1 100000 os = s1 at *
      generalize climb 0 120000 ls = s2 at *
      cases s1 <;> cases s2 <;> (
        go_enter Tryd.func18, Tryd.ntmps18
        go_wp2_with (first | (go_at_call 30; refine (Arith.within _ _ _ _).mono ?_; rintro e w' ⟨rfl, rfl⟩) | (go_at_call 31; with_reducible refine (HA.out _ (by repeat (first | with_reducible exact On.refl _ | apply On.alloc | apply On.drewN))).mono ?_; rintro e w' ⟨rfl, rfl⟩) | (go_at_call 31; with_reducible refine (HB.out _ (by repeat (first | with_reducible exact On.refl _ | apply On.alloc | apply On.drewN))).mono ?_; rintro e w' ⟨rfl, rfl⟩))
        go_ret
        exact ⟨ret_bool (by rw [en.out]; rfl), by repeat (first | with_reducible exact On.refl _ | apply On.alloc | apply On.drewN)⟩)
    · have en := Lib.hid (okM_len (os := os) (ls := ls) gl)
      obtain ⟨z1, z2⟩ := ne_b (x := ((ls.length : Nat) : Int)) (y := ((os.length : Nat) : Int)) (by omega)
      clear gl
      go_enter Tryd.func18, Tryd.ntmps18
      go_wp2_with (go_at_call 30; refine (Arith.within _ _ _ _).mono ?_; rintro e w' ⟨rfl, rfl⟩)
      go_ret
      exact ⟨ret_bool en.out.symm, by repeat (first | with_reducible exact On.refl _ | apply On.alloc | apply On.drewN)⟩
end Go.Proofs.YtjnkfpgglhgkaaaDoor.Msk
