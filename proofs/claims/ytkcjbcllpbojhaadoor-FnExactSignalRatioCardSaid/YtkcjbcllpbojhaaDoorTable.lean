
/-
  When numbers are a table of discriminations, and the least index with a number, in the model and in the program. Condition: at most 1048576 numbers.
-/
import Derived.Test.YtkcjbcllpbojhaaDoorMskOk2
import Derived.Test.YtkcjbcllpbojhaaDoorSearch
namespace Go.Proofs.YtkcjbcllpbojhaaDoor.Table
open Go.RowKit
open Plain
open Ints (Ints Own)
open Msk

theorem ret_ii {a b c d : Int} (h1 : a = b) (h2 : c = d) : Ending.returned (.tuple #[.int .i64 a, .int .i64 c]) = .returned (.tuple #[.int .i64 b, .int .i64 d]) := by rw [h1, h2]
/-- Whether numbers are a table. -/
def okT (ts : List Int) : Bool := decide (1 ≤ ts.length ∧ ts.length ≤ 64) && climb 0 120000 ts
theorem okT_n {ts : List Int} (h : ¬ (1 ≤ ts.length ∧ ts.length ≤ 64)) : okT ts = false := by unfold okT; rw [decide_eq_false h]; rfl
theorem okT_c {ts : List Int} (h : climb 0 120000 ts = false) : okT ts = false := by unfold okT; rw [h]; simp
theorem okT_yes {ts : List Int} (h : 1 ≤ ts.length ∧ ts.length ≤ 64) : okT ts = climb 0 120000 ts := by unfold okT; rw [decide_eq_true h]; rfl
theorem of_okT {ts : List Int} (h : okT ts = true) : (1 ≤ ts.length ∧ ts.length ≤ 64) ∧ Climb 0 120000 ts := by
  unfold okT at h
  rw [Bool.and_eq_true] at h
  have h1 := of_decide_eq_true h.1
  exact ⟨h1, of_climb (by omega) h.2⟩
theorem okT_flat {ts : List Int} {k : Nat} (hk : k < ts.length) (h : flatAt 0 120000 ts k = false) : okT ts = false := by
  by_cases h0 : ts.getD 0 0 = 0
  · exact okT_c (by rw [← flat_climb h0]; exact allN_bad hk h)
  · exact okT_c (climb_no0 (by omega) h0)
/-- Whether a number is less than what is needed. -/
def lessAt (ts : List Int) (need : Int) (k : Nat) : Bool := decide (ts.getD k 0 < need)
def steps (ts : List Int) (need : Int) : Nat := leadN (lessAt ts need) ts.length
theorem mono_less {ts : List Int} {need : Int} (h : Climb 0 120000 ts) : Mono (lessAt ts need) ts.length := fun i j h1 h2 e => by
  have := h.le (by omega) h1 h2
  have e := of_decide_eq_true e
  exact decide_eq_true (by omega)
theorem steps_le (ts : List Int) (need : Int) : steps ts need ≤ ts.length := lead_le _ _
def stepsV (ts : List Int) (need : Int) : Int := if okT ts = true then (if steps ts need = ts.length then 0 else (steps ts need : Nat)) else 0
def stepsC (ts : List Int) (need : Int) : Int := if okT ts = true then (if steps ts need = ts.length then 3 else 0) else 1
theorem steps_bad {ts : List Int} {need : Int} (h : okT ts = false) : stepsV ts need = 0 ∧ stepsC ts need = 1 := by unfold stepsV stepsC; rw [h]; exact ⟨rfl, rfl⟩
theorem steps_none {ts : List Int} {need : Int} (h : okT ts = true) (e : steps ts need = ts.length) : stepsV ts need = 0 ∧ stepsC ts need = 3 := by unfold stepsV stepsC; rw [h, if_pos rfl, if_pos rfl, if_pos e, if_pos e]; exact ⟨rfl, rfl⟩
theorem steps_some {ts : List Int} {need : Int} (h : okT ts = true) (e : ¬ steps ts need = ts.length) : stepsV ts need = (steps ts need : Nat) ∧ stepsC ts need = 0 := by unfold stepsV stepsC; rw [h, if_pos rfl, if_pos rfl, if_neg e, if_neg e]; exact ⟨rfl, rfl⟩
set_option maxHeartbeats 4000000 in
theorem spec_table (v : Value) (ts : List Int) (w : World) (q : ts.length ≤ 1048576) (h : Ints w v ts) :
    Calls Tryd.prog 28 #[v] w fun e w' => e = .returned (.bool (okT ts)) ∧ On w w' := by
  have h' := h
  obtain ⟨a, cap, rfl, -⟩ := h
  obtain ⟨n, hn⟩ : ∃ n, n = ts.length := ⟨_, rfl⟩
  have HN := Lib.hid hn
  have HC := Lib.hid (fun h0 => slice_of (n := n) (by rw [hn]; exact h') hn.symm h0)
  rw [← hn] at q ⊢
  clear h' hn
  go_enter Tryd.func28, Tryd.ntmps28
  go_wp2_with fail
  go_loopw [3] (fun i wr => ∃ k : Nat, k ≤ n ∧ i = .int .i64 k ∧ AllN (flatAt 0 120000 ts) k ∧ On w wr) (fun i _ => n - (intOf i).toNat)
  case atStart => exact ⟨0, Nat.zero_le _, rfl, allN_zero _, On.refl _⟩
  case round =>
    obtain ⟨k, hk, rfl, hall, ho⟩ := hrel
    have HA := Lib.hid hall
    have HO := Lib.hid ho

    by_cases hlt : k < n
    · have hlti : (k : Int) < (n : Int) := by omega
      obtain ⟨b, off, rfl, hb, hcell⟩ := HC.out (by omega)
      obtain ⟨z, hz1⟩ : ∃ z, z = ts.getD k 0 := ⟨_, rfl⟩
      have c1 : wr.cell? ⟨b, off + k, none⟩ = some (.int .i64 z) := by rw [hz1, ho.cell (by exact hb)]; exact hcell k hlt
      have hb' := ho.lts _ hb
      cases hin : inB z 0 120000 with
      | false =>
        have HI := Lib.hid (show ∀ w1, Calls Tryd.prog 29 #[.int .i64 z, .int .i64 0, .int .i64 120000] w1 (fun e w' => e = .returned (.bool false) ∧ w1 = w') from fun w1 => by have := Arith.l00In z 0 120000 w1; rw [hin] at this; exact this)
        have en := Lib.hid (okT_flat (k := k) (by rw [← HN.out]; exact hlt) (flat_in (by rw [← hz1]; exact hin)))
        clear hz1 hcell ho hin hall
        go_wp2_with fail
        refine wp_region_onh (by kernel_rfl) (by kernel_rfl) ?_
        repeat (refine rest_step (fun K hK => ?_); go_simp; first | (refine hK _ ?_; clear hK K) | (apply Exists.intro; refine ⟨fun v1 hv1 => ?_, hK _ ?_⟩; (first | with_reducible exact rfl | with_reducible exact ⟨rfl, rfl⟩ | with_reducible exact Calls.on_same hv1 (HI.out _) | (obtain ⟨hc, hf⟩ := bcell hv1; go_simp; first | with_reducible exact rfl | with_reducible exact ⟨rfl, rfl⟩ | exact rfl | exact ⟨rfl, rfl⟩)); clear hK K))
        refine rest_nil ?_
        intro w9 hw9
        go_wp2_with fail
        go_ret
        exact ⟨ret_bool en.out.symm, HO.out.trans hw9⟩
      | true =>
        have HI := Lib.hid (show ∀ w1, Calls Tryd.prog 29 #[.int .i64 z, .int .i64 0, .int .i64 120000] w1 (fun e w' => e = .returned (.bool true) ∧ w1 = w') from fun w1 => by have := Arith.l00In z 0 120000 w1; rw [hin] at this; exact this)
        cases k with
        | zero =>
          have c0 : wr.cell? ⟨b, off, none⟩ = some (.int .i64 z) := c1
          have hn0 : (0 : Int) < (n : Int) := by omega
          have HS := Lib.hid (allN_succ HA.out (show flatAt 0 120000 ts 0 = true from flat_0 (by rw [← hz1]; exact hin)))
          clear hz1 hcell ho hin hall c1 hlti
          try simp only [Int.natCast_zero, Int.ofNat_zero, Int.Nat.cast_ofNat_Int, Nat.cast_zero] at *
          go_wp2_with fail
          refine wp_region_onh (by kernel_rfl) (by kernel_rfl) ?_
          repeat (refine rest_step (fun K hK => ?_); go_simp; first | (refine hK _ ?_; clear hK K) | (apply Exists.intro; refine ⟨fun v1 hv1 => ?_, hK _ ?_⟩; (first | with_reducible exact rfl | with_reducible exact ⟨rfl, rfl⟩ | with_reducible exact Calls.on_same hv1 (HI.out _) | (obtain ⟨hc, hf⟩ := bcell hv1; go_simp; first | with_reducible exact rfl | with_reducible exact ⟨rfl, rfl⟩ | exact rfl | exact ⟨rfl, rfl⟩)); clear hK K))
          refine rest_nil ?_
          intro w9 hw9
          go_wp2_with fail
          go_roundw
          case rel => exact ⟨1, by omega, by go_num, HS.out, HO.out.trans hw9⟩
          case measure => simp [intOf]; omega
        | succ m =>
          obtain ⟨y, hy⟩ : ∃ y, y = ts.getD m 0 := ⟨_, rfl⟩
          have c2 : wr.cell? ⟨b, off + m, none⟩ = some (.int .i64 y) := by rw [hy, ho.cell (by exact hb)]; exact hcell m (by omega)
          have k0' : (0 : Int) < ((m + 1 : Nat) : Int) := by omega
          have wm : IntKind.i64.wrap (m : Int) = (m : Int) := IntWalk.i64_in _ (by omega)
          have hm0 : (m : Int) < (n : Int) := by omega
          have hm1 : (m : Int) + 1 < (n : Int) := by omega
          have hm2 : m < n := by omega
          by_cases hr : z < y
          · have en := Lib.hid (okT_flat (k := m + 1) (by rw [← HN.out]; exact hlt) (flat_no (by rw [← hz1, ← hy]; omega)))
            clear hz1 hcell hy ho hin hall
            go_wp2_with fail
            refine wp_region_onh (by kernel_rfl) (by kernel_rfl) ?_
            repeat (refine rest_step (fun K hK => ?_); go_simp; first | (refine hK _ ?_; clear hK K) | (apply Exists.intro; refine ⟨fun v1 hv1 => ?_, hK _ ?_⟩; (first | with_reducible exact rfl | with_reducible exact ⟨rfl, rfl⟩ | with_reducible exact Calls.on_same hv1 (HI.out _) | (obtain ⟨hc, hf⟩ := bcell hv1; go_simp; first | with_reducible exact rfl | with_reducible exact ⟨rfl, rfl⟩ | exact rfl | exact ⟨rfl, rfl⟩)); clear hK K))
            refine rest_nil ?_
            intro w9 hw9
            go_wp2_with fail
            go_ret
            exact ⟨ret_bool en.out.symm, HO.out.trans hw9⟩
          · have HS := Lib.hid (allN_succ HA.out (show flatAt 0 120000 ts (m + 1) = true from flat_yes (by rw [← hz1]; exact hin) (by rw [← hz1, ← hy]; omega)))
            clear hz1 hcell hy ho hin hall
            go_wp2_with fail
            refine wp_region_onh (by kernel_rfl) (by kernel_rfl) ?_
            repeat (refine rest_step (fun K hK => ?_); go_simp; first | (refine hK _ ?_; clear hK K) | (apply Exists.intro; refine ⟨fun v1 hv1 => ?_, hK _ ?_⟩; (first | with_reducible exact rfl | with_reducible exact ⟨rfl, rfl⟩ | with_reducible exact Calls.on_same hv1 (HI.out _) | (obtain ⟨hc, hf⟩ := bcell hv1; go_simp; first | with_reducible exact rfl | with_reducible exact ⟨rfl, rfl⟩ | exact rfl | exact ⟨rfl, rfl⟩)); clear hK K))
            refine rest_nil ?_
            intro w9 hw9
            go_wp2_with fail
            go_roundw
            case rel => exact ⟨m + 1 + 1, by omega, by go_num, HS.out, HO.out.trans hw9⟩
            case measure => simp [intOf]; omega
    · obtain rfl : k = n := by omega
      have HF := Lib.hid (allN_all (by rw [← HN.out]; exact HA.out) : allN (flatAt 0 120000 ts) ts.length = true)
      by_cases h0 : k = 0
      · have en := Lib.hid (okT_n (ts := ts) (by rw [← HN.out]; omega))
        subst h0
        clear ho
        go_wp2
        go_ret
        exact ⟨ret_bool en.out.symm, by repeat (first | with_reducible exact HO.out | apply On.drewN)⟩
      · have hpos : (0 : Int) < ((k : Nat) : Int) := by omega
        obtain ⟨b, off, rfl, hb, hcell⟩ := HC.out (by omega)
        obtain ⟨z, hz1⟩ : ∃ z, z = ts.getD 0 0 := ⟨_, rfl⟩
        have d1 : wr.cell? ⟨b, off, none⟩ = some (.int .i64 z) := by rw [hz1, ho.cell (by exact hb)]; exact hcell 0 (by omega)
        have hb' := ho.lts _ hb
        by_cases h64 : k ≤ 64
        · by_cases hz0 : z = 0
          · have en := Lib.hid (show okT ts = true by rw [okT_yes (by rw [← HN.out]; omega), ← flat_climb (by rw [← hz1]; exact hz0)]; exact HF.out)
            subst hz0
            clear hz1 hcell
            go_wp2
            go_ret
            exact ⟨ret_bool en.out.symm, by repeat (first | with_reducible exact HO.out | apply On.drewN)⟩
          · have en := Lib.hid (okT_c (climb_no0 (s := 0) (hi := 120000) (zs := ts) (by rw [← HN.out]; omega) (by rw [← hz1]; exact hz0)))
            obtain ⟨z1, z2⟩ := ne_b hz0
            clear hz1 hcell hz0
            go_wp2
            go_ret
            exact ⟨ret_bool en.out.symm, by repeat (first | with_reducible exact HO.out | apply On.drewN)⟩
        · have en := Lib.hid (okT_n (ts := ts) (by rw [← HN.out]; omega))
          clear hz1 hcell
          go_wp2
          go_ret
          exact ⟨ret_bool en.out.symm, by repeat (first | with_reducible exact HO.out | apply On.drewN)⟩
set_option maxHeartbeats 2000000 in
theorem impl_isTable (v : Value) (ts : List Int) (w : World) (q : ts.length ≤ 1048576) (h : Ints w v ts) :
    Calls Tryd.prog 32 #[v] w fun e w' => e = .returned (.bool (okT ts)) ∧ On w w' := by
  have HB := Lib.hid (impl_climbs v ts 0 120000 w q (by omega) (by omega) (by omega) h)
  obtain ⟨a, cap, rfl, -⟩ := h
  cases g2 : inB ((ts.length : Nat) : Int) 1 64 with
  | false =>
    have en := Lib.hid (okT_n (ts := ts) (fun g => by rw [inB_yes (by omega) (by omega)] at g2; cases g2))
    go_enter Tryd.func32, Tryd.ntmps32
    go_wp2_with (go_at_call 22; refine (Arith.within _ _ _ _).mono ?_; rintro e w' ⟨rfl, rfl⟩)
    go_ret
    exact ⟨ret_bool en.out.symm, by repeat (first | with_reducible exact On.refl _ | apply On.alloc | apply On.drewN)⟩
  | true =>
    have hb := of_inB g2
    have en := Lib.hid (okT_yes (ts := ts) (by omega))
    generalize climb 0 120000 ts = s at *
    cases s <;> (
      go_enter Tryd.func32, Tryd.ntmps32
      go_wp2_with (first | (go_at_call 22; refine (Arith.within _ _ _ _).mono ?_; rintro e w' ⟨rfl, rfl⟩) | (go_at_call 56; with_reducible refine HB.out.mono ?_; rintro e w' ⟨rfl, rfl⟩))
      go_ret
      exact ⟨ret_bool (by rw [en.out]), by repeat (first | with_reducible exact On.refl _ | apply On.alloc | apply On.drewN)⟩)
end Go.Proofs.YtkcjbcllpbojhaaDoor.Table
