
/-
  Whether a quantity can have some numbers, in the program. Condition: the program's variable of spans holds what its text lays.
-/
import Derived.Test.YtednfkjdidlenaaDoorProg
import Derived.Test.YtednfkjdidlenaaDoorInts
import Derived.Test.YtednfkjdidlenaaDoorAll
import Derived.Test.YtednfkjdidlenaaDoorArith
import Derived.Test.YtednfkjdidlenaaDoorOnH
namespace Go.Proofs.YtednfkjdidlenaaDoor.Span
open Go.RowKit
open Plain
open Ints (Ints)

def spans : List Int := [1, 100000000, 1, 283000, -300000, 300000, -300000, 300000, 0, 300000, 1, 100000, 0, 7, 0, 90000, 0, 200, 0, 1000, 1, 10000, 1, 20, 0, 1000000, 25, 400, 0, 100000]
/-- The program's variable of spans. -/
def SpanG (w : World) : Prop := ∀ j, j < 30 → w.cell? ⟨1, j, none⟩ = some (.int .i64 (spans.getD j 0))
theorem SpanG.on {w w' : World} (h : SpanG w) (ho : On w w') : SpanG w' := fun j hj => by
  have h0 := h j hj
  exact (ho.cell (World.block_lt_of_cell? w _ h0)).trans h0
set_option maxHeartbeats 1000000 in
theorem allows_0 (v : Value) (zs : List Int) (w : World) (hq : zs.length ≤ 1048576) (h : Ints w v zs) (hg : SpanG w) :
    Calls Tryd.prog 19 #[.int .i64 0, v] w fun e w' => e = .returned (.bool (zs.all fun x => inB x 1 100000000)) ∧ On w w' := by
  have HG := Lib.hid hg
  obtain ⟨a, cap, rfl, hc⟩ := h
  obtain ⟨n, hn⟩ : ∃ n, n = zs.length := ⟨_, rfl⟩
  have HN := Lib.hid hn
  have HC := Lib.hid hc
  rw [← hn] at hq ⊢
  clear hc hn hg
  go_enter Tryd.func19, Tryd.ntmps19
  go_wp2_with fail
  go_loopw [9] (fun i wr => ∃ k : Nat, k ≤ n ∧ i = .int .i64 k ∧ AllTo (fun x => inB x 1 100000000) zs k ∧ On w wr) (fun i _ => n - (intOf i).toNat)
  case atStart => exact ⟨0, Nat.zero_le _, rfl, allTo_zero _ _, On.refl _⟩
  case round =>
    obtain ⟨k, hk, rfl, hall, ho⟩ := hrel
    have HA := Lib.hid hall
    have g0 := (HG.out.on ho) 0 (by decide)
    have g1 := (HG.out.on ho) 1 (by decide)
    rw [show spans.getD 0 0 = 1 from rfl] at g0
    rw [show spans.getD 1 0 = 100000000 from rfl] at g1
    have HO := Lib.hid ho
    clear hall
    by_cases hlt : k < n
    · have hlti : (k : Int) < (n : Int) := by omega
      obtain ⟨b, off, rfl, hb, hcell⟩ := HC.out (by rw [← HN.out]; omega)
      obtain ⟨z, hz⟩ : ∃ z, z = zs.getD k 0 := ⟨_, rfl⟩
      have hc1 := (ho.cell (p := ⟨b, off + k, none⟩) (by exact hb)).trans (hcell k (by rw [← HN.out]; exact hlt))
      rw [← hz] at hc1
      have z0 : 1 < wr.heap.size := World.block_lt_of_cell? wr _ g0
      have zb := ho.lts _ hb
      clear ho
      cases hin : inB z 1 100000000 with
      | true =>
        have HS := Lib.hid (allTo_succ (p := fun x => inB x 1 100000000) HA.out (by rw [← hz]; exact hin))
        clear hz hcell
        go_wp2_with fail
        refine wp_region_onh (by kernel_rfl) (by kernel_rfl) ?_
        repeat (refine rest_step (fun K hK => ?_); go_simp; first | (refine hK _ ?_; clear hK K) | (apply Exists.intro; refine ⟨fun v1 hv1 => ?_, hK _ ?_⟩; (first | with_reducible exact rfl | with_reducible exact ⟨rfl, rfl⟩ | with_reducible exact Calls.on_same hv1 (Arith.within _ _ _ _) | (obtain ⟨hc, hf⟩ := bcell hv1; go_simp; first | with_reducible exact rfl | with_reducible exact ⟨rfl, rfl⟩ | exact rfl | exact ⟨rfl, rfl⟩)); clear hK K))
        refine rest_nil ?_
        intro w5 h5
        go_wp2_with fail
        go_roundw
        case rel => exact ⟨k + 1, by omega, by go_num, HS.out, HO.out.trans h5⟩
        case measure => simp [intOf]; omega
      | false =>
        have en := Lib.hid (all_bad (p := fun x => inB x 1 100000000) (zs := zs) (by rw [← HN.out]; exact hlt) (by rw [← hz]; exact hin))
        clear hz hcell
        go_wp2_with fail
        refine wp_region_onh (by kernel_rfl) (by kernel_rfl) ?_
        repeat (refine rest_step (fun K hK => ?_); go_simp; first | (refine hK _ ?_; clear hK K) | (apply Exists.intro; refine ⟨fun v1 hv1 => ?_, hK _ ?_⟩; (first | with_reducible exact rfl | with_reducible exact ⟨rfl, rfl⟩ | with_reducible exact Calls.on_same hv1 (Arith.within _ _ _ _) | (obtain ⟨hc, hf⟩ := bcell hv1; go_simp; first | with_reducible exact rfl | with_reducible exact ⟨rfl, rfl⟩ | exact rfl | exact ⟨rfl, rfl⟩)); clear hK K))
        refine rest_nil ?_
        intro w5 h5
        go_wp2_with fail
        go_ret
        exact ⟨ret_bool en.out.symm, HO.out.trans h5⟩
    · obtain rfl : k = n := by omega
      have en := Lib.hid (all_all (p := fun x => inB x 1 100000000) (by rw [← HN.out]; exact HA.out))
      go_wp2_with fail
      go_ret
      exact ⟨ret_bool en.out.symm, HO.out⟩
theorem allows1_0 (z : Int) (b : Nat) (w : World) {cap : Nat} (hc : w.cell? ⟨b, 0, none⟩ = some (.int .i64 z)) (hg : SpanG w) :
    Calls Tryd.prog 19 #[.int .i64 0, .slice (some ⟨b, 0, none⟩) 1 cap] w fun e w' => e = .returned (.bool (inB z 1 100000000)) ∧ On w w' := by
  refine (allows_0 _ [z] w (by simp) ⟨some ⟨b, 0, none⟩, cap, rfl, fun _ => ⟨b, 0, rfl, World.block_lt_of_cell? w _ hc, fun i hi => ?_⟩⟩ hg).mono ?_
  · obtain rfl : i = 0 := by simp at hi; exact hi
    exact hc
  · rintro e w' ⟨rfl, ho⟩
    exact ⟨ret_bool (by simp), ho⟩
set_option maxHeartbeats 1000000 in
theorem allows_1 (v : Value) (zs : List Int) (w : World) (hq : zs.length ≤ 1048576) (h : Ints w v zs) (hg : SpanG w) :
    Calls Tryd.prog 19 #[.int .i64 1, v] w fun e w' => e = .returned (.bool (zs.all fun x => inB x 1 283000)) ∧ On w w' := by
  have HG := Lib.hid hg
  obtain ⟨a, cap, rfl, hc⟩ := h
  obtain ⟨n, hn⟩ : ∃ n, n = zs.length := ⟨_, rfl⟩
  have HN := Lib.hid hn
  have HC := Lib.hid hc
  rw [← hn] at hq ⊢
  clear hc hn hg
  go_enter Tryd.func19, Tryd.ntmps19
  go_wp2_with fail
  go_loopw [9] (fun i wr => ∃ k : Nat, k ≤ n ∧ i = .int .i64 k ∧ AllTo (fun x => inB x 1 283000) zs k ∧ On w wr) (fun i _ => n - (intOf i).toNat)
  case atStart => exact ⟨0, Nat.zero_le _, rfl, allTo_zero _ _, On.refl _⟩
  case round =>
    obtain ⟨k, hk, rfl, hall, ho⟩ := hrel
    have HA := Lib.hid hall
    have g0 := (HG.out.on ho) 2 (by decide)
    have g1 := (HG.out.on ho) 3 (by decide)
    rw [show spans.getD 2 0 = 1 from rfl] at g0
    rw [show spans.getD 3 0 = 283000 from rfl] at g1
    have HO := Lib.hid ho
    clear hall
    by_cases hlt : k < n
    · have hlti : (k : Int) < (n : Int) := by omega
      obtain ⟨b, off, rfl, hb, hcell⟩ := HC.out (by rw [← HN.out]; omega)
      obtain ⟨z, hz⟩ : ∃ z, z = zs.getD k 0 := ⟨_, rfl⟩
      have hc1 := (ho.cell (p := ⟨b, off + k, none⟩) (by exact hb)).trans (hcell k (by rw [← HN.out]; exact hlt))
      rw [← hz] at hc1
      have z0 : 1 < wr.heap.size := World.block_lt_of_cell? wr _ g0
      have zb := ho.lts _ hb
      clear ho
      cases hin : inB z 1 283000 with
      | true =>
        have HS := Lib.hid (allTo_succ (p := fun x => inB x 1 283000) HA.out (by rw [← hz]; exact hin))
        clear hz hcell
        go_wp2_with fail
        refine wp_region_onh (by kernel_rfl) (by kernel_rfl) ?_
        repeat (refine rest_step (fun K hK => ?_); go_simp; first | (refine hK _ ?_; clear hK K) | (apply Exists.intro; refine ⟨fun v1 hv1 => ?_, hK _ ?_⟩; (first | with_reducible exact rfl | with_reducible exact ⟨rfl, rfl⟩ | with_reducible exact Calls.on_same hv1 (Arith.within _ _ _ _) | (obtain ⟨hc, hf⟩ := bcell hv1; go_simp; first | with_reducible exact rfl | with_reducible exact ⟨rfl, rfl⟩ | exact rfl | exact ⟨rfl, rfl⟩)); clear hK K))
        refine rest_nil ?_
        intro w5 h5
        go_wp2_with fail
        go_roundw
        case rel => exact ⟨k + 1, by omega, by go_num, HS.out, HO.out.trans h5⟩
        case measure => simp [intOf]; omega
      | false =>
        have en := Lib.hid (all_bad (p := fun x => inB x 1 283000) (zs := zs) (by rw [← HN.out]; exact hlt) (by rw [← hz]; exact hin))
        clear hz hcell
        go_wp2_with fail
        refine wp_region_onh (by kernel_rfl) (by kernel_rfl) ?_
        repeat (refine rest_step (fun K hK => ?_); go_simp; first | (refine hK _ ?_; clear hK K) | (apply Exists.intro; refine ⟨fun v1 hv1 => ?_, hK _ ?_⟩; (first | with_reducible exact rfl | with_reducible exact ⟨rfl, rfl⟩ | with_reducible exact Calls.on_same hv1 (Arith.within _ _ _ _) | (obtain ⟨hc, hf⟩ := bcell hv1; go_simp; first | with_reducible exact rfl | with_reducible exact ⟨rfl, rfl⟩ | exact rfl | exact ⟨rfl, rfl⟩)); clear hK K))
        refine rest_nil ?_
        intro w5 h5
        go_wp2_with fail
        go_ret
        exact ⟨ret_bool en.out.symm, HO.out.trans h5⟩
    · obtain rfl : k = n := by omega
      have en := Lib.hid (all_all (p := fun x => inB x 1 283000) (by rw [← HN.out]; exact HA.out))
      go_wp2_with fail
      go_ret
      exact ⟨ret_bool en.out.symm, HO.out⟩
theorem allows1_1 (z : Int) (b : Nat) (w : World) {cap : Nat} (hc : w.cell? ⟨b, 0, none⟩ = some (.int .i64 z)) (hg : SpanG w) :
    Calls Tryd.prog 19 #[.int .i64 1, .slice (some ⟨b, 0, none⟩) 1 cap] w fun e w' => e = .returned (.bool (inB z 1 283000)) ∧ On w w' := by
  refine (allows_1 _ [z] w (by simp) ⟨some ⟨b, 0, none⟩, cap, rfl, fun _ => ⟨b, 0, rfl, World.block_lt_of_cell? w _ hc, fun i hi => ?_⟩⟩ hg).mono ?_
  · obtain rfl : i = 0 := by simp at hi; exact hi
    exact hc
  · rintro e w' ⟨rfl, ho⟩
    exact ⟨ret_bool (by simp), ho⟩
set_option maxHeartbeats 1000000 in
theorem allows_2 (v : Value) (zs : List Int) (w : World) (hq : zs.length ≤ 1048576) (h : Ints w v zs) (hg : SpanG w) :
    Calls Tryd.prog 19 #[.int .i64 2, v] w fun e w' => e = .returned (.bool (zs.all fun x => inB x (-300000) 300000)) ∧ On w w' := by
  have HG := Lib.hid hg
  obtain ⟨a, cap, rfl, hc⟩ := h
  obtain ⟨n, hn⟩ : ∃ n, n = zs.length := ⟨_, rfl⟩
  have HN := Lib.hid hn
  have HC := Lib.hid hc
  rw [← hn] at hq ⊢
  clear hc hn hg
  go_enter Tryd.func19, Tryd.ntmps19
  go_wp2_with fail
  go_loopw [9] (fun i wr => ∃ k : Nat, k ≤ n ∧ i = .int .i64 k ∧ AllTo (fun x => inB x (-300000) 300000) zs k ∧ On w wr) (fun i _ => n - (intOf i).toNat)
  case atStart => exact ⟨0, Nat.zero_le _, rfl, allTo_zero _ _, On.refl _⟩
  case round =>
    obtain ⟨k, hk, rfl, hall, ho⟩ := hrel
    have HA := Lib.hid hall
    have g0 := (HG.out.on ho) 4 (by decide)
    have g1 := (HG.out.on ho) 5 (by decide)
    rw [show spans.getD 4 0 = (-300000) from rfl] at g0
    rw [show spans.getD 5 0 = 300000 from rfl] at g1
    have HO := Lib.hid ho
    clear hall
    by_cases hlt : k < n
    · have hlti : (k : Int) < (n : Int) := by omega
      obtain ⟨b, off, rfl, hb, hcell⟩ := HC.out (by rw [← HN.out]; omega)
      obtain ⟨z, hz⟩ : ∃ z, z = zs.getD k 0 := ⟨_, rfl⟩
      have hc1 := (ho.cell (p := ⟨b, off + k, none⟩) (by exact hb)).trans (hcell k (by rw [← HN.out]; exact hlt))
      rw [← hz] at hc1
      have z0 : 1 < wr.heap.size := World.block_lt_of_cell? wr _ g0
      have zb := ho.lts _ hb
      clear ho
      cases hin : inB z (-300000) 300000 with
      | true =>
        have HS := Lib.hid (allTo_succ (p := fun x => inB x (-300000) 300000) HA.out (by rw [← hz]; exact hin))
        clear hz hcell
        go_wp2_with fail
        refine wp_region_onh (by kernel_rfl) (by kernel_rfl) ?_
        repeat (refine rest_step (fun K hK => ?_); go_simp; first | (refine hK _ ?_; clear hK K) | (apply Exists.intro; refine ⟨fun v1 hv1 => ?_, hK _ ?_⟩; (first | with_reducible exact rfl | with_reducible exact ⟨rfl, rfl⟩ | with_reducible exact Calls.on_same hv1 (Arith.within _ _ _ _) | (obtain ⟨hc, hf⟩ := bcell hv1; go_simp; first | with_reducible exact rfl | with_reducible exact ⟨rfl, rfl⟩ | exact rfl | exact ⟨rfl, rfl⟩)); clear hK K))
        refine rest_nil ?_
        intro w5 h5
        go_wp2_with fail
        go_roundw
        case rel => exact ⟨k + 1, by omega, by go_num, HS.out, HO.out.trans h5⟩
        case measure => simp [intOf]; omega
      | false =>
        have en := Lib.hid (all_bad (p := fun x => inB x (-300000) 300000) (zs := zs) (by rw [← HN.out]; exact hlt) (by rw [← hz]; exact hin))
        clear hz hcell
        go_wp2_with fail
        refine wp_region_onh (by kernel_rfl) (by kernel_rfl) ?_
        repeat (refine rest_step (fun K hK => ?_); go_simp; first | (refine hK _ ?_; clear hK K) | (apply Exists.intro; refine ⟨fun v1 hv1 => ?_, hK _ ?_⟩; (first | with_reducible exact rfl | with_reducible exact ⟨rfl, rfl⟩ | with_reducible exact Calls.on_same hv1 (Arith.within _ _ _ _) | (obtain ⟨hc, hf⟩ := bcell hv1; go_simp; first | with_reducible exact rfl | with_reducible exact ⟨rfl, rfl⟩ | exact rfl | exact ⟨rfl, rfl⟩)); clear hK K))
        refine rest_nil ?_
        intro w5 h5
        go_wp2_with fail
        go_ret
        exact ⟨ret_bool en.out.symm, HO.out.trans h5⟩
    · obtain rfl : k = n := by omega
      have en := Lib.hid (all_all (p := fun x => inB x (-300000) 300000) (by rw [← HN.out]; exact HA.out))
      go_wp2_with fail
      go_ret
      exact ⟨ret_bool en.out.symm, HO.out⟩
theorem allows1_2 (z : Int) (b : Nat) (w : World) {cap : Nat} (hc : w.cell? ⟨b, 0, none⟩ = some (.int .i64 z)) (hg : SpanG w) :
    Calls Tryd.prog 19 #[.int .i64 2, .slice (some ⟨b, 0, none⟩) 1 cap] w fun e w' => e = .returned (.bool (inB z (-300000) 300000)) ∧ On w w' := by
  refine (allows_2 _ [z] w (by simp) ⟨some ⟨b, 0, none⟩, cap, rfl, fun _ => ⟨b, 0, rfl, World.block_lt_of_cell? w _ hc, fun i hi => ?_⟩⟩ hg).mono ?_
  · obtain rfl : i = 0 := by simp at hi; exact hi
    exact hc
  · rintro e w' ⟨rfl, ho⟩
    exact ⟨ret_bool (by simp), ho⟩
set_option maxHeartbeats 1000000 in
theorem allows_3 (v : Value) (zs : List Int) (w : World) (hq : zs.length ≤ 1048576) (h : Ints w v zs) (hg : SpanG w) :
    Calls Tryd.prog 19 #[.int .i64 3, v] w fun e w' => e = .returned (.bool (zs.all fun x => inB x (-300000) 300000)) ∧ On w w' := by
  have HG := Lib.hid hg
  obtain ⟨a, cap, rfl, hc⟩ := h
  obtain ⟨n, hn⟩ : ∃ n, n = zs.length := ⟨_, rfl⟩
  have HN := Lib.hid hn
  have HC := Lib.hid hc
  rw [← hn] at hq ⊢
  clear hc hn hg
  go_enter Tryd.func19, Tryd.ntmps19
  go_wp2_with fail
  go_loopw [9] (fun i wr => ∃ k : Nat, k ≤ n ∧ i = .int .i64 k ∧ AllTo (fun x => inB x (-300000) 300000) zs k ∧ On w wr) (fun i _ => n - (intOf i).toNat)
  case atStart => exact ⟨0, Nat.zero_le _, rfl, allTo_zero _ _, On.refl _⟩
  case round =>
    obtain ⟨k, hk, rfl, hall, ho⟩ := hrel
    have HA := Lib.hid hall
    have g0 := (HG.out.on ho) 6 (by decide)
    have g1 := (HG.out.on ho) 7 (by decide)
    rw [show spans.getD 6 0 = (-300000) from rfl] at g0
    rw [show spans.getD 7 0 = 300000 from rfl] at g1
    have HO := Lib.hid ho
    clear hall
    by_cases hlt : k < n
    · have hlti : (k : Int) < (n : Int) := by omega
      obtain ⟨b, off, rfl, hb, hcell⟩ := HC.out (by rw [← HN.out]; omega)
      obtain ⟨z, hz⟩ : ∃ z, z = zs.getD k 0 := ⟨_, rfl⟩
      have hc1 := (ho.cell (p := ⟨b, off + k, none⟩) (by exact hb)).trans (hcell k (by rw [← HN.out]; exact hlt))
      rw [← hz] at hc1
      have z0 : 1 < wr.heap.size := World.block_lt_of_cell? wr _ g0
      have zb := ho.lts _ hb
      clear ho
      cases hin : inB z (-300000) 300000 with
      | true =>
        have HS := Lib.hid (allTo_succ (p := fun x => inB x (-300000) 300000) HA.out (by rw [← hz]; exact hin))
        clear hz hcell
        go_wp2_with fail
        refine wp_region_onh (by kernel_rfl) (by kernel_rfl) ?_
        repeat (refine rest_step (fun K hK => ?_); go_simp; first | (refine hK _ ?_; clear hK K) | (apply Exists.intro; refine ⟨fun v1 hv1 => ?_, hK _ ?_⟩; (first | with_reducible exact rfl | with_reducible exact ⟨rfl, rfl⟩ | with_reducible exact Calls.on_same hv1 (Arith.within _ _ _ _) | (obtain ⟨hc, hf⟩ := bcell hv1; go_simp; first | with_reducible exact rfl | with_reducible exact ⟨rfl, rfl⟩ | exact rfl | exact ⟨rfl, rfl⟩)); clear hK K))
        refine rest_nil ?_
        intro w5 h5
        go_wp2_with fail
        go_roundw
        case rel => exact ⟨k + 1, by omega, by go_num, HS.out, HO.out.trans h5⟩
        case measure => simp [intOf]; omega
      | false =>
        have en := Lib.hid (all_bad (p := fun x => inB x (-300000) 300000) (zs := zs) (by rw [← HN.out]; exact hlt) (by rw [← hz]; exact hin))
        clear hz hcell
        go_wp2_with fail
        refine wp_region_onh (by kernel_rfl) (by kernel_rfl) ?_
        repeat (refine rest_step (fun K hK => ?_); go_simp; first | (refine hK _ ?_; clear hK K) | (apply Exists.intro; refine ⟨fun v1 hv1 => ?_, hK _ ?_⟩; (first | with_reducible exact rfl | with_reducible exact ⟨rfl, rfl⟩ | with_reducible exact Calls.on_same hv1 (Arith.within _ _ _ _) | (obtain ⟨hc, hf⟩ := bcell hv1; go_simp; first | with_reducible exact rfl | with_reducible exact ⟨rfl, rfl⟩ | exact rfl | exact ⟨rfl, rfl⟩)); clear hK K))
        refine rest_nil ?_
        intro w5 h5
        go_wp2_with fail
        go_ret
        exact ⟨ret_bool en.out.symm, HO.out.trans h5⟩
    · obtain rfl : k = n := by omega
      have en := Lib.hid (all_all (p := fun x => inB x (-300000) 300000) (by rw [← HN.out]; exact HA.out))
      go_wp2_with fail
      go_ret
      exact ⟨ret_bool en.out.symm, HO.out⟩
theorem allows1_3 (z : Int) (b : Nat) (w : World) {cap : Nat} (hc : w.cell? ⟨b, 0, none⟩ = some (.int .i64 z)) (hg : SpanG w) :
    Calls Tryd.prog 19 #[.int .i64 3, .slice (some ⟨b, 0, none⟩) 1 cap] w fun e w' => e = .returned (.bool (inB z (-300000) 300000)) ∧ On w w' := by
  refine (allows_3 _ [z] w (by simp) ⟨some ⟨b, 0, none⟩, cap, rfl, fun _ => ⟨b, 0, rfl, World.block_lt_of_cell? w _ hc, fun i hi => ?_⟩⟩ hg).mono ?_
  · obtain rfl : i = 0 := by simp at hi; exact hi
    exact hc
  · rintro e w' ⟨rfl, ho⟩
    exact ⟨ret_bool (by simp), ho⟩
set_option maxHeartbeats 1000000 in
theorem allows_4 (v : Value) (zs : List Int) (w : World) (hq : zs.length ≤ 1048576) (h : Ints w v zs) (hg : SpanG w) :
    Calls Tryd.prog 19 #[.int .i64 4, v] w fun e w' => e = .returned (.bool (zs.all fun x => inB x 0 300000)) ∧ On w w' := by
  have HG := Lib.hid hg
  obtain ⟨a, cap, rfl, hc⟩ := h
  obtain ⟨n, hn⟩ : ∃ n, n = zs.length := ⟨_, rfl⟩
  have HN := Lib.hid hn
  have HC := Lib.hid hc
  rw [← hn] at hq ⊢
  clear hc hn hg
  go_enter Tryd.func19, Tryd.ntmps19
  go_wp2_with fail
  go_loopw [9] (fun i wr => ∃ k : Nat, k ≤ n ∧ i = .int .i64 k ∧ AllTo (fun x => inB x 0 300000) zs k ∧ On w wr) (fun i _ => n - (intOf i).toNat)
  case atStart => exact ⟨0, Nat.zero_le _, rfl, allTo_zero _ _, On.refl _⟩
  case round =>
    obtain ⟨k, hk, rfl, hall, ho⟩ := hrel
    have HA := Lib.hid hall
    have g0 := (HG.out.on ho) 8 (by decide)
    have g1 := (HG.out.on ho) 9 (by decide)
    rw [show spans.getD 8 0 = 0 from rfl] at g0
    rw [show spans.getD 9 0 = 300000 from rfl] at g1
    have HO := Lib.hid ho
    clear hall
    by_cases hlt : k < n
    · have hlti : (k : Int) < (n : Int) := by omega
      obtain ⟨b, off, rfl, hb, hcell⟩ := HC.out (by rw [← HN.out]; omega)
      obtain ⟨z, hz⟩ : ∃ z, z = zs.getD k 0 := ⟨_, rfl⟩
      have hc1 := (ho.cell (p := ⟨b, off + k, none⟩) (by exact hb)).trans (hcell k (by rw [← HN.out]; exact hlt))
      rw [← hz] at hc1
      have z0 : 1 < wr.heap.size := World.block_lt_of_cell? wr _ g0
      have zb := ho.lts _ hb
      clear ho
      cases hin : inB z 0 300000 with
      | true =>
        have HS := Lib.hid (allTo_succ (p := fun x => inB x 0 300000) HA.out (by rw [← hz]; exact hin))
        clear hz hcell
        go_wp2_with fail
        refine wp_region_onh (by kernel_rfl) (by kernel_rfl) ?_
        repeat (refine rest_step (fun K hK => ?_); go_simp; first | (refine hK _ ?_; clear hK K) | (apply Exists.intro; refine ⟨fun v1 hv1 => ?_, hK _ ?_⟩; (first | with_reducible exact rfl | with_reducible exact ⟨rfl, rfl⟩ | with_reducible exact Calls.on_same hv1 (Arith.within _ _ _ _) | (obtain ⟨hc, hf⟩ := bcell hv1; go_simp; first | with_reducible exact rfl | with_reducible exact ⟨rfl, rfl⟩ | exact rfl | exact ⟨rfl, rfl⟩)); clear hK K))
        refine rest_nil ?_
        intro w5 h5
        go_wp2_with fail
        go_roundw
        case rel => exact ⟨k + 1, by omega, by go_num, HS.out, HO.out.trans h5⟩
        case measure => simp [intOf]; omega
      | false =>
        have en := Lib.hid (all_bad (p := fun x => inB x 0 300000) (zs := zs) (by rw [← HN.out]; exact hlt) (by rw [← hz]; exact hin))
        clear hz hcell
        go_wp2_with fail
        refine wp_region_onh (by kernel_rfl) (by kernel_rfl) ?_
        repeat (refine rest_step (fun K hK => ?_); go_simp; first | (refine hK _ ?_; clear hK K) | (apply Exists.intro; refine ⟨fun v1 hv1 => ?_, hK _ ?_⟩; (first | with_reducible exact rfl | with_reducible exact ⟨rfl, rfl⟩ | with_reducible exact Calls.on_same hv1 (Arith.within _ _ _ _) | (obtain ⟨hc, hf⟩ := bcell hv1; go_simp; first | with_reducible exact rfl | with_reducible exact ⟨rfl, rfl⟩ | exact rfl | exact ⟨rfl, rfl⟩)); clear hK K))
        refine rest_nil ?_
        intro w5 h5
        go_wp2_with fail
        go_ret
        exact ⟨ret_bool en.out.symm, HO.out.trans h5⟩
    · obtain rfl : k = n := by omega
      have en := Lib.hid (all_all (p := fun x => inB x 0 300000) (by rw [← HN.out]; exact HA.out))
      go_wp2_with fail
      go_ret
      exact ⟨ret_bool en.out.symm, HO.out⟩
theorem allows1_4 (z : Int) (b : Nat) (w : World) {cap : Nat} (hc : w.cell? ⟨b, 0, none⟩ = some (.int .i64 z)) (hg : SpanG w) :
    Calls Tryd.prog 19 #[.int .i64 4, .slice (some ⟨b, 0, none⟩) 1 cap] w fun e w' => e = .returned (.bool (inB z 0 300000)) ∧ On w w' := by
  refine (allows_4 _ [z] w (by simp) ⟨some ⟨b, 0, none⟩, cap, rfl, fun _ => ⟨b, 0, rfl, World.block_lt_of_cell? w _ hc, fun i hi => ?_⟩⟩ hg).mono ?_
  · obtain rfl : i = 0 := by simp at hi; exact hi
    exact hc
  · rintro e w' ⟨rfl, ho⟩
    exact ⟨ret_bool (by simp), ho⟩
set_option maxHeartbeats 1000000 in
theorem allows_5 (v : Value) (zs : List Int) (w : World) (hq : zs.length ≤ 1048576) (h : Ints w v zs) (hg : SpanG w) :
    Calls Tryd.prog 19 #[.int .i64 5, v] w fun e w' => e = .returned (.bool (zs.all fun x => inB x 1 100000)) ∧ On w w' := by
  have HG := Lib.hid hg
  obtain ⟨a, cap, rfl, hc⟩ := h
  obtain ⟨n, hn⟩ : ∃ n, n = zs.length := ⟨_, rfl⟩
  have HN := Lib.hid hn
  have HC := Lib.hid hc
  rw [← hn] at hq ⊢
  clear hc hn hg
  go_enter Tryd.func19, Tryd.ntmps19
  go_wp2_with fail
  go_loopw [9] (fun i wr => ∃ k : Nat, k ≤ n ∧ i = .int .i64 k ∧ AllTo (fun x => inB x 1 100000) zs k ∧ On w wr) (fun i _ => n - (intOf i).toNat)
  case atStart => exact ⟨0, Nat.zero_le _, rfl, allTo_zero _ _, On.refl _⟩
  case round =>
    obtain ⟨k, hk, rfl, hall, ho⟩ := hrel
    have HA := Lib.hid hall
    have g0 := (HG.out.on ho) 10 (by decide)
    have g1 := (HG.out.on ho) 11 (by decide)
    rw [show spans.getD 10 0 = 1 from rfl] at g0
    rw [show spans.getD 11 0 = 100000 from rfl] at g1
    have HO := Lib.hid ho
    clear hall
    by_cases hlt : k < n
    · have hlti : (k : Int) < (n : Int) := by omega
      obtain ⟨b, off, rfl, hb, hcell⟩ := HC.out (by rw [← HN.out]; omega)
      obtain ⟨z, hz⟩ : ∃ z, z = zs.getD k 0 := ⟨_, rfl⟩
      have hc1 := (ho.cell (p := ⟨b, off + k, none⟩) (by exact hb)).trans (hcell k (by rw [← HN.out]; exact hlt))
      rw [← hz] at hc1
      have z0 : 1 < wr.heap.size := World.block_lt_of_cell? wr _ g0
      have zb := ho.lts _ hb
      clear ho
      cases hin : inB z 1 100000 with
      | true =>
        have HS := Lib.hid (allTo_succ (p := fun x => inB x 1 100000) HA.out (by rw [← hz]; exact hin))
        clear hz hcell
        go_wp2_with fail
        refine wp_region_onh (by kernel_rfl) (by kernel_rfl) ?_
        repeat (refine rest_step (fun K hK => ?_); go_simp; first | (refine hK _ ?_; clear hK K) | (apply Exists.intro; refine ⟨fun v1 hv1 => ?_, hK _ ?_⟩; (first | with_reducible exact rfl | with_reducible exact ⟨rfl, rfl⟩ | with_reducible exact Calls.on_same hv1 (Arith.within _ _ _ _) | (obtain ⟨hc, hf⟩ := bcell hv1; go_simp; first | with_reducible exact rfl | with_reducible exact ⟨rfl, rfl⟩ | exact rfl | exact ⟨rfl, rfl⟩)); clear hK K))
        refine rest_nil ?_
        intro w5 h5
        go_wp2_with fail
        go_roundw
        case rel => exact ⟨k + 1, by omega, by go_num, HS.out, HO.out.trans h5⟩
        case measure => simp [intOf]; omega
      | false =>
        have en := Lib.hid (all_bad (p := fun x => inB x 1 100000) (zs := zs) (by rw [← HN.out]; exact hlt) (by rw [← hz]; exact hin))
        clear hz hcell
        go_wp2_with fail
        refine wp_region_onh (by kernel_rfl) (by kernel_rfl) ?_
        repeat (refine rest_step (fun K hK => ?_); go_simp; first | (refine hK _ ?_; clear hK K) | (apply Exists.intro; refine ⟨fun v1 hv1 => ?_, hK _ ?_⟩; (first | with_reducible exact rfl | with_reducible exact ⟨rfl, rfl⟩ | with_reducible exact Calls.on_same hv1 (Arith.within _ _ _ _) | (obtain ⟨hc, hf⟩ := bcell hv1; go_simp; first | with_reducible exact rfl | with_reducible exact ⟨rfl, rfl⟩ | exact rfl | exact ⟨rfl, rfl⟩)); clear hK K))
        refine rest_nil ?_
        intro w5 h5
        go_wp2_with fail
        go_ret
        exact ⟨ret_bool en.out.symm, HO.out.trans h5⟩
    · obtain rfl : k = n := by omega
      have en := Lib.hid (all_all (p := fun x => inB x 1 100000) (by rw [← HN.out]; exact HA.out))
      go_wp2_with fail
      go_ret
      exact ⟨ret_bool en.out.symm, HO.out⟩
theorem allows1_5 (z : Int) (b : Nat) (w : World) {cap : Nat} (hc : w.cell? ⟨b, 0, none⟩ = some (.int .i64 z)) (hg : SpanG w) :
    Calls Tryd.prog 19 #[.int .i64 5, .slice (some ⟨b, 0, none⟩) 1 cap] w fun e w' => e = .returned (.bool (inB z 1 100000)) ∧ On w w' := by
  refine (allows_5 _ [z] w (by simp) ⟨some ⟨b, 0, none⟩, cap, rfl, fun _ => ⟨b, 0, rfl, World.block_lt_of_cell? w _ hc, fun i hi => ?_⟩⟩ hg).mono ?_
  · obtain rfl : i = 0 := by simp at hi; exact hi
    exact hc
  · rintro e w' ⟨rfl, ho⟩
    exact ⟨ret_bool (by simp), ho⟩
set_option maxHeartbeats 1000000 in
theorem allows_6 (v : Value) (zs : List Int) (w : World) (hq : zs.length ≤ 1048576) (h : Ints w v zs) (hg : SpanG w) :
    Calls Tryd.prog 19 #[.int .i64 6, v] w fun e w' => e = .returned (.bool (zs.all fun x => inB x 0 7)) ∧ On w w' := by
  have HG := Lib.hid hg
  obtain ⟨a, cap, rfl, hc⟩ := h
  obtain ⟨n, hn⟩ : ∃ n, n = zs.length := ⟨_, rfl⟩
  have HN := Lib.hid hn
  have HC := Lib.hid hc
  rw [← hn] at hq ⊢
  clear hc hn hg
  go_enter Tryd.func19, Tryd.ntmps19
  go_wp2_with fail
  go_loopw [9] (fun i wr => ∃ k : Nat, k ≤ n ∧ i = .int .i64 k ∧ AllTo (fun x => inB x 0 7) zs k ∧ On w wr) (fun i _ => n - (intOf i).toNat)
  case atStart => exact ⟨0, Nat.zero_le _, rfl, allTo_zero _ _, On.refl _⟩
  case round =>
    obtain ⟨k, hk, rfl, hall, ho⟩ := hrel
    have HA := Lib.hid hall
    have g0 := (HG.out.on ho) 12 (by decide)
    have g1 := (HG.out.on ho) 13 (by decide)
    rw [show spans.getD 12 0 = 0 from rfl] at g0
    rw [show spans.getD 13 0 = 7 from rfl] at g1
    have HO := Lib.hid ho
    clear hall
    by_cases hlt : k < n
    · have hlti : (k : Int) < (n : Int) := by omega
      obtain ⟨b, off, rfl, hb, hcell⟩ := HC.out (by rw [← HN.out]; omega)
      obtain ⟨z, hz⟩ : ∃ z, z = zs.getD k 0 := ⟨_, rfl⟩
      have hc1 := (ho.cell (p := ⟨b, off + k, none⟩) (by exact hb)).trans (hcell k (by rw [← HN.out]; exact hlt))
      rw [← hz] at hc1
      have z0 : 1 < wr.heap.size := World.block_lt_of_cell? wr _ g0
      have zb := ho.lts _ hb
      clear ho
      cases hin : inB z 0 7 with
      | true =>
        have HS := Lib.hid (allTo_succ (p := fun x => inB x 0 7) HA.out (by rw [← hz]; exact hin))
        clear hz hcell
        go_wp2_with fail
        refine wp_region_onh (by kernel_rfl) (by kernel_rfl) ?_
        repeat (refine rest_step (fun K hK => ?_); go_simp; first | (refine hK _ ?_; clear hK K) | (apply Exists.intro; refine ⟨fun v1 hv1 => ?_, hK _ ?_⟩; (first | with_reducible exact rfl | with_reducible exact ⟨rfl, rfl⟩ | with_reducible exact Calls.on_same hv1 (Arith.within _ _ _ _) | (obtain ⟨hc, hf⟩ := bcell hv1; go_simp; first | with_reducible exact rfl | with_reducible exact ⟨rfl, rfl⟩ | exact rfl | exact ⟨rfl, rfl⟩)); clear hK K))
        refine rest_nil ?_
        intro w5 h5
        go_wp2_with fail
        go_roundw
        case rel => exact ⟨k + 1, by omega, by go_num, HS.out, HO.out.trans h5⟩
        case measure => simp [intOf]; omega
      | false =>
        have en := Lib.hid (all_bad (p := fun x => inB x 0 7) (zs := zs) (by rw [← HN.out]; exact hlt) (by rw [← hz]; exact hin))
        clear hz hcell
        go_wp2_with fail
        refine wp_region_onh (by kernel_rfl) (by kernel_rfl) ?_
        repeat (refine rest_step (fun K hK => ?_); go_simp; first | (refine hK _ ?_; clear hK K) | (apply Exists.intro; refine ⟨fun v1 hv1 => ?_, hK _ ?_⟩; (first | with_reducible exact rfl | with_reducible exact ⟨rfl, rfl⟩ | with_reducible exact Calls.on_same hv1 (Arith.within _ _ _ _) | (obtain ⟨hc, hf⟩ := bcell hv1; go_simp; first | with_reducible exact rfl | with_reducible exact ⟨rfl, rfl⟩ | exact rfl | exact ⟨rfl, rfl⟩)); clear hK K))
        refine rest_nil ?_
        intro w5 h5
        go_wp2_with fail
        go_ret
        exact ⟨ret_bool en.out.symm, HO.out.trans h5⟩
    · obtain rfl : k = n := by omega
      have en := Lib.hid (all_all (p := fun x => inB x 0 7) (by rw [← HN.out]; exact HA.out))
      go_wp2_with fail
      go_ret
      exact ⟨ret_bool en.out.symm, HO.out⟩
theorem allows1_6 (z : Int) (b : Nat) (w : World) {cap : Nat} (hc : w.cell? ⟨b, 0, none⟩ = some (.int .i64 z)) (hg : SpanG w) :
    Calls Tryd.prog 19 #[.int .i64 6, .slice (some ⟨b, 0, none⟩) 1 cap] w fun e w' => e = .returned (.bool (inB z 0 7)) ∧ On w w' := by
  refine (allows_6 _ [z] w (by simp) ⟨some ⟨b, 0, none⟩, cap, rfl, fun _ => ⟨b, 0, rfl, World.block_lt_of_cell? w _ hc, fun i hi => ?_⟩⟩ hg).mono ?_
  · obtain rfl : i = 0 := by simp at hi; exact hi
    exact hc
  · rintro e w' ⟨rfl, ho⟩
    exact ⟨ret_bool (by simp), ho⟩
set_option maxHeartbeats 1000000 in
theorem allows_7 (v : Value) (zs : List Int) (w : World) (hq : zs.length ≤ 1048576) (h : Ints w v zs) (hg : SpanG w) :
    Calls Tryd.prog 19 #[.int .i64 7, v] w fun e w' => e = .returned (.bool (zs.all fun x => inB x 0 90000)) ∧ On w w' := by
  have HG := Lib.hid hg
  obtain ⟨a, cap, rfl, hc⟩ := h
  obtain ⟨n, hn⟩ : ∃ n, n = zs.length := ⟨_, rfl⟩
  have HN := Lib.hid hn
  have HC := Lib.hid hc
  rw [← hn] at hq ⊢
  clear hc hn hg
  go_enter Tryd.func19, Tryd.ntmps19
  go_wp2_with fail
  go_loopw [9] (fun i wr => ∃ k : Nat, k ≤ n ∧ i = .int .i64 k ∧ AllTo (fun x => inB x 0 90000) zs k ∧ On w wr) (fun i _ => n - (intOf i).toNat)
  case atStart => exact ⟨0, Nat.zero_le _, rfl, allTo_zero _ _, On.refl _⟩
  case round =>
    obtain ⟨k, hk, rfl, hall, ho⟩ := hrel
    have HA := Lib.hid hall
    have g0 := (HG.out.on ho) 14 (by decide)
    have g1 := (HG.out.on ho) 15 (by decide)
    rw [show spans.getD 14 0 = 0 from rfl] at g0
    rw [show spans.getD 15 0 = 90000 from rfl] at g1
    have HO := Lib.hid ho
    clear hall
    by_cases hlt : k < n
    · have hlti : (k : Int) < (n : Int) := by omega
      obtain ⟨b, off, rfl, hb, hcell⟩ := HC.out (by rw [← HN.out]; omega)
      obtain ⟨z, hz⟩ : ∃ z, z = zs.getD k 0 := ⟨_, rfl⟩
      have hc1 := (ho.cell (p := ⟨b, off + k, none⟩) (by exact hb)).trans (hcell k (by rw [← HN.out]; exact hlt))
      rw [← hz] at hc1
      have z0 : 1 < wr.heap.size := World.block_lt_of_cell? wr _ g0
      have zb := ho.lts _ hb
      clear ho
      cases hin : inB z 0 90000 with
      | true =>
        have HS := Lib.hid (allTo_succ (p := fun x => inB x 0 90000) HA.out (by rw [← hz]; exact hin))
        clear hz hcell
        go_wp2_with fail
        refine wp_region_onh (by kernel_rfl) (by kernel_rfl) ?_
        repeat (refine rest_step (fun K hK => ?_); go_simp; first | (refine hK _ ?_; clear hK K) | (apply Exists.intro; refine ⟨fun v1 hv1 => ?_, hK _ ?_⟩; (first | with_reducible exact rfl | with_reducible exact ⟨rfl, rfl⟩ | with_reducible exact Calls.on_same hv1 (Arith.within _ _ _ _) | (obtain ⟨hc, hf⟩ := bcell hv1; go_simp; first | with_reducible exact rfl | with_reducible exact ⟨rfl, rfl⟩ | exact rfl | exact ⟨rfl, rfl⟩)); clear hK K))
        refine rest_nil ?_
        intro w5 h5
        go_wp2_with fail
        go_roundw
        case rel => exact ⟨k + 1, by omega, by go_num, HS.out, HO.out.trans h5⟩
        case measure => simp [intOf]; omega
      | false =>
        have en := Lib.hid (all_bad (p := fun x => inB x 0 90000) (zs := zs) (by rw [← HN.out]; exact hlt) (by rw [← hz]; exact hin))
        clear hz hcell
        go_wp2_with fail
        refine wp_region_onh (by kernel_rfl) (by kernel_rfl) ?_
        repeat (refine rest_step (fun K hK => ?_); go_simp; first | (refine hK _ ?_; clear hK K) | (apply Exists.intro; refine ⟨fun v1 hv1 => ?_, hK _ ?_⟩; (first | with_reducible exact rfl | with_reducible exact ⟨rfl, rfl⟩ | with_reducible exact Calls.on_same hv1 (Arith.within _ _ _ _) | (obtain ⟨hc, hf⟩ := bcell hv1; go_simp; first | with_reducible exact rfl | with_reducible exact ⟨rfl, rfl⟩ | exact rfl | exact ⟨rfl, rfl⟩)); clear hK K))
        refine rest_nil ?_
        intro w5 h5
        go_wp2_with fail
        go_ret
        exact ⟨ret_bool en.out.symm, HO.out.trans h5⟩
    · obtain rfl : k = n := by omega
      have en := Lib.hid (all_all (p := fun x => inB x 0 90000) (by rw [← HN.out]; exact HA.out))
      go_wp2_with fail
      go_ret
      exact ⟨ret_bool en.out.symm, HO.out⟩
theorem allows1_7 (z : Int) (b : Nat) (w : World) {cap : Nat} (hc : w.cell? ⟨b, 0, none⟩ = some (.int .i64 z)) (hg : SpanG w) :
    Calls Tryd.prog 19 #[.int .i64 7, .slice (some ⟨b, 0, none⟩) 1 cap] w fun e w' => e = .returned (.bool (inB z 0 90000)) ∧ On w w' := by
  refine (allows_7 _ [z] w (by simp) ⟨some ⟨b, 0, none⟩, cap, rfl, fun _ => ⟨b, 0, rfl, World.block_lt_of_cell? w _ hc, fun i hi => ?_⟩⟩ hg).mono ?_
  · obtain rfl : i = 0 := by simp at hi; exact hi
    exact hc
  · rintro e w' ⟨rfl, ho⟩
    exact ⟨ret_bool (by simp), ho⟩
set_option maxHeartbeats 1000000 in
theorem allows_8 (v : Value) (zs : List Int) (w : World) (hq : zs.length ≤ 1048576) (h : Ints w v zs) (hg : SpanG w) :
    Calls Tryd.prog 19 #[.int .i64 8, v] w fun e w' => e = .returned (.bool (zs.all fun x => inB x 0 200)) ∧ On w w' := by
  have HG := Lib.hid hg
  obtain ⟨a, cap, rfl, hc⟩ := h
  obtain ⟨n, hn⟩ : ∃ n, n = zs.length := ⟨_, rfl⟩
  have HN := Lib.hid hn
  have HC := Lib.hid hc
  rw [← hn] at hq ⊢
  clear hc hn hg
  go_enter Tryd.func19, Tryd.ntmps19
  go_wp2_with fail
  go_loopw [9] (fun i wr => ∃ k : Nat, k ≤ n ∧ i = .int .i64 k ∧ AllTo (fun x => inB x 0 200) zs k ∧ On w wr) (fun i _ => n - (intOf i).toNat)
  case atStart => exact ⟨0, Nat.zero_le _, rfl, allTo_zero _ _, On.refl _⟩
  case round =>
    obtain ⟨k, hk, rfl, hall, ho⟩ := hrel
    have HA := Lib.hid hall
    have g0 := (HG.out.on ho) 16 (by decide)
    have g1 := (HG.out.on ho) 17 (by decide)
    rw [show spans.getD 16 0 = 0 from rfl] at g0
    rw [show spans.getD 17 0 = 200 from rfl] at g1
    have HO := Lib.hid ho
    clear hall
    by_cases hlt : k < n
    · have hlti : (k : Int) < (n : Int) := by omega
      obtain ⟨b, off, rfl, hb, hcell⟩ := HC.out (by rw [← HN.out]; omega)
      obtain ⟨z, hz⟩ : ∃ z, z = zs.getD k 0 := ⟨_, rfl⟩
      have hc1 := (ho.cell (p := ⟨b, off + k, none⟩) (by exact hb)).trans (hcell k (by rw [← HN.out]; exact hlt))
      rw [← hz] at hc1
      have z0 : 1 < wr.heap.size := World.block_lt_of_cell? wr _ g0
      have zb := ho.lts _ hb
      clear ho
      cases hin : inB z 0 200 with
      | true =>
        have HS := Lib.hid (allTo_succ (p := fun x => inB x 0 200) HA.out (by rw [← hz]; exact hin))
        clear hz hcell
        go_wp2_with fail
        refine wp_region_onh (by kernel_rfl) (by kernel_rfl) ?_
        repeat (refine rest_step (fun K hK => ?_); go_simp; first | (refine hK _ ?_; clear hK K) | (apply Exists.intro; refine ⟨fun v1 hv1 => ?_, hK _ ?_⟩; (first | with_reducible exact rfl | with_reducible exact ⟨rfl, rfl⟩ | with_reducible exact Calls.on_same hv1 (Arith.within _ _ _ _) | (obtain ⟨hc, hf⟩ := bcell hv1; go_simp; first | with_reducible exact rfl | with_reducible exact ⟨rfl, rfl⟩ | exact rfl | exact ⟨rfl, rfl⟩)); clear hK K))
        refine rest_nil ?_
        intro w5 h5
        go_wp2_with fail
        go_roundw
        case rel => exact ⟨k + 1, by omega, by go_num, HS.out, HO.out.trans h5⟩
        case measure => simp [intOf]; omega
      | false =>
        have en := Lib.hid (all_bad (p := fun x => inB x 0 200) (zs := zs) (by rw [← HN.out]; exact hlt) (by rw [← hz]; exact hin))
        clear hz hcell
        go_wp2_with fail
        refine wp_region_onh (by kernel_rfl) (by kernel_rfl) ?_
        repeat (refine rest_step (fun K hK => ?_); go_simp; first | (refine hK _ ?_; clear hK K) | (apply Exists.intro; refine ⟨fun v1 hv1 => ?_, hK _ ?_⟩; (first | with_reducible exact rfl | with_reducible exact ⟨rfl, rfl⟩ | with_reducible exact Calls.on_same hv1 (Arith.within _ _ _ _) | (obtain ⟨hc, hf⟩ := bcell hv1; go_simp; first | with_reducible exact rfl | with_reducible exact ⟨rfl, rfl⟩ | exact rfl | exact ⟨rfl, rfl⟩)); clear hK K))
        refine rest_nil ?_
        intro w5 h5
        go_wp2_with fail
        go_ret
        exact ⟨ret_bool en.out.symm, HO.out.trans h5⟩
    · obtain rfl : k = n := by omega
      have en := Lib.hid (all_all (p := fun x => inB x 0 200) (by rw [← HN.out]; exact HA.out))
      go_wp2_with fail
      go_ret
      exact ⟨ret_bool en.out.symm, HO.out⟩
theorem allows1_8 (z : Int) (b : Nat) (w : World) {cap : Nat} (hc : w.cell? ⟨b, 0, none⟩ = some (.int .i64 z)) (hg : SpanG w) :
    Calls Tryd.prog 19 #[.int .i64 8, .slice (some ⟨b, 0, none⟩) 1 cap] w fun e w' => e = .returned (.bool (inB z 0 200)) ∧ On w w' := by
  refine (allows_8 _ [z] w (by simp) ⟨some ⟨b, 0, none⟩, cap, rfl, fun _ => ⟨b, 0, rfl, World.block_lt_of_cell? w _ hc, fun i hi => ?_⟩⟩ hg).mono ?_
  · obtain rfl : i = 0 := by simp at hi; exact hi
    exact hc
  · rintro e w' ⟨rfl, ho⟩
    exact ⟨ret_bool (by simp), ho⟩
set_option maxHeartbeats 1000000 in
theorem allows_9 (v : Value) (zs : List Int) (w : World) (hq : zs.length ≤ 1048576) (h : Ints w v zs) (hg : SpanG w) :
    Calls Tryd.prog 19 #[.int .i64 9, v] w fun e w' => e = .returned (.bool (zs.all fun x => inB x 0 1000)) ∧ On w w' := by
  have HG := Lib.hid hg
  obtain ⟨a, cap, rfl, hc⟩ := h
  obtain ⟨n, hn⟩ : ∃ n, n = zs.length := ⟨_, rfl⟩
  have HN := Lib.hid hn
  have HC := Lib.hid hc
  rw [← hn] at hq ⊢
  clear hc hn hg
  go_enter Tryd.func19, Tryd.ntmps19
  go_wp2_with fail
  go_loopw [9] (fun i wr => ∃ k : Nat, k ≤ n ∧ i = .int .i64 k ∧ AllTo (fun x => inB x 0 1000) zs k ∧ On w wr) (fun i _ => n - (intOf i).toNat)
  case atStart => exact ⟨0, Nat.zero_le _, rfl, allTo_zero _ _, On.refl _⟩
  case round =>
    obtain ⟨k, hk, rfl, hall, ho⟩ := hrel
    have HA := Lib.hid hall
    have g0 := (HG.out.on ho) 18 (by decide)
    have g1 := (HG.out.on ho) 19 (by decide)
    rw [show spans.getD 18 0 = 0 from rfl] at g0
    rw [show spans.getD 19 0 = 1000 from rfl] at g1
    have HO := Lib.hid ho
    clear hall
    by_cases hlt : k < n
    · have hlti : (k : Int) < (n : Int) := by omega
      obtain ⟨b, off, rfl, hb, hcell⟩ := HC.out (by rw [← HN.out]; omega)
      obtain ⟨z, hz⟩ : ∃ z, z = zs.getD k 0 := ⟨_, rfl⟩
      have hc1 := (ho.cell (p := ⟨b, off + k, none⟩) (by exact hb)).trans (hcell k (by rw [← HN.out]; exact hlt))
      rw [← hz] at hc1
      have z0 : 1 < wr.heap.size := World.block_lt_of_cell? wr _ g0
      have zb := ho.lts _ hb
      clear ho
      cases hin : inB z 0 1000 with
      | true =>
        have HS := Lib.hid (allTo_succ (p := fun x => inB x 0 1000) HA.out (by rw [← hz]; exact hin))
        clear hz hcell
        go_wp2_with fail
        refine wp_region_onh (by kernel_rfl) (by kernel_rfl) ?_
        repeat (refine rest_step (fun K hK => ?_); go_simp; first | (refine hK _ ?_; clear hK K) | (apply Exists.intro; refine ⟨fun v1 hv1 => ?_, hK _ ?_⟩; (first | with_reducible exact rfl | with_reducible exact ⟨rfl, rfl⟩ | with_reducible exact Calls.on_same hv1 (Arith.within _ _ _ _) | (obtain ⟨hc, hf⟩ := bcell hv1; go_simp; first | with_reducible exact rfl | with_reducible exact ⟨rfl, rfl⟩ | exact rfl | exact ⟨rfl, rfl⟩)); clear hK K))
        refine rest_nil ?_
        intro w5 h5
        go_wp2_with fail
        go_roundw
        case rel => exact ⟨k + 1, by omega, by go_num, HS.out, HO.out.trans h5⟩
        case measure => simp [intOf]; omega
      | false =>
        have en := Lib.hid (all_bad (p := fun x => inB x 0 1000) (zs := zs) (by rw [← HN.out]; exact hlt) (by rw [← hz]; exact hin))
        clear hz hcell
        go_wp2_with fail
        refine wp_region_onh (by kernel_rfl) (by kernel_rfl) ?_
        repeat (refine rest_step (fun K hK => ?_); go_simp; first | (refine hK _ ?_; clear hK K) | (apply Exists.intro; refine ⟨fun v1 hv1 => ?_, hK _ ?_⟩; (first | with_reducible exact rfl | with_reducible exact ⟨rfl, rfl⟩ | with_reducible exact Calls.on_same hv1 (Arith.within _ _ _ _) | (obtain ⟨hc, hf⟩ := bcell hv1; go_simp; first | with_reducible exact rfl | with_reducible exact ⟨rfl, rfl⟩ | exact rfl | exact ⟨rfl, rfl⟩)); clear hK K))
        refine rest_nil ?_
        intro w5 h5
        go_wp2_with fail
        go_ret
        exact ⟨ret_bool en.out.symm, HO.out.trans h5⟩
    · obtain rfl : k = n := by omega
      have en := Lib.hid (all_all (p := fun x => inB x 0 1000) (by rw [← HN.out]; exact HA.out))
      go_wp2_with fail
      go_ret
      exact ⟨ret_bool en.out.symm, HO.out⟩
theorem allows1_9 (z : Int) (b : Nat) (w : World) {cap : Nat} (hc : w.cell? ⟨b, 0, none⟩ = some (.int .i64 z)) (hg : SpanG w) :
    Calls Tryd.prog 19 #[.int .i64 9, .slice (some ⟨b, 0, none⟩) 1 cap] w fun e w' => e = .returned (.bool (inB z 0 1000)) ∧ On w w' := by
  refine (allows_9 _ [z] w (by simp) ⟨some ⟨b, 0, none⟩, cap, rfl, fun _ => ⟨b, 0, rfl, World.block_lt_of_cell? w _ hc, fun i hi => ?_⟩⟩ hg).mono ?_
  · obtain rfl : i = 0 := by simp at hi; exact hi
    exact hc
  · rintro e w' ⟨rfl, ho⟩
    exact ⟨ret_bool (by simp), ho⟩
set_option maxHeartbeats 1000000 in
theorem allows_10 (v : Value) (zs : List Int) (w : World) (hq : zs.length ≤ 1048576) (h : Ints w v zs) (hg : SpanG w) :
    Calls Tryd.prog 19 #[.int .i64 10, v] w fun e w' => e = .returned (.bool (zs.all fun x => inB x 1 10000)) ∧ On w w' := by
  have HG := Lib.hid hg
  obtain ⟨a, cap, rfl, hc⟩ := h
  obtain ⟨n, hn⟩ : ∃ n, n = zs.length := ⟨_, rfl⟩
  have HN := Lib.hid hn
  have HC := Lib.hid hc
  rw [← hn] at hq ⊢
  clear hc hn hg
  go_enter Tryd.func19, Tryd.ntmps19
  go_wp2_with fail
  go_loopw [9] (fun i wr => ∃ k : Nat, k ≤ n ∧ i = .int .i64 k ∧ AllTo (fun x => inB x 1 10000) zs k ∧ On w wr) (fun i _ => n - (intOf i).toNat)
  case atStart => exact ⟨0, Nat.zero_le _, rfl, allTo_zero _ _, On.refl _⟩
  case round =>
    obtain ⟨k, hk, rfl, hall, ho⟩ := hrel
    have HA := Lib.hid hall
    have g0 := (HG.out.on ho) 20 (by decide)
    have g1 := (HG.out.on ho) 21 (by decide)
    rw [show spans.getD 20 0 = 1 from rfl] at g0
    rw [show spans.getD 21 0 = 10000 from rfl] at g1
    have HO := Lib.hid ho
    clear hall
    by_cases hlt : k < n
    · have hlti : (k : Int) < (n : Int) := by omega
      obtain ⟨b, off, rfl, hb, hcell⟩ := HC.out (by rw [← HN.out]; omega)
      obtain ⟨z, hz⟩ : ∃ z, z = zs.getD k 0 := ⟨_, rfl⟩
      have hc1 := (ho.cell (p := ⟨b, off + k, none⟩) (by exact hb)).trans (hcell k (by rw [← HN.out]; exact hlt))
      rw [← hz] at hc1
      have z0 : 1 < wr.heap.size := World.block_lt_of_cell? wr _ g0
      have zb := ho.lts _ hb
      clear ho
      cases hin : inB z 1 10000 with
      | true =>
        have HS := Lib.hid (allTo_succ (p := fun x => inB x 1 10000) HA.out (by rw [← hz]; exact hin))
        clear hz hcell
        go_wp2_with fail
        refine wp_region_onh (by kernel_rfl) (by kernel_rfl) ?_
        repeat (refine rest_step (fun K hK => ?_); go_simp; first | (refine hK _ ?_; clear hK K) | (apply Exists.intro; refine ⟨fun v1 hv1 => ?_, hK _ ?_⟩; (first | with_reducible exact rfl | with_reducible exact ⟨rfl, rfl⟩ | with_reducible exact Calls.on_same hv1 (Arith.within _ _ _ _) | (obtain ⟨hc, hf⟩ := bcell hv1; go_simp; first | with_reducible exact rfl | with_reducible exact ⟨rfl, rfl⟩ | exact rfl | exact ⟨rfl, rfl⟩)); clear hK K))
        refine rest_nil ?_
        intro w5 h5
        go_wp2_with fail
        go_roundw
        case rel => exact ⟨k + 1, by omega, by go_num, HS.out, HO.out.trans h5⟩
        case measure => simp [intOf]; omega
      | false =>
        have en := Lib.hid (all_bad (p := fun x => inB x 1 10000) (zs := zs) (by rw [← HN.out]; exact hlt) (by rw [← hz]; exact hin))
        clear hz hcell
        go_wp2_with fail
        refine wp_region_onh (by kernel_rfl) (by kernel_rfl) ?_
        repeat (refine rest_step (fun K hK => ?_); go_simp; first | (refine hK _ ?_; clear hK K) | (apply Exists.intro; refine ⟨fun v1 hv1 => ?_, hK _ ?_⟩; (first | with_reducible exact rfl | with_reducible exact ⟨rfl, rfl⟩ | with_reducible exact Calls.on_same hv1 (Arith.within _ _ _ _) | (obtain ⟨hc, hf⟩ := bcell hv1; go_simp; first | with_reducible exact rfl | with_reducible exact ⟨rfl, rfl⟩ | exact rfl | exact ⟨rfl, rfl⟩)); clear hK K))
        refine rest_nil ?_
        intro w5 h5
        go_wp2_with fail
        go_ret
        exact ⟨ret_bool en.out.symm, HO.out.trans h5⟩
    · obtain rfl : k = n := by omega
      have en := Lib.hid (all_all (p := fun x => inB x 1 10000) (by rw [← HN.out]; exact HA.out))
      go_wp2_with fail
      go_ret
      exact ⟨ret_bool en.out.symm, HO.out⟩
theorem allows1_10 (z : Int) (b : Nat) (w : World) {cap : Nat} (hc : w.cell? ⟨b, 0, none⟩ = some (.int .i64 z)) (hg : SpanG w) :
    Calls Tryd.prog 19 #[.int .i64 10, .slice (some ⟨b, 0, none⟩) 1 cap] w fun e w' => e = .returned (.bool (inB z 1 10000)) ∧ On w w' := by
  refine (allows_10 _ [z] w (by simp) ⟨some ⟨b, 0, none⟩, cap, rfl, fun _ => ⟨b, 0, rfl, World.block_lt_of_cell? w _ hc, fun i hi => ?_⟩⟩ hg).mono ?_
  · obtain rfl : i = 0 := by simp at hi; exact hi
    exact hc
  · rintro e w' ⟨rfl, ho⟩
    exact ⟨ret_bool (by simp), ho⟩
set_option maxHeartbeats 1000000 in
theorem allows_11 (v : Value) (zs : List Int) (w : World) (hq : zs.length ≤ 1048576) (h : Ints w v zs) (hg : SpanG w) :
    Calls Tryd.prog 19 #[.int .i64 11, v] w fun e w' => e = .returned (.bool (zs.all fun x => inB x 1 20)) ∧ On w w' := by
  have HG := Lib.hid hg
  obtain ⟨a, cap, rfl, hc⟩ := h
  obtain ⟨n, hn⟩ : ∃ n, n = zs.length := ⟨_, rfl⟩
  have HN := Lib.hid hn
  have HC := Lib.hid hc
  rw [← hn] at hq ⊢
  clear hc hn hg
  go_enter Tryd.func19, Tryd.ntmps19
  go_wp2_with fail
  go_loopw [9] (fun i wr => ∃ k : Nat, k ≤ n ∧ i = .int .i64 k ∧ AllTo (fun x => inB x 1 20) zs k ∧ On w wr) (fun i _ => n - (intOf i).toNat)
  case atStart => exact ⟨0, Nat.zero_le _, rfl, allTo_zero _ _, On.refl _⟩
  case round =>
    obtain ⟨k, hk, rfl, hall, ho⟩ := hrel
    have HA := Lib.hid hall
    have g0 := (HG.out.on ho) 22 (by decide)
    have g1 := (HG.out.on ho) 23 (by decide)
    rw [show spans.getD 22 0 = 1 from rfl] at g0
    rw [show spans.getD 23 0 = 20 from rfl] at g1
    have HO := Lib.hid ho
    clear hall
    by_cases hlt : k < n
    · have hlti : (k : Int) < (n : Int) := by omega
      obtain ⟨b, off, rfl, hb, hcell⟩ := HC.out (by rw [← HN.out]; omega)
      obtain ⟨z, hz⟩ : ∃ z, z = zs.getD k 0 := ⟨_, rfl⟩
      have hc1 := (ho.cell (p := ⟨b, off + k, none⟩) (by exact hb)).trans (hcell k (by rw [← HN.out]; exact hlt))
      rw [← hz] at hc1
      have z0 : 1 < wr.heap.size := World.block_lt_of_cell? wr _ g0
      have zb := ho.lts _ hb
      clear ho
      cases hin : inB z 1 20 with
      | true =>
        have HS := Lib.hid (allTo_succ (p := fun x => inB x 1 20) HA.out (by rw [← hz]; exact hin))
        clear hz hcell
        go_wp2_with fail
        refine wp_region_onh (by kernel_rfl) (by kernel_rfl) ?_
        repeat (refine rest_step (fun K hK => ?_); go_simp; first | (refine hK _ ?_; clear hK K) | (apply Exists.intro; refine ⟨fun v1 hv1 => ?_, hK _ ?_⟩; (first | with_reducible exact rfl | with_reducible exact ⟨rfl, rfl⟩ | with_reducible exact Calls.on_same hv1 (Arith.within _ _ _ _) | (obtain ⟨hc, hf⟩ := bcell hv1; go_simp; first | with_reducible exact rfl | with_reducible exact ⟨rfl, rfl⟩ | exact rfl | exact ⟨rfl, rfl⟩)); clear hK K))
        refine rest_nil ?_
        intro w5 h5
        go_wp2_with fail
        go_roundw
        case rel => exact ⟨k + 1, by omega, by go_num, HS.out, HO.out.trans h5⟩
        case measure => simp [intOf]; omega
      | false =>
        have en := Lib.hid (all_bad (p := fun x => inB x 1 20) (zs := zs) (by rw [← HN.out]; exact hlt) (by rw [← hz]; exact hin))
        clear hz hcell
        go_wp2_with fail
        refine wp_region_onh (by kernel_rfl) (by kernel_rfl) ?_
        repeat (refine rest_step (fun K hK => ?_); go_simp; first | (refine hK _ ?_; clear hK K) | (apply Exists.intro; refine ⟨fun v1 hv1 => ?_, hK _ ?_⟩; (first | with_reducible exact rfl | with_reducible exact ⟨rfl, rfl⟩ | with_reducible exact Calls.on_same hv1 (Arith.within _ _ _ _) | (obtain ⟨hc, hf⟩ := bcell hv1; go_simp; first | with_reducible exact rfl | with_reducible exact ⟨rfl, rfl⟩ | exact rfl | exact ⟨rfl, rfl⟩)); clear hK K))
        refine rest_nil ?_
        intro w5 h5
        go_wp2_with fail
        go_ret
        exact ⟨ret_bool en.out.symm, HO.out.trans h5⟩
    · obtain rfl : k = n := by omega
      have en := Lib.hid (all_all (p := fun x => inB x 1 20) (by rw [← HN.out]; exact HA.out))
      go_wp2_with fail
      go_ret
      exact ⟨ret_bool en.out.symm, HO.out⟩
theorem allows1_11 (z : Int) (b : Nat) (w : World) {cap : Nat} (hc : w.cell? ⟨b, 0, none⟩ = some (.int .i64 z)) (hg : SpanG w) :
    Calls Tryd.prog 19 #[.int .i64 11, .slice (some ⟨b, 0, none⟩) 1 cap] w fun e w' => e = .returned (.bool (inB z 1 20)) ∧ On w w' := by
  refine (allows_11 _ [z] w (by simp) ⟨some ⟨b, 0, none⟩, cap, rfl, fun _ => ⟨b, 0, rfl, World.block_lt_of_cell? w _ hc, fun i hi => ?_⟩⟩ hg).mono ?_
  · obtain rfl : i = 0 := by simp at hi; exact hi
    exact hc
  · rintro e w' ⟨rfl, ho⟩
    exact ⟨ret_bool (by simp), ho⟩
set_option maxHeartbeats 1000000 in
theorem allows_12 (v : Value) (zs : List Int) (w : World) (hq : zs.length ≤ 1048576) (h : Ints w v zs) (hg : SpanG w) :
    Calls Tryd.prog 19 #[.int .i64 12, v] w fun e w' => e = .returned (.bool (zs.all fun x => inB x 0 1000000)) ∧ On w w' := by
  have HG := Lib.hid hg
  obtain ⟨a, cap, rfl, hc⟩ := h
  obtain ⟨n, hn⟩ : ∃ n, n = zs.length := ⟨_, rfl⟩
  have HN := Lib.hid hn
  have HC := Lib.hid hc
  rw [← hn] at hq ⊢
  clear hc hn hg
  go_enter Tryd.func19, Tryd.ntmps19
  go_wp2_with fail
  go_loopw [9] (fun i wr => ∃ k : Nat, k ≤ n ∧ i = .int .i64 k ∧ AllTo (fun x => inB x 0 1000000) zs k ∧ On w wr) (fun i _ => n - (intOf i).toNat)
  case atStart => exact ⟨0, Nat.zero_le _, rfl, allTo_zero _ _, On.refl _⟩
  case round =>
    obtain ⟨k, hk, rfl, hall, ho⟩ := hrel
    have HA := Lib.hid hall
    have g0 := (HG.out.on ho) 24 (by decide)
    have g1 := (HG.out.on ho) 25 (by decide)
    rw [show spans.getD 24 0 = 0 from rfl] at g0
    rw [show spans.getD 25 0 = 1000000 from rfl] at g1
    have HO := Lib.hid ho
    clear hall
    by_cases hlt : k < n
    · have hlti : (k : Int) < (n : Int) := by omega
      obtain ⟨b, off, rfl, hb, hcell⟩ := HC.out (by rw [← HN.out]; omega)
      obtain ⟨z, hz⟩ : ∃ z, z = zs.getD k 0 := ⟨_, rfl⟩
      have hc1 := (ho.cell (p := ⟨b, off + k, none⟩) (by exact hb)).trans (hcell k (by rw [← HN.out]; exact hlt))
      rw [← hz] at hc1
      have z0 : 1 < wr.heap.size := World.block_lt_of_cell? wr _ g0
      have zb := ho.lts _ hb
      clear ho
      cases hin : inB z 0 1000000 with
      | true =>
        have HS := Lib.hid (allTo_succ (p := fun x => inB x 0 1000000) HA.out (by rw [← hz]; exact hin))
        clear hz hcell
        go_wp2_with fail
        refine wp_region_onh (by kernel_rfl) (by kernel_rfl) ?_
        repeat (refine rest_step (fun K hK => ?_); go_simp; first | (refine hK _ ?_; clear hK K) | (apply Exists.intro; refine ⟨fun v1 hv1 => ?_, hK _ ?_⟩; (first | with_reducible exact rfl | with_reducible exact ⟨rfl, rfl⟩ | with_reducible exact Calls.on_same hv1 (Arith.within _ _ _ _) | (obtain ⟨hc, hf⟩ := bcell hv1; go_simp; first | with_reducible exact rfl | with_reducible exact ⟨rfl, rfl⟩ | exact rfl | exact ⟨rfl, rfl⟩)); clear hK K))
        refine rest_nil ?_
        intro w5 h5
        go_wp2_with fail
        go_roundw
        case rel => exact ⟨k + 1, by omega, by go_num, HS.out, HO.out.trans h5⟩
        case measure => simp [intOf]; omega
      | false =>
        have en := Lib.hid (all_bad (p := fun x => inB x 0 1000000) (zs := zs) (by rw [← HN.out]; exact hlt) (by rw [← hz]; exact hin))
        clear hz hcell
        go_wp2_with fail
        refine wp_region_onh (by kernel_rfl) (by kernel_rfl) ?_
        repeat (refine rest_step (fun K hK => ?_); go_simp; first | (refine hK _ ?_; clear hK K) | (apply Exists.intro; refine ⟨fun v1 hv1 => ?_, hK _ ?_⟩; (first | with_reducible exact rfl | with_reducible exact ⟨rfl, rfl⟩ | with_reducible exact Calls.on_same hv1 (Arith.within _ _ _ _) | (obtain ⟨hc, hf⟩ := bcell hv1; go_simp; first | with_reducible exact rfl | with_reducible exact ⟨rfl, rfl⟩ | exact rfl | exact ⟨rfl, rfl⟩)); clear hK K))
        refine rest_nil ?_
        intro w5 h5
        go_wp2_with fail
        go_ret
        exact ⟨ret_bool en.out.symm, HO.out.trans h5⟩
    · obtain rfl : k = n := by omega
      have en := Lib.hid (all_all (p := fun x => inB x 0 1000000) (by rw [← HN.out]; exact HA.out))
      go_wp2_with fail
      go_ret
      exact ⟨ret_bool en.out.symm, HO.out⟩
theorem allows1_12 (z : Int) (b : Nat) (w : World) {cap : Nat} (hc : w.cell? ⟨b, 0, none⟩ = some (.int .i64 z)) (hg : SpanG w) :
    Calls Tryd.prog 19 #[.int .i64 12, .slice (some ⟨b, 0, none⟩) 1 cap] w fun e w' => e = .returned (.bool (inB z 0 1000000)) ∧ On w w' := by
  refine (allows_12 _ [z] w (by simp) ⟨some ⟨b, 0, none⟩, cap, rfl, fun _ => ⟨b, 0, rfl, World.block_lt_of_cell? w _ hc, fun i hi => ?_⟩⟩ hg).mono ?_
  · obtain rfl : i = 0 := by simp at hi; exact hi
    exact hc
  · rintro e w' ⟨rfl, ho⟩
    exact ⟨ret_bool (by simp), ho⟩
set_option maxHeartbeats 1000000 in
theorem allows_13 (v : Value) (zs : List Int) (w : World) (hq : zs.length ≤ 1048576) (h : Ints w v zs) (hg : SpanG w) :
    Calls Tryd.prog 19 #[.int .i64 13, v] w fun e w' => e = .returned (.bool (zs.all fun x => inB x 25 400)) ∧ On w w' := by
  have HG := Lib.hid hg
  obtain ⟨a, cap, rfl, hc⟩ := h
  obtain ⟨n, hn⟩ : ∃ n, n = zs.length := ⟨_, rfl⟩
  have HN := Lib.hid hn
  have HC := Lib.hid hc
  rw [← hn] at hq ⊢
  clear hc hn hg
  go_enter Tryd.func19, Tryd.ntmps19
  go_wp2_with fail
  go_loopw [9] (fun i wr => ∃ k : Nat, k ≤ n ∧ i = .int .i64 k ∧ AllTo (fun x => inB x 25 400) zs k ∧ On w wr) (fun i _ => n - (intOf i).toNat)
  case atStart => exact ⟨0, Nat.zero_le _, rfl, allTo_zero _ _, On.refl _⟩
  case round =>
    obtain ⟨k, hk, rfl, hall, ho⟩ := hrel
    have HA := Lib.hid hall
    have g0 := (HG.out.on ho) 26 (by decide)
    have g1 := (HG.out.on ho) 27 (by decide)
    rw [show spans.getD 26 0 = 25 from rfl] at g0
    rw [show spans.getD 27 0 = 400 from rfl] at g1
    have HO := Lib.hid ho
    clear hall
    by_cases hlt : k < n
    · have hlti : (k : Int) < (n : Int) := by omega
      obtain ⟨b, off, rfl, hb, hcell⟩ := HC.out (by rw [← HN.out]; omega)
      obtain ⟨z, hz⟩ : ∃ z, z = zs.getD k 0 := ⟨_, rfl⟩
      have hc1 := (ho.cell (p := ⟨b, off + k, none⟩) (by exact hb)).trans (hcell k (by rw [← HN.out]; exact hlt))
      rw [← hz] at hc1
      have z0 : 1 < wr.heap.size := World.block_lt_of_cell? wr _ g0
      have zb := ho.lts _ hb
      clear ho
      cases hin : inB z 25 400 with
      | true =>
        have HS := Lib.hid (allTo_succ (p := fun x => inB x 25 400) HA.out (by rw [← hz]; exact hin))
        clear hz hcell
        go_wp2_with fail
        refine wp_region_onh (by kernel_rfl) (by kernel_rfl) ?_
        repeat (refine rest_step (fun K hK => ?_); go_simp; first | (refine hK _ ?_; clear hK K) | (apply Exists.intro; refine ⟨fun v1 hv1 => ?_, hK _ ?_⟩; (first | with_reducible exact rfl | with_reducible exact ⟨rfl, rfl⟩ | with_reducible exact Calls.on_same hv1 (Arith.within _ _ _ _) | (obtain ⟨hc, hf⟩ := bcell hv1; go_simp; first | with_reducible exact rfl | with_reducible exact ⟨rfl, rfl⟩ | exact rfl | exact ⟨rfl, rfl⟩)); clear hK K))
        refine rest_nil ?_
        intro w5 h5
        go_wp2_with fail
        go_roundw
        case rel => exact ⟨k + 1, by omega, by go_num, HS.out, HO.out.trans h5⟩
        case measure => simp [intOf]; omega
      | false =>
        have en := Lib.hid (all_bad (p := fun x => inB x 25 400) (zs := zs) (by rw [← HN.out]; exact hlt) (by rw [← hz]; exact hin))
        clear hz hcell
        go_wp2_with fail
        refine wp_region_onh (by kernel_rfl) (by kernel_rfl) ?_
        repeat (refine rest_step (fun K hK => ?_); go_simp; first | (refine hK _ ?_; clear hK K) | (apply Exists.intro; refine ⟨fun v1 hv1 => ?_, hK _ ?_⟩; (first | with_reducible exact rfl | with_reducible exact ⟨rfl, rfl⟩ | with_reducible exact Calls.on_same hv1 (Arith.within _ _ _ _) | (obtain ⟨hc, hf⟩ := bcell hv1; go_simp; first | with_reducible exact rfl | with_reducible exact ⟨rfl, rfl⟩ | exact rfl | exact ⟨rfl, rfl⟩)); clear hK K))
        refine rest_nil ?_
        intro w5 h5
        go_wp2_with fail
        go_ret
        exact ⟨ret_bool en.out.symm, HO.out.trans h5⟩
    · obtain rfl : k = n := by omega
      have en := Lib.hid (all_all (p := fun x => inB x 25 400) (by rw [← HN.out]; exact HA.out))
      go_wp2_with fail
      go_ret
      exact ⟨ret_bool en.out.symm, HO.out⟩
theorem allows1_13 (z : Int) (b : Nat) (w : World) {cap : Nat} (hc : w.cell? ⟨b, 0, none⟩ = some (.int .i64 z)) (hg : SpanG w) :
    Calls Tryd.prog 19 #[.int .i64 13, .slice (some ⟨b, 0, none⟩) 1 cap] w fun e w' => e = .returned (.bool (inB z 25 400)) ∧ On w w' := by
  refine (allows_13 _ [z] w (by simp) ⟨some ⟨b, 0, none⟩, cap, rfl, fun _ => ⟨b, 0, rfl, World.block_lt_of_cell? w _ hc, fun i hi => ?_⟩⟩ hg).mono ?_
  · obtain rfl : i = 0 := by simp at hi; exact hi
    exact hc
  · rintro e w' ⟨rfl, ho⟩
    exact ⟨ret_bool (by simp), ho⟩
set_option maxHeartbeats 1000000 in
theorem allows_14 (v : Value) (zs : List Int) (w : World) (hq : zs.length ≤ 1048576) (h : Ints w v zs) (hg : SpanG w) :
    Calls Tryd.prog 19 #[.int .i64 14, v] w fun e w' => e = .returned (.bool (zs.all fun x => inB x 0 100000)) ∧ On w w' := by
  have HG := Lib.hid hg
  obtain ⟨a, cap, rfl, hc⟩ := h
  obtain ⟨n, hn⟩ : ∃ n, n = zs.length := ⟨_, rfl⟩
  have HN := Lib.hid hn
  have HC := Lib.hid hc
  rw [← hn] at hq ⊢
  clear hc hn hg
  go_enter Tryd.func19, Tryd.ntmps19
  go_wp2_with fail
  go_loopw [9] (fun i wr => ∃ k : Nat, k ≤ n ∧ i = .int .i64 k ∧ AllTo (fun x => inB x 0 100000) zs k ∧ On w wr) (fun i _ => n - (intOf i).toNat)
  case atStart => exact ⟨0, Nat.zero_le _, rfl, allTo_zero _ _, On.refl _⟩
  case round =>
    obtain ⟨k, hk, rfl, hall, ho⟩ := hrel
    have HA := Lib.hid hall
    have g0 := (HG.out.on ho) 28 (by decide)
    have g1 := (HG.out.on ho) 29 (by decide)
    rw [show spans.getD 28 0 = 0 from rfl] at g0
    rw [show spans.getD 29 0 = 100000 from rfl] at g1
    have HO := Lib.hid ho
    clear hall
    by_cases hlt : k < n
    · have hlti : (k : Int) < (n : Int) := by omega
      obtain ⟨b, off, rfl, hb, hcell⟩ := HC.out (by rw [← HN.out]; omega)
      obtain ⟨z, hz⟩ : ∃ z, z = zs.getD k 0 := ⟨_, rfl⟩
      have hc1 := (ho.cell (p := ⟨b, off + k, none⟩) (by exact hb)).trans (hcell k (by rw [← HN.out]; exact hlt))
      rw [← hz] at hc1
      have z0 : 1 < wr.heap.size := World.block_lt_of_cell? wr _ g0
      have zb := ho.lts _ hb
      clear ho
      cases hin : inB z 0 100000 with
      | true =>
        have HS := Lib.hid (allTo_succ (p := fun x => inB x 0 100000) HA.out (by rw [← hz]; exact hin))
        clear hz hcell
        go_wp2_with fail
        refine wp_region_onh (by kernel_rfl) (by kernel_rfl) ?_
        repeat (refine rest_step (fun K hK => ?_); go_simp; first | (refine hK _ ?_; clear hK K) | (apply Exists.intro; refine ⟨fun v1 hv1 => ?_, hK _ ?_⟩; (first | with_reducible exact rfl | with_reducible exact ⟨rfl, rfl⟩ | with_reducible exact Calls.on_same hv1 (Arith.within _ _ _ _) | (obtain ⟨hc, hf⟩ := bcell hv1; go_simp; first | with_reducible exact rfl | with_reducible exact ⟨rfl, rfl⟩ | exact rfl | exact ⟨rfl, rfl⟩)); clear hK K))
        refine rest_nil ?_
        intro w5 h5
        go_wp2_with fail
        go_roundw
        case rel => exact ⟨k + 1, by omega, by go_num, HS.out, HO.out.trans h5⟩
        case measure => simp [intOf]; omega
      | false =>
        have en := Lib.hid (all_bad (p := fun x => inB x 0 100000) (zs := zs) (by rw [← HN.out]; exact hlt) (by rw [← hz]; exact hin))
        clear hz hcell
        go_wp2_with fail
        refine wp_region_onh (by kernel_rfl) (by kernel_rfl) ?_
        repeat (refine rest_step (fun K hK => ?_); go_simp; first | (refine hK _ ?_; clear hK K) | (apply Exists.intro; refine ⟨fun v1 hv1 => ?_, hK _ ?_⟩; (first | with_reducible exact rfl | with_reducible exact ⟨rfl, rfl⟩ | with_reducible exact Calls.on_same hv1 (Arith.within _ _ _ _) | (obtain ⟨hc, hf⟩ := bcell hv1; go_simp; first | with_reducible exact rfl | with_reducible exact ⟨rfl, rfl⟩ | exact rfl | exact ⟨rfl, rfl⟩)); clear hK K))
        refine rest_nil ?_
        intro w5 h5
        go_wp2_with fail
        go_ret
        exact ⟨ret_bool en.out.symm, HO.out.trans h5⟩
    · obtain rfl : k = n := by omega
      have en := Lib.hid (all_all (p := fun x => inB x 0 100000) (by rw [← HN.out]; exact HA.out))
      go_wp2_with fail
      go_ret
      exact ⟨ret_bool en.out.symm, HO.out⟩
theorem allows1_14 (z : Int) (b : Nat) (w : World) {cap : Nat} (hc : w.cell? ⟨b, 0, none⟩ = some (.int .i64 z)) (hg : SpanG w) :
    Calls Tryd.prog 19 #[.int .i64 14, .slice (some ⟨b, 0, none⟩) 1 cap] w fun e w' => e = .returned (.bool (inB z 0 100000)) ∧ On w w' := by
  refine (allows_14 _ [z] w (by simp) ⟨some ⟨b, 0, none⟩, cap, rfl, fun _ => ⟨b, 0, rfl, World.block_lt_of_cell? w _ hc, fun i hi => ?_⟩⟩ hg).mono ?_
  · obtain rfl : i = 0 := by simp at hi; exact hi
    exact hc
  · rintro e w' ⟨rfl, ho⟩
    exact ⟨ret_bool (by simp), ho⟩
end Go.Proofs.YtednfkjdidlenaaDoor.Span
