
/-
  What the quarter of a way is, and how far it leads in a direction. Conditions: the size of the way; the program's variable of sines holds what its text lays.
-/
import Derived.Test.YthknpnoceabmbaaDoorSine
namespace Go.Proofs.YthknpnoceabmbaaDoor.Reach
open Go.RowKit
open Plain
open Sine (TabG)

theorem start_1 {e n : Int} (h1 : 0 ≤ e) (h2 : 0 ≤ n) : Plain.start e n = 0 := if_pos ⟨h1, h2⟩
theorem start_2 {e n : Int} (h1 : 0 ≤ e) (h2 : n < 0) : Plain.start e n = 90 := by unfold Plain.start; rw [if_neg (by omega), if_pos h1]
theorem start_3 {e n : Int} (h1 : e < 0) (h2 : n ≤ 0) : Plain.start e n = 180 := by unfold Plain.start; rw [if_neg (by omega), if_neg (by omega), if_pos h2]
theorem start_4 {e n : Int} (h1 : e < 0) (h2 : 0 < n) : Plain.start e n = 270 := by unfold Plain.start; rw [if_neg (by omega), if_neg (by omega), if_neg (by omega)]
theorem impl_quarter (e n : Int) (w : World) :
    Calls Tryd.prog 34 #[.agg #[.int .i64 e, .int .i64 n]] w fun x w' => x = .returned (.int .i64 (Plain.start e n : Nat)) ∧ On w w' := by
  by_cases h1 : 0 ≤ e
  · by_cases h2 : 0 ≤ n
    · have H := Lib.hid (start_1 h1 h2)
      go_enter Tryd.func34, Tryd.ntmps34
      go_wp2
      go_ret
      exact ⟨ret_int (by rw [H.out]; rfl), by repeat (first | exact On.refl _ | apply On.alloc)⟩
    · have h2' : n < 0 := by omega
      have H := Lib.hid (start_2 h1 h2')
      go_enter Tryd.func34, Tryd.ntmps34
      go_wp2
      go_ret
      exact ⟨ret_int (by rw [H.out]; rfl), by repeat (first | exact On.refl _ | apply On.alloc)⟩
  · have h1' : e < 0 := by omega
    by_cases h2 : n ≤ 0
    · have H := Lib.hid (start_3 h1' h2)
      go_enter Tryd.func34, Tryd.ntmps34
      go_wp2
      go_ret
      exact ⟨ret_int (by rw [H.out]; rfl), by repeat (first | exact On.refl _ | apply On.alloc)⟩
    · have h2' : 0 < n := by omega
      have H := Lib.hid (start_4 h1' h2')
      go_enter Tryd.func34, Tryd.ntmps34
      go_wp2
      go_ret
      exact ⟨ret_int (by rw [H.out]; rfl), by repeat (first | exact On.refl _ | apply On.alloc)⟩
theorem prod_bd2 {a s : Int} (h1 : -1000000 ≤ a) (h2 : a ≤ 1000000) (s1 : -1000000 ≤ s) (s2 : s ≤ 1000000) : -1000000000000 ≤ a * s ∧ a * s ≤ 1000000000000 := by
  have p1 : (1000000 - a) * (1000000 + s) ≥ 0 := Int.mul_nonneg (by omega) (by omega)
  have p2 : (1000000 + a) * (1000000 - s) ≥ 0 := Int.mul_nonneg (by omega) (by omega)
  have p3 : (1000000 - a) * (1000000 - s) ≥ 0 := Int.mul_nonneg (by omega) (by omega)
  have p4 : (1000000 + a) * (1000000 + s) ≥ 0 := Int.mul_nonneg (by omega) (by omega)
  rw [Int.sub_mul, Int.mul_add, Int.mul_add] at p1
  rw [Int.add_mul, Int.mul_sub, Int.mul_sub] at p2
  rw [Int.sub_mul, Int.mul_sub, Int.mul_sub] at p3
  rw [Int.add_mul, Int.mul_add, Int.mul_add] at p4
  omega
theorem sine_nat (d : Nat) : sine (d : Int) = sinN (d % 360) ∧ cosine (d : Int) = cosN (d % 360) := by
  have : deg (d : Int) = d % 360 := by unfold deg; omega
  unfold sine cosine
  rw [this]
  exact ⟨rfl, rfl⟩
set_option maxHeartbeats 1000000 in
theorem impl_reach (e n : Int) (d : Nat) (w : World) (e0 : -1000000 ≤ e) (e1 : e ≤ 1000000) (n0 : -1000000 ≤ n) (n1 : n ≤ 1000000) (ht : TabG w) :
    Calls Tryd.prog 35 #[.agg #[.int .i64 e, .int .i64 n], .int .i64 d] w fun x w' => x = .returned (.int .i64 (reach e n d)) ∧ On w w' := by
  obtain ⟨q1, q2⟩ := sine_nat d
  obtain ⟨s0, s1⟩ := sine_bd (d : Int)
  obtain ⟨c0, c1⟩ := cosine_bd (d : Int)
  obtain ⟨p0, p1⟩ := prod_bd2 e0 e1 s0 s1
  obtain ⟨r0, r1⟩ := prod_bd2 n0 n1 c0 c1
  have HR := Lib.hid (show e * sine d + n * cosine d = reach e n d by unfold reach; rw [q1, q2])
  have HS := Lib.hid (fun (w1 : World) (h : On w w1) => Sine.impl_sine (d : Int) w1 (Sine.TabAt.on ht h))
  have HC := Lib.hid (fun (w1 : World) (h : On w w1) => Sine.impl_cosine (d : Int) w1 (Sine.TabAt.on ht h))
  clear q1 q2 ht
  have f1 : IntKind.i64.wrap (e * sine d) = e * sine d := IntWalk.i64_in _ (by omega)
  have f2 : IntKind.i64.wrap (n * cosine d) = n * cosine d := IntWalk.i64_in _ (by omega)
  have f3 : IntKind.i64.wrap (e * sine d + n * cosine d) = e * sine d + n * cosine d := IntWalk.i64_in _ (by omega)
  go_enter Tryd.func35, Tryd.ntmps35
  go_wp2_with fail
  refine wp_region_on (by kernel_rfl) (by kernel_rfl) ?_
  repeat (refine wpQuiet_step (fun K hK => ?_); go_simp; first | (refine hK _ ?_; clear hK K) | (apply Exists.intro; refine ⟨fun v1 hv1 => ?_, hK _ ?_⟩; (first | with_reducible exact rfl | with_reducible exact ⟨rfl, rfl⟩ | with_reducible exact Calls.on_same hv1 (HS.out _ (On.trans (On.alloc (On.refl _) _) hv1)) | with_reducible exact Calls.on_same hv1 (HC.out _ (On.trans (On.alloc (On.refl _) _) hv1)) | (obtain ⟨hc, hf⟩ := bcell hv1; go_simp; first | exact rfl | exact ⟨rfl, rfl⟩)); clear hK K))
  refine wpQuiet_nil ?_
  intro w1 h1
  go_wp2_with fail
  go_ret
  exact ⟨ret_int HR.out, by repeat (first | exact On.refl _ | apply On.alloc | refine On.trans ?_ h1)⟩
/-- What the search is told of a direction: whether the reach falls behind it. -/
def fallB (e n : Int) (s k : Nat) : Bool := decide (reach e n (s + k + 1) ≤ reach e n (s + k))
theorem fall_yes {e n : Int} {s k : Nat} (h : fallB e n s k = true) : reach e n (s + k + 1) ≤ reach e n (s + k) := of_decide_eq_true h
theorem fall_no {e n : Int} {s k : Nat} (h : fallB e n s k = false) : reach e n (s + k) < reach e n (s + k + 1) := by have := of_decide_eq_false h; omega
/-- What a closure of the search finds in memory: the first direction, and the way's method. -/
def Clo (w : World) (b : Nat) (s : Nat) (e n : Int) : Prop := w.cell? ⟨b, 0, none⟩ = some (.int .i64 s) ∧ w.cell? ⟨b + 1, 0, none⟩ = some (.func (Fn.func 35) #[.agg #[.int .i64 e, .int .i64 n]] #[])
theorem Clo.on {w w' : World} {b s : Nat} {e n : Int} (h : Clo w b s e n) (ho : On w w') : Clo w' b s e n :=
  ⟨(ho.cell (World.block_lt_of_cell? w _ h.1)).trans h.1, (ho.cell (World.block_lt_of_cell? w _ h.2)).trans h.2⟩
set_option maxHeartbeats 1000000 in
theorem impl_closure (e n : Int) (s k b : Nat) (w : World) (e0 : -1000000 ≤ e) (e1 : e ≤ 1000000) (n0 : -1000000 ≤ n) (n1 : n ≤ 1000000) (hs : s ≤ 270) (hk : k ≤ 90) (ht : TabG w) (hb : Clo w b s e n) :
    Calls Tryd.prog 44 #[.int .i64 k, .pointer (some ⟨b, 0, none⟩), .pointer (some ⟨b + 1, 0, none⟩)] w fun x w' => x = .returned (.bool (fallB e n s k)) ∧ On w w' := by
  obtain ⟨c0, c1⟩ := hb
  have g0 := World.block_lt_of_cell? w _ c0
  have g1 := World.block_lt_of_cell? w _ c1
  have A0 := fun (w1 : World) (h : On w w1) => impl_reach e n (s + k + 1) w1 e0 e1 n0 n1 (Sine.TabAt.on ht h)
  have B0 := fun (w1 : World) (h : On w w1) => impl_reach e n (s + k) w1 e0 e1 n0 n1 (Sine.TabAt.on ht h)
  rw [show ((s + k + 1 : Nat) : Int) = (s : Int) + k + 1 from by omega] at A0
  rw [show ((s + k : Nat) : Int) = (s : Int) + k from by omega] at B0
  have HA := Lib.hid A0
  have HB := Lib.hid B0
  clear ht A0 B0
  have f1 : IntKind.i64.wrap ((s : Int) + k + 1) = (s : Int) + k + 1 := IntWalk.i64_in _ (by omega)
  go_enter Tryd.func44, Tryd.ntmps44
  go_wp2_with fail
  refine wp_region_on (by kernel_rfl) (by kernel_rfl) ?_
  repeat (refine wpQuiet_step (fun K hK => ?_); go_simp; first | (refine hK _ ?_; clear hK K) | (apply Exists.intro; refine ⟨fun v1 hv1 => ?_, hK _ ?_⟩; (first | with_reducible exact rfl | with_reducible exact ⟨rfl, rfl⟩ | with_reducible exact Calls.on hv1 (HA.out _ hv1) | with_reducible exact Calls.on hv1 (HB.out _ hv1) | (obtain ⟨hc, hf⟩ := bcell hv1; go_simp; first | exact rfl | exact ⟨rfl, rfl⟩ | with_reducible exact Calls.on hv1 (HA.out _ hv1) | with_reducible exact Calls.on hv1 (HB.out _ hv1))); clear hK K))
  refine wpQuiet_nil ?_
  intro w1 h1
  go_wp2_with fail
  go_ret
  exact ⟨rfl, h1⟩
def Found (e n : Int) (s : Nat) (W : World) (x : Ending) (w' : World) : Prop := ∃ m : Nat, m ≤ 90 ∧ x = .returned (.int .i64 m) ∧ (m = 0 ∨ fallB e n s (m - 1) = false) ∧ (m = 90 ∨ fallB e n s m = true) ∧ On W w'
def Bounds (e n : Int) (s i j : Nat) : Prop := i ≤ j ∧ j ≤ 90 ∧ (i = 0 ∨ fallB e n s (i - 1) = false) ∧ (j = 90 ∨ fallB e n s j = true)
set_option maxHeartbeats 1000000 in
theorem impl_search (e n : Int) (s b : Nat) (w : World) (e0 : -1000000 ≤ e) (e1 : e ≤ 1000000) (n0 : -1000000 ≤ n) (n1 : n ≤ 1000000) (hs : s ≤ 270) (ht : TabG w) (hb : Clo w b s e n) :
    Calls Tryd.prog 43 #[.int .i64 90, .func (Fn.func 44) #[] #[.pointer (some ⟨b, 0, none⟩), .pointer (some ⟨b + 1, 0, none⟩)]] w (Found e n s w) := by
  have HC := Lib.hid (fun (k : Nat) (hk : k ≤ 90) (w1 : World) (h : On w w1) => impl_closure e n s k b w1 e0 e1 n0 n1 hs hk (Sine.TabAt.on ht h) (hb.on h))
  clear ht hb
  go_enter Tryd.func43, Tryd.ntmps43
  go_wp2
  go_loopw [5, 6] (fun x y wr => ∃ i j : Nat, x = .int .i64 i ∧ y = .int .i64 j ∧ Bounds e n s i j ∧ On w wr) (fun x y _ => (intOf y - intOf x).toNat)
  case atStart => exact ⟨0, 90, rfl, rfl, ⟨by omega, by omega, .inl rfl, .inl rfl⟩, On.refl _⟩
  case round =>
    obtain ⟨i, j, rfl, rfl, ⟨b1, b2, b3, b4⟩, ho⟩ := hrel
    by_cases hlt : i < j
    · obtain ⟨m, hm⟩ : ∃ m, m = (i + j) / 2 := ⟨_, rfl⟩
      have m1 : i ≤ m := by omega
      have m2 : m < j := by omega
      have hmi : ((i : Int) + j) / 2 = m := by omega
      have HMI := Lib.hid hmi
      clear hm hmi
      cases hp : fallB e n s m with
      | true =>
        have HB := Lib.hid (show Bounds e n s i m from ⟨m1, by omega, b3, .inr hp⟩)
        have HM := Lib.hid (HC.out m (by omega) _ ho)
        rw [hp] at HM
        clear hp b3 b4
        go_wp2_with fail
        rw [HMI.out]
        refine HM.out.mono ?_
        rintro x w1 ⟨rfl, h1⟩
        go_wp2_with fail
        go_roundw
        case rel => exact ⟨i, m, rfl, by rw [← HMI.out], HB.out, ho.trans h1⟩
        case measure => simp [intOf]; omega
      | false =>
        have HB := Lib.hid (show Bounds e n s (m + 1) j from ⟨by omega, b2, .inr hp, b4⟩)
        have HM := Lib.hid (HC.out m (by omega) _ ho)
        rw [hp] at HM
        clear hp b3 b4
        go_wp2_with fail
        rw [HMI.out]
        refine HM.out.mono ?_
        rintro x w1 ⟨rfl, h1⟩
        go_wp2_with fail
        go_roundw
        case rel => exact ⟨m + 1, j, by go_num, rfl, HB.out, ho.trans h1⟩
        case measure => simp [intOf]; omega
    · obtain rfl : i = j := by omega
      have HF := Lib.hid (show Found e n s w (.returned (.int .i64 i)) wr from ⟨i, b2, rfl, b3, b4, ho⟩)
      clear b3 b4
      go_wp2
      go_ret
      exact HF.out
end Go.Proofs.YthknpnoceabmbaaDoor.Reach
