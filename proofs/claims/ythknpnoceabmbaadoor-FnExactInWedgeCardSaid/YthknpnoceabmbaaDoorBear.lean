
/-
  What the directions from a point to another one are, in the model and in the program. Condition: the program's variable of sines holds what its text lays.
-/
import Derived.Test.YthknpnoceabmbaaDoorReach
import Derived.Test.YthknpnoceabmbaaDoorPoint
namespace Go.Proofs.YthknpnoceabmbaaDoor.Bear
open Go.RowKit
open Plain
open Sine (TabG TabAt)
open _root_.Go.Proofs.YthknpnoceabmbaaDoor.Reach
open Point

def firstF (p : Nat → Bool) : Nat → Nat → Nat
  | 0, k => k
  | f + 1, k => if p k = true then k else firstF p f (k + 1)
theorem firstF_spec (p : Nat → Bool) (N : Nat) : ∀ f k, k + f = N → (k = 0 ∨ p (k - 1) = false) → firstF p f k ≤ N ∧ (firstF p f k = 0 ∨ p (firstF p f k - 1) = false) ∧ (firstF p f k = N ∨ p (firstF p f k) = true)
  | 0, k, h, h0 => by
    unfold firstF
    exact ⟨by omega, h0, .inl (by omega)⟩
  | f + 1, k, h, h0 => by
    unfold firstF
    split
    · rename_i hp
      exact ⟨by omega, h0, .inr hp⟩
    · rename_i hp
      exact firstF_spec p N f (k + 1) (by omega) (.inr (by simpa using hp))
/-- How many steps the search takes in the way's quarter. -/
def steps (e n : Int) : Nat := firstF (fallB e n (Plain.start e n)) 90 0
theorem steps_spec (e n : Int) : steps e n ≤ 90 ∧ (steps e n = 0 ∨ fallB e n (Plain.start e n) (steps e n - 1) = false) ∧ (steps e n = 90 ∨ fallB e n (Plain.start e n) (steps e n) = true) := firstF_spec _ 90 90 0 rfl (.inl rfl)
theorem fall_mono {e n : Int} {k j : Nat} (h : fallB e n (Plain.start e n) k = true) (hj : k + j < 90) : fallB e n (Plain.start e n) (k + j) = true := by
  have h1 := fall_yes h
  rw [Nat.add_assoc, reach_start e n (by omega), reach_start e n (by omega)] at h1
  have h2 := G_down (len_pos e n).1 h1 j hj
  refine decide_eq_true ?_
  rw [Nat.add_assoc, reach_start e n (by omega), reach_start e n (by omega)]
  exact h2
theorem found_steps {e n : Int} {m : Nat} (h0 : m ≤ 90) (h1 : m = 0 ∨ fallB e n (Plain.start e n) (m - 1) = false) (h2 : m = 90 ∨ fallB e n (Plain.start e n) m = true) : m = steps e n := by
  obtain ⟨s0, s1, s2⟩ := steps_spec e n
  rcases Nat.lt_trichotomy m (steps e n) with h | h | h
  · exfalso
    have hm : fallB e n (Plain.start e n) m = true := by
      rcases h2 with h2 | h2
      · omega
      · exact h2
    have hm2 : fallB e n (Plain.start e n) (steps e n - 1) = false := by
      rcases s1 with s1 | s1
      · omega
      · exact s1
    have := fall_mono hm (j := steps e n - 1 - m) (by omega)
    rw [show m + (steps e n - 1 - m) = steps e n - 1 from by omega, hm2] at this
    cases this
  · exact h
  · exfalso
    have hm : fallB e n (Plain.start e n) (steps e n) = true := by
      rcases s2 with s2 | s2
      · omega
      · exact s2
    have hm2 : fallB e n (Plain.start e n) (m - 1) = false := by
      rcases h1 with h1 | h1
      · omega
      · exact h1
    have := fall_mono hm (j := m - 1 - steps e n) (by omega)
    rw [show steps e n + (m - 1 - steps e n) = m - 1 from by omega, hm2] at this
    cases this
theorem start_le (e n : Int) : Plain.start e n ≤ 270 := by unfold Plain.start; split <;> (try split) <;> (try split) <;> omega
/-- The direction that the search finds. -/
def peak (e n : Int) : Nat := Plain.start e n + steps e n
theorem peak_le (e n : Int) : peak e n ≤ 360 := by have := start_le e n; have := (steps_spec e n).1; unfold peak; omega
theorem bearing_peak (e n : Int) : (if reach e n (peak e n) ≤ reach e n 0 then 0 else peak e n) = bearing e n := by
  obtain ⟨s0, s1, s2⟩ := steps_spec e n
  refine isBearing_unique (isBearing_of s0 ?_ ?_) (isBearing_bearing e n)
  · rcases s1 with s1 | s1
    · exact .inl s1
    · by_cases h : steps e n = 0
      · exact .inl h
      · have := fall_no s1
        rw [show Plain.start e n + (steps e n - 1) + 1 = Plain.start e n + steps e n from by omega] at this
        exact .inr this
  · rcases s2 with s2 | s2
    · exact .inl s2
    · exact .inr (fall_yes s2)
theorem impl_peakFrom (e n : Int) (w : World) (e0 : -1000000 ≤ e) (e1 : e ≤ 1000000) (n0 : -1000000 ≤ n) (n1 : n ≤ 1000000) (ht : TabG w) :
    Calls Tryd.prog 33 #[.int .i64 (Plain.start e n : Nat), .func (Fn.func 35) #[.agg #[.int .i64 e, .int .i64 n]] #[]] w fun x w' => x = .returned (.int .i64 (peak e n : Nat)) ∧ On w w' := by
  obtain ⟨s, hs⟩ : ∃ s, s = Plain.start e n := ⟨_, rfl⟩
  have hsl := start_le e n
  obtain ⟨p, hp⟩ : ∃ p, p = peak e n := ⟨_, rfl⟩
  rw [← hs] at hsl
  rw [← hs, ← hp]
  have HP := Lib.hid hp
  have HSS := Lib.hid hs
  have HT := Lib.hid ht
  clear hs hp ht
  go_enter Tryd.func33, Tryd.ntmps33
  go_wp2_with fail
  refine (impl_search e n s w.heap.size _ e0 e1 n0 n1 hsl (TabAt.on HT.out (by repeat (first | exact On.refl _ | apply On.alloc))) ⟨by simp [go_sem], by simp [go_sem]⟩).mono ?_
  rintro x w1 ⟨m, hm, rfl, f1, f2, h1⟩
  obtain ⟨hc1, hf1⟩ := bcell h1
  have HM := Lib.hid (show s + m = p by rw [HP.out]; unfold peak; rw [HSS.out] at f1 f2; rw [← found_steps hm f1 f2, HSS.out])
  clear f1 f2
  go_wp2_with fail
  go_ret
  exact ⟨ret_int (by rw [← HM.out]; rfl), by repeat (first | exact On.refl _ | apply On.alloc | refine On.trans ?_ h1)⟩
end Go.Proofs.YthknpnoceabmbaaDoor.Bear
