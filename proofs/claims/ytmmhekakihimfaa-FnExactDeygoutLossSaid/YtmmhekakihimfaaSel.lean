
/-
  The first best one of a run of values, with no program in it.
-/
import Derived.Test.YtmmhekakihimfaaProg
namespace Go.Proofs.Ytmmhekakihimfaa.Plain

/-- The index and the value of the first best one of val 1, .., val k; (0, 0) where k is 0. -/
def sel (b : Int → Int → Bool) (val : Nat → Int) : Nat → Nat × Int
  | 0 => (0, 0)
  | k + 1 => if k = 0 ∨ b (val (k + 1)) (sel b val k).2 = true then (k + 1, val (k + 1)) else sel b val k
theorem sel_take {b : Int → Int → Bool} {val : Nat → Int} {k : Nat} (h : k = 0 ∨ b (val (k + 1)) (sel b val k).2 = true) : sel b val (k + 1) = (k + 1, val (k + 1)) := if_pos h
theorem sel_keep {b : Int → Int → Bool} {val : Nat → Int} {k : Nat} (h : k ≠ 0) (g : b (val (k + 1)) (sel b val k).2 = false) : sel b val (k + 1) = sel b val k := if_neg (by rw [g]; rintro (h1 | h1); exact h h1; cases h1)
theorem sel_pos {b : Int → Int → Bool} {val : Nat → Int} : ∀ {k : Nat}, k ≠ 0 → 1 ≤ (sel b val k).1 ∧ (sel b val k).1 ≤ k ∧ (sel b val k).2 = val (sel b val k).1
  | 0, h => absurd rfl h
  | k + 1, _ => by
    rw [sel]
    split
    · exact ⟨by simp, by simp, rfl⟩
    · rename_i h
      have hk : k ≠ 0 := fun e => h (.inl e)
      obtain ⟨h1, h2, h3⟩ := sel_pos (b := b) (val := val) hk
      exact ⟨h1, by omega, h3⟩
/-- The index as the model bears it: -1 where there is none. -/
def selI (b : Int → Int → Bool) (val : Nat → Int) (k : Nat) : Int := if k = 0 then -1 else ((sel b val k).1 : Nat)
theorem selI_zero (b : Int → Int → Bool) (val : Nat → Int) : selI b val 0 = -1 := rfl
theorem selI_pos {b : Int → Int → Bool} {val : Nat → Int} {k : Nat} (h : k ≠ 0) : selI b val k = ((sel b val k).1 : Nat) := if_neg h
theorem selI_take {b : Int → Int → Bool} {val : Nat → Int} {k : Nat} (h : k = 0 ∨ b (val (k + 1)) (sel b val k).2 = true) : selI b val (k + 1) = (k : Int) + 1 := by rw [selI_pos (by omega), sel_take h]; rfl
theorem selI_keep {b : Int → Int → Bool} {val : Nat → Int} {k : Nat} (h : k ≠ 0) (g : b (val (k + 1)) (sel b val k).2 = false) : selI b val (k + 1) = selI b val k := by rw [selI_pos (by omega), selI_pos h, sel_keep h g]
theorem selI_neg {b : Int → Int → Bool} {val : Nat → Int} {k : Nat} : selI b val k < 0 ↔ k = 0 := by
  unfold selI
  split
  · omega
  · constructor
    · intro h; omega
    · intro h; omega
/-- Once nothing can be better, the best one stays. -/
theorem sel_stays {b : Int → Int → Bool} {val : Nat → Int} {k : Nat} (hk : k ≠ 0) (h : ∀ j, k < j → b (val j) (sel b val k).2 = false) : ∀ d, sel b val (k + d) = sel b val k
  | 0 => rfl
  | d + 1 => by
    have ih := sel_stays hk h d
    rw [← Nat.add_assoc, sel_keep (by omega) (by rw [ih]; exact h _ (by omega)), ih]
def lss (x y : Int) : Bool := decide (x < y)
def gtr (x y : Int) : Bool := decide (y < x)
end Go.Proofs.Ytmmhekakihimfaa.Plain
