
/-
  Plain facts on the first index with a property, and on properties of the first indices, with no program in them.
-/
import Derived.Test.YtofoffdmhekceaaProg
namespace Go.Proofs.Ytofoffdmhekceaa.Plain

def leadFrom (p : Nat → Bool) : Nat → Nat → Nat
  | 0, k => k
  | f + 1, k => if p k = true then leadFrom p f (k + 1) else k
/-- How many of the first n numbers from 0 on have p, up to the first one that has not. -/
def leadN (p : Nat → Bool) (n : Nat) : Nat := leadFrom p n 0
theorem leadFrom_at (p : Nat → Bool) (g : Nat) : ∀ (d k : Nat), (∀ j, k ≤ j → j < k + d → p j = true) → (g = 0 ∨ p (k + d) = false) → leadFrom p (d + g) k = k + d
  | 0, k, _, e => by
    rcases e with rfl | e
    · rfl
    · cases g with
      | zero => rfl
      | succ g => rw [Nat.zero_add, leadFrom, if_neg (by rw [Nat.add_zero] at e; rw [e]; decide)]; rfl
  | d + 1, k, h, e => by
    have h1 := leadFrom_at p g d (k + 1) (fun j hj hj2 => h j (by omega) (by omega)) (by rw [show k + 1 + d = k + (d + 1) by omega]; exact e)
    rw [show d + 1 + g = (d + g) + 1 by omega, leadFrom, if_pos (h k (Nat.le_refl _) (by omega)), h1]
    omega
theorem lead_at {p : Nat → Bool} {n k : Nat} (hk : k ≤ n) (h : ∀ j, j < k → p j = true) (e : k = n ∨ p k = false) : leadN p n = k := by
  have := leadFrom_at p (n - k) k 0 (fun j _ hj => h j (by omega)) (by rcases e with e | e; exact .inl (by omega); exact .inr (by rw [Nat.zero_add]; exact e))
  rw [show k + (n - k) = n by omega, Nat.zero_add] at this
  exact this
theorem leadFrom_le (p : Nat → Bool) : ∀ (f k : Nat), leadFrom p f k ≤ k + f
  | 0, k => Nat.le_refl _
  | f + 1, k => by
    rw [leadFrom]
    have := leadFrom_le p f (k + 1)
    split <;> omega
theorem lead_le (p : Nat → Bool) (n : Nat) : leadN p n ≤ n := by have := leadFrom_le p n 0; unfold leadN; omega
theorem leadFrom_spec (p : Nat → Bool) : ∀ (f k : Nat), k ≤ leadFrom p f k ∧ (∀ j, k ≤ j → j < leadFrom p f k → p j = true) ∧ (leadFrom p f k = k + f ∨ p (leadFrom p f k) = false)
  | 0, k => ⟨Nat.le_refl _, fun j h1 h2 => by unfold leadFrom at h2; omega, .inl rfl⟩
  | f + 1, k => by
    rw [leadFrom]
    obtain ⟨h1, h2, h3⟩ := leadFrom_spec p f (k + 1)
    split
    · rename_i hp
      refine ⟨by omega, fun j a b => ?_, by rcases h3 with h3 | h3; exact .inl (by omega); exact .inr h3⟩
      by_cases g : j = k
      · rw [g]; exact hp
      · exact h2 j (by omega) b
    · rename_i hp
      exact ⟨Nat.le_refl _, fun j a b => by omega, .inr (by cases h : p k with | true => exact absurd h hp | false => rfl)⟩
theorem lead_spec (p : Nat → Bool) (n : Nat) : (∀ j, j < leadN p n → p j = true) ∧ (leadN p n = n ∨ p (leadN p n) = false) := by
  obtain ⟨-, h2, h3⟩ := leadFrom_spec p n 0
  exact ⟨fun j hj => h2 j (Nat.zero_le _) hj, by rcases h3 with h3 | h3; exact .inl (by unfold leadN; omega); exact .inr h3⟩
/-- Once p fails it fails further on. -/
def Mono (p : Nat → Bool) (n : Nat) : Prop := ∀ i j, i ≤ j → j < n → p j = true → p i = true
/-- What a search by halving holds. -/
def Sb (p : Nat → Bool) (n i j : Nat) : Prop := i ≤ j ∧ j ≤ n ∧ (∀ k, k < i → p k = true) ∧ (j = n ∨ p j = false)
theorem sb_start (p : Nat → Bool) (n : Nat) : Sb p n 0 n := ⟨Nat.zero_le _, Nat.le_refl _, fun k h => by omega, .inl rfl⟩
theorem sb_hi {p : Nat → Bool} {n i j m : Nat} (h : Sb p n i j) (h1 : i ≤ m) (h2 : m < j) (e : p m = false) : Sb p n i m := ⟨h1, by have := h.2.1; omega, h.2.2.1, .inr e⟩
theorem sb_lo {p : Nat → Bool} {n i j m : Nat} (hu : Mono p n) (h : Sb p n i j) (h2 : m < j) (e : p m = true) : Sb p n (m + 1) j :=
  ⟨h2, h.2.1, fun k hk => hu k m (by omega) (by have := h.2.1; omega) e, h.2.2.2⟩
theorem sb_end {p : Nat → Bool} {n i : Nat} (h : Sb p n i i) : leadN p n = i := lead_at h.2.1 h.2.2.1 h.2.2.2

/-- The first n numbers from 0 on have p. -/
def AllN (p : Nat → Bool) (n : Nat) : Prop := ∀ i, i < n → p i = true
def allN (p : Nat → Bool) : Nat → Bool
  | 0 => true
  | n + 1 => allN p n && p n
theorem allN_zero (p : Nat → Bool) : AllN p 0 := fun i h => by omega
theorem allN_succ {p : Nat → Bool} {k : Nat} (h : AllN p k) (hk : p k = true) : AllN p (k + 1) := fun i hi => by
  by_cases g : i = k
  · rw [g]; exact hk
  · exact h i (by omega)
theorem allN_all {p : Nat → Bool} : ∀ {n : Nat}, AllN p n → allN p n = true
  | 0, _ => rfl
  | n + 1, h => by rw [allN, allN_all (fun i hi => h i (by omega)), h n (by omega)]; rfl
theorem of_allN {p : Nat → Bool} : ∀ {n : Nat}, allN p n = true → AllN p n
  | 0, _ => allN_zero p
  | n + 1, h => by rw [allN, Bool.and_eq_true] at h; exact allN_succ (of_allN h.1) h.2
theorem allN_bad {p : Nat → Bool} {n k : Nat} (hk : k < n) (h : p k = false) : allN p n = false := by
  cases e : allN p n with
  | false => rfl
  | true => have := of_allN e k hk; rw [h] at this; cases this
theorem allN_iff {p q : Nat → Bool} {n m : Nat} (h : AllN p n ↔ AllN q m) : allN p n = allN q m := by
  cases e : allN p n with
  | true => exact (allN_all (h.1 (of_allN e))).symm
  | false =>
    cases e2 : allN q m with
    | false => rfl
    | true => rw [allN_all (h.2 (of_allN e2))] at e; cases e
end Go.Proofs.Ytofoffdmhekceaa.Plain
