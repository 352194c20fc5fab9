
/-
  Plain facts on lists of things with names: rising names, the first one with a name. No condition.
-/
import Derived.Test.YtpnmodmaabhldaaGreatOn
namespace Go.Proofs.YtpnmodmaabhldaaGreat.Nam
open Go.RowKit

/-- p holds of all numbers below n. -/
def allTo (p : Nat → Bool) (n : Nat) : Bool := (List.range n).all p
def Upto (p : Nat → Bool) (k : Nat) : Prop := ∀ j, j < k → p j = true
theorem upto_zero (p : Nat → Bool) : Upto p 0 := fun _ h => by omega
theorem upto_succ {p : Nat → Bool} {k : Nat} (h : Upto p k) (hk : p k = true) : Upto p (k + 1) := fun j hj => by
  by_cases g : j = k
  · rw [g]; exact hk
  · exact h j (by omega)
theorem all_bad {p : Nat → Bool} {n k : Nat} (hk : k < n) (h : p k = false) : allTo p n = false := by
  unfold allTo
  refine List.all_eq_false.2 ⟨k, List.mem_range.2 hk, ?_⟩
  rw [h]; simp
theorem all_all {p : Nat → Bool} {n : Nat} (h : Upto p n) : allTo p n = true := List.all_eq_true.2 fun j hj => h j (List.mem_range.1 hj)
theorem of_all {p : Nat → Bool} {n : Nat} (h : allTo p n = true) : Upto p n := fun j hj => List.all_eq_true.1 h j (List.mem_range.2 hj)
theorem all_zero (p : Nat → Bool) : allTo p 0 = true := rfl

variable {α : Type}
/-- The k-th is valid, and its name above the one before. -/
def step (ok : α → Bool) (nm : α → ByteArray) (d : α) (zs : List α) (k : Nat) : Bool := ok (zs.getD k d) && (decide (k = 0) || Op.bytesLess (nm (zs.getD (k - 1) d)).toList (nm (zs.getD k d)).toList)
theorem step_no {ok : α → Bool} {nm : α → ByteArray} {d : α} {zs : List α} {k : Nat} {z : α} (hz : z = zs.getD k d) (g : ok z = false) : step ok nm d zs k = false := by unfold step; rw [← hz, g]; rfl
theorem step_zero {ok : α → Bool} {nm : α → ByteArray} {d : α} {zs : List α} {z : α} (hz : z = zs.getD 0 d) (g : ok z = true) : step ok nm d zs 0 = true := by unfold step; rw [← hz, g]; rfl
theorem step_succ {ok : α → Bool} {nm : α → ByteArray} {d : α} {zs : List α} {j : Nat} {z y : α} {b : Bool} (hz : z = zs.getD (j + 1) d) (hy : y = zs.getD j d) (g : ok z = true) (g2 : Op.bytesLess (nm y).toList (nm z).toList = b) : step ok nm d zs (j + 1) = b := by
  unfold step
  rw [show j + 1 - 1 = j from rfl, ← hz, ← hy, g, g2, decide_eq_false (by omega)]
  rfl
/-- All are valid, the names rise. -/
def allN (ok : α → Bool) (nm : α → ByteArray) (d : α) (zs : List α) : Bool := allTo (step ok nm d zs) zs.length
/-- .. and there are at most n. -/
def listN (n : Nat) (ok : α → Bool) (nm : α → ByteArray) (d : α) (zs : List α) : Bool := decide (zs.length ≤ n) && allN ok nm d zs
theorem list_long {n : Nat} {ok : α → Bool} {nm : α → ByteArray} {d : α} {zs : List α} (h : ¬ zs.length ≤ n) : listN n ok nm d zs = false := by unfold listN; rw [decide_eq_false h]; rfl
theorem list_short {n : Nat} {ok : α → Bool} {nm : α → ByteArray} {d : α} {zs : List α} (h : zs.length ≤ n) : listN n ok nm d zs = allN ok nm d zs := by unfold listN; rw [decide_eq_true h]; rfl

/-- The first number below n that has p, or -1. -/
def first (p : Nat → Bool) (n : Nat) : Int := match (List.range n).find? p with
  | some k => (k : Int)
  | none => -1
theorem first_at {p : Nat → Bool} {n k : Nat} (hk : k < n) (h : p k = true) (hb : ∀ j, j < k → p j = false) : first p n = (k : Int) := by
  have : (List.range n).find? p = some k := by
    rw [List.find?_range_eq_some]
    exact ⟨h, List.mem_range.2 hk, fun j hj => by rw [hb j hj]; rfl⟩
  unfold first; rw [this]
theorem first_none {p : Nat → Bool} {n : Nat} (h : ∀ j, j < n → p j = false) : first p n = -1 := by
  have : (List.range n).find? p = none := by
    rw [List.find?_eq_none]
    intro x hx hp
    rw [h x (List.mem_range.1 hx)] at hp
    cases hp
  unfold first; rw [this]
theorem first_or (p : Nat → Bool) (n : Nat) : (first p n = -1 ∧ ∀ j, j < n → p j = false) ∨ ∃ k, k < n ∧ first p n = (k : Int) ∧ p k = true ∧ ∀ j, j < k → p j = false := by
  induction n with
  | zero => exact .inl ⟨rfl, fun j h => by omega⟩
  | succ n ih =>
    rcases ih with ⟨_, h⟩ | ⟨k, hk, _, hp, hb⟩
    · cases g : p n with
      | true => exact .inr ⟨n, by omega, first_at (by omega) g h, g, h⟩
      | false =>
        have : ∀ j, j < n + 1 → p j = false := fun j hj => by
          by_cases e : j = n
          · rw [e]; exact g
          · exact h j (by omega)
        exact .inl ⟨first_none this, this⟩
    · exact .inr ⟨k, by omega, first_at (by omega) hp hb, hp, hb⟩
/-- The name of the k-th is x. -/
def is (nm : α → ByteArray) (d : α) (zs : List α) (x : ByteArray) (k : Nat) : Bool := (nm (zs.getD k d)).toList == x.toList
/-- Where the first one with the name is, or -1. -/
def find (nm : α → ByteArray) (d : α) (zs : List α) (x : ByteArray) : Int := first (is nm d zs x) zs.length
/-- There is one with the name. -/
def has (nm : α → ByteArray) (d : α) (zs : List α) (x : ByteArray) : Bool := decide (0 ≤ find nm d zs x)
theorem find_ge (nm : α → ByteArray) (d : α) (zs : List α) (x : ByteArray) : -1 ≤ find nm d zs x ∧ find nm d zs x < zs.length := by
  rcases first_or (is nm d zs x) zs.length with ⟨h, _⟩ | ⟨k, hk, h, _⟩
  · unfold find; rw [h]; omega
  · unfold find; rw [h]; omega
theorem has_yes {nm : α → ByteArray} {d : α} {zs : List α} {x : ByteArray} {k : Nat} (hk : k < zs.length) (h : is nm d zs x k = true) : has nm d zs x = true := by
  rcases first_or (is nm d zs x) zs.length with ⟨_, h2⟩ | ⟨k, hk, h2, _⟩
  · rw [h2 k hk] at h; cases h
  · unfold has find; rw [h2]; exact decide_eq_true (by omega)
theorem has_no {nm : α → ByteArray} {d : α} {zs : List α} {x : ByteArray} (h : ∀ k, k < zs.length → is nm d zs x k = false) : has nm d zs x = false := by
  unfold has find; rw [first_none h]; rfl
theorem of_has {nm : α → ByteArray} {d : α} {zs : List α} {x : ByteArray} (h : has nm d zs x = true) : ∃ k, k < zs.length ∧ is nm d zs x k = true := by
  rcases first_or (is nm d zs x) zs.length with ⟨h2, _⟩ | ⟨k, hk, _, h2, _⟩
  · unfold has find at h; rw [h2] at h; cases h
  · exact ⟨k, hk, h2⟩
/-- Of two texts one is less, or they are the same. -/
theorem less_or : ∀ a b : List UInt8, (Op.bytesLess b a || b == a) = !(Op.bytesLess a b)
  | [], [] => rfl
  | [], _ :: _ => rfl
  | _ :: _, [] => rfl
  | a :: x, b :: y => by
    have ih := less_or x y
    unfold Op.bytesLess
    by_cases h1 : a < b
    · have h2 : ¬ b < a := fun h => by simp [UInt8.lt_iff_toNat_lt] at h1 h; omega
      have h3 : (b == a) = false := beq_eq_false_iff_ne.2 (fun e => by subst e; exact absurd h1 (UInt8.lt_irrefl _))
      simp [h1, h2, h3]
    · by_cases h2 : b < a
      · have h3 : (a == b) = false := beq_eq_false_iff_ne.2 (fun e => by subst e; exact absurd h2 (UInt8.lt_irrefl _))
        simp [h1, h2, h3]
      · have h3 : a = b := by apply UInt8.toNat_inj.1; simp [UInt8.lt_iff_toNat_lt] at h1 h2; omega
        subst h3
        simpa [h1] using ih
end Go.Proofs.YtpnmodmaabhldaaGreat.Nam
