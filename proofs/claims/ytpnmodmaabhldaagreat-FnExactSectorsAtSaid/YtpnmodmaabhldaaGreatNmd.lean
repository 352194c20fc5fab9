
/-
  Names in order: what a comparison of texts says, and where a name stands among increasing names. No condition on the program.
-/
import Derived.Test.YtpnmodmaabhldaaGreatOn
import Derived.Lib.Strings
import Derived.Lib.Bytealg
namespace Go.Proofs.YtpnmodmaabhldaaGreat.Nmd
open Go.RowKit

theorem less_irrefl : ∀ a : List UInt8, Op.bytesLess a a = false
  | [] => rfl
  | a :: x => by unfold Op.bytesLess; simp [less_irrefl x, UInt8.lt_irrefl]
theorem less_trans : ∀ {a b c : List UInt8}, Op.bytesLess a b = true → Op.bytesLess b c = true → Op.bytesLess a c = true
  | _, [], _, h, _ => by simp [Op.bytesLess] at h
  | _, _ :: _, [], _, h => by simp [Op.bytesLess] at h
  | [], _ :: _, _ :: _, _, _ => rfl
  | a :: x, b :: y, c :: z, h1, h2 => by
    unfold Op.bytesLess at h1 h2 ⊢
    simp only [Bool.or_eq_true, Bool.and_eq_true, decide_eq_true_eq, beq_iff_eq] at h1 h2 ⊢
    rcases h1 with h1 | ⟨rfl, h1⟩
    · rcases h2 with h2 | ⟨rfl, h2⟩
      · left; simp [UInt8.lt_iff_toNat_lt] at h1 h2 ⊢; omega
      · left; exact h1
    · rcases h2 with h2 | ⟨rfl, h2⟩
      · left; exact h2
      · right; exact ⟨rfl, less_trans h1 h2⟩
theorem compare_less : ∀ a b : List UInt8, decide (Lib.compareBytes a b < 0) = Op.bytesLess a b
  | [], [] => rfl
  | [], _ :: _ => rfl
  | _ :: _, [] => rfl
  | a :: x, b :: y => by
    have ih := compare_less x y
    unfold Lib.compareBytes Op.bytesLess
    by_cases h1 : a < b
    · simp [h1]
    · by_cases h2 : b < a
      · have h3 : (a == b) = false := beq_eq_false_iff_ne.2 (fun e => by subst e; exact absurd h2 (UInt8.lt_irrefl _))
        simp [h1, h2, h3]
      · have h3 : a = b := by apply UInt8.toNat_inj.1; simp [UInt8.lt_iff_toNat_lt] at h1 h2; omega
        subst h3
        simpa [h1] using ih
theorem compare_eq : ∀ a b : List UInt8, decide (Lib.compareBytes a b = 0) = (a == b)
  | [], [] => rfl
  | [], _ :: _ => rfl
  | _ :: _, [] => rfl
  | a :: x, b :: y => by
    have ih := compare_eq x y
    unfold Lib.compareBytes
    by_cases h1 : a < b
    · have h3 : (a == b) = false := beq_eq_false_iff_ne.2 (fun e => by subst e; exact absurd h1 (UInt8.lt_irrefl _))
      simp [h1, h3]
    · by_cases h2 : b < a
      · have h3 : (a == b) = false := beq_eq_false_iff_ne.2 (fun e => by subst e; exact absurd h2 (UInt8.lt_irrefl _))
        simp [h1, h2, h3]
      · have h3 : a = b := by apply UInt8.toNat_inj.1; simp [UInt8.lt_iff_toNat_lt] at h1 h2; omega
        subst h3
        simpa [h1] using ih
def lt (x y : ByteArray) : Bool := Op.bytesLess x.toList y.toList
theorem toList_inj {x y : ByteArray} (h : x.toList = y.toList) : x = y := by
  rw [Lib.toList_data, Lib.toList_data] at h
  cases x; cases y; congr 1; exact Array.toList_inj.1 h
theorem beq_toList (x y : ByteArray) : (x.toList == y.toList) = decide (x = y) := by
  by_cases h : x = y
  · subst h; simp
  · rw [decide_eq_false h]; exact beq_eq_false_iff_ne.2 fun e => h (toList_inj e)
def cmp (x y : ByteArray) : Int := Lib.compareBytes x.data.toList y.data.toList
theorem cmp_lt (x y : ByteArray) : cmp x y < 0 ↔ lt x y = true := by
  unfold cmp lt; rw [Lib.toList_data, Lib.toList_data, ← compare_less]; simp
theorem cmp_zero (x y : ByteArray) : cmp x y = 0 ↔ x = y := by
  unfold cmp
  have := compare_eq x.data.toList y.data.toList
  rw [← Lib.toList_data, ← Lib.toList_data, beq_toList] at this
  rw [← Lib.toList_data, ← Lib.toList_data]
  simpa using this
/-- The first n names increase. -/
def Rise (nm : Nat → ByteArray) (n : Nat) : Prop := ∀ i j, i < j → j < n → lt (nm i) (nm j) = true
theorem rise_of {nm : Nat → ByteArray} {n : Nat} (h : ∀ k, k + 1 < n → lt (nm k) (nm (k + 1)) = true) : Rise nm n := by
  intro i j hij hj
  induction j with
  | zero => omega
  | succ j ih =>
    by_cases e : i = j
    · subst e; exact h i hj
    · exact less_trans (ih (by omega) (by omega)) (h j hj)
theorem Rise.inj {nm : Nat → ByteArray} {n i j : Nat} (h : Rise nm n) (hi : i < n) (hj : j < n) (e : nm i = nm j) : i = j := by
  rcases Nat.lt_trichotomy i j with g | g | g
  · have := h i j g hj; rw [e] at this; unfold lt at this; rw [less_irrefl] at this; cases this
  · exact g
  · have := h j i g hi; rw [e] at this; unfold lt at this; rw [less_irrefl] at this; cases this
theorem Rise.mono {nm : Nat → ByteArray} {n a b : Nat} {x : ByteArray} (h : Rise nm n) (hab : a ≤ b) (hb : b < n) (hx : lt (nm b) x = true) : lt (nm a) x = true := by
  by_cases e : a = b
  · subst e; exact hx
  · exact less_trans (h a b (by omega) hb) hx
/-- Where a name stands, or belongs: i names precede it, the others do not. -/
def At (nm : Nat → ByteArray) (n : Nat) (x : ByteArray) (i : Nat) : Prop := i ≤ n ∧ (∀ t, t < i → lt (nm t) x = true) ∧ (∀ t, i ≤ t → t < n → lt (nm t) x = false)
theorem lt_irrefl (x : ByteArray) : lt x x = false := less_irrefl _
theorem At.found {nm : Nat → ByteArray} {n i k : Nat} {x : ByteArray} (h : At nm n x i) (hr : Rise nm n) (hk : k < n) (e : nm k = x) : i = k := by
  have h1 : ¬ k < i := fun g => by have := h.2.1 k g; rw [e, lt_irrefl] at this; cases this
  by_cases g : i = k
  · exact g
  · have := h.2.2 i (Nat.le_refl _) (by omega)
    have h2 := hr i k (by omega) hk
    rw [e, this] at h2; cases h2
/-- The first place of a name, or none. -/
def Find (nm : Nat → ByteArray) (n : Nat) (x : ByteArray) (r : Int) : Prop := (∃ k : Nat, k < n ∧ nm k = x ∧ r = k) ∨ (r = -1 ∧ ∀ k, k < n → nm k ≠ x)
end Go.Proofs.YtpnmodmaabhldaaGreat.Nmd
