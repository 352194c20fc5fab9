
/-
  Plain facts on decimal digits, with no program in them.
-/
import Derived.Lib.ItoaNum
import Derived.Lib.UnsafeStr
import Derived.Test.YtggiilbdlbhpgaaDoorPlain
namespace Go.Proofs.YtggiilbdlbhpgaaDoor.Plain
open Go Go.Lib

def decOf (u : Nat) : List UInt8 := if u = 0 then [] else decDigits u
def dig (u : Nat) : UInt8 := UInt8.ofNat (48 + u % 10)
theorem dig_toNat (u : Nat) : (dig u).toNat = 48 + u % 10 := by
  unfold dig
  rw [UInt8.toNat_ofNat']
  exact Nat.mod_eq_of_lt (by omega)
theorem decOf_step (u : Nat) (h : u ≠ 0) : decOf u = decOf (u / 10) ++ [dig u] := by
  unfold decOf dig
  rw [if_neg h]
  by_cases h1 : u < 10
  · rw [if_pos (by omega), decDigits, dif_pos h1, Nat.mod_eq_of_lt h1]; rfl
  · rw [if_neg (by omega), decDigits, dif_neg h1]
def Rev (N u : Nat) (ds : List UInt8) : Prop := decOf u ++ ds.reverse = decDigits N
theorem rev_start {N : Nat} (h : N ≠ 0) : Rev N N [] := by unfold Rev decOf; rw [if_neg h]; simp
theorem rev_step {N u : Nat} {ds : List UInt8} (h : Rev N u ds) (h0 : u ≠ 0) : Rev N (u / 10) (ds ++ [dig u]) := by
  unfold Rev at *
  rw [decOf_step u h0] at h
  rw [← h]
  simp
theorem rev_end {N : Nat} {ds : List UInt8} (h : Rev N 0 ds) : ds.reverse = decDigits N := by
  unfold Rev decOf at h
  simpa using h
theorem nDigits_le : ∀ (k u : Nat), u < 10 ^ (k + 1) → nDigits u ≤ k + 1
  | 0, u, h => by rw [nDigits_small (by omega)]; omega
  | k + 1, u, h => by
    by_cases h1 : u < 10
    · rw [nDigits_small h1]; omega
    · rw [nDigits_big h1]
      have := nDigits_le k (u / 10) (by rw [Nat.pow_succ] at h; omega)
      omega
theorem decDigits_le {N : Nat} (h : N < 100000000000000000000) : (decDigits N).length ≤ 20 := by
  rw [decDigits_length]; exact nDigits_le 19 N h
theorem rev_len {N u : Nat} {ds : List UInt8} (h : Rev N u ds) (hN : N < 100000000000000000000) : ds.length ≤ 20 := by
  have h1 := decDigits_le hN
  unfold Rev at h
  rw [← h] at h1
  simp at h1
  omega
theorem decDigits_pos (N : Nat) : 1 ≤ (decDigits N).length := by rw [decDigits_length]; exact nDigits_pos N
theorem rev_take (ds : List UInt8) (q : Nat) (h : q < ds.length) : ds.reverse.take (ds.length - q) = ds.reverse.take (ds.length - (q + 1)) ++ [ds[q]] := by
  have e : ds.length - q = ds.length - (q + 1) + 1 := by omega
  have h2 : ds.length - (q + 1) < ds.reverse.length := by simp; omega
  rw [e, List.take_succ_eq_append_getElem h2, List.getElem_reverse]
  congr 3
  omega
theorem itoa_nat (n : Nat) : itoa (n : Int) = decDigits n := by
  unfold itoa
  rw [if_neg (by omega)]
  rfl
theorem itoa_neg (n : Nat) (h : 0 < n) : itoa (-(n : Int)) = 45 :: decDigits n := by
  unfold itoa
  rw [if_pos (by omega), Int.natAbs_neg, Int.natAbs_natCast]
theorem itoa_len (n : Int) (h0 : 0 ≤ n) (h : n < 100000000000000000000) : 1 ≤ (itoa n).length ∧ (itoa n).length ≤ 20 := by
  obtain ⟨k, rfl⟩ := Int.eq_ofNat_of_zero_le h0
  rw [itoa_nat]
  exact ⟨decDigits_pos k, decDigits_le (by omega)⟩

end Go.Proofs.YtggiilbdlbhpgaaDoor.Plain
