
/-
  Plain facts on lists of numbers as texts, with no program in them.
-/
import Derived.Test.YtggiilbdlbhpgaaDoorDecPlain
import Derived.Lib.Join
import Derived.Laws.Concat
namespace Go.Proofs.YtggiilbdlbhpgaaDoor.Plain
open Go Go.Lib

def inV (z : Int) : Bool := inB z (-1000000000000) 1000000000000
def fitsB (zs : List Int) : Bool := zs.all inV && decide (zs.length ≤ 64)
/-- The text of numbers, commas between. -/
def commas (zs : List Int) : List UInt8 := join (zs.map itoa) [44]
def listB (zs : List Int) : List UInt8 := if zs = [] then [45] else commas zs
def AllIn (zs : List Int) (k : Nat) : Prop := (zs.take k).all inV = true
theorem allIn_zero (zs : List Int) : AllIn zs 0 := by simp [AllIn]
theorem allIn_succ {zs : List Int} {k : Nat} (h : AllIn zs k) (hk : k < zs.length) (hz : inB (zs.getD k 0) (-1000000000000) 1000000000000 = true) : AllIn zs (k + 1) := by
  unfold AllIn at *
  rw [List.take_succ_eq_append_getElem hk, List.all_append, h]
  have : zs.getD k 0 = zs[k] := by simp [hk]
  rw [this] at hz
  simp [inV, hz]
theorem fits_all {zs : List Int} (h : AllIn zs zs.length) : fitsB zs = decide (zs.length ≤ 64) := by
  unfold AllIn at h
  rw [List.take_length] at h
  simp [fitsB, h]
theorem fits_bad {zs : List Int} {k : Nat} (hk : k < zs.length) (hz : inB (zs.getD k 0) (-1000000000000) 1000000000000 = false) : fitsB zs = false := by
  have e : zs.getD k 0 = zs[k] := by simp [hk]
  rw [e] at hz
  have : zs.all inV = false := by
    rw [List.all_eq_false]
    exact ⟨zs[k], List.getElem_mem hk, by simp [inV, hz]⟩
  simp [fitsB, this]
theorem fits_long {zs : List Int} (h : 64 < zs.length) : fitsB zs = false := by unfold fitsB; rw [decide_eq_false (by omega)]; simp
theorem fits_in {zs : List Int} (h : fitsB zs = true) : zs.length ≤ 64 ∧ ∀ k, k < zs.length → -1000000000000 ≤ zs.getD k 0 ∧ zs.getD k 0 ≤ 1000000000000 := by
  unfold fitsB at h
  rw [Bool.and_eq_true, decide_eq_true_eq] at h
  refine ⟨h.2, fun k hk => ?_⟩
  have e : zs.getD k 0 = zs[k] := by simp [hk]
  rw [e]
  exact of_inB (List.all_eq_true.1 h.1 _ (List.getElem_mem hk))
theorem commas_one (z : Int) : commas [z] = itoa z := by simp [commas, join_one]
theorem commas_snoc {zs : List Int} (h : zs ≠ []) (z : Int) : commas (zs ++ [z]) = commas zs ++ 44 :: itoa z := by
  cases zs with
  | nil => exact absurd rfl h
  | cons a r =>
    simp only [commas, List.cons_append, List.map_cons, List.map_append, List.map_nil, join_cons, joinTail, List.map_append, List.flatten_append]
    simp
theorem itoa_len2 (z : Int) (h0 : -1000000000000 ≤ z) (h1 : z ≤ 1000000000000) : (itoa z).length ≤ 21 := by
  by_cases h : 0 ≤ z
  · have := itoa_len z h (by omega); omega
  · obtain ⟨k, hk⟩ := Int.eq_ofNat_of_zero_le (a := -z) (by omega)
    have e : z = -(k : Int) := by omega
    rw [e, itoa_neg k (by omega)]
    have := decDigits_le (N := k) (by omega)
    simp
    omega
theorem commas_len {zs : List Int} (h : ∀ k, k < zs.length → -1000000000000 ≤ zs.getD k 0 ∧ zs.getD k 0 ≤ 1000000000000) (k : Nat) (hk : k ≤ zs.length) : (commas (zs.take k)).length ≤ 22 * k := by
  induction k with
  | zero => simp [commas, join_nil]
  | succ k ih =>
    have ih := ih (by omega)
    obtain ⟨a1, a2⟩ := h k (by omega)
    have hl := itoa_len2 _ a1 a2
    have e : zs.getD k 0 = zs[k] := by simp [show k < zs.length by omega]
    rw [e] at hl
    rw [List.take_succ_eq_append_getElem (by omega)]
    by_cases hn : zs.take k = []
    · rw [hn, List.nil_append, commas_one]; omega
    · rw [commas_snoc hn]; simp; omega
theorem commas_step {zs : List Int} {k : Nat} (hk : k < zs.length) (h0 : 0 < k) : commas (zs.take (k + 1)) = commas (zs.take k) ++ 44 :: itoa (zs.getD k 0) := by
  have e : zs.getD k 0 = zs[k] := by simp [hk]
  rw [List.take_succ_eq_append_getElem hk, e]
  exact commas_snoc (by intro hc; have := congrArg List.length hc; rw [List.length_take, List.length_nil] at this; omega) _
theorem commas_first {zs : List Int} (hk : 0 < zs.length) : commas (zs.take 1) = itoa (zs.getD 0 0) := by
  have e : zs.getD 0 0 = zs[0] := by simp [hk]
  rw [List.take_succ_eq_append_getElem hk, e, List.take_zero, List.nil_append, commas_one]

end Go.Proofs.YtggiilbdlbhpgaaDoor.Plain
