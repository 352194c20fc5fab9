
/-
  Plain facts on lists of levels, with no program in them.
-/
import Derived.Test.YtkcjbcllpbojhaaDoorSum
namespace Go.Proofs.YtkcjbcllpbojhaaDoor.Sum
open Plain

def lv (v : Int) : Bool := inB v (-300000) 300000
def lvB (zs : List Int) : Bool := zs.all lv
def LvTo (zs : List Int) (k : Nat) : Prop := ∀ i, i < k → lv (zs.getD i 0) = true
theorem lvTo_zero (zs : List Int) : LvTo zs 0 := fun i h => by omega
theorem lvTo_succ {zs : List Int} {k : Nat} (h : LvTo zs k) (hk : lv (zs.getD k 0) = true) : LvTo zs (k + 1) := fun i hi => by
  by_cases g : i = k
  · rw [g]; exact hk
  · exact h i (by omega)
theorem lvB_bad {zs : List Int} {k : Nat} (hk : k < zs.length) (h : lv (zs.getD k 0) = false) : lvB zs = false := by
  unfold lvB
  rw [List.all_eq_false]
  refine ⟨zs[k], List.getElem_mem hk, ?_⟩
  rw [show zs.getD k 0 = zs[k] from by simp [hk]] at h
  simp [h]
theorem lvB_all {zs : List Int} (h : LvTo zs zs.length) : lvB zs = true := by
  unfold lvB
  rw [List.all_eq_true]
  intro x hx
  obtain ⟨i, hi, rfl⟩ := List.getElem_of_mem hx
  have := h i hi
  rw [show zs.getD i 0 = zs[i] from by simp [hi]] at this
  exact this
theorem lvTo_of {zs : List Int} (h : lvB zs = true) : LvTo zs zs.length := fun i hi => by
  unfold lvB at h
  rw [List.all_eq_true] at h
  have := h zs[i] (List.getElem_mem hi)
  rw [show zs.getD i 0 = zs[i] from by simp [hi]]
  exact this
/-- The code of a list of levels. -/
def codeOf (zs : List Int) : Int := if lvB zs = false then 2 else if 64 < zs.length then 5 else if zs.length = 0 then 6 else 0
theorem code_range {zs : List Int} (h : lvB zs = false) : codeOf zs = 2 := if_pos h
theorem code_full {zs : List Int} (h : lvB zs = true) (h1 : 64 < zs.length) : codeOf zs = 5 := by unfold codeOf; rw [h, if_neg (by simp), if_pos h1]
theorem code_none : codeOf [] = 6 := rfl
theorem code_ok {zs : List Int} (h : lvB zs = true) (h1 : ¬ 64 < zs.length) (h2 : 0 < zs.length) : codeOf zs = 0 := by unfold codeOf; rw [h, if_neg (by simp), if_neg h1, if_neg (by omega)]
theorem code_bad {zs : List Int} (h : codeOf zs ≠ 0) : (codeOf zs == 0) = false := beq_eq_false_iff_ne.2 h
theorem of_code {zs : List Int} (h : codeOf zs = 0) : lvB zs = true ∧ zs.length ≤ 64 ∧ 0 < zs.length := by
  unfold codeOf at h
  cases hb : lvB zs with
  | false => rw [hb] at h; simp at h
  | true =>
    rw [hb, if_neg (by simp)] at h
    refine ⟨rfl, ?_⟩
    split at h
    · omega
    · split at h <;> omega
theorem codeOf_bd (zs : List Int) : 0 ≤ codeOf zs ∧ codeOf zs ≤ 6 := by unfold codeOf; split <;> (try split) <;> (try split) <;> omega
/-- The greatest one of the first level and the first k ones. -/
def mostTo (zs : List Int) : Nat → Int
  | 0 => zs.getD 0 0
  | k + 1 => Turn.gmax (mostTo zs k) (zs.getD k 0)
theorem most_one (zs : List Int) : mostTo zs 1 = zs.getD 0 0 := by unfold mostTo mostTo Turn.gmax; split <;> rfl
theorem most_step (zs : List Int) (k : Nat) : Turn.gmax (mostTo zs k) (zs.getD k 0) = mostTo zs (k + 1) := rfl
theorem of_lv {v : Int} (h : lv v = true) : -300000 ≤ v ∧ v ≤ 300000 := of_inB h
theorem most_bd {zs : List Int} (h : LvTo zs zs.length) (h0 : 0 < zs.length) : ∀ k, k ≤ zs.length → -300000 ≤ mostTo zs k ∧ mostTo zs k ≤ 300000
  | 0, _ => of_lv (h 0 h0)
  | k + 1, hk => by
    have ih := most_bd h h0 k (by omega)
    have := of_lv (h k (by omega))
    unfold mostTo Turn.gmax
    split <;> omega
theorem most_ge (zs : List Int) : ∀ k i, i < k → zs.getD i 0 ≤ mostTo zs k
  | 0, i, h => by omega
  | k + 1, i, h => by
    have := Turn.mm_bd (mostTo zs k) (zs.getD k 0)
    by_cases g : i = k
    · subst g; exact this.1.2.1
    · exact Int.le_trans (most_ge zs k i (by omega)) this.1.1
theorem most_in (zs : List Int) : ∀ k, 0 < k → ∃ i, i < k ∧ zs.getD i 0 = mostTo zs k
  | k + 1, _ => by
    by_cases g : k = 0
    · subst g; exact ⟨0, by omega, (most_one zs).symm⟩
    · obtain ⟨i, hi, he⟩ := most_in zs k (by omega)
      by_cases h : mostTo zs k < zs.getD k 0
      · exact ⟨k, by omega, (Turn.gmax_gt h).symm⟩
      · exact ⟨i, by omega, by rw [he]; exact (Turn.gmax_le h).symm⟩
/-- The sum of the parts of the first k levels. -/
noncomputable def sumTo (zs : List Int) (m : Int) : Nat → Int
  | 0 => 0
  | k + 1 => sumTo zs m k + part (zs.getD k 0 - m)
theorem sum_step (zs : List Int) (m : Int) (k : Nat) : sumTo zs m k + part (zs.getD k 0 - m) = sumTo zs m (k + 1) := rfl
theorem sum_bd {zs : List Int} {m : Int} {n : Nat} (h : ∀ i, i < n → zs.getD i 0 ≤ m) : ∀ k, k ≤ n → 0 ≤ sumTo zs m k ∧ sumTo zs m k ≤ 1000000000 * (k : Int)
  | 0, _ => by unfold sumTo; omega
  | k + 1, hk => by
    have ih := sum_bd h k (by omega)
    have hz := h k (by omega)
    have := part_bd (v := zs.getD k 0 - m) (by omega)
    unfold sumTo
    omega
theorem sum_ge {zs : List Int} {m : Int} {n : Nat} (h : ∀ i, i < n → zs.getD i 0 ≤ m) : ∀ k, k ≤ n → ∀ i, i < k → part (zs.getD i 0 - m) ≤ sumTo zs m k
  | 0, _, i, hi => by omega
  | k + 1, hk, i, hi => by
    have hz := h k (by omega)
    have hb := part_bd (v := zs.getD k 0 - m) (by omega)
    have hs := sum_bd h k (by omega)
    unfold sumTo
    by_cases g : i = k
    · subst g; omega
    · have := sum_ge h k (by omega) i (by omega)
      omega
/-- The greatest level and the sum of all parts. -/
def most (zs : List Int) : Int := mostTo zs zs.length
noncomputable def sum (zs : List Int) : Int := sumTo zs (most zs) zs.length
theorem sum_all {zs : List Int} (h : codeOf zs = 0) : 1 ≤ sum zs ∧ sum zs ≤ 64000000000 := by
  obtain ⟨_, h2, h3⟩ := of_code h
  have hm : ∀ i, i < zs.length → zs.getD i 0 ≤ most zs := most_ge zs zs.length
  obtain ⟨i, hi, he⟩ := most_in zs zs.length h3
  have h4 := sum_bd hm zs.length (Nat.le_refl _)
  have h5 := sum_ge hm zs.length (Nat.le_refl _) i hi
  rw [he, show mostTo zs zs.length = most zs from rfl, Int.sub_self] at h5
  have := part_one
  unfold sum
  omega
/-- The level of a sum, of a mean. -/
noncomputable def sumL (zs : List Int) : Int := most zs - 90000 + logDb (sum zs)
noncomputable def sumV (zs : List Int) : Int := if codeOf zs = 0 then sumL zs else 0
noncomputable def meanV (zs : List Int) : Int := if codeOf zs = 0 then sumL zs - logDb zs.length else 0
theorem sumV_yes {zs : List Int} (h : codeOf zs = 0) : sumV zs = sumL zs := if_pos h
theorem sumV_no {zs : List Int} (h : codeOf zs ≠ 0) : sumV zs = 0 := if_neg h
theorem meanV_yes {zs : List Int} (h : codeOf zs = 0) : meanV zs = sumL zs - logDb zs.length := if_pos h
theorem meanV_no {zs : List Int} (h : codeOf zs ≠ 0) : meanV zs = 0 := if_neg h
theorem most_all {zs : List Int} (h : codeOf zs = 0) : -300000 ≤ most zs ∧ most zs ≤ 300000 := by
  obtain ⟨h1, h2, h3⟩ := of_code h
  exact most_bd (lvTo_of h1) h3 zs.length (Nat.le_refl _)
theorem sumL_bd {zs : List Int} (h : codeOf zs = 0) : -390000 ≤ sumL zs ∧ sumL zs ≤ 399999 := by
  have h1 := most_all h
  have h2 := sum_all h
  have h3 := logDb_bd (n := sum zs) (by omega)
  unfold sumL
  omega
end Go.Proofs.YtkcjbcllpbojhaaDoor.Sum
