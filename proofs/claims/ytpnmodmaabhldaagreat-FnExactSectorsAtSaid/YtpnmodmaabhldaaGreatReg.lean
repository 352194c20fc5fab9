
/-
  A region that draws its order, by an invariant: what holds of the frame and of the world, told by which operations have come up, is kept by each operation, and says at the end what is wanted. No condition but the closed one that each operation follows only earlier ones of the text.
-/
import Derived.Test.YtpnmodmaabhldaaGreatOn
import Derived.Orders
import Derived.RegionTactic
namespace Go.Proofs.YtpnmodmaabhldaaGreat.Reg
open Go.RowKit

/-- How many of the first n have not come up. -/
def cnt (l : Nat → Bool) : Nat → Nat
  | 0 => 0
  | n + 1 => cnt l n + (if l n then 0 else 1)
theorem cnt_le (l : Nat → Bool) : ∀ n, cnt l n ≤ n
  | 0 => Nat.le_refl _
  | n + 1 => by
    have := cnt_le l n
    unfold cnt
    split <;> omega
theorem cnt_zero {l : Nat → Bool} : ∀ {n}, cnt l n = 0 → ∀ i, i < n → l i = true
  | 0, _, i, hi => by omega
  | n + 1, h, i, hi => by
    unfold cnt at h
    by_cases g : i = n
    · subst g
      cases e : l i with
      | true => rfl
      | false => rw [e] at h; simp at h
    · exact cnt_zero (n := n) (by omega) i (by omega)
theorem cnt_same {l m : Nat → Bool} : ∀ {n}, (∀ j, j < n → l j = m j) → cnt l n = cnt m n
  | 0, _ => rfl
  | n + 1, h => by
    unfold cnt
    rw [cnt_same (n := n) (fun j hj => h j (by omega)), h n (by omega)]
theorem cnt_set {l : Nat → Bool} {i : Nat} (hi : l i = false) : ∀ {n}, i < n → cnt (fun j => j == i || l j) n + 1 = cnt l n
  | 0, h => by omega
  | n + 1, h => by
    unfold cnt
    by_cases g : i = n
    · subst g
      rw [hi, cnt_same (l := fun j => j == i || l j) (m := l) (n := i) (fun j hj => by
        have : (j == i) = false := beq_eq_false_iff_ne.2 (by omega)
        simp only [this, Bool.false_or])]
      simp
    · have := cnt_set hi (n := n) (by omega)
      have e : (n == i) = false := beq_eq_false_iff_ne.2 (by omega)
      simp only [e, Bool.false_or]
      omega
variable {P : Program} {ops : Array Oper} {Q : Exit → Act → World → Prop} {md : Region.Mode}
theorem getD_set {listed : Array Bool} {i : Nat} (hi : i < listed.size) : (fun j => (listed.setIfInBounds i true).getD j true) = fun j => j == i || listed.getD j true := by
  funext j
  rw [Array.getD_eq_getD_getElem?, Array.getD_eq_getD_getElem?, Array.getElem?_setIfInBounds]
  by_cases g : i = j
  · subst g; simp [hi]
  · have : (j == i) = false := beq_eq_false_iff_ne.2 fun e => g e.symm
    rw [if_neg g, this, Bool.false_or]
theorem wpAny_inv {I : (Nat → Bool) → Act → World → Prop}
    (step : ∀ (l : Nat → Bool) (a : Act) (w : World) (i : Nat) (o : Oper), ops[i]? = some o → I l a w → l i = false → (∀ e ∈ o.after, Region.binds md e = true → l e.on = true) → wpOp P ops Q i (fun a' w' => I (fun j => j == i || l j) a' w') a w)
    (fin : ∀ l a w, I l a w → (∀ i, i < ops.size → l i = true) → Q .normal a w)
    (hback : ∀ (i : Nat) (o : Oper), ops[i]? = some o → ∀ e ∈ o.after, e.on < i) :
    ∀ fuel listed a w, listed.size = ops.size → cnt (fun j => listed.getD j true) ops.size ≤ fuel → I (fun j => listed.getD j true) a w → wpAny P md ops Q fuel listed a w := by
  have hall : ∀ listed : Array Bool, listed.size = ops.size → Region.ready md ops listed = [] → ∀ i, i < ops.size → listed.getD i true = true := fun listed hs hr i => by
    induction i using Nat.strongRecOn with
    | _ i ih =>
      intro hi
      cases g : listed.getD i true with
      | true => rfl
      | false =>
        exfalso
        have hmem : i ∈ Region.ready md ops listed := by
          unfold Region.ready
          rw [List.mem_filter]
          refine ⟨List.mem_range.2 hi, ?_⟩
          rw [g, Array.getElem?_eq_getElem hi]
          simp only [Option.map_some, Option.getD_some, Bool.not_false, Bool.true_and, Array.all_eq_true']
          intro e he
          have hlt := hback i _ (Array.getElem?_eq_getElem hi) e he
          have := ih e.on hlt (by omega)
          have h2 : e.on < listed.size := by omega
          simp only [Array.getD_eq_getD_getElem?, Array.getElem?_eq_getElem h2, Option.getD_some] at this ⊢
          rw [this]; simp
        rw [hr] at hmem
        cases hmem
  intro fuel
  induction fuel with
  | zero =>
    intro listed a w hs hc hI
    have h0 := cnt_zero (Nat.le_zero.1 hc)
    refine ⟨?_, fin _ _ _ hI h0⟩
    unfold Region.ready
    rw [List.filter_eq_nil_iff]
    intro i hi
    rw [h0 i (List.mem_range.1 hi)]
    simp
  | succ fuel ih =>
    intro listed a w hs hc hI
    refine ⟨fun hr => fin _ _ _ hI (hall listed hs hr), fun i hi => ?_⟩
    unfold Region.ready at hi
    rw [List.mem_filter] at hi
    obtain ⟨h1, h2⟩ := hi
    have hlt := List.mem_range.1 h1
    rw [Array.getElem?_eq_getElem hlt] at h2
    simp only [Option.map_some, Option.getD_some, Bool.and_eq_true, Bool.not_eq_true', Array.all_eq_true'] at h2
    have hl : listed.getD i true = false := h2.1
    refine wpOp_mono ?_ (step _ a w i _ (Array.getElem?_eq_getElem hlt) hI hl fun e he hb => ?_)
    · intro a' w' hI'
      refine ih _ _ _ (by rw [Array.size_setIfInBounds]; exact hs) ?_ ?_
      · rw [getD_set (by omega)]
        have := cnt_set (l := fun j => listed.getD j true) hl hlt
        omega
      · rw [getD_set (by omega)]; exact hI'
    · have := h2.2 e he
      rw [hb] at this
      simp only [Bool.not_true, Bool.false_or] at this
      rcases Nat.lt_or_ge e.on listed.size with g | g
      · simp only [Array.getD_eq_getD_getElem?, Array.getElem?_eq_getElem g, Option.getD_some] at this ⊢
        exact this
      · simp only [Array.getD_eq_getD_getElem?, Array.getElem?_eq_none g, Option.getD_none] at this
        cases this
/-- Each operation follows only earlier ones of the text. -/
def backB (ops : Array Oper) : Bool := (List.range ops.size).all fun i => match ops[i]? with
  | some o => o.after.all fun e => decide (e.on < i)
  | none => true
theorem back_of (h : backB ops = true) (i : Nat) (o : Oper) (ho : ops[i]? = some o) : ∀ e ∈ o.after, e.on < i := fun e he => by
  have hlt := (Array.getElem?_eq_some_iff.1 ho).1
  have := List.all_eq_true.1 h i (List.mem_range.2 hlt)
  rw [ho] at this
  exact of_decide_eq_true (Array.all_eq_true'.1 this e he)
/-- A region that draws its order, by an invariant. -/
theorem wp_region_inv {id : Nat} {a : Act} {w : World} (I : (Nat → Bool) → Act → World → Prop) (hm : P.follows .mixedOrders = true)
    (hback : backB ops = true)
    (init : ∀ l, (∀ i, i < ops.size → l i = false) → I l a w.drew)
    (step : ∀ (l : Nat → Bool) (a : Act) (w : World) (i : Nat) (o : Oper), ops[i]? = some o → I l a w → l i = false → (∀ e ∈ o.after, Region.binds .any e = true → l e.on = true) → wpOp P ops Q i (fun a' w' => I (fun j => j == i || l j) a' w') a w)
    (fin : ∀ l a w, I l a w → (∀ i, i < ops.size → l i = true) → Q .normal a w) : (Code.region id ops true).wp P Q a w := by
  refine wp_region_any hm ?_
  refine wpAny_inv step fin (back_of hback) _ _ _ _ (by simp) (cnt_le _ _) (init _ fun i hi => ?_)
  rw [Array.getD_eq_getD_getElem?, Array.getElem?_replicate, if_pos hi]
  rfl
end Go.Proofs.YtpnmodmaabhldaaGreat.Reg
