
/-
  A region that draws its order, whose operations read, or call what only makes memory, but for a forced end (a store): one walk of the text's order serves every order. No condition but the closed test of the region.
-/
import Derived.Test.YtnambnddoebeiaaOn
import Derived.StillTail
namespace Go.Proofs.Ytnambnddoebeiaa
open Go.RowKit

section
variable {P : Program} {ops hops : Array Oper} {md : Region.Mode} {C : World → Prop}

/-- How many of the first k operations are still to come. -/
def unl (listed : Array Bool) : Nat → Nat
  | 0 => 0
  | k + 1 => unl listed k + if listed.getD k true = true then 0 else 1
theorem unl_set_ge (listed : Array Bool) (i : Nat) : ∀ k, k ≤ i → unl (listed.setIfInBounds i true) k = unl listed k
  | 0, _ => rfl
  | k + 1, h => by
    unfold unl
    rw [unl_set_ge listed i k (by omega), getD_set_ne true (by omega)]
theorem getD_set_self (listed : Array Bool) (i : Nat) : (listed.setIfInBounds i true).getD i true = true := by
  rcases Nat.lt_or_ge i listed.size with h | h
  · simp [h]
  · simp
theorem unl_set (listed : Array Bool) (i : Nat) (hi : listed.getD i true = false) : ∀ k, i < k → unl (listed.setIfInBounds i true) k + 1 = unl listed k
  | 0, h => by omega
  | k + 1, h => by
    unfold unl
    by_cases e : i = k
    · subst e
      rw [unl_set_ge listed i i (Nat.le_refl _), getD_set_self, hi, if_pos rfl, if_neg (by simp)]
    · have := unl_set listed i hi k (by omega)
      rw [getD_set_ne true e]
      omega
theorem unl_zero {listed : Array Bool} : ∀ k, unl listed k = 0 → ∀ j, j < k → listed.getD j true = true
  | 0, _, j, hj => by omega
  | k + 1, h, j, hj => by
    unfold unl at h
    by_cases e : listed.getD k true = true
    · rw [if_pos e] at h
      by_cases hk : j = k
      · subst hk; exact e
      · exact unl_zero k (by omega) j (by omega)
    · rw [if_neg e] at h; omega
theorem unl_some {listed : Array Bool} : ∀ k, 0 < unl listed k → ∃ j, j < k ∧ listed.getD j true = false ∧ ∀ i, i < j → listed.getD i true = true
  | 0, h => by simp [unl] at h
  | k + 1, h => by
    by_cases h0 : 0 < unl listed k
    · obtain ⟨j, h1, h2, h3⟩ := unl_some k h0
      exact ⟨j, by omega, h2, h3⟩
    · have hz : unl listed k = 0 := by omega
      unfold unl at h
      by_cases e : listed.getD k true = true
      · rw [if_pos e] at h; omega
      · exact ⟨k, by omega, by simpa using e, unl_zero k hz⟩

/-- What is asked of a region whose first n operations are the head. -/
def edgesLow (md : Region.Mode) (hops : Array Oper) : Bool := (List.range hops.size).all fun j => match hops[j]? with
  | some o => (o.guard == none) && o.after.all fun e => !Region.binds md e || decide (e.on < j)
  | none => true
def headB (md : Region.Mode) (ops hops : Array Oper) (n : Nat) : Bool :=
  decide (n < ops.size) && decide (hops.size = n) && edgesLow md hops && Region.noSelect hops && Region.lexFrom md hops n 0 (Array.replicate ops.size false) &&
  Region.sinkB md ops n && Region.chainB md ops n && Region.seqB md ops (ops.size - n) n (Array.replicate n true ++ Array.replicate (ops.size - n) false)

theorem edges_spec (h : edgesLow md hops = true) {j : Nat} {o : Oper} (ho : hops[j]? = some o) : o.guard = none ∧ ∀ e ∈ o.after, Region.binds md e = true → e.on < j := by
  have hj : j < hops.size := (Array.getElem?_eq_some_iff.1 ho).1
  have h1 := List.all_eq_true.1 h j (List.mem_range.2 hj)
  simp only [ho, Bool.and_eq_true, beq_iff_eq] at h1
  refine ⟨h1.1, fun e he hb => ?_⟩
  have h2 := Array.all_eq_true'.1 h1.2 e he
  rw [hb] at h2
  simpa using h2
theorem wanted_free {o : Oper} {f : Nat → Option Bool} (h : o.guard = none) : Region.wanted o f = true := by
  unfold Region.wanted; rw [h]

theorem head_run {Q' : Exit → Act → World → Prop} {Qh : Act → Prop} {n g : Nat} (hn : n < ops.size) (hg : g = ops.size - n) (hsz : hops.size = n) (heq : ∀ j, j < n → hops[j]? = ops[j]?) (hE : edgesLow md hops = true)
    (hs : Region.sinkB md ops n = true) (hc : Region.chainB md ops n = true)
    (hT : ∀ a w, C w → Qh a → wpAny P md ops Q' g (Array.replicate n true ++ Array.replicate g false) a w) :
    ∀ (f : Nat) (listed : Array Bool) (a : Act) (w : World), unl listed n = f → HeadInv md ops n listed → C w → wpAnyQ P md hops C Qh f listed a → wpAny P md ops Q' (f + g) listed a w
  | 0, listed, a, w, hf, inv, hw, h => by
    have hl : listed = Array.replicate n true ++ Array.replicate g false := by
      refine Array.ext (by rw [inv.size]; simp; omega) fun i hi hi2 => ?_
      by_cases hin : i < n
      · have h1 := unl_zero n hf i hin
        have h2 : listed[i] = true := by simpa [hi] using h1
        rw [h2, Array.getElem_append_left (by simpa using hin)]
        simp
      · have h1 := inv.tail i (by omega) (by rw [← inv.size]; exact hi)
        have h2 : listed[i] = false := by simpa [hi] using h1
        rw [h2, Array.getElem_append_right (by simpa using hin)]
        simp
    rw [Nat.zero_add, hl]
    exact hT a w hw h.2
  | f + 1, listed, a, w, hf, inv, hw, h => by
    rw [show f + 1 + g = (f + g) + 1 by omega]
    obtain ⟨k, hk, hku, hkl⟩ := unl_some (listed := listed) n (by omega)
    have inHead : ∀ i, i ∈ Region.ready md ops listed → i < n := fun i hi => by
      rcases Nat.lt_or_ge i n with h' | h'
      · exact h'
      · exact absurd hi (tail_waits hs hc hn inv _ k rfl hk hku i h')
    have toHead : ∀ i, i ∈ Region.ready md ops listed → i ∈ Region.ready md hops listed := fun i hi => by
      obtain ⟨h1, o, ho, hall⟩ := mem_ready.1 hi
      exact mem_ready.2 ⟨h1, o, by rw [heq i (inHead i hi)]; exact ho, hall⟩
    have some_ready : Region.ready md ops listed ≠ [] := fun he => by
      have hko : ops[k]? = some (ops[k]'(by omega)) := Array.getElem?_eq_getElem (by omega)
      have hkh : hops[k]? = some (ops[k]'(by omega)) := by rw [heq k hk]; exact hko
      have : k ∈ Region.ready md ops listed := mem_ready.2 ⟨hku, _, hko, fun e he hb => by
        have h1 := (edges_spec hE hkh).2 e he hb
        have h2 := hkl e.on h1
        have h3 : e.on < listed.size := by rw [inv.size]; omega
        simpa [h3] using h2⟩
      rw [he] at this
      cases this
    refine ⟨fun he => absurd he some_ready, fun i hi => ?_⟩
    have hin := inHead i hi
    have hq := h.2 i (toHead i hi)
    obtain ⟨hun, o, ho, _⟩ := mem_ready.1 hi
    have hho : hops[i]? = some o := by rw [heq i hin]; exact ho
    have hgu := (edges_spec hE hho).1
    have hq' : qOp P ops C i (wpAnyQ P md hops C Qh f (listed.setIfInBounds i true)) a := by
      unfold qOp at hq ⊢
      simp only [hho, wanted_free hgu, if_true] at hq
      simp only [ho, wanted_free hgu, if_true]
      exact hq
    refine wpOp_of_qOp hw (fun a' w' hw' hK => ?_) hq'
    exact head_run hn hg hsz heq hE hs hc hT f _ a' w' (by have := unl_set listed i hun n hin; omega) (inv.set hi hin) hw' hK

/-- One walk of the head in the text's order, then its end. -/
theorem wp_region_on_tail {id : Nat} {Q : Exit → Act → World → Prop} {a : Act} {w : World} {l : List Oper} (n : Nat) (hm : P.follows .mixedOrders = true) (hB : headB .any l.toArray (l.take n).toArray n = true)
    (h : wpQuiet P (l.take n).toArray (On w) (fun a' => ∀ w', On w w' → wpList P l.toArray Q (l.drop n) a' w') (l.take n) a) : (Code.region id l.toArray true).wp P Q a w := by
  unfold headB at hB
  simp only [Bool.and_eq_true, decide_eq_true_eq] at hB
  obtain ⟨⟨⟨⟨⟨⟨⟨hn, hsz⟩, hE⟩, hsel⟩, hlex⟩, hs⟩, hc⟩, hseq⟩ := hB
  have hn' : n < l.length := by simpa using hn
  have htl : (l.take n).length = n := by simp; omega
  have hQ := wpAnyQ_lex (P := P) (C := On w) (md := .any) hsel (l.take n) 0 (Array.replicate l.toArray.size false) a (by simp) (by rw [htl]; exact hlex) h
  rw [htl] at hQ
  refine wp_region_any hm ?_
  have inv0 : HeadInv .any l.toArray n (Array.replicate l.toArray.size false) :=
    ⟨by simp, fun j oj _ hl => (by rw [getD_replicate_false] at hl; cases hl), fun t _ ht => getD_in (by simpa using ht) (getD_replicate_false _ _)⟩
  have hu : ∀ k, k ≤ l.length → unl (Array.replicate l.toArray.size false) k = k := by
    intro k
    induction k with
    | zero => intro _; rfl
    | succ k ih =>
      intro hk
      unfold unl
      rw [ih (by omega), if_neg]
      have : (Array.replicate l.toArray.size false).getD k true = false := getD_in (by simp; omega) (getD_replicate_false _ _)
      rw [this]; simp
  have := head_run (P := P) (C := On w) (md := .any) (Q' := Q) (ops := l.toArray) (hops := (l.take n).toArray) (g := l.toArray.size - n) hn rfl hsz
    (fun j hj => by simp [hj]) hE hs hc
    (fun a' w' hw' hq => by
      have h1 := wpAny_of_seq (md := .any) (Q' := Q) (l.drop n) n (Array.replicate n true ++ Array.replicate (l.toArray.size - n) false) a' w' (fun j => by simp [List.getElem?_drop]) (by rw [show (l.drop n).length = l.toArray.size - n by simp]; exact hseq) (hq w' hw')
      rwa [show (l.drop n).length = l.toArray.size - n by simp] at h1)
    n _ a { w with drawn := w.drawn + 1 } (hu n (by omega)) inv0 (On.drew (On.refl w)) hQ
  rwa [show n + (l.toArray.size - n) = l.toArray.size by simp at hn ⊢; omega] at this
end
end Go.Proofs.Ytnambnddoebeiaa
