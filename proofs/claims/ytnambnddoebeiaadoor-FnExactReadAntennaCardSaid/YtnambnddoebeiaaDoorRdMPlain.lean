
/-
  Plain facts on the mask with a text, with no program in them.
-/
import Derived.Test.YtnambnddoebeiaaDoorReadListPlain
import Derived.Test.YtnambnddoebeiaaDoorWordsPlain
import Derived.Test.YtnambnddoebeiaaDoorListPlain
import Derived.Test.YtnambnddoebeiaaDoorMskPlain
namespace Go.Proofs.YtnambnddoebeiaaDoor.Msk
open Go Go.Lib Plain

theorem pieces_mem {c : UInt8} : ∀ {l p : List UInt8}, p ∈ pieces c l → c ∉ p
  | [], p, h => by
    have : p = [] := by simpa [pieces] using h
    rw [this]; simp
  | b :: r, p, h => by
    unfold pieces at h
    by_cases hb : b = c
    · rw [if_pos hb] at h
      rcases List.mem_cons.1 h with h | h
      · rw [h]; simp
      · exact pieces_mem h
    · rw [if_neg hb] at h
      cases hp : pieces c r with
      | nil => exact absurd hp (pieces_ne c r)
      | cons q qs =>
        rw [hp] at h
        rcases List.mem_cons.1 h with h | h
        · rw [h, List.mem_cons, not_or]
          exact ⟨fun e => hb e.symm, pieces_mem (l := r) (by rw [hp]; exact List.mem_cons_self ..)⟩
        · exact pieces_mem (l := r) (by rw [hp]; exact List.mem_cons_of_mem _ h)
theorem join_two (c : UInt8) (x y : List UInt8) (r : List (List UInt8)) : join (x :: y :: r) [c] = x ++ c :: join (y :: r) [c] := by
  rw [join_cons, join_cons]
  simp [joinTail]
theorem join_back (c : UInt8) : ∀ l, join (pieces c l) [c] = l
  | [] => by rw [pieces, join_one]
  | b :: r => by
    have ih := join_back c r
    unfold pieces
    cases hp : pieces c r with
    | nil => exact absurd hp (pieces_ne c r)
    | cons q qs =>
      rw [hp] at ih
      by_cases hb : b = c
      · rw [if_pos hb, join_two, ih, hb]; rfl
      · rw [if_neg hb]
        show join ((b :: q) :: qs) [c] = _
        rw [join_cons] at ih ⊢
        rw [List.cons_append, ih]
theorem itoa_numV {p : List UInt8} (h : numIn p = true) : itoa (numV p) = p := by
  cases hn : num p with
  | none => unfold numIn at h; rw [(num_no hn).2] at h; cases h
  | some v => rw [(num_yes hn).1]; exact (itoa_of_num hn).1
theorem commas_rl {l : List UInt8} {zs : List Int} (h : rl l = some zs) (h0 : zs ≠ []) : commas zs = l := by
  unfold rl at h
  by_cases h1 : l = [45]
  · rw [if_pos h1] at h
    cases h
    exact absurd rfl h0
  · rw [if_neg h1] at h
    by_cases h2 : 64 < (pieces 44 l).length
    · rw [if_pos h2] at h; cases h
    · rw [if_neg h2] at h
      by_cases h3 : (pieces 44 l).all numIn = true
      · rw [if_pos h3] at h
        cases h
        unfold commas
        have e : (pieces 44 l).map (itoa ∘ numV) = (pieces 44 l).map id := List.map_congr_left (fun p hp => itoa_numV (List.all_eq_true.1 h3 p hp))
        rw [List.map_map, e, List.map_id, join_back]
      · rw [if_neg h3] at h; cases h
theorem rl_ne {p : List UInt8} (h : rlB p = true) : p ≠ [] := by
  intro e
  subst e
  have : rl [] = none := rl_bad (by simp) rfl (k := 0) (by simp [pieces]) (by
    show numIn ((pieces 44 [])[0]'(by simp [pieces])) = false
    have e0 : num [] = none := num_empty (by simp [behind])
    exact numIn_1 (num_no e0).2)
  rw [(rl_none this).2] at h
  cases h
theorem rl_of {p : List UInt8} (h : rlB p = true) : rl p = some (rlV p) := by
  unfold rlB at h
  unfold rlV
  cases e : rl p with
  | none => rw [e] at h; cases h
  | some a => rfl
/-- The mask with a text. -/
def rm (l : List UInt8) : Option (List Int × List Int) :=
  match pieces 32 l with
  | [p, q] => if (rlB p && (rlB q && okM (rlV p) (rlV q))) = true then some (rlV p, rlV q) else none
  | _ => none
def rmO (l : List UInt8) : List Int := ((rm l).map Prod.fst).getD []
def rmL (l : List UInt8) : List Int := ((rm l).map Prod.snd).getD []
def rmB (l : List UInt8) : Bool := (rm l).isSome
theorem rm_none {l : List UInt8} (h : rm l = none) : rmO l = [] ∧ rmL l = [] ∧ rmB l = false := by unfold rmO rmL rmB; rw [h]; exact ⟨rfl, rfl, rfl⟩
theorem rm_some {l : List UInt8} {a b : List Int} (h : rm l = some (a, b)) : rmO l = a ∧ rmL l = b ∧ rmB l = true := by unfold rmO rmL rmB; rw [h]; exact ⟨rfl, rfl, rfl⟩
theorem rm_len {l : List UInt8} (h : (pieces 32 l).length ≠ 2) : rm l = none := by
  unfold rm
  split
  · rename_i p q e
    rw [e] at h
    exact absurd rfl h
  · rfl
theorem rm_two {l p q : List UInt8} (h : pieces 32 l = [p, q]) : rm l = if (rlB p && (rlB q && okM (rlV p) (rlV q))) = true then some (rlV p, rlV q) else none := by
  unfold rm; rw [h]
theorem rm_bad {l p q : List UInt8} (h : pieces 32 l = [p, q]) (g : (rlB p && (rlB q && okM (rlV p) (rlV q))) = false) : rm l = none := by
  rw [rm_two h, g]; rfl
theorem rm_good {l p q : List UInt8} (h : pieces 32 l = [p, q]) (g1 : rlB p = true) (g2 : rlB q = true) (g3 : okM (rlV p) (rlV q) = true) : rm l = some (rlV p, rlV q) := by
  rw [rm_two h, g1, g2, g3]; rfl
theorem of_rm {l : List UInt8} {x : List Int × List Int} (h : rm l = some x) : ∃ p q, pieces 32 l = [p, q] ∧ rlB p = true ∧ rlB q = true ∧ okM (rlV p) (rlV q) = true := by
  unfold rm at h
  split at h
  · rename_i p q e
    by_cases g : (rlB p && (rlB q && okM (rlV p) (rlV q))) = true
    · rw [Bool.and_eq_true, Bool.and_eq_true] at g
      exact ⟨p, q, e, g.1, g.2.1, g.2.2⟩
    · rw [if_neg g] at h; cases h
  · cases h
theorem rm_lens (l : List UInt8) : (rmO l).length + (rmL l).length ≤ 1048576 := by
  cases e : rm l with
  | none =>
    obtain ⟨a, b, -⟩ := rm_none e
    rw [a, b]; simp
  | some x =>
    obtain ⟨p, q, h1, h2, h3, h4⟩ := of_rm e
    obtain ⟨a, b, -⟩ := rm_some (rm_good h1 h2 h3 h4)
    rw [a, b]
    have := rlV_len p
    have := rlV_len q
    omega
theorem words_two {l p q : List UInt8} (h : pieces 32 l = [p, q]) (hp : p ≠ []) (hq : q ≠ []) : words l = [p, q] := by
  unfold words wordsTo
  rw [h]
  simp [hp, hq]
theorem okM_ne {a b : List Int} (h : okM a b = true) : a ≠ [] ∧ b ≠ [] := by
  obtain ⟨⟨h1, -⟩, h2, -⟩ := of_okM h
  exact ⟨fun e => by rw [e] at h1; simp at h1, fun e => by rw [e] at h2; simp at h2; omega⟩
/-- What the words and the text of what they say tell. -/
theorem rm_words_len {l : List UInt8} (h : (words l).length ≠ 2) : rm l = none := by
  cases e : rm l with
  | none => rfl
  | some x =>
    obtain ⟨p, q, h1, h2, h3, -⟩ := of_rm e
    rw [words_two h1 (rl_ne h2) (rl_ne h3)] at h
    exact absurd rfl h
theorem rm_words_bad {l p q : List UInt8} (h : words l = [p, q]) (g : ¬ (rlB p = true ∧ rlB q = true ∧ okM (rlV p) (rlV q) = true ∧ commas (rlV p) ++ 32 :: commas (rlV q) = l)) : rm l = none := by
  cases e : rm l with
  | none => rfl
  | some x =>
    obtain ⟨p', q', h1, h2, h3, h4⟩ := of_rm e
    have hw := words_two h1 (rl_ne h2) (rl_ne h3)
    rw [hw] at h
    injection h with e1 h
    injection h with e2 _
    subst e1
    subst e2
    obtain ⟨n1, n2⟩ := okM_ne h4
    have hb := join_back 32 l
    rw [h1, join_two, join_one] at hb
    exact absurd ⟨h2, h3, h4, by rw [commas_rl (rl_of h2) n1, commas_rl (rl_of h3) n2]; exact hb⟩ g
theorem words_mem {l p : List UInt8} (h : p ∈ words l) : p ∈ pieces 32 l := by
  unfold words wordsTo at h
  rw [List.take_length] at h
  exact (List.mem_filter.1 h).1
theorem rm_words_good {l p q : List UInt8} (h : words l = [p, q]) (g1 : rlB p = true) (g2 : rlB q = true) (g3 : okM (rlV p) (rlV q) = true) (g4 : commas (rlV p) ++ 32 :: commas (rlV q) = l) : rm l = some (rlV p, rlV q) := by
  obtain ⟨n1, n2⟩ := okM_ne g3
  rw [commas_rl (rl_of g1) n1, commas_rl (rl_of g2) n2] at g4
  have m1 : (32 : UInt8) ∉ p := pieces_mem (words_mem (l := l) (by rw [h]; simp))
  have m2 : (32 : UInt8) ∉ q := pieces_mem (words_mem (l := l) (by rw [h]; simp))
  refine rm_good (l := l) ?_ g1 g2 g3
  rw [← g4, pieces_hit q m1, pieces_none m2]
theorem words_some {l p q : List UInt8} (h : words l = [p, q]) : l ≠ [] := by
  intro e
  subst e
  unfold words wordsTo at h
  simp [pieces] at h
theorem word_len {l p : List UInt8} (h : p ∈ words l) : p.length ≤ l.length := by
  have hm := words_mem h
  have hj := join_back 32 l
  generalize pieces 32 l = ps at *
  clear h
  induction ps generalizing l with
  | nil => cases hm
  | cons x r ih =>
    rcases List.mem_cons.1 hm with e | e
    · subst e
      rw [← hj, join_cons, List.length_append]
      omega
    · cases r with
      | nil => cases e
      | cons y r =>
        have := ih (l := join (y :: r) [32]) e rfl
        rw [join_two] at hj
        rw [← hj, List.length_append, List.length_cons]
        omega
end Go.Proofs.YtnambnddoebeiaaDoor.Msk
