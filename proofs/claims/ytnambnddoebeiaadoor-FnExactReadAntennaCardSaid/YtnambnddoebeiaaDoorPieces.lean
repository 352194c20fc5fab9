
/-
  Plain facts on texts divided at a byte, with no program in them.
-/
import Derived.Test.YtnambnddoebeiaaDoorProg
import Derived.Lib.Split
import Derived.Lib.IndexBytes
import Derived.Lib.IndexLaws
import Derived.Lib.CountLaws
namespace Go.Proofs.YtnambnddoebeiaaDoor.Plain
open Go Go.Lib

/-- The parts of a text between the bytes c: at least one. -/
def pieces (c : UInt8) : List UInt8 → List (List UInt8)
  | [] => [[]]
  | b :: r => if b = c then [] :: pieces c r else match pieces c r with
    | [] => [[b]]
    | p :: ps => (b :: p) :: ps
theorem pieces_ne (c : UInt8) : ∀ l, pieces c l ≠ []
  | [] => by simp [pieces]
  | b :: r => by
    unfold pieces
    split
    · simp
    · split <;> simp
theorem pieces_none {c : UInt8} : ∀ {l : List UInt8}, c ∉ l → pieces c l = [l]
  | [], _ => rfl
  | b :: r, h => by
    rw [List.mem_cons, not_or] at h
    unfold pieces
    rw [if_neg (fun e => h.1 e.symm), pieces_none h.2]
theorem pieces_hit {c : UInt8} (r : List UInt8) : ∀ {a : List UInt8}, c ∉ a → pieces c (a ++ c :: r) = a :: pieces c r
  | [], _ => by rw [List.nil_append, pieces, if_pos rfl]
  | b :: a, h => by
    rw [List.mem_cons, not_or] at h
    rw [List.cons_append, pieces, if_neg (fun e => h.1 e.symm), pieces_hit r h.2]
theorem pieces_len (c : UInt8) : ∀ l, (pieces c l).length = l.count c + 1
  | [] => rfl
  | b :: r => by
    have ih := pieces_len c r
    unfold pieces
    by_cases h : b = c
    · rw [if_pos h, List.length_cons, ih, h, List.count_cons_self]
    · rw [if_neg h, List.count_cons_of_ne h]
      cases hp : pieces c r with
      | nil => exact absurd hp (pieces_ne c r)
      | cons p ps => rw [hp] at ih; simpa using ih
theorem pieces_len_le (c : UInt8) (l : List UInt8) : (pieces c l).length ≤ l.length + 1 := by
  rw [pieces_len]; have := List.count_le_length (a := c) (l := l); omega
theorem cut_at {c : UInt8} {l : List UInt8} {i : Nat} (h1 : l[i]? = some c) (h2 : ∀ k, k < i → l[k]? ≠ some c) : i < l.length ∧ l = l.take i ++ c :: l.drop (i + 1) ∧ c ∉ l.take i := by
  have hi : i < l.length := (List.getElem?_eq_some_iff.1 h1).1
  have he : l[i] = c := (List.getElem?_eq_some_iff.1 h1).2
  refine ⟨hi, ?_, fun hm => ?_⟩
  · conv => lhs; rw [← List.take_append_drop i l, List.drop_eq_getElem_cons hi, he]
  · obtain ⟨k, hk, hkc⟩ := List.getElem_of_mem hm
    rw [List.length_take] at hk
    rw [List.getElem_take] at hkc
    exact h2 k (by omega) (by rw [List.getElem?_eq_getElem (by omega), hkc])
theorem splitK_pieces (c : UInt8) : ∀ (k : Nat) (l : List UInt8), ((pieces c l).length ≤ k + 1 → splitK [c] 0 k l = pieces c l) ∧ (k + 1 < (pieces c l).length → (splitK [c] 0 k l).length = k + 1)
  | 0, l => by
    refine ⟨fun h => ?_, fun _ => rfl⟩
    rw [pieces_len] at h
    have h0 : c ∉ l := List.count_eq_zero.1 (by omega)
    rw [pieces_none h0]
    rfl
  | k + 1, l => by
    rw [splitK, index_one]
    cases hx : (indexByte l c == -1) with
    | true =>
      have hn := indexByte_none (beq_iff_eq.1 hx)
      have h0 : c ∉ l := fun hm => by
        obtain ⟨j, hj, hc⟩ := List.getElem_of_mem hm
        exact hn j (by rw [List.getElem?_eq_getElem hj, hc])
      rw [if_pos rfl, pieces_none h0]
      exact ⟨fun _ => rfl, fun h => by simp at h⟩
    | false =>
      have hge := indexByte_ge l c
      have hne := beq_eq_false_iff_ne.1 hx
      obtain ⟨i, hi⟩ := Int.eq_ofNat_of_zero_le (a := indexByte l c) (by omega)
      obtain ⟨h1, h2⟩ := indexByte_some hi
      obtain ⟨hl, hcut, hm⟩ := cut_at h1 h2
      have ep : pieces c l = l.take i :: pieces c (l.drop (i + 1)) := by
        conv => lhs; rw [hcut]
        exact pieces_hit _ hm
      obtain ⟨ih1, ih2⟩ := splitK_pieces c k (l.drop (i + 1))
      rw [if_neg (by simp), hi, ep]
      simp only [List.length_cons, List.length_nil, Int.toNat_natCast, Nat.zero_add, Nat.add_zero]
      refine ⟨fun h => ?_, fun h => ?_⟩
      · rw [ih1 (by omega)]
      · rw [ih2 (by omega)]
theorem count_one (c : UInt8) : ∀ (n : Nat) (l : List UInt8), l.length ≤ n → count l [c] = l.count c := by
  intro n
  induction n with
  | zero =>
    intro l h
    obtain rfl : l = [] := List.eq_nil_of_length_eq_zero (by omega)
    exact count_miss (by rw [index_one]; rfl)
  | succ n ih =>
    intro l h
    by_cases hx : indexByte l c = -1
    · rw [count_miss (by rw [index_one]; exact hx)]
      have hn := indexByte_none hx
      refine (List.count_eq_zero.2 fun hm => ?_).symm
      obtain ⟨j, hj, hc⟩ := List.getElem_of_mem hm
      exact hn j (by rw [List.getElem?_eq_getElem hj, hc])
    · have hge := indexByte_ge l c
      obtain ⟨i, hi⟩ := Int.eq_ofNat_of_zero_le (a := indexByte l c) (by omega)
      obtain ⟨h1, h2⟩ := indexByte_some hi
      obtain ⟨hl, hcut, hm⟩ := cut_at h1 h2
      rw [count_hit (i := i) (by simp) (by rw [index_one]; exact hi)]
      simp only [List.length_cons, List.length_nil, Nat.zero_add]
      rw [ih _ (by rw [List.length_drop]; omega)]
      conv => rhs; rw [hcut]
      rw [List.count_append, List.count_cons_self, List.count_eq_zero.2 hm]
      omega
/-- The library's division at all instances. -/
theorem split_pieces (c : UInt8) (l : List UInt8) : splitK [c] 0 (count l [c]) l = pieces c l :=
  (splitK_pieces c _ l).1 (by rw [pieces_len, count_one c _ l (Nat.le_refl _)]; exact Nat.le_refl _)
/-- The library's division into at most n + 1 parts. -/
theorem splitN_pieces (c : UInt8) (l : List UInt8) (n : Nat) (hn : 1 ≤ n) : ((pieces c l).length ≤ n → splitK [c] 0 (min (n + 1) (l.length + 1) - 1) l = pieces c l) ∧ (n < (pieces c l).length → n < (splitK [c] 0 (min (n + 1) (l.length + 1) - 1) l).length) := by
  have hl := pieces_len_le c l
  obtain ⟨h1, h2⟩ := splitK_pieces c (min (n + 1) (l.length + 1) - 1) l
  refine ⟨fun h => h1 (by omega), fun h => ?_⟩
  by_cases g : (pieces c l).length ≤ min (n + 1) (l.length + 1) - 1 + 1
  · rw [h1 g]; exact h
  · rw [h2 (by omega)]; omega
/-- The step of a walk along the bytes: from is the start of the part that byte i is in. -/
def AtByte (c : UInt8) (l : List UInt8) (done : List (List UInt8)) (start i : Nat) : Prop := start ≤ i ∧ c ∉ (l.take i).drop start ∧ done ++ pieces c (l.drop start) = pieces c l
theorem atByte_zero (c : UInt8) (l : List UInt8) : AtByte c l [] 0 0 := ⟨Nat.le_refl _, by simp, rfl⟩
theorem atByte_other {c : UInt8} {l : List UInt8} {done : List (List UInt8)} {start i : Nat} (h : AtByte c l done start i) (hi : i < l.length) (hc : l[i] ≠ c) : AtByte c l done start (i + 1) := by
  obtain ⟨h1, h2, h3⟩ := h
  refine ⟨by omega, ?_, h3⟩
  rw [List.take_succ_eq_append_getElem hi, List.drop_append_of_le_length (by rw [List.length_take]; omega), List.mem_append, not_or]
  exact ⟨h2, by simp; exact fun e => hc e.symm⟩
theorem atByte_hit {c : UInt8} {l : List UInt8} {done : List (List UInt8)} {start i : Nat} (h : AtByte c l done start i) (hi : i < l.length) (hc : l[i] = c) : AtByte c l (done ++ [(l.take i).drop start]) (i + 1) (i + 1) := by
  obtain ⟨h1, h2, h3⟩ := h
  refine ⟨Nat.le_refl _, by rw [List.drop_of_length_le (by rw [List.length_take]; omega)]; simp, ?_⟩
  rw [← h3, List.append_assoc, List.singleton_append]
  congr 1
  have e : l.drop start = (l.take i).drop start ++ c :: l.drop (i + 1) := by
    conv => lhs; rw [← List.take_append_drop i l, List.drop_append_of_le_length (by rw [List.length_take]; omega), List.drop_eq_getElem_cons hi, hc]
  rw [e, pieces_hit _ h2]
theorem atByte_end {c : UInt8} {l : List UInt8} {done : List (List UInt8)} {start : Nat} (h : AtByte c l done start l.length) : done ++ [l.drop start] = pieces c l := by
  obtain ⟨_, h2, h3⟩ := h
  rw [List.take_length] at h2
  rw [← h3, pieces_none h2]
theorem atByte_len {c : UInt8} {l : List UInt8} {done : List (List UInt8)} {start i : Nat} (h : AtByte c l done start i) : done.length ≤ l.length := by
  obtain ⟨_, _, h3⟩ := h
  have h1 := congrArg List.length h3
  rw [List.length_append] at h1
  have h2 := pieces_len_le c l
  have h4 : 0 < (pieces c (l.drop start)).length := List.length_pos_iff.2 (pieces_ne _ _)
  omega
end Go.Proofs.YtnambnddoebeiaaDoor.Plain
