
/-
  The antennas that texts stand for, in plain words. No condition.
-/
import Derived.Test.YtnambnddoebeiaaDoorRdMPlain
import Derived.Test.YtnambnddoebeiaaDoorAntText
namespace Go.Proofs.YtnambnddoebeiaaDoor.RdA
open Go.RowKit
open Plain
open Ant (okA of_okA antT textV dec com)
open Msk (pieces_mem join_two join_back words_mem word_len commas_rl rl_of rl_ne)

theorem nil_bytes {p : List UInt8} (h : nameB p = true) : p ≠ [] := by rintro rfl; cases h
theorem words_all {l : List UInt8} (h : ∀ p ∈ pieces 32 l, p ≠ []) : words l = pieces 32 l := by
  unfold words wordsTo
  rw [List.take_length, List.filter_eq_self]
  intro p hp
  have := h p hp
  cases p with
  | nil => exact absurd rfl this
  | cons _ _ => rfl
theorem num_back {p : List UInt8} (h : numB p = true) : Lib.itoa (numV p) = p := by
  unfold numB at h
  obtain ⟨v, hv⟩ := Option.isSome_iff_exists.1 h
  have hn : numV p = v := (num_yes hv).1
  rw [hn]; exact (itoa_of_num hv).1
theorem num_nil {p : List UInt8} (h : numB p = true) : p ≠ [] := by
  rintro rfl
  have : num [] = none := num_empty (by decide)
  have := (num_no this).2
  rw [this] at h; cases h
def raOk (a p q r : List UInt8) : Bool := numB p && (rlB q && (rlB r && okA ⟨a.toArray⟩ (numV p) (rlV q) (rlV r)))
/-- The antenna of a text: its name, its gain and its losses. -/
def ra (l : List UInt8) : Option (List UInt8 × Int × List Int × List Int) :=
  match pieces 32 l with
  | [a, p, q, r] => if raOk a p q r = true then some (a, numV p, rlV q, rlV r) else none
  | _ => none
def raN (l : List UInt8) : ByteArray := ⟨(((ra l).map (·.1)).getD []).toArray⟩
def raG (l : List UInt8) : Int := ((ra l).map (·.2.1)).getD 0
def raH (l : List UInt8) : List Int := ((ra l).map (·.2.2.1)).getD []
def raV (l : List UInt8) : List Int := ((ra l).map (·.2.2.2)).getD []
def raB (l : List UInt8) : Bool := (ra l).isSome
theorem ra_none {l : List UInt8} (h : ra l = none) : raN l = ⟨#[]⟩ ∧ raG l = 0 ∧ raH l = [] ∧ raV l = [] ∧ raB l = false := by unfold raN raG raH raV raB; rw [h]; exact ⟨rfl, rfl, rfl, rfl, rfl⟩
theorem ra_some {l a : List UInt8} {g : Int} {x y : List Int} (h : ra l = some (a, g, x, y)) : raN l = ⟨a.toArray⟩ ∧ raG l = g ∧ raH l = x ∧ raV l = y ∧ raB l = true := by unfold raN raG raH raV raB; rw [h]; exact ⟨rfl, rfl, rfl, rfl, rfl⟩
theorem four_of {α : Type} {ps : List α} (h : ps.length = 4) : ∃ a b c d, ps = [a, b, c, d] := by
  match ps, h with
  | [a, b, c, d], _ => exact ⟨a, b, c, d, rfl⟩
theorem ra_len {l : List UInt8} (h : (pieces 32 l).length ≠ 4) : ra l = none := by
  unfold ra
  split
  · rename_i e; rw [e] at h; exact absurd rfl h
  · rfl
theorem ra_bad {l a p q r : List UInt8} (h : pieces 32 l = [a, p, q, r]) (g : raOk a p q r = false) : ra l = none := by unfold ra; rw [h]; simp only [g]; rfl
theorem ra_good {l a p q r : List UInt8} (h : pieces 32 l = [a, p, q, r]) (g : raOk a p q r = true) : ra l = some (a, numV p, rlV q, rlV r) := by unfold ra; rw [h]; simp only [g]; rfl
theorem ok_yes {a p q r : List UInt8} (h1 : numB p = true) (h2 : rlB q = true) (h3 : rlB r = true) (h4 : okA ⟨a.toArray⟩ (numV p) (rlV q) (rlV r) = true) : raOk a p q r = true := by unfold raOk; rw [h1, h2, h3, h4]; rfl
theorem ok_no {a p q r : List UInt8} (h : ¬ (numB p = true ∧ rlB q = true ∧ rlB r = true ∧ okA ⟨a.toArray⟩ (numV p) (rlV q) (rlV r) = true)) : raOk a p q r = false := by
  cases e : raOk a p q r with
  | false => rfl
  | true =>
    unfold raOk at e
    rw [Bool.and_eq_true, Bool.and_eq_true, Bool.and_eq_true] at e
    exact absurd e h
theorem of_ok {a p q r : List UInt8} (h : raOk a p q r = true) : numB p = true ∧ rlB q = true ∧ rlB r = true ∧ okA ⟨a.toArray⟩ (numV p) (rlV q) (rlV r) = true := by
  unfold raOk at h
  rw [Bool.and_eq_true, Bool.and_eq_true, Bool.and_eq_true] at h
  exact h
theorem of_ra {l : List UInt8} (h : ra l ≠ none) : ∃ a p q r, pieces 32 l = [a, p, q, r] ∧ raOk a p q r = true := by
  by_cases h4 : (pieces 32 l).length = 4
  · obtain ⟨a, p, q, r, hp⟩ := four_of h4
    cases g : raOk a p q r with
    | false => exact absurd (ra_bad hp g) h
    | true => exact ⟨a, p, q, r, hp, g⟩
  · exact absurd (ra_len h4) h
theorem rlV_ne {q : List UInt8} {n m : Nat} (h : Ant.lossB (rlV q) n m = true) (hn : 0 < n) : rlV q ≠ [] := by
  intro e
  have := (Ant.of_loss h).1
  rw [e] at this
  simp at this
  omega
theorem ra_words {l a p q r : List UInt8} (h : pieces 32 l = [a, p, q, r]) (g : raOk a p q r = true) : words l = [a, p, q, r] := by
  obtain ⟨g1, g2, g3, g4⟩ := of_ok g
  have hn := (of_okA g4).1
  rw [words_all, h]
  rw [h]
  intro y hy
  simp at hy
  rcases hy with rfl | rfl | rfl | rfl
  · exact nil_bytes (by simpa using hn)
  · exact num_nil g1
  · exact rl_ne g2
  · exact rl_ne g3
theorem ra_words_len {l : List UInt8} (h : (words l).length ≠ 4) : ra l = none := by
  refine Classical.byContradiction fun hn => ?_
  obtain ⟨a, p, q, r, hp, g⟩ := of_ra hn
  rw [ra_words hp g] at h
  exact h rfl
theorem join4 (c : UInt8) (x y z u : List UInt8) : Lib.join [x, y, z, u] [c] = x ++ c :: (y ++ c :: (z ++ c :: u)) := by
  rw [join_two, join_two, join_two, Lib.join_one]
theorem antT_list {a p q r : List UInt8} (g : raOk a p q r = true) : (antT ⟨a.toArray⟩ (numV p) (rlV q) (rlV r)).data.toList = a ++ 32 :: (p ++ 32 :: (q ++ 32 :: r)) := by
  obtain ⟨g1, g2, g3, g4⟩ := of_ok g
  obtain ⟨-, -, h1, h2⟩ := of_okA g4
  have c1 := commas_rl (rl_of g2) (rlV_ne h1 (by omega))
  have c2 := commas_rl (rl_of g3) (rlV_ne h2 (by omega))
  unfold antT dec com
  simp [num_back g1, c1, c2]
theorem ra_words_bad {l a p q r : List UInt8} (h : words l = [a, p, q, r]) (g : ¬ (numB p = true ∧ rlB q = true ∧ rlB r = true ∧ (textV (okA ⟨a.toArray⟩ (numV p) (rlV q) (rlV r)) ⟨a.toArray⟩ (numV p) (rlV q) (rlV r)).data.toList = l)) : ra l = none := by
  refine Classical.byContradiction fun hn => ?_
  obtain ⟨a', p', q', r', hp, k⟩ := of_ra hn
  have hw := ra_words hp k
  rw [h] at hw
  simp only [List.cons.injEq, and_true] at hw
  obtain ⟨rfl, rfl, rfl, rfl⟩ := hw
  obtain ⟨k1, k2, k3, k4⟩ := of_ok k
  refine g ⟨k1, k2, k3, ?_⟩
  unfold textV
  rw [if_pos k4, antT_list k, ← join4 32 a p q r, ← hp]
  exact join_back 32 l
theorem ra_words_good {l a p q r : List UInt8} (h : words l = [a, p, q, r]) (g1 : numB p = true) (g2 : rlB q = true) (g3 : rlB r = true) (g4 : (textV (okA ⟨a.toArray⟩ (numV p) (rlV q) (rlV r)) ⟨a.toArray⟩ (numV p) (rlV q) (rlV r)).data.toList = l) : ra l = some (a, numV p, rlV q, rlV r) := by
  have m : ∀ y ∈ [a, p, q, r], (32 : UInt8) ∉ y := fun y hy => pieces_mem (words_mem (by rw [h]; exact hy))
  cases k : okA ⟨a.toArray⟩ (numV p) (rlV q) (rlV r) with
  | false =>
    unfold textV at g4
    rw [k, if_neg (by simp)] at g4
    have hl : l = [] := g4.symm
    rw [hl] at h
    have e0 : words ([] : List UInt8) = [] := by decide
    rw [e0] at h
    cases h
  | true =>
    have kk := ok_yes g1 g2 g3 k
    unfold textV at g4
    rw [k, if_pos rfl, antT_list kk] at g4
    have hp : pieces 32 l = [a, p, q, r] := by
      rw [← g4, pieces_hit _ (m a (by simp)), pieces_hit _ (m p (by simp)), pieces_hit _ (m q (by simp)), pieces_none (m r (by simp))]
    exact ra_good hp kk
theorem ra_lens (l : List UInt8) : (raH l).length + (raV l).length ≤ 1048576 := by
  cases e : ra l with
  | none =>
    obtain ⟨-, -, a, b, -⟩ := ra_none e
    rw [a, b]; simp
  | some x =>
    obtain ⟨a, p, q, r, h1, h2⟩ := of_ra (by rw [e]; simp)
    obtain ⟨-, -, a, b, -⟩ := ra_some (ra_good h1 h2)
    rw [a, b]
    have := rlV_len q
    have := rlV_len r
    omega
end Go.Proofs.YtnambnddoebeiaaDoor.RdA
