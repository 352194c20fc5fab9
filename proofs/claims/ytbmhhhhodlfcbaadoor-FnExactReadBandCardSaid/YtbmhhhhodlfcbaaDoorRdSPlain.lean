
/-
  The sites and sectors that texts stand for, in plain words. No condition.
-/
import Derived.Test.YtbmhhhhodlfcbaaDoorRdMPlain
import Derived.Test.YtbmhhhhodlfcbaaDoorSite
import Derived.Test.YtbmhhhhodlfcbaaDoorSec
import Derived.Test.YtbmhhhhodlfcbaaDoorReadPt
namespace Go.Proofs.YtbmhhhhodlfcbaaDoor.RdS
open Go.RowKit
open Plain
open Point (okB)
open Msk (pieces_mem join_two join_back words_mem word_len commas_rl rl_of rl_ne)
open PointText (ptT ptT_yes dec)
open Site (okS siteT siteT_yes siteT_no of_okS)
open ListSpec (listT listT_yes)

theorem nil_bytes {p : List UInt8} (h : nameB p = true) : p ≠ [] := by rintro rfl; cases h
theorem words_all {l : List UInt8} (h : ∀ p ∈ pieces 32 l, p ≠ []) : words l = pieces 32 l := by
  unfold words wordsTo
  rw [List.take_length, List.filter_eq_self]
  intro p hp
  have := h p hp
  cases p with
  | nil => exact absurd rfl this
  | cons _ _ => rfl
theorem rpt_back {c : List UInt8} (h : rB c = true) : okB (rX c) (rY c) = true ∧ (ptT (rX c) (rY c)).data.toList = c := by
  by_cases h2 : (pieces 44 c).length = 2
  · obtain ⟨p, q, hp⟩ := two_of h2
    by_cases g : numB p = true ∧ numB q = true ∧ Point.okB (numV p) (numV q) = true
    · obtain ⟨e1, e2, -⟩ := rpt_good hp g
      rw [e1, e2]
      refine ⟨g.2.2, ?_⟩
      rw [ptT_yes g.2.2]
      have i1 : Lib.itoa (numV p) = p := by
        have := g.1
        unfold numB at this
        obtain ⟨v, hv⟩ := Option.isSome_iff_exists.1 this
        have hn : numV p = v := (num_yes hv).1
        rw [hn]; exact (itoa_of_num hv).1
      have i2 : Lib.itoa (numV q) = q := by
        have := g.2.1
        unfold numB at this
        obtain ⟨v, hv⟩ := Option.isSome_iff_exists.1 this
        have hn : numV q = v := (num_yes hv).1
        rw [hn]; exact (itoa_of_num hv).1
      have j := join_back 44 c
      rw [hp, join_two] at j
      have e0 : Lib.join [q] [44] = q := Lib.join_one q [44]
      show (dec (numV p) ++ (⟨#[44]⟩ : ByteArray) ++ dec (numV q)).data.toList = c
      have d1 : (dec (numV p)).data.toList = p := by show (Lib.itoa (numV p)).toArray.toList = p; simpa using i1
      have d2 : (dec (numV q)).data.toList = q := by show (Lib.itoa (numV q)).toArray.toList = q; simpa using i2
      rw [ByteArray.data_append, ByteArray.data_append, Array.toList_append, Array.toList_append, d1, d2]
      rw [← j, e0]
      simp
    · have := (rpt_bad hp g).2.2
      rw [this] at h; cases h
  · have := (r_none (rpt_len h2)).2.2
    rw [this] at h; cases h
theorem pt_ne {c : List UInt8} (h : rB c = true) : c ≠ [] := by
  rintro rfl
  cases h
/-- The site of a text. -/
def rs (l : List UInt8) : Option (List UInt8 × List UInt8 × Int × Int) :=
  match pieces 32 l with
  | [a, b, c] => if (nameB a && (nameB b && rB c)) = true then some (a, b, rX c, rY c) else none
  | _ => none
theorem rs_len {l : List UInt8} (h : (pieces 32 l).length ≠ 3) : rs l = none := by
  unfold rs
  split
  · rename_i e; rw [e] at h; exact absurd rfl h
  · rfl
theorem rs_bad {l a b c : List UInt8} (h : pieces 32 l = [a, b, c]) (g : (nameB a && (nameB b && rB c)) = false) : rs l = none := by unfold rs; rw [h]; simp only [g]; rfl
theorem rs_good {l a b c : List UInt8} (h : pieces 32 l = [a, b, c]) (g : (nameB a && (nameB b && rB c)) = true) : rs l = some (a, b, rX c, rY c) := by unfold rs; rw [h]; simp only [g]; rfl
theorem three_of {α : Type} {ps : List α} (h : ps.length = 3) : ∃ a b c, ps = [a, b, c] := by
  match ps, h with
  | [a, b, c], _ => exact ⟨a, b, c, rfl⟩
theorem of_rs {l : List UInt8} (h : rs l ≠ none) : ∃ a b c, pieces 32 l = [a, b, c] ∧ nameB a = true ∧ nameB b = true ∧ rB c = true := by
  by_cases h3 : (pieces 32 l).length = 3
  · obtain ⟨a, b, c, hp⟩ := three_of h3
    cases g : (nameB a && (nameB b && rB c)) with
    | false => exact absurd (rs_bad hp g) h
    | true =>
      rw [Bool.and_eq_true, Bool.and_eq_true] at g
      exact ⟨a, b, c, hp, g.1, g.2.1, g.2.2⟩
  · exact absurd (rs_len h3) h
theorem rs_words {l a b c : List UInt8} (h : pieces 32 l = [a, b, c]) (g1 : nameB a = true) (g2 : nameB b = true) (g3 : rB c = true) : words l = [a, b, c] := by
  rw [words_all, h]
  rw [h]
  intro p hp
  simp at hp
  rcases hp with rfl | rfl | rfl
  · exact nil_bytes g1
  · exact nil_bytes g2
  · exact pt_ne g3
theorem rs_words_len {l : List UInt8} (h : (words l).length ≠ 3) : rs l = none := by
  refine Classical.byContradiction fun hn => ?_
  obtain ⟨a, b, c, hp, g1, g2, g3⟩ := of_rs hn
  rw [rs_words hp g1 g2 g3] at h
  exact h rfl
theorem str_data (a : List UInt8) : (⟨a.toArray⟩ : ByteArray).data.toList = a := by simp
theorem siteT_list {a b : List UInt8} {x y : Int} (h : okS ⟨a.toArray⟩ ⟨b.toArray⟩ x y = true) : (siteT ⟨a.toArray⟩ ⟨b.toArray⟩ x y).data.toList = a ++ 32 :: (b ++ 32 :: (ptT x y).data.toList) := by
  rw [siteT_yes h]
  simp
theorem okS_list {a b : List UInt8} {x y : Int} : okS ⟨a.toArray⟩ ⟨b.toArray⟩ x y = (nameB a && (nameB b && okB x y)) := by unfold okS; simp
theorem join3 (c : UInt8) (x y z : List UInt8) : Lib.join [x, y, z] [c] = x ++ c :: (y ++ c :: z) := by
  rw [join_two, join_two, Lib.join_one]
theorem rs_words_bad {l a b c : List UInt8} (h : words l = [a, b, c]) (g : ¬ (rB c = true ∧ (siteT ⟨a.toArray⟩ ⟨b.toArray⟩ (rX c) (rY c)).data.toList = l)) : rs l = none := by
  refine Classical.byContradiction fun hn => ?_
  obtain ⟨a', b', c', hp, g1, g2, g3⟩ := of_rs hn
  have hw := rs_words hp g1 g2 g3
  rw [h] at hw
  simp only [List.cons.injEq, and_true] at hw
  obtain ⟨rfl, rfl, rfl⟩ := hw
  obtain ⟨k1, k2⟩ := rpt_back g3
  refine g ⟨g3, ?_⟩
  rw [siteT_list (by rw [okS_list, g1, g2, k1]; rfl), k2, ← join3 32 a b c, ← hp]
  exact join_back 32 l
theorem rs_words_good {l a b c : List UInt8} (h : words l = [a, b, c]) (g1 : rB c = true) (g2 : (siteT ⟨a.toArray⟩ ⟨b.toArray⟩ (rX c) (rY c)).data.toList = l) : rs l = some (a, b, rX c, rY c) := by
  have m : ∀ p ∈ [a, b, c], (32 : UInt8) ∉ p := fun p hp => pieces_mem (words_mem (by rw [h]; exact hp))
  obtain ⟨k1, k2⟩ := rpt_back g1
  cases k : okS ⟨a.toArray⟩ ⟨b.toArray⟩ (rX c) (rY c) with
  | false =>
    rw [siteT_no k] at g2
    have hl : l = [] := g2.symm
    rw [hl] at h
    have e0 : words ([] : List UInt8) = [] := by decide
    rw [e0] at h
    cases h
  | true =>
    rw [siteT_list k, k2] at g2
    have hp : pieces 32 l = [a, b, c] := by
      rw [← g2, pieces_hit _ (m a (by simp)), pieces_hit _ (m b (by simp)), pieces_none (m c (by simp))]
    rw [okS_list, Bool.and_eq_true, Bool.and_eq_true] at k
    exact rs_good hp (by rw [k.1, k.2.1, g1]; rfl)
/-! ### Sectors -/
open Sec (okT secT secT_yes secT_no of_okT)
/-- The sector of a text: its five names and its four numbers. -/
def rt (l : List UInt8) : Option (List UInt8 × List UInt8 × List UInt8 × List UInt8 × List UInt8 × Int × Int × Int × Int) :=
  match pieces 32 l with
  | [a, b, c, d, e, f] => match rl f with
    | some [v0, v1, v2, v3] => if okT ⟨a.toArray⟩ ⟨b.toArray⟩ ⟨c.toArray⟩ ⟨d.toArray⟩ ⟨e.toArray⟩ v0 v1 v2 v3 = true then some (a, b, c, d, e, v0, v1, v2, v3) else none
    | _ => none
  | _ => none
theorem six_of {α : Type} {ps : List α} (h : ps.length = 6) : ∃ a b c d e f, ps = [a, b, c, d, e, f] := by
  match ps, h with
  | [a, b, c, d, e, f], _ => exact ⟨a, b, c, d, e, f, rfl⟩
theorem four_of {α : Type} {ps : List α} (h : ps.length = 4) : ∃ a b c d, ps = [a, b, c, d] := by
  match ps, h with
  | [a, b, c, d], _ => exact ⟨a, b, c, d, rfl⟩
theorem rt_len {l : List UInt8} (h : (pieces 32 l).length ≠ 6) : rt l = none := by
  unfold rt
  split
  · rename_i e; rw [e] at h; exact absurd rfl h
  · rfl
theorem rt_list {l a b c d e f : List UInt8} (h : pieces 32 l = [a, b, c, d, e, f]) (g : rl f = none) : rt l = none := by unfold rt; rw [h]; simp only [g]
theorem rt_four {l a b c d e f : List UInt8} {zs : List Int} (h : pieces 32 l = [a, b, c, d, e, f]) (g : rl f = some zs) (g2 : zs.length ≠ 4) : rt l = none := by
  unfold rt; rw [h]; simp only [g]
  split
  · rename_i e; injection e with e; rw [e] at g2; exact absurd rfl g2
  · rfl
theorem rt_bad {l a b c d e f : List UInt8} {v0 v1 v2 v3 : Int} (h : pieces 32 l = [a, b, c, d, e, f]) (g : rl f = some [v0, v1, v2, v3]) (g2 : okT ⟨a.toArray⟩ ⟨b.toArray⟩ ⟨c.toArray⟩ ⟨d.toArray⟩ ⟨e.toArray⟩ v0 v1 v2 v3 = false) : rt l = none := by
  unfold rt; rw [h]; simp only [g, g2]; rfl
theorem rt_good {l a b c d e f : List UInt8} {v0 v1 v2 v3 : Int} (h : pieces 32 l = [a, b, c, d, e, f]) (g : rl f = some [v0, v1, v2, v3]) (g2 : okT ⟨a.toArray⟩ ⟨b.toArray⟩ ⟨c.toArray⟩ ⟨d.toArray⟩ ⟨e.toArray⟩ v0 v1 v2 v3 = true) : rt l = some (a, b, c, d, e, v0, v1, v2, v3) := by
  unfold rt; rw [h]; simp only [g, g2]; rfl
theorem of_rt {l : List UInt8} (h : rt l ≠ none) : ∃ a b c d e f v0 v1 v2 v3, pieces 32 l = [a, b, c, d, e, f] ∧ rl f = some [v0, v1, v2, v3] ∧ okT ⟨a.toArray⟩ ⟨b.toArray⟩ ⟨c.toArray⟩ ⟨d.toArray⟩ ⟨e.toArray⟩ v0 v1 v2 v3 = true := by
  by_cases h6 : (pieces 32 l).length = 6
  · obtain ⟨a, b, c, d, e, f, hp⟩ := six_of h6
    cases g : rl f with
    | none => exact absurd (rt_list hp g) h
    | some zs =>
      by_cases h4 : zs.length = 4
      · obtain ⟨v0, v1, v2, v3, rfl⟩ := four_of h4
        cases g2 : okT ⟨a.toArray⟩ ⟨b.toArray⟩ ⟨c.toArray⟩ ⟨d.toArray⟩ ⟨e.toArray⟩ v0 v1 v2 v3 with
        | false => exact absurd (rt_bad hp g g2) h
        | true => exact ⟨a, b, c, d, e, f, v0, v1, v2, v3, hp, g, g2⟩
      · exact absurd (rt_four hp g h4) h
  · exact absurd (rt_len h6) h
theorem rl_some_ne {f : List UInt8} {zs : List Int} (h : rl f = some zs) : f ≠ [] := rl_ne (by unfold rlB; rw [h]; rfl)
theorem rt_words {l a b c d e f : List UInt8} {v0 v1 v2 v3 : Int} (h : pieces 32 l = [a, b, c, d, e, f]) (g : rl f = some [v0, v1, v2, v3]) (g2 : okT ⟨a.toArray⟩ ⟨b.toArray⟩ ⟨c.toArray⟩ ⟨d.toArray⟩ ⟨e.toArray⟩ v0 v1 v2 v3 = true) : words l = [a, b, c, d, e, f] := by
  obtain ⟨k0, k1, k2, k3, k4, -⟩ := of_okT g2
  rw [words_all, h]
  rw [h]
  intro p hp
  simp at hp
  rcases hp with rfl | rfl | rfl | rfl | rfl | rfl
  · exact nil_bytes (by simpa using k0)
  · exact nil_bytes (by simpa using k1)
  · exact nil_bytes (by simpa using k2)
  · exact nil_bytes (by simpa using k3)
  · exact nil_bytes (by simpa using k4)
  · exact rl_some_ne g
theorem rt_words_len {l : List UInt8} (h : (words l).length ≠ 6) : rt l = none := by
  refine Classical.byContradiction fun hn => ?_
  obtain ⟨a, b, c, d, e, f, v0, v1, v2, v3, hp, g, g2⟩ := of_rt hn
  rw [rt_words hp g g2] at h
  exact h rfl
theorem secT_list {a b c d e : List UInt8} {v0 v1 v2 v3 : Int} (h : okT ⟨a.toArray⟩ ⟨b.toArray⟩ ⟨c.toArray⟩ ⟨d.toArray⟩ ⟨e.toArray⟩ v0 v1 v2 v3 = true) : (secT ⟨a.toArray⟩ ⟨b.toArray⟩ ⟨c.toArray⟩ ⟨d.toArray⟩ ⟨e.toArray⟩ v0 v1 v2 v3).data.toList = a ++ 32 :: (b ++ 32 :: (c ++ 32 :: (d ++ 32 :: (e ++ 32 :: commas [v0, v1, v2, v3])))) := by
  obtain ⟨-, -, -, -, -, r0, r1, r2, r3⟩ := of_okT h
  rw [secT_yes h, listT_yes (Sec.fits4 r0 r1 r2 r3) (by simp)]
  simp
theorem join6 (c : UInt8) (x y z u v w : List UInt8) : Lib.join [x, y, z, u, v, w] [c] = x ++ c :: (y ++ c :: (z ++ c :: (u ++ c :: (v ++ c :: w)))) := by
  rw [join_two, join_two, join_two, join_two, join_two, Lib.join_one]
theorem rt_words_list {l a b c d e f : List UInt8} (h : words l = [a, b, c, d, e, f]) (g : rl f = none ∨ ∃ zs, rl f = some zs ∧ zs.length ≠ 4) : rt l = none := by
  refine Classical.byContradiction fun hn => ?_
  obtain ⟨a', b', c', d', e', f', v0, v1, v2, v3, hp, k, k2⟩ := of_rt hn
  have hw := rt_words hp k k2
  rw [h] at hw
  simp only [List.cons.injEq, and_true] at hw
  obtain ⟨rfl, rfl, rfl, rfl, rfl, rfl⟩ := hw
  rcases g with g | ⟨zs, g, g4⟩
  · rw [g] at k; cases k
  · rw [g] at k; injection k with k; rw [k] at g4; exact g4 rfl
theorem rt_words_bad {l a b c d e f : List UInt8} {v0 v1 v2 v3 : Int} (h : words l = [a, b, c, d, e, f]) (g : rl f = some [v0, v1, v2, v3]) (g2 : ¬ (secT ⟨a.toArray⟩ ⟨b.toArray⟩ ⟨c.toArray⟩ ⟨d.toArray⟩ ⟨e.toArray⟩ v0 v1 v2 v3).data.toList = l) : rt l = none := by
  refine Classical.byContradiction fun hn => ?_
  obtain ⟨a', b', c', d', e', f', u0, u1, u2, u3, hp, k, k2⟩ := of_rt hn
  have hw := rt_words hp k k2
  rw [h] at hw
  simp only [List.cons.injEq, and_true] at hw
  obtain ⟨rfl, rfl, rfl, rfl, rfl, rfl⟩ := hw
  rw [g] at k
  simp only [Option.some.injEq, List.cons.injEq, and_true] at k
  obtain ⟨rfl, rfl, rfl, rfl⟩ := k
  refine g2 ?_
  rw [secT_list k2, commas_rl g (by simp), ← join6 32 a b c d e f, ← hp]
  exact join_back 32 l
theorem rt_words_good {l a b c d e f : List UInt8} {v0 v1 v2 v3 : Int} (h : words l = [a, b, c, d, e, f]) (g : rl f = some [v0, v1, v2, v3]) (g2 : (secT ⟨a.toArray⟩ ⟨b.toArray⟩ ⟨c.toArray⟩ ⟨d.toArray⟩ ⟨e.toArray⟩ v0 v1 v2 v3).data.toList = l) : rt l = some (a, b, c, d, e, v0, v1, v2, v3) := by
  have m : ∀ p ∈ [a, b, c, d, e, f], (32 : UInt8) ∉ p := fun p hp => pieces_mem (words_mem (by rw [h]; exact hp))
  cases k : okT ⟨a.toArray⟩ ⟨b.toArray⟩ ⟨c.toArray⟩ ⟨d.toArray⟩ ⟨e.toArray⟩ v0 v1 v2 v3 with
  | false =>
    rw [secT_no k] at g2
    have hl : l = [] := g2.symm
    rw [hl] at h
    have e0 : words ([] : List UInt8) = [] := by decide
    rw [e0] at h
    cases h
  | true =>
    rw [secT_list k, commas_rl g (by simp)] at g2
    have hp : pieces 32 l = [a, b, c, d, e, f] := by
      rw [← g2, pieces_hit _ (m a (by simp)), pieces_hit _ (m b (by simp)), pieces_hit _ (m c (by simp)), pieces_hit _ (m d (by simp)), pieces_hit _ (m e (by simp)), pieces_none (m f (by simp))]
    exact rt_good hp g k
end Go.Proofs.YtbmhhhhodlfcbaaDoor.RdS
