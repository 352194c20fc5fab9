
/-
  Plain facts on the text of a point, with no program in them.
-/
import Derived.Test.YtnambnddoebeiaaDoorPieces
import Derived.Test.YtnambnddoebeiaaDoorNumPlain
import Derived.Test.YtnambnddoebeiaaDoorPoint
import Derived.Lib.CutLaws
namespace Go.Proofs.YtnambnddoebeiaaDoor.Plain
open Go Go.Lib

theorem decFrom_digit : ∀ (l : List UInt8) (acc n : Nat), decFrom acc l = some n → ∀ b ∈ l, digitVal b ≠ none
  | [], _, _, _, b, hb => by cases hb
  | c :: r, acc, n, h, b, hb => by
    unfold decFrom at h
    cases hc : digitVal c with
    | none => rw [hc] at h; cases h
    | some d =>
      rw [hc] at h
      rcases List.mem_cons.1 hb with rfl | hb'
      · rw [hc]; simp
      · exact decFrom_digit r _ n h b hb'
theorem num_no44 {l : List UInt8} (h : (44 : UInt8) ∈ l) : num l = none := by
  have hb : (44 : UInt8) ∈ behind l := by
    unfold behind
    split
    · rename_i h1
      cases l with
      | nil => cases h
      | cons c r =>
        rcases List.mem_cons.1 h with e | h'
        · subst e; simp at h1
        · exact h'
    · exact h
  unfold num
  split
  · rfl
  · cases hd : decFrom 0 (behind l) with
    | none => rfl
    | some n => exact absurd rfl (show (digitVal 44 : Option Nat) ≠ none from decFrom_digit _ _ _ hd 44 hb)
/-- The point with a text. -/
def rpt (l : List UInt8) : Option (Int × Int) :=
  match pieces 44 l with
  | [a, b] => if numB a = true ∧ numB b = true ∧ Point.okB (numV a) (numV b) = true then some (numV a, numV b) else none
  | _ => none
def rX (l : List UInt8) : Int := ((rpt l).map Prod.fst).getD 0
def rY (l : List UInt8) : Int := ((rpt l).map Prod.snd).getD 0
def rB (l : List UInt8) : Bool := (rpt l).isSome
theorem r_none {l : List UInt8} (h : rpt l = none) : rX l = 0 ∧ rY l = 0 ∧ rB l = false := by unfold rX rY rB; rw [h]; exact ⟨rfl, rfl, rfl⟩
theorem r_some {l : List UInt8} {a b : Int} (h : rpt l = some (a, b)) : rX l = a ∧ rY l = b ∧ rB l = true := by unfold rX rY rB; rw [h]; exact ⟨rfl, rfl, rfl⟩
theorem rpt_len {l : List UInt8} (h : (pieces 44 l).length ≠ 2) : rpt l = none := by
  unfold rpt
  split
  · rename_i e; rw [e] at h; exact absurd rfl h
  · rfl
theorem rpt_two {l a b : List UInt8} (h : pieces 44 l = [a, b]) : rpt l = if numB a = true ∧ numB b = true ∧ Point.okB (numV a) (numV b) = true then some (numV a, numV b) else none := by
  unfold rpt; rw [h]
theorem rpt_bad {l a b : List UInt8} (h : pieces 44 l = [a, b]) (h2 : ¬ (numB a = true ∧ numB b = true ∧ Point.okB (numV a) (numV b) = true)) : rX l = 0 ∧ rY l = 0 ∧ rB l = false :=
  r_none (by rw [rpt_two h, if_neg h2])
theorem rpt_good {l a b : List UInt8} (h : pieces 44 l = [a, b]) (h2 : numB a = true ∧ numB b = true ∧ Point.okB (numV a) (numV b) = true) : rX l = numV a ∧ rY l = numV b ∧ rB l = true :=
  r_some (by rw [rpt_two h, if_pos h2])
theorem cut_comma (l : List UInt8) : ∃ a b f, cut l [44] = (a, b, f) ∧ a.length ≤ l.length ∧ b.length ≤ l.length ∧ ((pieces 44 l = [a, b]) ∨ (numB b = false ∧ rpt l = none)) := by
  by_cases hx : indexByte l 44 = -1
  · have hn := indexByte_none hx
    have h0 : (44 : UInt8) ∉ l := fun hm => by
      obtain ⟨j, hj, hc⟩ := List.getElem_of_mem hm
      exact hn j (by rw [List.getElem?_eq_getElem hj, hc])
    refine ⟨l, [], false, ?_, Nat.le_refl _, Nat.zero_le _, .inr ⟨rfl, rpt_len (by rw [pieces_none h0]; simp)⟩⟩
    unfold cut
    rw [index_one, hx]; rfl
  · have hge := indexByte_ge l 44
    obtain ⟨i, hi⟩ := Int.eq_ofNat_of_zero_le (a := indexByte l 44) (by omega)
    obtain ⟨h1, h2⟩ := indexByte_some hi
    obtain ⟨hl, hcut, hm⟩ := cut_at h1 h2
    have ep : pieces 44 l = l.take i :: pieces 44 (l.drop (i + 1)) := by
      conv => lhs; rw [hcut]
      exact pieces_hit _ hm
    refine ⟨l.take i, l.drop (i + 1), true, ?_, by rw [List.length_take]; omega, by rw [List.length_drop]; omega, ?_⟩
    · unfold cut
      rw [index_one, hi, if_pos (by omega)]; rfl
    · by_cases hb : (44 : UInt8) ∈ l.drop (i + 1)
      · refine .inr ⟨(num_no (num_no44 hb)).2, rpt_len ?_⟩
        rw [ep, List.length_cons, pieces_len]
        have := List.count_pos_iff.2 hb
        omega
      · exact .inl (by rw [ep, pieces_none hb])
theorem two_of {ps : List (List UInt8)} (h : ps.length = 2) : ∃ a b, ps = [a, b] := by
  match ps, h with
  | [a, b], _ => exact ⟨a, b, rfl⟩
end Go.Proofs.YtnambnddoebeiaaDoor.Plain
