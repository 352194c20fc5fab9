
/-
  Plain facts on the text of a list, read, with no program in them.
-/
import Derived.Test.YtnambnddoebeiaaDoorPieces
import Derived.Test.YtnambnddoebeiaaDoorNumPlain
import Derived.Test.YtnambnddoebeiaaDoorPlain
namespace Go.Proofs.YtnambnddoebeiaaDoor.Plain
open Go Go.Lib

def numIn (p : List UInt8) : Bool := numB p && inB (numV p) (-1000000000000) 1000000000000
theorem numIn_1 {p : List UInt8} (h : numB p = false) : numIn p = false := by unfold numIn; rw [h]; rfl
theorem numIn_2 {p : List UInt8} {b : Bool} (h : numB p = true) (h2 : inB (numV p) (-1000000000000) 1000000000000 = b) : numIn p = b := by unfold numIn; rw [h, h2]; rfl
/-- The list with a text. -/
def rl (l : List UInt8) : Option (List Int) :=
  if l = [45] then some []
  else if 64 < (pieces 44 l).length then none
  else if (pieces 44 l).all numIn then some ((pieces 44 l).map numV) else none
def rlV (l : List UInt8) : List Int := (rl l).getD []
def rlB (l : List UInt8) : Bool := (rl l).isSome
theorem rl_none {l : List UInt8} (h : rl l = none) : rlV l = [] ∧ rlB l = false := by unfold rlV rlB; rw [h]; exact ⟨rfl, rfl⟩
theorem rl_some {l : List UInt8} {zs : List Int} (h : rl l = some zs) : rlV l = zs ∧ rlB l = true := by unfold rlV rlB; rw [h]; exact ⟨rfl, rfl⟩
theorem rl_dash {l : List UInt8} (h : l = [45]) : rl l = some [] := if_pos h
theorem rl_long {l : List UInt8} (h0 : l ≠ [45]) (h : 64 < (pieces 44 l).length) : rl l = none := by unfold rl; rw [if_neg h0, if_pos h]
theorem rl_bad {l : List UInt8} {ps : List (List UInt8)} (h0 : l ≠ [45]) (hp : ps = pieces 44 l) {k : Nat} (hk : k < ps.length) (hb : numIn ps[k] = false) : rl l = none := by
  subst hp
  unfold rl
  rw [if_neg h0]
  split
  · rfl
  · rw [if_neg]
    intro ha
    rw [List.all_eq_true] at ha
    have := ha _ (List.getElem_mem hk)
    rw [hb] at this
    cases this
theorem rl_good {l : List UInt8} {ps : List (List UInt8)} (h0 : l ≠ [45]) (hp : ps = pieces 44 l) (h : ps.length ≤ 64) (ha : ∀ k (hk : k < ps.length), numIn ps[k] = true) : rl l = some (ps.map numV) := by
  subst hp
  unfold rl
  rw [if_neg h0, if_neg (by omega), if_pos]
  rw [List.all_eq_true]
  intro p hm
  obtain ⟨k, hk, rfl⟩ := List.getElem_of_mem hm
  exact ha k hk
theorem rlV_len (l : List UInt8) : (rlV l).length ≤ 64 := by
  unfold rlV rl
  split
  · exact Nat.zero_le _
  · split
    · exact Nat.zero_le _
    · split
      · rw [Option.getD_some, List.length_map]; omega
      · exact Nat.zero_le _
end Go.Proofs.YtnambnddoebeiaaDoor.Plain
