
/-
  Mirrored losses, and a store into a list of its own memory. Conditions: each theorem's own.
-/
import Derived.Test.YtmfhhmlndclkiaaAntOwnS
import Derived.Test.YtmfhhmlndclkiaaAntRingB
import Derived.Test.YtmfhhmlndclkiaaReverse
namespace Go.Proofs.Ytmfhhmlndclkiaa.Ant
open Go.RowKit
open Plain
open Ints (Ints Own)

/-- The first k losses mirrored. -/
def mirV (z : List Int) (k j : Nat) : Int := if 1 ≤ j ∧ j < k then z.getD (36 - j) 0 else z.getD j 0
def mirK (z : List Int) (k : Nat) : List Int := (List.range 36).map (mirV z k)
theorem mirK_len (z : List Int) (k : Nat) : (mirK z k).length = 36 := by simp [mirK]
theorem mirK_get (z : List Int) (k j : Nat) (hj : j < 36) : (mirK z k).getD j 0 = mirV z k j := by simp [mirK, hj]
theorem mirK_one {z : List Int} (hz : z.length = 36) : mirK z 1 = z := by
  refine List.ext_getElem (by rw [mirK_len, hz]) fun i h1 h2 => ?_
  have := mirK_get z 1 i (by rw [mirK_len] at h1; exact h1)
  rw [List.getD_eq_getElem?_getD, List.getElem?_eq_getElem h1] at this
  simp only [Option.getD_some] at this
  rw [this]
  unfold mirV
  rw [if_neg (by omega)]
  simp [h2]
theorem mirK_step (z : List Int) (k : Nat) (hk : 1 ≤ k) (i : Nat) (hi : i < 36) : (mirK z (k + 1)).getD i 0 = if i = k then z.getD (36 - k) 0 else (mirK z k).getD i 0 := by
  rw [mirK_get z _ i hi, mirK_get z _ i hi]
  unfold mirV
  by_cases h : i = k
  · rw [if_pos h, if_pos (by omega), h]
  · rw [if_neg h]
    by_cases h2 : 1 ≤ i ∧ i < k
    · rw [if_pos (by omega), if_pos h2]
    · rw [if_neg (by omega), if_neg h2]
/-- The mirrored losses. -/
def mir (z : List Int) : List Int := mirK z 36
/-- The losses of the circle, the other way round. -/
def ringL (z : List Int) : List Int := (List.range 37).map (ring z)
theorem ringL_len (z : List Int) : (ringL z).length = 37 := by simp [ringL]
theorem ring_mir (z : List Int) (i : Nat) (hi : i < 36) : (ringL z).reverse.getD i 0 = (mir z).getD i 0 := by
  unfold mir
  rw [mirK_get z 36 i hi, List.getD_eq_getElem?_getD, List.getElem?_reverse (by rw [ringL_len]; omega), ringL_len]
  unfold ringL
  rw [List.getElem?_map, List.getElem?_range (by omega)]
  simp only [Option.map_some, Option.getD_some]
  unfold ring mirV
  by_cases h : i = 0
  · subst h; rfl
  · rw [if_neg (by omega), if_pos (by omega), show 37 - 1 - i = 36 - i by omega]
theorem own_set {B : Nat} {W : World} {b o n d k : Nat} {zs zs' : List Int} {v : Int} (h : Own B W (.slice (some ⟨b, o, none⟩) n d) zs) (hz : zs.length = n) (hz' : zs'.length = n) (hk : k < n) (he : ∀ i, i < n → zs'.getD i 0 = if i = k then v else zs.getD i 0) :
    Own B (W.setCell ⟨b, o + k, none⟩ (.int .i64 v)) (.slice (some ⟨b, o, none⟩) n d) zs' := by
  subst hz
  obtain ⟨a, cap, hv, hc⟩ := h
  cases hv
  refine ⟨_, _, by rw [hz'], fun _ => ?_⟩
  obtain ⟨b', o', hb', hB, hlt, hf, hcell⟩ := hc (by omega)
  cases hb'
  refine ⟨b, o, rfl, hB, by simpa using hlt, fun i hi => by rw [World.frozen?_setCell]; exact hf i (by omega), fun i hi => ?_⟩
  rw [he i (by omega)]
  by_cases h : i = k
  · subst h
    rw [if_pos rfl]
    exact World.cell?_setCell_same (h := hcell i (by omega)) ..
  · rw [if_neg h]
    exact (World.cell?_setCell_other (h := fun e => h (by injection e with _ e2 _; omega)) ..).trans (hcell i (by omega))
theorem own_other {B : Nat} {W : World} {a : Option Addr} {n d : Nat} {zs : List Int} {p : Addr} {u : Value} (h : Own B W (.slice a n d) zs) (hz : zs.length = n) (hne : 0 < n → ∀ q, a = some q → q.block ≠ p.block) : Own B (W.setCell p u) (.slice a n d) zs :=
  own_keep hz h (by simp) (fun q => World.frozen?_setCell ..) (fun h0 q hq r hr => World.cell?_setCell_other (h := fun e => hne h0 q hq (by rw [← hr, e])) ..)
end Go.Proofs.Ytmfhhmlndclkiaa.Ant
