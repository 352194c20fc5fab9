
/-
  The values of the ground between two points: plain facts.
-/
import Derived.Test.YtadoaenmmemjdaaPlcE
import Derived.Test.YtadoaenmmemjdaaTerrIn
namespace Go.Proofs.Ytadoaenmmemjdaa.Prf
open Plain Terr Plc
open Point (okB)
/-- The values at given places. -/
def vals (F : Int → Int → Int) (ps : List (Int × Int)) : List Int := ps.map fun p => F p.1 p.2
theorem vals_len (F : Int → Int → Int) (ps : List (Int × Int)) : (vals F ps).length = ps.length := by simp [vals]
theorem vals_at (F : Int → Int → Int) {ps : List (Int × Int)} {k : Nat} (h : k < ps.length) : (vals F ps).getD k 0 = F (ps.getD k (0, 0)).1 (ps.getD k (0, 0)).2 := by simp [vals, h]
theorem vals_take (F : Int → Int → Int) {ps : List (Int × Int)} {k : Nat} (h : k < ps.length) : (vals F ps).take (k + 1) = (vals F ps).take k ++ [F (ps.getD k (0, 0)).1 (ps.getD k (0, 0)).2] := by
  rw [List.take_succ_eq_append_getElem (by rw [vals_len]; exact h)]
  simp [vals, h]
theorem plc_in {s x y ax ay bx bv : Int} {n k : Nat} (hn : 2 ≤ n) (hk : k < n) (ia : inT s x y ax ay = true) (ib : inT s x y bx bv = true) : inT s x y ((plcs ax ay bx bv n).getD k (0, 0)).1 ((plcs ax ay bx bv n).getD k (0, 0)).2 = true := by
  rw [plcs_at _ _ _ _ hk]
  obtain ⟨⟨a0, a1⟩, a2, a3⟩ := of_inT ia
  obtain ⟨⟨b0, b1⟩, b2, b3⟩ := of_inT ib
  obtain ⟨⟨p0, p1⟩, p2, p3⟩ := plc_bd (k := k) hn hk a0 a1 a2 a3 b0 b1 b2 b3
  rw [inT_2 (inB_yes p0 p1), inB_yes p2 p3]
theorem ok_in {s x y ax ay : Int} (hs : sizeB s x y = true) (ia : inT s x y ax ay = true) : okB ax ay = true := by
  obtain ⟨-, -, -, h1, h2⟩ := of_size hs
  obtain ⟨⟨a0, a1⟩, a2, a3⟩ := of_inT ia
  unfold okB; rw [inB_yes a0 (by omega), inB_yes a2 (by omega)]; rfl
def prC (s x y ax ay bx bv n : Int) (zs cs : List Int) : Int :=
  if okT s x y zs cs = false then 1 else if okB ax ay = false ∨ okB bx bv = false then 1 else if inB n 2 65 = false then 2 else if inT s x y ax ay = false ∨ inT s x y bx bv = false then 2 else 0
def prL (F : Int → Int → Int) (s x y ax ay bx bv n : Int) (zs cs : List Int) : List Int := if prC s x y ax ay bx bv n zs cs = 0 then vals F (plcs ax ay bx bv n.toNat) else []
theorem prC_0 {s x y ax ay bx bv n : Int} {zs cs : List Int} (h : okT s x y zs cs = false) : prC s x y ax ay bx bv n zs cs = 1 := by unfold prC; rw [if_pos h]
theorem prC_1 {s x y ax ay bx bv n : Int} {zs cs : List Int} (h : okT s x y zs cs = true) (h1 : okB ax ay = false) : prC s x y ax ay bx bv n zs cs = 1 := by unfold prC; rw [if_neg (by rw [h]; simp), if_pos (.inl h1)]
theorem prC_2 {s x y ax ay bx bv n : Int} {zs cs : List Int} (h : okT s x y zs cs = true) (h2 : okB bx bv = false) : prC s x y ax ay bx bv n zs cs = 1 := by unfold prC; rw [if_neg (by rw [h]; simp), if_pos (.inr h2)]
theorem prC_3 {s x y ax ay bx bv n : Int} {zs cs : List Int} (h : okT s x y zs cs = true) (h1 : okB ax ay = true) (h2 : okB bx bv = true) (h3 : inB n 2 65 = false) : prC s x y ax ay bx bv n zs cs = 2 := by
  unfold prC; rw [if_neg (by rw [h]; simp), if_neg (by rw [h1, h2]; simp), if_pos h3]
theorem prC_4 {s x y ax ay bx bv n : Int} {zs cs : List Int} (h : okT s x y zs cs = true) (h1 : okB ax ay = true) (h2 : okB bx bv = true) (h3 : inB n 2 65 = true) (h4 : inT s x y ax ay = false) : prC s x y ax ay bx bv n zs cs = 2 := by
  unfold prC; rw [if_neg (by rw [h]; simp), if_neg (by rw [h1, h2]; simp), if_neg (by rw [h3]; simp), if_pos (.inl h4)]
theorem prC_5 {s x y ax ay bx bv n : Int} {zs cs : List Int} (h : okT s x y zs cs = true) (h1 : okB ax ay = true) (h2 : okB bx bv = true) (h3 : inB n 2 65 = true) (h5 : inT s x y bx bv = false) : prC s x y ax ay bx bv n zs cs = 2 := by
  unfold prC; rw [if_neg (by rw [h]; simp), if_neg (by rw [h1, h2]; simp), if_neg (by rw [h3]; simp), if_pos (.inr h5)]
theorem prC_6 {s x y ax ay bx bv n : Int} {zs cs : List Int} (h : okT s x y zs cs = true) (h1 : okB ax ay = true) (h2 : okB bx bv = true) (h3 : inB n 2 65 = true) (h4 : inT s x y ax ay = true) (h5 : inT s x y bx bv = true) : prC s x y ax ay bx bv n zs cs = 0 := by
  unfold prC; rw [if_neg (by rw [h]; simp), if_neg (by rw [h1, h2]; simp), if_neg (by rw [h3]; simp), if_neg (by rw [h4, h5]; simp)]
theorem prL_no {F : Int → Int → Int} {s x y ax ay bx bv n c : Int} {zs cs : List Int} (h : prC s x y ax ay bx bv n zs cs = c) (hc : c ≠ 0) : prL F s x y ax ay bx bv n zs cs = [] := by unfold prL; rw [if_neg (by rw [h]; exact hc)]
theorem prL_yes {F : Int → Int → Int} {s x y ax ay bx bv : Int} {n : Nat} {zs cs : List Int} (h : prC s x y ax ay bx bv n zs cs = 0) : prL F s x y ax ay bx bv n zs cs = vals F (plcs ax ay bx bv n) := by unfold prL; rw [if_pos h]; rfl
theorem prL_len (F : Int → Int → Int) (s x y ax ay bx bv n : Int) (zs cs : List Int) : (prL F s x y ax ay bx bv n zs cs).length ≤ 65 := by
  unfold prL
  split
  · next h =>
    rw [vals_len, plcs_len]
    unfold prC at h
    split at h
    · omega
    · split at h
      · omega
      · split at h
        · omega
        · next h3 =>
          have := of_inB (show inB n 2 65 = true by cases hh : inB n 2 65 with | true => rfl | false => exact absurd hh h3)
          omega
  · exact Nat.zero_le _
end Go.Proofs.Ytadoaenmmemjdaa.Prf
