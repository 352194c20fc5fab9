
/-
  A change of a grid point: plain facts, and what of it has no program but the memory.
-/
import Derived.Test.YtgcpnodpndgekaaTRecCopy
import Derived.Test.YtgcpnodpndgekaaTerrIn
namespace Go.Proofs.Ytgcpnodpndgekaa.Grd
open Plain Terr
open Ints (Ints Own)
def hasB (x y px py : Int) : Bool := inB px 0 (x - 1) && inB py 0 (y - 1)
theorem has_1 {x y px py : Int} (h : inB px 0 (x - 1) = false) : hasB x y px py = false := by unfold hasB; rw [h]; rfl
theorem has_2 {x y px py : Int} (h : inB px 0 (x - 1) = true) : hasB x y px py = inB py 0 (y - 1) := by unfold hasB; rw [h]; rfl
theorem of_has {x y px py : Int} (h : hasB x y px py = true) : (0 ≤ px ∧ px ≤ x - 1) ∧ 0 ≤ py ∧ py ≤ y - 1 := by
  unfold hasB at h
  rw [Bool.and_eq_true] at h
  exact ⟨of_inB h.1, of_inB h.2⟩
def sgC (s x y px py h c : Int) (zs cs : List Int) : Int := if okT s x y zs cs = false then 1 else if hasB x y px py = false then 2 else if gB h c = false then 2 else 0
def sgI (co v : Int) : Int := if co = 0 then v else 0
def sgL (co : Int) (zs : List Int) : List Int := if co = 0 then zs else []
theorem sg_1 {s x y px py h c : Int} {zs cs : List Int} (h0 : okT s x y zs cs = false) : sgC s x y px py h c zs cs = 1 := by unfold sgC; rw [if_pos h0]
theorem sg_2 {s x y px py h c : Int} {zs cs : List Int} (h0 : okT s x y zs cs = true) (h1 : hasB x y px py = false) : sgC s x y px py h c zs cs = 2 := by unfold sgC; rw [if_neg (by rw [h0]; simp), if_pos h1]
theorem sg_3 {s x y px py h c : Int} {zs cs : List Int} (h0 : okT s x y zs cs = true) (h1 : hasB x y px py = true) (h2 : gB h c = false) : sgC s x y px py h c zs cs = 2 := by unfold sgC; rw [if_neg (by rw [h0]; simp), if_neg (by rw [h1]; simp), if_pos h2]
theorem sg_4 {s x y px py h c : Int} {zs cs : List Int} (h0 : okT s x y zs cs = true) (h1 : hasB x y px py = true) (h2 : gB h c = true) : sgC s x y px py h c zs cs = 0 := by unfold sgC; rw [if_neg (by rw [h0]; simp), if_neg (by rw [h1]; simp), if_neg (by rw [h2]; simp)]
theorem sgL_len (co : Int) (zs : List Int) (i : Nat) (v : Int) : (sgL co (zs.set i v)).length ≤ zs.length := by
  unfold sgL; split
  · rw [List.length_set]; exact Nat.le_refl _
  · exact Nat.zero_le _
theorem nilR (B : Nat) (w : World) : TRec.OwnR B w none 0 0 none 0 0 [] [] := ⟨rfl, rfl, Own.empty _ _ _ _, Own.empty _ _ _ _, fun h => absurd h (by omega)⟩
/-- A place of the grid is one of the row. -/
theorem at_in {s x y px py : Int} {n : Nat} (hs : sizeB s x y = true) (hn : (n : Int) = x * y) (h : hasB x y px py = true) : (0 ≤ py * x ∧ py * x ≤ 552) ∧ 0 ≤ py * x + px ∧ (py * x + px).toNat < n ∧ py * x + px < (n : Int) := by
  obtain ⟨-, ⟨x0, x1⟩, ⟨y0, y1⟩, -, -⟩ := of_size hs
  obtain ⟨⟨p0, p1⟩, q0, q1⟩ := of_has h
  have e1 : py * x ≤ (y - 1) * x := Int.mul_le_mul_of_nonneg_right q1 (by omega)
  have e2 : 0 ≤ py * x := Int.mul_nonneg q0 (by omega)
  have e3 : (y - 1) * x ≤ 23 * x := Int.mul_le_mul_of_nonneg_right (by omega) (by omega)
  have e4 : (y - 1) * x + x = x * y := by rw [Int.sub_mul, Int.one_mul, Int.mul_comm y x]; omega
  refine ⟨⟨e2, by omega⟩, by omega, by omega, by omega⟩
theorem own_far {B : Nat} {w : World} {b off n cap : Nat} {zs : List Int} (h : Own B w (.slice (some ⟨b, off, none⟩) n cap) zs) {p : Addr} (hp : p.block ≠ b) (u : Value) : Own B (w.setCell p u) (.slice (some ⟨b, off, none⟩) n cap) zs := by
  obtain ⟨a, c, he, hh⟩ := h
  refine ⟨a, c, he, fun h0 => ?_⟩
  obtain ⟨b', off', ha, hB, hlt, hf, hc⟩ := hh h0
  injection he with e1 e2 e3
  rw [ha] at e1
  injection e1 with e1
  injection e1 with e1 e4
  refine ⟨b', off', ha, hB, by simpa using hlt, fun i hi => by rw [World.frozen?_setCell]; exact hf i hi, fun i hi => ?_⟩
  have hne : p ≠ (⟨b', off' + i, none⟩ : Addr) := by intro hc'; rw [hc'] at hp; exact hp e1.symm
  exact (World.cell?_setCell_other (h := hne) ..).trans (hc i hi)
theorem own_put {B : Nat} {w : World} {b off n cap : Nat} {zs : List Int} (_hl : zs.length = n) (h : Own B w (.slice (some ⟨b, off, none⟩) n cap) zs) {I : Nat} (hI : I < n) (v : Int) : Own B (w.setCell ⟨b, off + I, none⟩ (.int .i64 v)) (.slice (some ⟨b, off, none⟩) n cap) (zs.set I v) := by
  obtain ⟨a, c, he, hh⟩ := h
  refine ⟨a, c, by rw [List.length_set]; exact he, fun h0 => ?_⟩
  rw [List.length_set] at h0 ⊢
  obtain ⟨b', off', ha, hB, hlt, hf, hc⟩ := hh h0
  injection he with e1 e2 e3
  rw [ha] at e1
  injection e1 with e1
  injection e1 with e1 e4
  subst e1 e4
  refine ⟨b, off, ha, hB, by simpa using hlt, fun i hi => by rw [World.frozen?_setCell]; exact hf i hi, fun i hi => ?_⟩
  by_cases g : i = I
  · subst g
    refine (World.cell?_setCell_same (h := hc i hi) ..).trans ?_
    simp [hi]
  · have hne : (⟨b, off + I, none⟩ : Addr) ≠ ⟨b, off + i, none⟩ := by intro hc'; injection hc' with _ h2 _; omega
    refine (World.cell?_setCell_other (h := hne) ..).trans ?_
    rw [hc i hi]
    have g' : ¬ I = i := fun e => g e.symm
    simp [g']
end Go.Proofs.Ytgcpnodpndgekaa.Grd
