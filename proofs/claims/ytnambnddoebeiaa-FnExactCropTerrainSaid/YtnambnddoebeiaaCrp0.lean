
/-
  A part of a terrain: its code and its numbers, plainly. No condition.
-/
import Derived.Test.YtnambnddoebeiaaTerrOkI
import Derived.Test.YtnambnddoebeiaaTRecOwn
import Derived.Test.YtnambnddoebeiaaBmP
namespace Go.Proofs.Ytnambnddoebeiaa.Crp
open Go.RowKit
open Plain Terr
open Ints (Ints Own)
open Ant (listOf listOf_len listOf_at listOf_succ)

def cropB (x y px py a b : Int) : Bool := inB a 2 24 && (inB b 2 24 && (inB px 0 (x - a) && inB py 0 (y - b)))
theorem cb_1 {x y px py a b : Int} (h : inB a 2 24 = false) : cropB x y px py a b = false := by unfold cropB; rw [h]; rfl
theorem cb_2 {x y px py a b : Int} (h : inB b 2 24 = false) : cropB x y px py a b = false := by unfold cropB; rw [h]; simp
theorem cb_3 {x y px py a b : Int} (h : inB px 0 (x - a) = false) : cropB x y px py a b = false := by unfold cropB; rw [h]; simp
theorem cb_4 {x y px py a b : Int} (h : inB py 0 (y - b) = false) : cropB x y px py a b = false := by unfold cropB; rw [h]; simp
theorem cb_0 {x y px py a b : Int} (h1 : inB a 2 24 = true) (h2 : inB b 2 24 = true) (h3 : inB px 0 (x - a) = true) (h4 : inB py 0 (y - b) = true) : cropB x y px py a b = true := by unfold cropB; rw [h1, h2, h3, h4]; rfl
def crC (s x y px py a b : Int) (zs cs : List Int) : Int := if okT s x y zs cs = false then 1 else if cropB x y px py a b = false then 2 else 0
def crI (co v : Int) : Int := if co = 0 then v else 0
def crL (co : Int) (zs : List Int) : List Int := if co = 0 then zs else []
theorem cr_1 {s x y px py a b : Int} {zs cs : List Int} (h : okT s x y zs cs = false) : crC s x y px py a b zs cs = 1 := by unfold crC; rw [if_pos h]
theorem cr_2 {s x y px py a b : Int} {zs cs : List Int} (h : okT s x y zs cs = true) (h2 : cropB x y px py a b = false) : crC s x y px py a b zs cs = 2 := by unfold crC; rw [if_neg (by rw [h]; simp), if_pos h2]
theorem cr_0 {s x y px py a b : Int} {zs cs : List Int} (h : okT s x y zs cs = true) (h2 : cropB x y px py a b = true) : crC s x y px py a b zs cs = 0 := by unfold crC; rw [if_neg (by rw [h]; simp), if_neg (by rw [h2]; simp)]
/-- The m-th number of the part: X wide the whole, A wide the part, from px, py on. -/
def pick (zs : List Int) (X px py A m : Nat) : Int := zs.getD ((py + m / A) * X + px + m % A) 0
def crop (zs : List Int) (x px py a b : Int) : List Int := listOf (pick zs x.toNat px.toNat py.toNat a.toNat) (b.toNat * a.toNat)
theorem pick_at (zs : List Int) (X px py : Nat) {A k j : Nat} (hj : j < A) : pick zs X px py A (k * A + j) = zs.getD ((py + k) * X + px + j) 0 := by
  unfold pick
  rw [Nat.mul_comm k A, Nat.mul_add_div (by omega), Nat.div_eq_of_lt hj, Nat.add_zero, Nat.mul_add_mod, Nat.mod_eq_of_lt hj]
theorem at_lt {X Y px py A B k j : Nat} (hx : px + A ≤ X) (hy : py + B ≤ Y) (hk : k < B) (hj : j < A) : (py + k) * X + px + j < X * Y := by
  have : (py + k + 1) * X ≤ Y * X := Nat.mul_le_mul_right X (by omega)
  rw [Nat.succ_mul] at this
  rw [Nat.mul_comm X Y]
  omega
theorem lt_576 {A B k j : Nat} (hA : A ≤ 24) (hB : B ≤ 24) (hk : k < B) (hj : j ≤ A) : k * A + j ≤ 576 := by
  have h1 : k * A ≤ 23 * 24 := Nat.mul_le_mul (by omega) hA
  omega
/-- What is known where all is in its bounds. -/
theorem nats {s x y px py a b : Int} {zs cs : List Int} (h : okT s x y zs cs = true) (h1 : inB a 2 24 = true) (h2 : inB b 2 24 = true) (h3 : inB px 0 (x - a) = true) (h4 : inB py 0 (y - b) = true) :
    ∃ X Y P Q A B : Nat, x = (X : Int) ∧ y = (Y : Int) ∧ px = (P : Int) ∧ py = (Q : Int) ∧ a = (A : Int) ∧ b = (B : Int) ∧ (1 ≤ s ∧ s ≤ 10000) ∧ (2 ≤ X ∧ X ≤ 24) ∧ (2 ≤ Y ∧ Y ≤ 24) ∧ (2 ≤ A ∧ A ≤ 24) ∧ (2 ≤ B ∧ B ≤ 24) ∧ P + A ≤ X ∧ Q + B ≤ Y ∧ zs.length = X * Y ∧ cs.length = zs.length := by
  obtain ⟨i1, i2, i3, -⟩ := of_okT h
  obtain ⟨s1, s2, s3, -, -⟩ := of_size i1
  have a1 := of_inB h1
  have a2 := of_inB h2
  have a3 := of_inB h3
  have a4 := of_inB h4
  obtain ⟨X, rfl⟩ := Int.eq_ofNat_of_zero_le (a := x) (by omega)
  obtain ⟨Y, rfl⟩ := Int.eq_ofNat_of_zero_le (a := y) (by omega)
  obtain ⟨P, rfl⟩ := Int.eq_ofNat_of_zero_le (a := px) (by omega)
  obtain ⟨Q, rfl⟩ := Int.eq_ofNat_of_zero_le (a := py) (by omega)
  obtain ⟨A, rfl⟩ := Int.eq_ofNat_of_zero_le (a := a) (by omega)
  obtain ⟨B, rfl⟩ := Int.eq_ofNat_of_zero_le (a := b) (by omega)
  exact ⟨X, Y, P, Q, A, B, rfl, rfl, rfl, rfl, rfl, rfl, s1, ⟨by omega, by omega⟩, ⟨by omega, by omega⟩, ⟨by omega, by omega⟩, ⟨by omega, by omega⟩, by omega, by omega, by exact_mod_cast i2, i3⟩
theorem nilR (B : Nat) (w : World) : TRec.OwnR B w none 0 0 none 0 0 [] [] := ⟨rfl, rfl, Own.empty _ _ _ _, Own.empty _ _ _ _, fun h => absurd h (by omega)⟩
end Go.Proofs.Ytnambnddoebeiaa.Crp
