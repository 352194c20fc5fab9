
/-
  The losses of a beam: plain facts, and what the model's and the program's functions of one angle return. Conditions: each theorem's own.
-/
import Derived.Test.YtnambnddoebeiaaAntOwn
import Derived.Test.YtnambnddoebeiaaAntOk
import Derived.Test.YtnambnddoebeiaaTurn
import Derived.Test.YtnambnddoebeiaaArith
import Derived.Test.YtnambnddoebeiaaTail
import Derived.Laws.Entries
import Derived.Laws.EntriesVeiled
import Derived.RegionTactic
import Derived.Deep.OwnRows
import Derived.Deep.DeepCutAuto
import Derived.Deep.RegionWith
namespace Go.Proofs.Ytnambnddoebeiaa.Ant
open Go.RowKit
open Plain
open Ints (Ints Own)

def par (t w : Int) : Int := Turn.smin 24000 (near (12000 * t * t) (w * w))
theorem par_gmin (t w : Int) : Turn.gmin 24000 (near (12000 * t * t) (w * w)) = par t w := by unfold par Turn.gmin Turn.smin; split <;> split <;> omega
def hP (w : Int) (k : Nat) : Int := par (turn (10 * (k : Int)) 0) w
def vP (w : Int) (k : Nat) : Int := par (turn (-90 + 10 * (k : Int)) 0) w
def listOf (p : Nat → Int) (n : Nat) : List Int := (List.range n).map p
theorem listOf_len (p : Nat → Int) (n : Nat) : (listOf p n).length = n := by unfold listOf; simp
theorem listOf_at (p : Nat → Int) {n i : Nat} (h : i < n) : (listOf p n).getD i 0 = p i := by unfold listOf; simp [h]
theorem listOf_succ (p : Nat → Int) (n : Nat) : listOf p (n + 1) = listOf p n ++ [p n] := by unfold listOf; rw [List.range_succ, List.map_append]; rfl
theorem th_all : ∀ k : Fin 36, Turn.smin (10 * ((k.1 : Nat) : Int)) (360 - 10 * ((k.1 : Nat) : Int)) = turn (10 * ((k.1 : Nat) : Int)) 0 ∧ 0 ≤ turn (10 * ((k.1 : Nat) : Int)) 0 ∧ turn (10 * ((k.1 : Nat) : Int)) 0 ≤ 180 := by decide
theorem tv_all : ∀ k : Fin 19, Turn.gmax (10 * ((k.1 : Nat) : Int) - 90) (90 - 10 * ((k.1 : Nat) : Int)) = turn (-90 + 10 * ((k.1 : Nat) : Int)) 0 ∧ 0 ≤ turn (-90 + 10 * ((k.1 : Nat) : Int)) 0 ∧ turn (-90 + 10 * ((k.1 : Nat) : Int)) 0 ≤ 180 := by decide
theorem th {k : Nat} (h : k < 36) : Turn.smin (10 * (k : Int)) (360 - 10 * (k : Int)) = turn (10 * (k : Int)) 0 ∧ 0 ≤ turn (10 * (k : Int)) 0 ∧ turn (10 * (k : Int)) 0 ≤ 180 := th_all ⟨k, h⟩
theorem tv {k : Nat} (h : k < 19) : Turn.gmax (10 * (k : Int) - 90) (90 - 10 * (k : Int)) = turn (-90 + 10 * (k : Int)) 0 ∧ 0 ≤ turn (-90 + 10 * (k : Int)) 0 ∧ turn (-90 + 10 * (k : Int)) 0 ≤ 180 := tv_all ⟨k, h⟩
theorem sq_bd {t w : Int} (t0 : 0 ≤ t) (t1 : t ≤ 180) (w0 : 1 ≤ w) (w1 : w ≤ 360) : (0 ≤ 12000 * t * t ∧ 12000 * t * t ≤ 388800000) ∧ 1 ≤ w * w ∧ w * w ≤ 129600 := by
  have a1 : 12000 * t * t ≤ 12000 * t * 180 := Int.mul_le_mul_of_nonneg_left t1 (by omega)
  have a0 : 0 ≤ 12000 * t * t := Int.mul_nonneg (by omega) t0
  have b1 : w * w ≤ w * 360 := Int.mul_le_mul_of_nonneg_left w1 (by omega)
  have b0 : 1 * 1 ≤ w * w := Int.mul_le_mul w0 w0 (by omega) (by omega)
  exact ⟨⟨a0, by omega⟩, by omega, by omega⟩
theorem spec_max (a b : Int) (w : World) :
    Calls Try.prog 43 #[.int .i64 a, .int .i64 b] w fun e w' => e = .returned (.int .i64 (Turn.gmax a b)) ∧ w = w' := by
  by_cases h : b < a
  · have en := Lib.hid (show a = Turn.gmax a b by unfold Turn.gmax; split <;> omega)
    go_enter Try.func43, Try.ntmps43
    go_wp2
    go_ret
    exact ⟨ret_int en.out, rfl⟩
  · have en := Lib.hid (show b = Turn.gmax a b by unfold Turn.gmax; split <;> omega)
    go_enter Try.func43, Try.ntmps43
    go_wp2
    go_ret
    exact ⟨ret_int en.out, rfl⟩
theorem spec_par (t v : Int) (w : World) (t0 : 0 ≤ t) (t1 : t ≤ 180) (v0 : 1 ≤ v) (v1 : v ≤ 360) :
    Calls Try.prog 70 #[.int .i64 t, .int .i64 v] w fun e w' => e = .returned (.int .i64 (par t v)) ∧ w = w' := by
  obtain ⟨⟨a0, a1⟩, b0, b1⟩ := sq_bd t0 t1 v0 v1
  have wa : IntKind.i64.wrap (12000 * t * t) = 12000 * t * t := IntWalk.i64_in _ (by omega)
  have wb : IntKind.i64.wrap (v * v) = v * v := IntWalk.i64_in _ (by omega)
  have HD := Lib.hid (fun w => Arith.l01Div (12000 * t * t) (v * v) w (by omega) (by omega) (by omega) (by omega) (by omega))
  clear a0 a1 b0 b1
  go_enter Try.func70, Try.ntmps70
  go_wp2_with (go_at_call 74; with_reducible refine (HD.out _).mono ?_; rintro e w' ⟨rfl, rfl⟩)
  refine (Turn.spec_min _ _ _).mono ?_
  rintro e w1 ⟨rfl, rfl⟩
  go_wp2_with fail
  go_ret
  exact ⟨rfl, rfl⟩
theorem impl_beam (g : Nat) (a v : Int) (w : World) (hc : w.cell? ⟨g, 0, none⟩ = some (.int .i64 v)) (t0 : 0 ≤ turn a 0) (t1 : turn a 0 ≤ 180) (v0 : 1 ≤ v) (v1 : v ≤ 360) :
    Calls Try.prog 71 #[.int .i64 a, .pointer (some ⟨g, 0, none⟩)] w fun e w' => e = .returned (.int .i64 (par (turn a 0) v)) ∧ On w w' := by
  obtain ⟨t, ht⟩ : ∃ t, t = turn a 0 := ⟨_, rfl⟩
  have HT := Lib.hid (fun w => show Calls Try.prog 72 #[.int .i64 a, .int .i64 0] w fun e w' => e = .returned (.int .i64 t) ∧ w = w' by rw [ht]; exact Turn.impl_turn a 0 w)
  rw [← ht] at t0 t1 ⊢
  obtain ⟨⟨a0, a1⟩, b0, b1⟩ := sq_bd t0 t1 v0 v1
  have wa : IntKind.i64.wrap (12000 * t * t) = 12000 * t * t := IntWalk.i64_in _ (by omega)
  have wb : IntKind.i64.wrap (v * v) = v * v := IntWalk.i64_in _ (by omega)
  have HD := Lib.hid (fun w => Arith.nearest (12000 * t * t) (v * v) w (by omega) (by omega) (by omega) (by omega) (by omega))
  have en := Lib.hid (par_gmin t v)
  clear a0 a1 b0 b1 ht
  go_enter Try.func71, Try.ntmps71
  go_wp2_with fail
  refine (HT.out _).mono ?_
  rintro e w1 ⟨rfl, rfl⟩
  go_wp2_with fail
  refine (HD.out _).mono ?_
  rintro e w1 ⟨rfl, q, hq⟩
  have h1 : On w w1 := by rw [hq]; exact On.drewN (On.refl _) _
  clear hq
  go_wp2_with fail
  refine (Turn.impl_least _ _ _).mono ?_
  rintro e w2 ⟨rfl, rfl⟩
  go_wp2_with fail
  go_ret
  exact ⟨ret_int en.out, h1⟩
theorem impl_beamOf (v : Int) (w : World) :
    Calls Try.prog 55 #[.int .i64 v] w fun e w' => ∃ g, e = .returned (.func (Fn.func 71) #[] #[.pointer (some ⟨g, 0, none⟩)]) ∧ w'.cell? ⟨g, 0, none⟩ = some (.int .i64 v) ∧ w.heap.size ≤ g ∧ On w w' := by
  go_enter Try.func55, Try.ntmps55
  go_wp2_with fail
  go_ret
  exact ⟨_, rfl, by simp [go_sem], Nat.le_refl _, On.alloc (On.refl _) _⟩
/-- The first k numbers of a row are laid. -/
def pt (p : Nat → Int) (k : Nat) (j : Nat) : Value := if j < k then .int .i64 (p j) else .int .i64 0
theorem pt_zero (p : Nat → Int) : (fun j => pt p 0 j) = fun _ => .int .i64 0 := by funext j; unfold pt; rw [if_neg (by omega)]
theorem made_row {n b : Nat} {t : TypeId} {w : World} (p : Nat → Int) (hb : b = w.heap.size) : (w.alloc (.cells (madeCells #[.int .i64 0] n) t)).rowIs b t n (pt p 0) := by
  subst hb
  rw [show pt p 0 = fun j => pt p 0 j from rfl, pt_zero]
  exact World.rowIs_made w _ n t
theorem row_on {w w' : World} {b n : Nat} {t : TypeId} {f : Nat → Value} (h : w.rowIs b t n f) (ho : On w w') : w'.rowIs b t n f := by
  have hl := h.lt
  obtain ⟨c, h1, h2, h3⟩ := h
  exact ⟨c, (Below.block ho b hl).trans h1, h2, h3⟩
theorem pt_set {w : World} {A n k : Nat} {t : TypeId} {p : Nat → Int} (h : w.rowIs A t n (pt p k)) : (w.setCell ⟨A, k, none⟩ (.int .i64 (p k))).rowIs A t n (pt p (k + 1)) :=
  (h.set k _).congr fun i _ => by
    unfold pt
    by_cases e : i = k
    · subst e; rw [if_pos rfl, if_pos (by omega)]
    · rw [if_neg e]
      by_cases e2 : i < k
      · rw [if_pos e2, if_pos (by omega)]
      · rw [if_neg e2, if_neg (by omega)]
theorem own_pt {B A n : Nat} {t : TypeId} {w : World} {p : Nat → Int} (h : w.rowIs A t n (pt p n)) (hB : B ≤ A) : Own B w (.slice (some ⟨A, 0, none⟩) n n) (listOf p n) := by
  have h' : w.rowIs A t (listOf p n).length (fun j => .int .i64 ((listOf p n).getD j 0)) := by
    rw [listOf_len]
    refine h.congr fun i hi => ?_
    unfold pt
    rw [if_pos hi, listOf_at p hi]
  have := Own.of_row (cap := n) h' hB
  rw [listOf_len] at this
  exact this
/-- What the loops keep. -/
def Kept (W : World) (g A B : Nat) (s : ByteArray) (x : Int) (p q : Nat → Int) (i j : Nat) (w : World) : Prop :=
  In w g s x (.slice (some ⟨A, 0, none⟩) 36 36) (.slice (some ⟨B, 0, none⟩) 19 19) ∧ w.rowIs A 2 36 (pt p i) ∧ w.rowIs B 2 19 (pt q j) ∧ On W w
theorem Kept.on {W : World} {g A B : Nat} {s : ByteArray} {x : Int} {p q : Nat → Int} {i j : Nat} {w w' : World} (h : Kept W g A B s x p q i j w) (ho : On w w') : Kept W g A B s x p q i j w' :=
  ⟨h.1.on ho, row_on h.2.1 ho, row_on h.2.2.1 ho, h.2.2.2.trans ho⟩
theorem Kept.setA {W : World} {g A B : Nat} {s : ByteArray} {x : Int} {p q : Nat → Int} {i j : Nat} {w : World} (h : Kept W g A B s x p q i j w) (h1 : A ≠ B) (h2 : A ≠ g) (h3 : W.heap.size ≤ A) : Kept W g A B s x p q (i + 1) j (w.setCell ⟨A, i, none⟩ (.int .i64 (p i))) :=
  ⟨h.1.keep (fun _ => World.cell?_setCell_other (h := fun e => h2 (congrArg Addr.block e)) ..), pt_set h.2.1, h.2.2.1.setOther (fun e => h1 e.symm) _, h.2.2.2.setCell h3 _⟩
theorem Kept.setB {W : World} {g A B : Nat} {s : ByteArray} {x : Int} {p q : Nat → Int} {i j : Nat} {w : World} (h : Kept W g A B s x p q i j w) (h1 : A ≠ B) (h2 : B ≠ g) (h3 : W.heap.size ≤ B) : Kept W g A B s x p q i (j + 1) (w.setCell ⟨B, j, none⟩ (.int .i64 (q j))) :=
  ⟨h.1.keep (fun _ => World.cell?_setCell_other (h := fun e => h2 (congrArg Addr.block e)) ..), h.2.1.setOther h1 _, pt_set h.2.2.1, h.2.2.2.setCell h3 _⟩
end Go.Proofs.Ytnambnddoebeiaa.Ant
