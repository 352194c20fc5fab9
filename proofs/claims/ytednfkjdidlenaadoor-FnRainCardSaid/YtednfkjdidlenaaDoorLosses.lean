
/-
  The losses of a path, in the model and in the program. Condition: at most 1048576 classes and heights; the program's variables of spans and of surroundings hold what their texts lay.
-/
import Derived.Test.YtednfkjdidlenaaDoorLossX
import Derived.Test.YtednfkjdidlenaaDoorTail
namespace Go.Proofs.YtednfkjdidlenaaDoor.Losses
open Go.RowKit
open Plain
open Span (SpanG)
open Surr (SurrG)
open Ints (Ints)

def classB (c : Int) : Bool := inB c 0 7
def aboveB (c : Int) : Bool := inB c 0 90000
def okL (f d r : Int) (cs hs : List Int) : Bool := inB f 1 100000000 && (inB d 1 283000 && (inB r 0 200 && (cs.all classB && hs.all aboveB)))
def codeL (f d r : Int) (cs hs : List Int) : Int := if cs.length = 2 ∧ hs.length = 2 then (if okL f d r cs hs = true then 0 else 2) else 6
def clutL (f : Int) (cs hs : List Int) : Int := clutV (cs.getD 0 0).toNat f (hs.getD 0 0) + clutV (cs.getD 1 0).toNat f (hs.getD 1 0)
noncomputable def pathL (f d r : Int) (cs hs : List Int) (k : Nat) : Int :=
  if codeL f d r cs hs = 0 then (match k with | 0 => freeV f d | 1 => gasL f d | 2 => rainL f r d | 3 => clutL f cs hs | _ => freeV f d + gasL f d + rainL f r d + clutL f cs hs) else 0
/-- What LossesOf returns. -/
noncomputable def resL (f d r : Int) (cs hs : List Int) : Value := .tuple #[.agg #[.int .i64 (pathL f d r cs hs 0), .int .i64 (pathL f d r cs hs 1), .int .i64 (pathL f d r cs hs 2), .int .i64 (pathL f d r cs hs 3), .int .i64 (pathL f d r cs hs 4)], .int .i64 (codeL f d r cs hs)]
theorem res_bad {f d r c : Int} {cs hs : List Int} (h : codeL f d r cs hs = c) (hc : c ≠ 0) : resL f d r cs hs = .tuple #[.agg #[.int .i64 0, .int .i64 0, .int .i64 0, .int .i64 0, .int .i64 0], .int .i64 c] := by
  unfold resL pathL
  rw [h]
  simp only [if_neg hc]
theorem code_len {f d r : Int} {cs hs : List Int} (h : ¬ (cs.length = 2 ∧ hs.length = 2)) : codeL f d r cs hs = 6 := if_neg h
theorem code_bad {f d r : Int} {cs hs : List Int} (h : cs.length = 2 ∧ hs.length = 2) (g : okL f d r cs hs = false) : codeL f d r cs hs = 2 := by unfold codeL; rw [if_pos h, g]; rfl
theorem code_ok {f d r : Int} {cs hs : List Int} (h : cs.length = 2 ∧ hs.length = 2) (g : okL f d r cs hs = true) : codeL f d r cs hs = 0 := by unfold codeL; rw [if_pos h, g]; rfl
theorem okL_f {f d r : Int} {cs hs : List Int} (h : inB f 1 100000000 = false) : okL f d r cs hs = false := by unfold okL; rw [h]; rfl
theorem okL_d {f d r : Int} {cs hs : List Int} (h : inB d 1 283000 = false) : okL f d r cs hs = false := by unfold okL; rw [h]; simp
theorem okL_r {f d r : Int} {cs hs : List Int} (h : inB r 0 200 = false) : okL f d r cs hs = false := by unfold okL; rw [h]; simp
theorem okL_c {f d r : Int} {cs hs : List Int} (h : cs.all classB = false) : okL f d r cs hs = false := by unfold okL; rw [h]; simp
theorem okL_a {f d r : Int} {cs hs : List Int} (h : hs.all aboveB = false) : okL f d r cs hs = false := by unfold okL; rw [h]; simp
theorem okL_yes {f d r : Int} {cs hs : List Int} (h0 : inB f 1 100000000 = true) (h1 : inB d 1 283000 = true) (h2 : inB r 0 200 = true) (h3 : cs.all classB = true) (h4 : hs.all aboveB = true) : okL f d r cs hs = true := by unfold okL; rw [h0, h1, h2, h3, h4]; rfl
theorem two_of {zs : List Int} (h : zs.length = 2) : ∃ x y, zs = [x, y] := by
  match zs, h with
  | [x, y], _ => exact ⟨x, y, rfl⟩
theorem ret_v {a b : Value} (h : a = b) : Ending.returned a = .returned b := by rw [h]
theorem slice_of {w : World} {a : Option Addr} {n cap : Nat} {zs : List Int} (h : Ints w (.slice a n cap) zs) (hl : zs.length = n) (h0 : 0 < n) : ∃ b off, a = some ⟨b, off, none⟩ ∧ b < w.heap.size ∧ ∀ i, i < n → w.cell? ⟨b, off + i, none⟩ = some (.int .i64 (zs.getD i 0)) := by
  obtain ⟨a', cap', he, hc⟩ := h
  injection he with h1 h2 h3
  subst h1
  obtain ⟨b, off, ha, hb, hcell⟩ := hc (by omega)
  exact ⟨b, off, ha, hb, fun i hi => hcell i (by omega)⟩
theorem ne_two {n : Nat} (h : n ≠ 2) : (((n : Nat) : Int) == 2) = false ∧ (((n : Nat) : Int) != 2) = true := by
  have : ((n : Nat) : Int) ≠ 2 := by omega
  exact ⟨beq_eq_false_iff_ne.2 this, by simp [bne, beq_eq_false_iff_ne.2 this]⟩
end Go.Proofs.YtednfkjdidlenaaDoor.Losses
