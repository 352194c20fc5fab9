
/-
  Slices of texts: what the laws' comparison, their marking and the later look at the marks return. Condition: at most 1048577 texts.
-/
import Derived.Test.YtnambnddoebeiaaDoorProg
import Derived.Test.YtnambnddoebeiaaDoorInts
import Derived.WalkKit
import Derived.Lib.Hide
import Derived.Below
import Derived.IntWalk
import Derived.Deep.OwnRows
import Derived.Deep.QuietTactic
import Derived.BigQuiet
namespace Go.Proofs.YtnambnddoebeiaaDoor.Strs
open Go.RowKit
open Ints (below_drewN)

def noText : ByteArray := ⟨#[]⟩
/-- The value v is a slice that reads as the texts zs in the world w. -/
def Strs (w : World) (v : Value) (zs : List ByteArray) : Prop :=
  ∃ a cap, v = .slice a zs.length cap ∧ (0 < zs.length → ∃ b off, a = some ⟨b, off, none⟩ ∧ b < w.heap.size ∧ ∀ i, i < zs.length → w.cell? ⟨b, off + i, none⟩ = some (.string (zs.getD i noText)))
theorem Strs.below {w w' : World} {v : Value} {zs : List ByteArray} (h : Strs w v zs) (hb : Below w.heap.size w w') : Strs w' v zs := by
  obtain ⟨a, cap, hv, hc⟩ := h
  refine ⟨a, cap, hv, fun h0 => ?_⟩
  obtain ⟨b, off, ha, hlt, hcell⟩ := hc h0
  exact ⟨b, off, ha, Nat.lt_of_lt_of_le hlt hb.size, fun i hi => (hb.cell (by exact hlt)).trans (hcell i hi)⟩
/-- The value v is a slice that reads as the texts zs, in memory from block B on, none of it frozen. -/
def Own (B : Nat) (w : World) (v : Value) (zs : List ByteArray) : Prop :=
  ∃ a cap, v = .slice a zs.length cap ∧ (0 < zs.length → ∃ b off, a = some ⟨b, off, none⟩ ∧ B ≤ b ∧ b < w.heap.size ∧ (∀ i, i < zs.length → w.frozen? ⟨b, off + i, none⟩ = false) ∧ ∀ i, i < zs.length → w.cell? ⟨b, off + i, none⟩ = some (.string (zs.getD i noText)))
theorem Own.strs {B : Nat} {w : World} {v : Value} {zs : List ByteArray} (h : Own B w v zs) : Strs w v zs := by
  obtain ⟨a, cap, hv, hc⟩ := h
  refine ⟨a, cap, hv, fun h0 => ?_⟩
  obtain ⟨b, off, ha, _, hlt, _, hcell⟩ := hc h0
  exact ⟨b, off, ha, hlt, hcell⟩
theorem Own.below {B : Nat} {w w' : World} {v : Value} {zs : List ByteArray} (h : Own B w v zs) (hb : Below w.heap.size w w') : Own B w' v zs := by
  obtain ⟨a, cap, hv, hc⟩ := h
  refine ⟨a, cap, hv, fun h0 => ?_⟩
  obtain ⟨b, off, ha, hB, hlt, hf, hcell⟩ := hc h0
  exact ⟨b, off, ha, hB, Nat.lt_of_lt_of_le hlt hb.size, fun i hi => (hb.frozen (by exact hlt)).trans (hf i hi), fun i hi => (hb.cell (by exact hlt)).trans (hcell i hi)⟩
theorem Own.empty (B : Nat) (w : World) (a : Option Addr) (cap : Nat) : Own B w (.slice a 0 cap) [] := ⟨a, cap, rfl, fun h => by simp at h⟩
theorem str_eq (x : ByteArray) : (x.toList == x.toList) = true := by simp
end Go.Proofs.YtnambnddoebeiaaDoor.Strs
