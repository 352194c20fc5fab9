
/-
  Own memory beside a marking of another block. No condition.
-/
import Derived.Test.YtpnmodmaabhldaaMark2
namespace Go.Proofs.Ytpnmodmaabhldaa.Ints
open Go.RowKit

theorem Own.off {B : Nat} {w w' : World} {v : Value} {zs : List Int} (h : Own B w v zs) (hs : w.heap.size ≤ w'.heap.size) (hf : ∀ p, w'.frozen? p = w.frozen? p) (hx : ∀ p : Addr, B ≤ p.block → w'.cell? p = w.cell? p) : Own B w' v zs := by
  obtain ⟨a, cap, hv, hc⟩ := h
  refine ⟨a, cap, hv, fun h0 => ?_⟩
  obtain ⟨b, off, ha, hB, hlt, hfz, hcell⟩ := hc h0
  exact ⟨b, off, ha, hB, Nat.lt_of_lt_of_le hlt hs, fun i hi => (hf _).trans (hfz i hi), fun i hi => (hx _ (by exact hB)).trans (hcell i hi)⟩
theorem Own.off2 {B : Nat} {w w' : World} {v : Value} {zs : List Int} (h : Own B w v zs) (hs : w.heap.size ≤ w'.heap.size) (hf : ∀ p, p.block < w.heap.size → w'.frozen? p = w.frozen? p) (hx : ∀ p : Addr, p.block < w.heap.size → B ≤ p.block → w'.cell? p = w.cell? p) : Own B w' v zs := by
  obtain ⟨a, cap, hv, hc⟩ := h
  refine ⟨a, cap, hv, fun h0 => ?_⟩
  obtain ⟨b, off, ha, hB, hlt, hfz, hcell⟩ := hc h0
  exact ⟨b, off, ha, hB, Nat.lt_of_lt_of_le hlt hs, fun i hi => (hf _ (by exact hlt)).trans (hfz i hi), fun i hi => (hx _ (by exact hlt) (by exact hB)).trans (hcell i hi)⟩
/-- A slice of own memory: its block lies below the size of the world. -/
theorem Own.slice {B : Nat} {w : World} {v : Value} {zs : List Int} (h : Own B w v zs) : ∃ a cap, v = .slice a zs.length cap ∧ ∀ q, 0 < zs.length → a = some q → q.block < w.heap.size := by
  obtain ⟨a, cap, hv, hc⟩ := h
  refine ⟨a, cap, hv, fun q h0 hq => ?_⟩
  obtain ⟨b, off, ha, hB, hlt, _⟩ := hc h0
  rw [ha] at hq
  cases hq
  exact hlt
end Go.Proofs.Ytpnmodmaabhldaa.Ints
