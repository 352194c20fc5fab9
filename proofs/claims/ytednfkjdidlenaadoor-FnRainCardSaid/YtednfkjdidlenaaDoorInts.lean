
/-
  Slices of 64-bit numbers: what the laws' copy and comparison of them return. Condition: at most 1048576 numbers.
-/
import Derived.Test.YtednfkjdidlenaaDoorProg
import Derived.WalkKit
import Derived.Lib.Hide
import Derived.Below
import Derived.IntWalk
import Derived.Deep.OwnRows
import Derived.Deep.QuietTactic
import Derived.BigQuiet
namespace Go.Proofs.YtednfkjdidlenaaDoor.Ints
open Go.RowKit

/-- The value v is a slice that reads as the numbers zs in the world w. -/
def Ints (w : World) (v : Value) (zs : List Int) : Prop :=
  ∃ a cap, v = .slice a zs.length cap ∧ (0 < zs.length → ∃ b off, a = some ⟨b, off, none⟩ ∧ b < w.heap.size ∧ ∀ i, i < zs.length → w.cell? ⟨b, off + i, none⟩ = some (.int .i64 (zs.getD i 0)))
theorem Ints.below {w w' : World} {v : Value} {zs : List Int} (h : Ints w v zs) (hb : Below w.heap.size w w') : Ints w' v zs := by
  obtain ⟨a, cap, hv, hc⟩ := h
  refine ⟨a, cap, hv, fun h0 => ?_⟩
  obtain ⟨b, off, ha, hlt, hcell⟩ := hc h0
  exact ⟨b, off, ha, Nat.lt_of_lt_of_le hlt hb.size, fun i hi => (hb.cell (by exact hlt)).trans (hcell i hi)⟩
theorem Ints.of_row {w : World} {b : Nat} {t : TypeId} {zs : List Int} {cap : Nat} (h : w.rowIs b t zs.length (fun j => .int .i64 (zs.getD j 0))) : Ints w (.slice (some ⟨b, 0, none⟩) zs.length cap) zs :=
  ⟨_, _, rfl, fun _ => ⟨b, 0, rfl, h.lt, fun i hi => by rw [Nat.zero_add]; exact h.cell hi⟩⟩
/-- The value v is a slice that reads as the numbers zs, in memory from block B on, none of it frozen. -/
def Own (B : Nat) (w : World) (v : Value) (zs : List Int) : Prop :=
  ∃ a cap, v = .slice a zs.length cap ∧ (0 < zs.length → ∃ b off, a = some ⟨b, off, none⟩ ∧ B ≤ b ∧ b < w.heap.size ∧ (∀ i, i < zs.length → w.frozen? ⟨b, off + i, none⟩ = false) ∧ ∀ i, i < zs.length → w.cell? ⟨b, off + i, none⟩ = some (.int .i64 (zs.getD i 0)))
theorem Own.ints {B : Nat} {w : World} {v : Value} {zs : List Int} (h : Own B w v zs) : Ints w v zs := by
  obtain ⟨a, cap, hv, hc⟩ := h
  refine ⟨a, cap, hv, fun h0 => ?_⟩
  obtain ⟨b, off, ha, _, hlt, _, hcell⟩ := hc h0
  exact ⟨b, off, ha, hlt, hcell⟩
theorem Own.below {B : Nat} {w w' : World} {v : Value} {zs : List Int} (h : Own B w v zs) (hb : Below w.heap.size w w') : Own B w' v zs := by
  obtain ⟨a, cap, hv, hc⟩ := h
  refine ⟨a, cap, hv, fun h0 => ?_⟩
  obtain ⟨b, off, ha, hB, hlt, hf, hcell⟩ := hc h0
  exact ⟨b, off, ha, hB, Nat.lt_of_lt_of_le hlt hb.size, fun i hi => (hb.frozen (by exact hlt)).trans (hf i hi), fun i hi => (hb.cell (by exact hlt)).trans (hcell i hi)⟩
theorem Own.mono {B B' : Nat} {w : World} {v : Value} {zs : List Int} (h : Own B w v zs) (hb : B' ≤ B) : Own B' w v zs := by
  obtain ⟨a, cap, hv, hc⟩ := h
  refine ⟨a, cap, hv, fun h0 => ?_⟩
  obtain ⟨b, off, ha, hB, hr⟩ := hc h0
  exact ⟨b, off, ha, Nat.le_trans hb hB, hr⟩
theorem Own.setCell {B : Nat} {w : World} {v : Value} {zs : List Int} (h : Own B w v zs) {p : Addr} (hp : p.block < B) (u : Value) : Own B (w.setCell p u) v zs := by
  obtain ⟨a, cap, hv, hc⟩ := h
  refine ⟨a, cap, hv, fun h0 => ?_⟩
  obtain ⟨b, off, ha, hB, hlt, hf, hcell⟩ := hc h0
  refine ⟨b, off, ha, hB, by simpa using hlt, fun i hi => by rw [World.frozen?_setCell]; exact hf i hi, fun i hi => ?_⟩
  have hne : p ≠ (⟨b, off + i, none⟩ : Addr) := by intro hc; rw [hc] at hp; exact absurd hp (by simp; omega)
  exact (World.cell?_setCell_other (h := hne) ..).trans (hcell i hi)
theorem Own.of_row {B : Nat} {w : World} {b : Nat} {t : TypeId} {zs : List Int} {cap : Nat} (h : w.rowIs b t zs.length (fun j => .int .i64 (zs.getD j 0))) (hB : B ≤ b) : Own B w (.slice (some ⟨b, 0, none⟩) zs.length cap) zs :=
  ⟨_, _, rfl, fun _ => ⟨b, 0, rfl, hB, h.lt, fun i _ => by rw [Nat.zero_add]; exact h.frozen i, fun i hi => by rw [Nat.zero_add]; exact h.cell hi⟩⟩
theorem Own.empty (B : Nat) (w : World) (a : Option Addr) (cap : Nat) : Own B w (.slice a 0 cap) [] := ⟨a, cap, rfl, fun h => by simp at h⟩
/-- A slice of numbers that came in, as the shell opens it. -/
theorem Ints.of_arg {w : World} {a : Option Addr} {len cap : Nat} {zs : List Int}
    (h : (a = none ∧ len = 0 ∧ cap = 0 ∧ zs = []) ∨ ∃ x, a = some x ∧ len ≤ cap ∧ cap ≤ maxLen ∧ zs.length = cap ∧ (∀ i, i < zs.length → w.cell? (x.add i) = some (.int .i64 (zs.getD i 0))) ∧ ∀ n ∈ zs, (Lit.int .i64 n).wf = true) :
    Ints w (.slice a len cap) (zs.take len) ∧ (zs.take len).length = len := by
  rcases h with ⟨rfl, rfl, rfl, rfl⟩ | ⟨x, rfl, hl, _, hz, hcell, _⟩
  · exact ⟨⟨none, 0, rfl, fun h => by simp at h⟩, rfl⟩
  · have e : (zs.take len).length = len := by rw [List.length_take]; omega
    refine ⟨⟨some x, cap, by rw [e], fun h0 => ?_⟩, e⟩
    rw [e] at h0
    obtain ⟨b, off, spot⟩ := x
    have hc := hcell 0 (by omega)
    have hspot : spot = none := by simpa [Addr.add] using World.cell?_spot hc
    subst hspot
    have ea : ∀ i, (⟨b, off, none⟩ : Addr).add i = ⟨b, off + i, none⟩ := fun i => by cases i <;> simp [Addr.add]
    refine ⟨b, off, rfl, ?_, fun i hi => ?_⟩
    · rw [ea] at hc
      exact World.block_lt_of_cell? w _ hc
    · rw [e] at hi
      have := hcell i (by omega)
      rw [ea] at this
      rw [this]
      simp [hi]

theorem info : (Tryd.prog.info? 2).map (fun i => (i.zero, i.size, i.bytes)) = some (some (.int .i64 0), 1, 8) := by kernel_rfl
theorem below_drewN (w : World) (n : Nat) : Below w.heap.size w (w.drewN n) := ⟨rfl, rfl, rfl, Nat.le_refl _, fun _ _ => rfl⟩
end Go.Proofs.YtednfkjdidlenaaDoor.Ints
