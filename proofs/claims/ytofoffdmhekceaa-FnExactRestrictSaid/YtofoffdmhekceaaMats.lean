
/-
  Slices of slices of numbers (a matrix, a list of lists): what such a value reads as, and one that comes in, opened. No condition.
-/
import Derived.Test.YtofoffdmhekceaaInts
import Derived.Test.YtofoffdmhekceaaOn
import Derived.Deep.Matrix
namespace Go.Proofs.Ytofoffdmhekceaa.Mats
open Go.RowKit

/-- The value v is a slice of slices that reads as the lists zss in the world w. -/
def Rows (w : World) (v : Value) (zss : List (List Int)) : Prop :=
  ∃ a cap, v = .slice a zss.length cap ∧ (0 < zss.length → ∃ b off, a = some ⟨b, off, none⟩ ∧ b < w.heap.size ∧ ∀ i, i < zss.length → ∃ u, w.cell? ⟨b, off + i, none⟩ = some u ∧ Ints.Ints w u (zss.getD i []))
theorem Rows.below {w w' : World} {v : Value} {zss : List (List Int)} (h : Rows w v zss) (hb : On w w') : Rows w' v zss := by
  obtain ⟨a, cap, hv, hc⟩ := h
  refine ⟨a, cap, hv, fun h0 => ?_⟩
  obtain ⟨b, off, ha, hlt, hcell⟩ := hc h0
  refine ⟨b, off, ha, hb.lts _ hlt, fun i hi => ?_⟩
  obtain ⟨u, hu, hz⟩ := hcell i hi
  exact ⟨u, (hb.cell (by exact hlt)).trans hu, hz.below hb⟩
theorem Rows.empty (w : World) (a : Option Addr) (cap : Nat) : Rows w (.slice a 0 cap) [] := ⟨a, cap, rfl, fun h => by simp at h⟩
theorem slice_of {w : World} {a : Option Addr} {cap : Nat} {zss : List (List Int)} (h : Rows w (.slice a zss.length cap) zss) (h0 : 0 < zss.length) :
    ∃ b off, a = some ⟨b, off, none⟩ ∧ b < w.heap.size ∧ ∀ i, i < zss.length → ∃ u, w.cell? ⟨b, off + i, none⟩ = some u ∧ Ints.Ints w u (zss.getD i []) := by
  obtain ⟨a', cap', he, hc⟩ := h
  injection he with h1 h2 h3
  subst h1
  exact hc h0
/-- A slice of slices of numbers that came in. -/
def IsRows (w : World) (a : Option Addr) (len cap : Nat) (zss : List (List Int)) : Prop :=
  zss.length = len ∧ Rows w (.slice a len cap) zss ∧ len ≤ maxLen ∧ ∀ i, i < len → (zss.getD i []).length ≤ maxLen
theorem open_rows {H : Type} {enc : TypeId × Value → H} {w : World} {base fuel : Nat} {c : Value} {x : DataW H × List MemPlace} (h : DataW.trod enc Try.prog w base (fun _ => true) true fuel 22 [c] = some x) :
    ∃ a len cap zss, c = .slice a len cap ∧ IsRows w a len cap zss := by
  rcases Go.Deep.open_int_rows (k := .i64) Try.underlying22 Try.underlying32 Try.underlying2 (by kernel_rfl) (by kernel_rfl) h with ⟨hcs, -⟩ | ⟨a, len, cap, A, L, C, Z, hcs, -, hl, hm, -, hx⟩
  · exact ⟨none, 0, 0, [], by simpa using hcs, rfl, Rows.empty _ _ _, Nat.zero_le _, fun i hi => absurd hi (by omega)⟩
  · have hlen : ((List.range len).map fun r => (Z r).take (L r)).length = len := by simp
    have hget : ∀ i, i < len → ((List.range len).map fun r => (Z r).take (L r)).getD i [] = (Z i).take (L i) := fun i hi => by simp [hi]
    refine ⟨some a, len, cap, (List.range len).map fun r => (Z r).take (L r), by simpa using hcs, hlen, ⟨some a, cap, by rw [hlen], fun h0 => ?_⟩, Nat.le_trans hl hm, fun i hi => ?_⟩
    · rw [hlen] at h0
      obtain ⟨b, off, spot⟩ := a
      have hc := (hx 0 (by omega)).1
      have hspot : spot = none := by simpa [Addr.add] using World.cell?_spot hc
      subst hspot
      have ea : ∀ b off i, (⟨b, off, none⟩ : Addr).add i = ⟨b, off + i, none⟩ := fun b off i => by cases i <;> simp [Addr.add]
      refine ⟨b, off, rfl, ?_, fun i hi => ?_⟩
      · rw [ea] at hc
        exact World.block_lt_of_cell? w _ hc
      · rw [hlen] at hi
        rw [hget i hi]
        obtain ⟨hcell, h1, h2, h3, -, h5, h6⟩ := hx i (by omega)
        rw [ea] at hcell
        have e : ((Z i).take (L i)).length = L i := by rw [List.length_take]; omega
        refine ⟨_, hcell, A i, C i, by rw [e], fun hp => ?_⟩
        rw [e] at hp
        cases hA : A i with
        | none => exact absurd (h5 hA) (by omega)
        | some a' =>
          obtain ⟨-, hcs'⟩ := h6 a' hA
          obtain ⟨b', off', spot'⟩ := a'
          have hc' := hcs' 0 (by omega)
          have hspot' : spot' = none := by simpa [Addr.add] using World.cell?_spot hc'
          subst hspot'
          refine ⟨b', off', rfl, ?_, fun j hj => ?_⟩
          · rw [ea] at hc'
            exact World.block_lt_of_cell? w _ hc'
          · rw [e] at hj
            have := hcs' j (by omega)
            rw [ea] at this
            rw [this]
            simp [hj]
    · rw [hget i hi, List.length_take]
      have := (hx i (by omega)).2.1
      have := (hx i (by omega)).2.2.1
      omega
theorem Rows.of_arg {w : World} {a : Option Addr} {len cap : Nat} {zss : List (List Int)} (h : IsRows w a len cap zss) : zss.length = len ∧ Rows w (.slice a len cap) zss ∧ len ≤ maxLen ∧ ∀ i, i < len → (zss.getD i []).length ≤ maxLen := h
end Go.Proofs.Ytofoffdmhekceaa.Mats
