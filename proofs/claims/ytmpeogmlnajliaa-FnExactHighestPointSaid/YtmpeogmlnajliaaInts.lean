
/-
  Slices of 64-bit numbers: what the laws' copy and comparison of them return. Condition: at most 1048576 numbers.
-/
import Derived.Test.YtmpeogmlnajliaaProg
import Derived.WalkKit
import Derived.Lib.Hide
import Derived.Below
import Derived.IntWalk
import Derived.Deep.OwnRows
import Derived.Deep.QuietTactic
import Derived.BigQuiet
namespace Go.Proofs.Ytmpeogmlnajliaa.Ints
open Go.RowKit

/-- The value v is a slice that reads as the numbers zs in the world w. -/
def Ints (w : World) (v : Value) (zs : List Int) : Prop :=
  ∃ a cap, v = .slice a zs.length cap ∧ (0 < zs.length → ∃ b off, a = some ⟨b, off, none⟩ ∧ b < w.heap.size ∧ ∀ i, i < zs.length → w.cell? ⟨b, off + i, none⟩ = some (.int .i64 (zs.getD i 0)))
theorem Ints.below {w w' : World} {v : Value} {zs : List Int} (h : Ints w v zs) (hb : Below w.heap.size w w') : Ints w' v zs := by
  obtain ⟨a, cap, hv, hc⟩ := h
  refine ⟨a, cap, hv, fun h0 => ?_⟩
  obtain ⟨b, off, ha, hlt, hcell⟩ := hc h0
  exact ⟨b, off, ha, Nat.lt_of_lt_of_le hlt hb.size, fun i hi => (hb.cell (by exact hlt)).trans (hcell i hi)⟩
theorem Ints.of_row {w : World} {b : Nat} {t : TypeId} {zs : List Int} {cap : Nat} (h : w.rowIs b t zs.length (fun j => .int .i64 (zs.getD j 0))) : Ints w (.slice (some ⟨b, 0, none⟩) zs.length cap) zs :=
  ⟨_, _, rfl, fun _ => ⟨b, 0, rfl, h.lt, fun i hi => by rw [Nat.zero_add]; exact h.cell hi⟩⟩
/-- The value v is a slice that reads as the numbers zs, in memory from block B on, none of it frozen. -/
def Own (B : Nat) (w : World) (v : Value) (zs : List Int) : Prop :=
  ∃ a cap, v = .slice a zs.length cap ∧ (0 < zs.length → ∃ b off, a = some ⟨b, off, none⟩ ∧ B ≤ b ∧ b < w.heap.size ∧ (∀ i, i < zs.length → w.frozen? ⟨b, off + i, none⟩ = false) ∧ ∀ i, i < zs.length → w.cell? ⟨b, off + i, none⟩ = some (.int .i64 (zs.getD i 0)))
theorem Own.ints {B : Nat} {w : World} {v : Value} {zs : List Int} (h : Own B w v zs) : Ints w v zs := by
  obtain ⟨a, cap, hv, hc⟩ := h
  refine ⟨a, cap, hv, fun h0 => ?_⟩
  obtain ⟨b, off, ha, _, hlt, _, hcell⟩ := hc h0
  exact ⟨b, off, ha, hlt, hcell⟩
theorem Own.below {B : Nat} {w w' : World} {v : Value} {zs : List Int} (h : Own B w v zs) (hb : Below w.heap.size w w') : Own B w' v zs := by
  obtain ⟨a, cap, hv, hc⟩ := h
  refine ⟨a, cap, hv, fun h0 => ?_⟩
  obtain ⟨b, off, ha, hB, hlt, hf, hcell⟩ := hc h0
  exact ⟨b, off, ha, hB, Nat.lt_of_lt_of_le hlt hb.size, fun i hi => (hb.frozen (by exact hlt)).trans (hf i hi), fun i hi => (hb.cell (by exact hlt)).trans (hcell i hi)⟩
theorem Own.mono {B B' : Nat} {w : World} {v : Value} {zs : List Int} (h : Own B w v zs) (hb : B' ≤ B) : Own B' w v zs := by
  obtain ⟨a, cap, hv, hc⟩ := h
  refine ⟨a, cap, hv, fun h0 => ?_⟩
  obtain ⟨b, off, ha, hB, hr⟩ := hc h0
  exact ⟨b, off, ha, Nat.le_trans hb hB, hr⟩
theorem Own.setCell {B : Nat} {w : World} {v : Value} {zs : List Int} (h : Own B w v zs) {p : Addr} (hp : p.block < B) (u : Value) : Own B (w.setCell p u) v zs := by
  obtain ⟨a, cap, hv, hc⟩ := h
  refine ⟨a, cap, hv, fun h0 => ?_⟩
  obtain ⟨b, off, ha, hB, hlt, hf, hcell⟩ := hc h0
  refine ⟨b, off, ha, hB, by simpa using hlt, fun i hi => by rw [World.frozen?_setCell]; exact hf i hi, fun i hi => ?_⟩
  have hne : p ≠ (⟨b, off + i, none⟩ : Addr) := by intro hc; rw [hc] at hp; exact absurd hp (by simp; omega)
  exact (World.cell?_setCell_other (h := hne) ..).trans (hcell i hi)
theorem Own.of_row {B : Nat} {w : World} {b : Nat} {t : TypeId} {zs : List Int} {cap : Nat} (h : w.rowIs b t zs.length (fun j => .int .i64 (zs.getD j 0))) (hB : B ≤ b) : Own B w (.slice (some ⟨b, 0, none⟩) zs.length cap) zs :=
  ⟨_, _, rfl, fun _ => ⟨b, 0, rfl, hB, h.lt, fun i _ => by rw [Nat.zero_add]; exact h.frozen i, fun i hi => by rw [Nat.zero_add]; exact h.cell hi⟩⟩
theorem Own.empty (B : Nat) (w : World) (a : Option Addr) (cap : Nat) : Own B w (.slice a 0 cap) [] := ⟨a, cap, rfl, fun h => by simp at h⟩
/-- A slice of numbers that came in, as the shell opens it. -/
theorem Ints.of_arg {w : World} {a : Option Addr} {len cap : Nat} {zs : List Int}
    (h : (a = none ∧ len = 0 ∧ cap = 0 ∧ zs = []) ∨ ∃ x, a = some x ∧ len ≤ cap ∧ cap ≤ maxLen ∧ zs.length = cap ∧ (∀ i, i < zs.length → w.cell? (x.add i) = some (.int .i64 (zs.getD i 0))) ∧ ∀ n ∈ zs, (Lit.int .i64 n).wf = true) :
    Ints w (.slice a len cap) (zs.take len) ∧ (zs.take len).length = len := by
  rcases h with ⟨rfl, rfl, rfl, rfl⟩ | ⟨x, rfl, hl, _, hz, hcell, _⟩
  · exact ⟨⟨none, 0, rfl, fun h => by simp at h⟩, rfl⟩
  · have e : (zs.take len).length = len := by rw [List.length_take]; omega
    refine ⟨⟨some x, cap, by rw [e], fun h0 => ?_⟩, e⟩
    rw [e] at h0
    obtain ⟨b, off, spot⟩ := x
    have hc := hcell 0 (by omega)
    have hspot : spot = none := by simpa [Addr.add] using World.cell?_spot hc
    subst hspot
    have ea : ∀ i, (⟨b, off, none⟩ : Addr).add i = ⟨b, off + i, none⟩ := fun i => by cases i <;> simp [Addr.add]
    refine ⟨b, off, rfl, ?_, fun i hi => ?_⟩
    · rw [ea] at hc
      exact World.block_lt_of_cell? w _ hc
    · rw [e] at hi
      have := hcell i (by omega)
      rw [ea] at this
      rw [this]
      simp [hi]

theorem info : (Try.prog.info? 2).map (fun i => (i.zero, i.size, i.bytes)) = some (some (.int .i64 0), 1, 8) := by kernel_rfl
theorem copy_some (b off cap : Nat) (zs : List Int) (w : World) (hn : zs.length ≤ 1048576) (hlt : b < w.heap.size) (h0 : 0 < zs.length)
    (hcell : ∀ i, i < zs.length → w.cell? ⟨b, off + i, none⟩ = some (.int .i64 (zs.getD i 0))) :
    Calls Try.prog 23 #[.slice (some ⟨b, off, none⟩) zs.length cap] w fun e w' => ∃ v, e = .returned v ∧ Own w.heap.size w' v zs ∧ Below w.heap.size w w' := by
  have hmk := fun w => run_make_row' (P := Try.prog) 22 2 (.int .i64 0) 8 Try.underlying22 info rfl .i64 .i64 zs.length (by omega) (by omega) w
  have HC := Lib.hid hcell
  clear hcell
  go_enter Try.func23, Try.ntmps23
  go_wp2
  clear hmk
  go_loopw [4] (fun i wr => ∃ k : Nat, k ≤ zs.length ∧ i = .int .i64 k ∧ wr.rowIs w.heap.size 2 zs.length (fun j => if j < k then .int .i64 (zs.getD j 0) else .int .i64 0) ∧ Below w.heap.size w wr) (fun i _ => zs.length - (intOf i).toNat)
  case atStart =>
    refine ⟨0, Nat.zero_le _, rfl, ?_, (Below.refl _ _).alloc (Nat.le_refl _) _⟩
    exact (World.rowIs_made w (.int .i64 0) zs.length _).congr fun i _ => by simp
  case round =>
    obtain ⟨k, hk, rfl, hrow, hb⟩ := hrel
    have HR := Lib.hid hrow
    have HB := Lib.hid hb
    clear hrow hb
    by_cases hlt2 : k < zs.length
    · have hc1 : wr.cell? ⟨b, off + k, none⟩ = some (.int .i64 (zs.getD k 0)) := (HB.out.cell (by exact hlt)).trans (HC.out k hlt2)
      have hc2 : wr.cell? ⟨w.heap.size, k, none⟩ = some (.int .i64 0) := by have := HR.out.cell hlt2; rw [if_neg (by omega)] at this; exact this
      have hf2 : wr.frozen? ⟨w.heap.size, k, none⟩ = false := HR.out.frozen k
      go_wp2
      go_roundw
      case rel =>
        refine ⟨k + 1, by omega, by go_num, (HR.out.set k _).congr fun i _ => ?_, HB.out.setCell (by exact Nat.le_refl _) _⟩
        by_cases h1 : i = k
        · subst h1; rw [if_pos rfl, if_pos (by omega)]; simp [hlt2]
        · rw [if_neg h1]
          by_cases h2 : i < k
          · rw [if_pos h2, if_pos (by omega)]
          · rw [if_neg h2, if_neg (by omega)]
      case measure => simp [intOf]; omega
    · have hfin := Lib.hid ((HR.out.congr fun i hi => by rw [if_pos (by omega)]) : wr.rowIs w.heap.size _ zs.length (fun j => .int .i64 (zs.getD j 0)))
      go_wp2
      go_ret
      exact ⟨_, rfl, Own.of_row hfin.out (Nat.le_refl _), HB.out⟩
theorem copy_none (a : Option Addr) (cap : Nat) (w : World) :
    Calls Try.prog 23 #[.slice a 0 cap] w fun e w' => ∃ v, e = .returned v ∧ Own w.heap.size w' v [] ∧ Below w.heap.size w w' := by
  have hmk : ∀ w, (Instr.makeSlice 22 (.int .i64 0) (.int .i64 0)).run Try.prog w = .ok (.slice (some ⟨w.heap.size, 0, none⟩) 0 0) (w.alloc (.cells #[] 2)) := fun _ => by kernel_rfl
  go_enter Try.func23, Try.ntmps23
  go_wp2
  refine wp_loop_rounds 1 ?_
  rw [rounds_succ]
  go_wp2
  go_ret
  exact ⟨_, rfl, ⟨_, _, rfl, fun h => by simp at h⟩, (Below.refl _ _).alloc (Nat.le_refl _) _⟩
/-- The copy: a new slice with the same numbers. -/
theorem copyOwn (v : Value) (zs : List Int) (w : World) (hn : zs.length ≤ 1048576) (h : Ints w v zs) :
    Calls Try.prog 23 #[v] w fun e w' => ∃ v, e = .returned v ∧ Own w.heap.size w' v zs ∧ Below w.heap.size w w' := by
  obtain ⟨a, cap, rfl, hc⟩ := h
  by_cases h0 : 0 < zs.length
  · obtain ⟨b, off, rfl, hlt, hcell⟩ := hc h0
    exact copy_some b off cap zs w hn hlt h0 hcell
  · have : zs = [] := List.eq_nil_of_length_eq_zero (by omega)
    subst this
    exact copy_none a cap w
theorem copy (v : Value) (zs : List Int) (w : World) (hn : zs.length ≤ 1048576) (h : Ints w v zs) :
    Calls Try.prog 23 #[v] w fun e w' => ∃ v, e = .returned v ∧ Ints w' v zs ∧ Below w.heap.size w w' :=
  (copyOwn v zs w hn h).mono fun _ _ ⟨v, he, ho, hb⟩ => ⟨v, he, ho.ints, hb⟩

theorem eq_some (b off cap b2 off2 cap2 : Nat) (zs : List Int) (w : World) (hn : zs.length ≤ 1048576)
    (hcell : ∀ i, i < zs.length → w.cell? ⟨b, off + i, none⟩ = some (.int .i64 (zs.getD i 0))) (hcell2 : ∀ i, i < zs.length → w.cell? ⟨b2, off2 + i, none⟩ = some (.int .i64 (zs.getD i 0))) :
    Calls Try.prog 29 #[.slice (some ⟨b, off, none⟩) zs.length cap, .slice (some ⟨b2, off2, none⟩) zs.length cap2] w fun e w' => e = .returned (.bool true) ∧ ∃ n, w' = w.drewN n := by
  have HC := Lib.hid hcell
  have HC2 := Lib.hid hcell2
  clear hcell hcell2
  go_enter Try.func29, Try.ntmps29
  go_wp2
  go_loopw [5] (fun i wr => ∃ k : Nat, k ≤ zs.length ∧ i = .int .i64 k ∧ ∃ n, wr = w.drewN n) (fun i _ => zs.length - (intOf i).toNat)
  case atStart => exact ⟨0, Nat.zero_le _, rfl, 0, rfl⟩
  case round =>
    obtain ⟨k, hk, rfl, n, rfl⟩ := hrel
    by_cases hlt : k < zs.length
    · have hlti : (k : Int) < (zs.length : Int) := by omega
      obtain ⟨z, hz⟩ : ∃ z, z = zs.getD k 0 := ⟨_, rfl⟩
      have hc1 : w.cell? ⟨b, off + k, none⟩ = some (.int .i64 z) := by rw [hz]; exact HC.out k hlt
      have hc2 : w.cell? ⟨b2, off2 + k, none⟩ = some (.int .i64 z) := by rw [hz]; exact HC2.out k hlt
      clear hz
      go_wp2
      go_quiet (fail)
      go_wp2
      go_roundw
      case rel => exact ⟨k + 1, by omega, by go_num, _, rfl⟩
      case measure => simp [intOf]; omega
    · go_wp2
      go_ret
      exact ⟨rfl, _, rfl⟩
theorem eq_none (a a2 : Option Addr) (cap cap2 : Nat) (w : World) :
    Calls Try.prog 29 #[.slice a 0 cap, .slice a2 0 cap2] w fun e w' => e = .returned (.bool true) ∧ ∃ n, w' = w.drewN n := by
  go_enter Try.func29, Try.ntmps29
  go_wp2
  refine wp_loop_rounds 1 ?_
  rw [rounds_succ]
  go_wp2
  go_ret
  exact ⟨rfl, 0, rfl⟩
/-- The comparison of two slices that read alike. -/
theorem eq (v v2 : Value) (zs : List Int) (w : World) (hn : zs.length ≤ 1048576) (h : Ints w v zs) (h2 : Ints w v2 zs) :
    Calls Try.prog 29 #[v, v2] w fun e w' => e = .returned (.bool true) ∧ ∃ n, w' = w.drewN n := by
  obtain ⟨a, cap, rfl, hc⟩ := h
  obtain ⟨a2, cap2, rfl, hc2⟩ := h2
  by_cases h0 : 0 < zs.length
  · obtain ⟨b, off, rfl, hlt, hcell⟩ := hc h0
    obtain ⟨b2, off2, rfl, hlt2, hcell2⟩ := hc2 h0
    exact eq_some b off cap b2 off2 cap2 zs w hn hcell hcell2
  · have : zs = [] := List.eq_nil_of_length_eq_zero (by omega)
    subst this
    exact eq_none a a2 cap cap2 w
theorem below_drewN (w : World) (n : Nat) : Below w.heap.size w (w.drewN n) := ⟨rfl, rfl, rfl, Nat.le_refl _, fun _ _ => rfl⟩
end Go.Proofs.Ytmpeogmlnajliaa.Ints
