
/-
  Marks written into memory between two blocks: numbers stay numbers, texts stay texts, slices stay. Conditions: at most 1048576 elements, marks below 2^60.
-/
import Derived.Test.YtofoffdmhekceaaOn
namespace Go.Proofs.Ytofoffdmhekceaa.Mrk
open Go.RowKit

/-- The world w' is w but for cells in the blocks from B to E; a number there is a number yet, a text a text, a slice the slice; and for new memory. -/
structure Kd (B E : Nat) (w w' : World) : Prop where
  below : Below B w w'
  base : B ≤ w.heap.size
  frozen : ∀ p, p.block < w.heap.size → w'.frozen? p = w.frozen? p
  out : ∀ g, E ≤ g → g < w.heap.size → w'.heap[g]? = w.heap[g]?
  int : ∀ p x, w.cell? p = some (.int .i64 x) → ∃ y, w'.cell? p = some (.int .i64 y)
  str : ∀ p s, w.cell? p = some (.string s) → ∃ y, w'.cell? p = some (.string y)
  slc : ∀ p a n c, w.cell? p = some (.slice a n c) → w'.cell? p = some (.slice a n c)
theorem Kd.refl {B E : Nat} {w : World} (h : B ≤ w.heap.size) : Kd B E w w := ⟨Below.refl _ _, h, fun _ _ => rfl, fun _ _ _ => rfl, fun _ x h => ⟨x, h⟩, fun _ x h => ⟨x, h⟩, fun _ _ _ _ h => h⟩
theorem Kd.size {B E : Nat} {w w' : World} (h : Kd B E w w') : w.heap.size ≤ w'.heap.size := h.below.size
theorem Kd.trans {B E : Nat} {a b c : World} (h : Kd B E a b) (k : Kd B E b c) : Kd B E a c where
  below := h.below.trans k.below
  base := h.base
  frozen := fun p hp => (k.frozen p (Nat.lt_of_lt_of_le hp h.size)).trans (h.frozen p hp)
  out := fun g hg hl => (k.out g hg (Nat.lt_of_lt_of_le hl h.size)).trans (h.out g hg hl)
  int := fun p x hx => by obtain ⟨y, hy⟩ := h.int p x hx; exact k.int p y hy
  str := fun p x hx => by obtain ⟨y, hy⟩ := h.str p x hx; exact k.str p y hy
  slc := fun p a n c hx => k.slc p a n c (h.slc p a n c hx)
theorem Kd.of_on {B E : Nat} {w w' : World} (h : On w w') (hB : B ≤ w.heap.size) : Kd B E w w' where
  below := Below.mono h hB
  base := hB
  frozen := fun _ hp => h.frozen hp
  out := fun g _ hl => Below.block h g hl
  int := fun p x hx => ⟨x, (h.cell (World.block_lt_of_cell? w p hx)).trans hx⟩
  str := fun p x hx => ⟨x, (h.cell (World.block_lt_of_cell? w p hx)).trans hx⟩
  slc := fun p _ _ _ hx => (h.cell (World.block_lt_of_cell? w p hx)).trans hx
theorem Kd.on {B E : Nat} {w w1 w2 : World} (h : Kd B E w w1) (ho : On w1 w2) : Kd B E w w2 := h.trans (Kd.of_on ho (Nat.le_trans h.base h.size))
theorem heap_other {w : World} {p : Addr} {v : Value} {g : Nat} (h : g ≠ p.block) : (w.setCell p v).heap[g]? = w.heap[g]? := by
  simp only [World.setCell, Array.getElem?_modify]
  rw [if_neg (fun e => h e.symm)]
theorem Kd.setInt {B E : Nat} {w w1 : World} (h : Kd B E w w1) {p : Addr} (hp : ∃ x, w.cell? p = some (.int .i64 x)) (hB : B ≤ p.block) (hE : p.block < E) (y : Int) : Kd B E w (w1.setCell p (.int .i64 y)) where
  below := h.below.setCell hB _
  base := h.base
  frozen := fun q hq => by rw [World.frozen?_setCell]; exact h.frozen q hq
  out := fun g hg hl => (heap_other (by omega)).trans (h.out g hg hl)
  int := fun q x hx => by
    by_cases e : p = q
    · subst e
      obtain ⟨z, hz⟩ := h.int p x hx
      exact ⟨y, World.cell?_setCell_same (h := hz) ..⟩
    · obtain ⟨z, hz⟩ := h.int q x hx
      exact ⟨z, (World.cell?_setCell_other (h := e) ..).trans hz⟩
  str := fun q x hx => by
    by_cases e : p = q
    · subst e
      obtain ⟨z, hz⟩ := hp
      rw [hz] at hx
      cases hx
    · obtain ⟨z, hz⟩ := h.str q x hx
      exact ⟨z, (World.cell?_setCell_other (h := e) ..).trans hz⟩
  slc := fun q a n c hx => by
    by_cases e : p = q
    · subst e
      obtain ⟨z, hz⟩ := hp
      rw [hz] at hx
      cases hx
    · exact (World.cell?_setCell_other (h := e) ..).trans (h.slc q a n c hx)
theorem Kd.setStr {B E : Nat} {w w1 : World} (h : Kd B E w w1) {p : Addr} (hp : ∃ x, w.cell? p = some (.string x)) (hB : B ≤ p.block) (hE : p.block < E) (y : ByteArray) : Kd B E w (w1.setCell p (.string y)) where
  below := h.below.setCell hB _
  base := h.base
  frozen := fun q hq => by rw [World.frozen?_setCell]; exact h.frozen q hq
  out := fun g hg hl => (heap_other (by omega)).trans (h.out g hg hl)
  str := fun q x hx => by
    by_cases e : p = q
    · subst e
      obtain ⟨z, hz⟩ := h.str p x hx
      exact ⟨y, World.cell?_setCell_same (h := hz) ..⟩
    · obtain ⟨z, hz⟩ := h.str q x hx
      exact ⟨z, (World.cell?_setCell_other (h := e) ..).trans hz⟩
  int := fun q x hx => by
    by_cases e : p = q
    · subst e
      obtain ⟨z, hz⟩ := hp
      rw [hz] at hx
      cases hx
    · obtain ⟨z, hz⟩ := h.int q x hx
      exact ⟨z, (World.cell?_setCell_other (h := e) ..).trans hz⟩
  slc := fun q a n c hx => by
    by_cases e : p = q
    · subst e
      obtain ⟨z, hz⟩ := hp
      rw [hz] at hx
      cases hx
    · exact (World.cell?_setCell_other (h := e) ..).trans (h.slc q a n c hx)

/-- The value v is a slice of n elements of c numbers each, in the blocks from B to E, not frozen. -/
def Nst (B E c : Nat) (w : World) (n : Nat) (v : Value) : Prop := ∃ a cap, v = .slice a n cap ∧ (0 < n → ∃ b off, a = some ⟨b, off, none⟩ ∧ B ≤ b ∧ b < E ∧ ∀ i, i < n * c → w.frozen? ⟨b, off + i, none⟩ = false ∧ ∃ x, w.cell? ⟨b, off + i, none⟩ = some (.int .i64 x))
theorem Nst.kd {B E c : Nat} {w w' : World} {n : Nat} {v : Value} (h : Nst B E c w n v) (k : Kd B E w w') : Nst B E c w' n v := by
  obtain ⟨a, cap, hv, hc⟩ := h
  refine ⟨a, cap, hv, fun h0 => ?_⟩
  obtain ⟨b, off, ha, hB, hE, hcell⟩ := hc h0
  refine ⟨b, off, ha, hB, hE, fun i hi => ?_⟩
  obtain ⟨hf, x, hx⟩ := hcell i hi
  exact ⟨(k.frozen _ (World.block_lt_of_cell? w _ hx)).trans hf, k.int _ x hx⟩

theorem markInts (B E k n : Nat) (v : Value) (w : World) (hn : n ≤ 1048576) (hk : k ≤ 576460752303423488) (hB : B ≤ w.heap.size) (h : Nst B E 1 w n v) :
    Calls Try.prog 25 #[v, .int .i64 k] w fun e w' => e = .returned (.int .i64 ((k + n : Nat) : Int)) ∧ Kd B E w w' := by
  obtain ⟨a, cap, rfl, hc⟩ := h
  by_cases h0 : 0 < n
  · obtain ⟨b, off, rfl, hb1, hb2, hcell⟩ := hc h0
    have HC := Lib.hid hcell
    clear hcell hc
    go_enter Try.func25, Try.ntmps25
    go_wp2
    go_loopw [1, 5] (fun m i wr => ∃ j : Nat, j ≤ n ∧ i = .int .i64 j ∧ m = .int .i64 ((k + j : Nat) : Int) ∧ Kd B E w wr) (fun _ i _ => n - (intOf i).toNat)
    case atStart => exact ⟨0, Nat.zero_le _, rfl, by go_num, Kd.refl hB⟩
    case round =>
      obtain ⟨j, hj, rfl, rfl, hkd⟩ := hrel
      have HB := Lib.hid hkd
      clear hkd
      by_cases hlt2 : j < n
      · have hlti : (j : Int) < (n : Int) := by omega
        obtain ⟨hf0, hx0⟩ := HC.out (j) (by omega)
        obtain ⟨y0, hy0⟩ := hx0
        obtain ⟨x0, hc0⟩ := HB.out.int _ y0 hy0
        have hg0 := (HB.out.frozen _ (World.block_lt_of_cell? w _ hy0)).trans hf0
        have HX0 := Lib.hid (show ∃ x, w.cell? _ = some (.int .i64 x) from ⟨y0, hy0⟩)
        clear hf0 hy0
        go_wp2
        go_roundw
        case rel => exact ⟨j + 1, by omega, by go_num, by go_num, (HB.out).setInt HX0.out (by exact hb1) (by exact hb2) _⟩
        case measure => simp [intOf]; omega
      · obtain rfl : j = n := by omega
        go_wp2
        go_ret
        exact ⟨rfl, HB.out⟩
  · obtain rfl : n = 0 := by omega
    clear hc h0
    go_enter Try.func25, Try.ntmps25
    go_wp2
    refine wp_loop_rounds 1 ?_
    rw [rounds_succ]
    go_wp2
    go_ret
    exact ⟨rfl, Kd.refl hB⟩
theorem markIntsI (B E n : Nat) (x : Int) (v : Value) (w : World) (h0 : 0 ≤ x) (hn : n ≤ 1048576) (hk : x ≤ 576460752303423488) (hB : B ≤ w.heap.size) (h : Nst B E 1 w n v) :
    Calls Try.prog 25 #[v, .int .i64 x] w fun e w' => e = .returned (.int .i64 (x + n)) ∧ Kd B E w w' := by
  obtain ⟨k, rfl⟩ := Int.eq_ofNat_of_zero_le h0
  refine (markInts B E k n v w hn (by omega) hB h).mono fun e w' h => ⟨h.1.trans (ret_int (by omega)), h.2⟩
end Go.Proofs.Ytofoffdmhekceaa.Mrk
