
/-
  Slices of Mode, a struct of two numbers: what the laws' copy, comparison and count of them return. Condition: at most 1048576 of them.
-/
import Derived.Test.YtggiilbdlbhpgaaDoorOn
import Derived.Test.YtggiilbdlbhpgaaDoorOnH
import Derived.IntWalk
import Derived.Deep.OwnRows
import Derived.Deep.QuietTactic
import Derived.BigQuiet
import Derived.Deep.SlicePairs
import Derived.OpenShut
namespace Go.Proofs.YtggiilbdlbhpgaaDoor.Modes
open Go.RowKit

/-- Two numbers each, in a row. -/
def flat (zs : List (Int × Int)) (j : Nat) : Int := if j % 2 = 0 then (zs.getD (j / 2) (0, 0)).1 else (zs.getD (j / 2) (0, 0)).2
theorem flat_even (zs : List (Int × Int)) (k : Nat) : flat zs (k * 2) = (zs.getD k (0, 0)).1 := by unfold flat; rw [if_pos (by omega), show k * 2 / 2 = k by omega]
theorem flat_odd (zs : List (Int × Int)) (k : Nat) : flat zs (k * 2 + 1) = (zs.getD k (0, 0)).2 := by unfold flat; rw [if_neg (by omega), show (k * 2 + 1) / 2 = k by omega]
/-- The value v is a slice that reads as the pairs zs in the world w. -/
def Pairs (w : World) (v : Value) (zs : List (Int × Int)) : Prop :=
  ∃ a cap, v = .slice a zs.length cap ∧ (0 < zs.length → ∃ b off, a = some ⟨b, off, none⟩ ∧ b < w.heap.size ∧ ∀ j, j < zs.length * 2 → w.cell? ⟨b, off + j, none⟩ = some (.int .i64 (flat zs j)))
theorem Pairs.below {w w' : World} {v : Value} {zs : List (Int × Int)} (h : Pairs w v zs) (hb : Below w.heap.size w w') : Pairs w' v zs := by
  obtain ⟨a, cap, hv, hc⟩ := h
  refine ⟨a, cap, hv, fun h0 => ?_⟩
  obtain ⟨b, off, ha, hlt, hcell⟩ := hc h0
  exact ⟨b, off, ha, Nat.lt_of_lt_of_le hlt hb.size, fun i hi => (hb.cell (by exact hlt)).trans (hcell i hi)⟩
/-- The same, in memory from block B on, none of it frozen. -/
def OwnP (B : Nat) (w : World) (v : Value) (zs : List (Int × Int)) : Prop :=
  ∃ a cap, v = .slice a zs.length cap ∧ (0 < zs.length → ∃ b off, a = some ⟨b, off, none⟩ ∧ B ≤ b ∧ b < w.heap.size ∧ (∀ j, j < zs.length * 2 → w.frozen? ⟨b, off + j, none⟩ = false) ∧ ∀ j, j < zs.length * 2 → w.cell? ⟨b, off + j, none⟩ = some (.int .i64 (flat zs j)))
theorem OwnP.pairs {B : Nat} {w : World} {v : Value} {zs : List (Int × Int)} (h : OwnP B w v zs) : Pairs w v zs := by
  obtain ⟨a, cap, hv, hc⟩ := h
  refine ⟨a, cap, hv, fun h0 => ?_⟩
  obtain ⟨b, off, ha, _, hlt, _, hcell⟩ := hc h0
  exact ⟨b, off, ha, hlt, hcell⟩
theorem OwnP.below {B : Nat} {w w' : World} {v : Value} {zs : List (Int × Int)} (h : OwnP B w v zs) (hb : Below w.heap.size w w') : OwnP B w' v zs := by
  obtain ⟨a, cap, hv, hc⟩ := h
  refine ⟨a, cap, hv, fun h0 => ?_⟩
  obtain ⟨b, off, ha, hB, hlt, hf, hcell⟩ := hc h0
  exact ⟨b, off, ha, hB, Nat.lt_of_lt_of_le hlt hb.size, fun i hi => (hb.frozen (by exact hlt)).trans (hf i hi), fun i hi => (hb.cell (by exact hlt)).trans (hcell i hi)⟩
theorem OwnP.mono {B B' : Nat} {w : World} {v : Value} {zs : List (Int × Int)} (h : OwnP B w v zs) (hb : B' ≤ B) : OwnP B' w v zs := by
  obtain ⟨a, cap, hv, hc⟩ := h
  refine ⟨a, cap, hv, fun h0 => ?_⟩
  obtain ⟨b, off, ha, hB, hr⟩ := hc h0
  exact ⟨b, off, ha, Nat.le_trans hb hB, hr⟩
theorem OwnP.setCell {B : Nat} {w : World} {v : Value} {zs : List (Int × Int)} (h : OwnP B w v zs) {p : Addr} (hp : p.block < B) (u : Value) : OwnP B (w.setCell p u) v zs := by
  obtain ⟨a, cap, hv, hc⟩ := h
  refine ⟨a, cap, hv, fun h0 => ?_⟩
  obtain ⟨b, off, ha, hB, hlt, hf, hcell⟩ := hc h0
  refine ⟨b, off, ha, hB, by simpa using hlt, fun i hi => by rw [World.frozen?_setCell]; exact hf i hi, fun i hi => ?_⟩
  have hne : p ≠ (⟨b, off + i, none⟩ : Addr) := by intro hc; rw [hc] at hp; exact absurd hp (by simp; omega)
  exact (World.cell?_setCell_other (h := hne) ..).trans (hcell i hi)
theorem OwnP.of_row {B : Nat} {w : World} {b : Nat} {t : TypeId} {zs : List (Int × Int)} {cap : Nat} (h : w.rowIs b t (zs.length * 2) (fun j => .int .i64 (flat zs j))) (hB : B ≤ b) : OwnP B w (.slice (some ⟨b, 0, none⟩) zs.length cap) zs :=
  ⟨_, _, rfl, fun h0 => ⟨b, 0, rfl, hB, h.lt, fun i _ => by rw [Nat.zero_add]; exact h.frozen i, fun i hi => by rw [Nat.zero_add]; exact h.cell hi⟩⟩
theorem OwnP.empty (B : Nat) (w : World) (a : Option Addr) (cap : Nat) : OwnP B w (.slice a 0 cap) [] := ⟨a, cap, rfl, fun h => by simp at h⟩
/-- A slice of pairs that came in, as the shell opens it. -/
def IsPts (w : World) (a : Option Addr) (len cap : Nat) (zs : List (Int × Int)) : Prop :=
  (a = none ∧ len = 0 ∧ cap = 0 ∧ zs = []) ∨ ∃ x, a = some x ∧ len ≤ cap ∧ cap ≤ maxLen ∧ zs.length = cap ∧ ∀ i, i < zs.length → w.cell? (x.add (i * 2)) = some (.int .i64 (zs.getD i (0, 0)).1) ∧ w.cell? (x.add (i * 2 + 1)) = some (.int .i64 (zs.getD i (0, 0)).2)
theorem IsPts.cap {w : World} {a : Option Addr} {len cap : Nat} {zs : List (Int × Int)} (h : IsPts w a len cap zs) : len ≤ maxLen := by
  rcases h with ⟨_, h, _, _⟩ | ⟨_, _, h1, h2, _⟩
  · rw [h]; exact Nat.zero_le _
  · exact Nat.le_trans h1 h2
theorem Pairs.of_arg {w : World} {a : Option Addr} {len cap : Nat} {zs : List (Int × Int)} (h : IsPts w a len cap zs) : Pairs w (.slice a len cap) (zs.take len) ∧ (zs.take len).length = len := by
  rcases h with ⟨rfl, rfl, rfl, rfl⟩ | ⟨x, rfl, hl, _, hz, hcell⟩
  · exact ⟨⟨none, 0, rfl, fun h => by simp at h⟩, rfl⟩
  · have e : (zs.take len).length = len := by rw [List.length_take]; omega
    refine ⟨⟨some x, cap, by rw [e], fun h0 => ?_⟩, e⟩
    rw [e] at h0
    obtain ⟨b, off, spot⟩ := x
    have hc := (hcell 0 (by omega)).1
    have hspot : spot = none := by simpa [Addr.add] using World.cell?_spot hc
    subst hspot
    have ea : ∀ i, (⟨b, off, none⟩ : Addr).add i = ⟨b, off + i, none⟩ := fun i => by cases i <;> simp [Addr.add]
    refine ⟨b, off, rfl, ?_, fun j hj => ?_⟩
    · rw [ea] at hc
      exact World.block_lt_of_cell? w _ hc
    · rw [e] at hj
      have hk := hcell (j / 2) (by omega)
      rw [ea, ea] at hk
      have eg : (zs.take len).getD (j / 2) (0, 0) = zs.getD (j / 2) (0, 0) := by simp [show j / 2 < len by omega]
      unfold flat
      rw [eg]
      by_cases h2 : j % 2 = 0
      · rw [if_pos h2]
        have := hk.1
        rw [show j / 2 * 2 = j by omega] at this
        exact this
      · rw [if_neg h2]
        have := hk.2
        rw [show j / 2 * 2 + 1 = j by omega] at this
        exact this
theorem slice_of {w : World} {a : Option Addr} {cap : Nat} {zs : List (Int × Int)} (h : Pairs w (.slice a zs.length cap) zs) (h0 : 0 < zs.length) : ∃ b off, a = some ⟨b, off, none⟩ ∧ b < w.heap.size ∧ ∀ k, k < zs.length → w.cell? ⟨b, off + k * 2, none⟩ = some (.int .i64 (zs.getD k (0, 0)).1) ∧ w.cell? ⟨b, off + k * 2 + 1, none⟩ = some (.int .i64 (zs.getD k (0, 0)).2) := by
  obtain ⟨a', cap', he, hc⟩ := h
  injection he with h1 h2 h3
  subst h1
  obtain ⟨b, off, ha, hb, hcell⟩ := hc h0
  refine ⟨b, off, ha, hb, fun k hk => ⟨?_, ?_⟩⟩
  · rw [hcell (k * 2) (by omega), flat_even]
  · rw [show off + k * 2 + 1 = off + (k * 2 + 1) from rfl, hcell (k * 2 + 1) (by omega), flat_odd]

theorem infoP : (Tryd.prog.info? 65).map (fun i => (i.zero, i.size, i.bytes)) = some (some (.agg #[.int .i64 0, .int .i64 0]), 2, 16) := by kernel_rfl
/-- 'make' of n pairs. -/
theorem run_make_pairs (n : Nat) (hn : n ≤ 1048576) (w : World) :
    (Instr.makeSlice 27 (.int .i64 (n : Int)) (.int .i64 (n : Int))).run Tryd.prog w = .ok (.slice (some ⟨w.heap.size, 0, none⟩) n n) (w.alloc (.cells (madeCells #[.int .i64 0, .int .i64 0] (n * 2)) 65)) := by
  obtain ⟨i, hi, hzz⟩ := Option.map_eq_some_iff.1 infoP
  simp only [Prod.mk.injEq] at hzz
  obtain ⟨hz, hs, hb⟩ := hzz
  have hr := run_make (P := Tryd.prog) w 27 65 i _ Tryd.underlying27 hi hz .i64 .i64 (n : Int) (n : Int) (by omega) (Int.le_refl _) (by rw [hb]; omega) (by omega)
  simp only [Int.toNat_natCast, hs] at hr
  exact hr
theorem made_row (w : World) (n : Nat) (t : TypeId) : (w.alloc (.cells (madeCells #[.int .i64 0, .int .i64 0] (n * 2)) t)).rowIs w.heap.size t (n * 2) (fun _ => .int .i64 0) :=
  ⟨_, Go.Deep.blk_alloc_new _ _, size_madeCells _ _, fun i hi => by
    simp only [madeCells, Array.getElem?_map, Array.getElem?_range, hi, if_true, Option.map_some]
    have : i % 2 = 0 ∨ i % 2 = 1 := by omega
    rcases this with h | h <;> simp [h]⟩
theorem toOne (x y : Int) (w : World) :
    Calls Tryd.prog 40 #[.agg #[.int .i64 x, .int .i64 y]] w fun e w' => e = .returned (.agg #[.int .i64 x, .int .i64 y]) ∧ On w w' := by
  go_enter Tryd.func40, Tryd.ntmps40
  go_wp2
  refine bodyPost_ret (v := .agg #[.int .i64 x, .int .i64 y]) (by simp [results, Tryd.results40, go_sem]) rfl ⟨rfl, ?_⟩
  repeat (first | exact On.refl _ | apply On.alloc | refine On.setCell ?_ (by (try simp) <;> omega) _)
theorem eqOne (x y : Int) (w : World) :
    Calls Tryd.prog 46 #[.agg #[.int .i64 x, .int .i64 y], .agg #[.int .i64 x, .int .i64 y]] w fun e w' => e = .returned (.bool true) ∧ On w w' := by
  go_enter Tryd.func46, Tryd.ntmps46
  go_wp2
  go_ret
  exact ⟨rfl, by repeat (first | exact On.refl _ | apply On.alloc)⟩
set_option maxHeartbeats 1000000 in
theorem copy_some (b off cap : Nat) (zs : List (Int × Int)) (w : World) (hn : zs.length ≤ 1048576) (hlt : b < w.heap.size)
    (hcell : ∀ k, k < zs.length → w.cell? ⟨b, off + k * 2, none⟩ = some (.int .i64 (zs.getD k (0, 0)).1) ∧ w.cell? ⟨b, off + k * 2 + 1, none⟩ = some (.int .i64 (zs.getD k (0, 0)).2)) :
    Calls Tryd.prog 22 #[.slice (some ⟨b, off, none⟩) zs.length cap] w fun e w' => ∃ a cap, e = .returned (.slice a zs.length cap) ∧ zs.length ≤ cap ∧ OwnP w.heap.size w' (.slice a zs.length cap) zs ∧ On w w' := by
  have hmk := fun w => run_make_pairs zs.length hn w
  have HC := Lib.hid hcell
  clear hcell
  go_enter Tryd.func22, Tryd.ntmps22
  go_wp2_with fail
  clear hmk
  go_loopw [4] (fun i wr => ∃ k : Nat, k ≤ zs.length ∧ i = .int .i64 k ∧ wr.rowIs w.heap.size 65 (zs.length * 2) (fun j => if j < k * 2 then .int .i64 (flat zs j) else .int .i64 0) ∧ On w wr) (fun i _ => zs.length - (intOf i).toNat)
  case atStart =>
    refine ⟨0, Nat.zero_le _, rfl, ?_, On.alloc (On.refl _) _⟩
    exact (made_row w zs.length _).congr fun i _ => by simp
  case round =>
    obtain ⟨k, hk, rfl, hrow, hb⟩ := hrel
    have HR := Lib.hid hrow
    have HB := Lib.hid hb
    clear hrow hb
    by_cases hlt2 : k < zs.length
    · have hlti : (k : Int) < (zs.length : Int) := by omega
      obtain ⟨x, hx⟩ : ∃ x, x = (zs.getD k (0, 0)).1 := ⟨_, rfl⟩
      obtain ⟨y, hy⟩ : ∃ y, y = (zs.getD k (0, 0)).2 := ⟨_, rfl⟩
      have hc1 : wr.cell? ⟨b, off + k * 2, none⟩ = some (.int .i64 x) := by rw [hx]; exact (HB.out.cell (by exact hlt)).trans (HC.out k hlt2).1
      have hc2 : wr.cell? ⟨b, off + k * 2 + 1, none⟩ = some (.int .i64 y) := by rw [hy]; exact (HB.out.cell (by exact hlt)).trans (HC.out k hlt2).2
      have HX := Lib.hid hx
      have HY := Lib.hid hy
      clear hx hy
      go_wp2_with fail
      refine (toOne _ _ _).mono ?_
      rintro e w1 ⟨rfl, h1⟩
      have hR1 : w1.rowIs w.heap.size 65 (zs.length * 2) (fun j => if j < k * 2 then .int .i64 (flat zs j) else .int .i64 0) := HR.out.of_block (h1.block _ HR.out.lt)
      have HR1 := Lib.hid hR1
      have HO1 := Lib.hid (HB.out.trans h1)
      have d1 : w1.cell? ⟨w.heap.size, k * 2, none⟩ = some (.int .i64 0) := by have := hR1.cell (i := k * 2) (by omega); rw [if_neg (by omega)] at this; exact this
      have d2 : w1.cell? ⟨w.heap.size, k * 2 + 1, none⟩ = some (.int .i64 0) := by have := hR1.cell (i := k * 2 + 1) (by omega); rw [if_neg (by omega)] at this; exact this
      have f1 : w1.frozen? ⟨w.heap.size, k * 2, none⟩ = false := hR1.frozen _
      have f2 : w1.frozen? ⟨w.heap.size, k * 2 + 1, none⟩ = false := hR1.frozen _
      clear h1 hR1
      go_wp2_with fail
      go_roundw
      case rel =>
        refine ⟨k + 1, by omega, by go_num, ((HR1.out.set (k * 2) _).set (k * 2 + 1) _).congr fun j hj => ?_, (HO1.out.setCell (by exact Nat.le_refl _) _).setCell (by exact Nat.le_refl _) _⟩
        by_cases h1 : j = k * 2 + 1
        · subst h1; rw [if_pos rfl, if_pos (by omega), flat_odd, HY.out]
        · rw [if_neg h1]
          by_cases h2 : j = k * 2
          · subst h2; rw [if_pos rfl, if_pos (by omega), flat_even, HX.out]
          · rw [if_neg h2]
            by_cases h3 : j < k * 2
            · rw [if_pos h3, if_pos (by omega)]
            · rw [if_neg h3, if_neg (by omega)]
      case measure => simp [intOf]; omega
    · have hfin := Lib.hid ((HR.out.congr fun i hi => by rw [if_pos (by omega)]) : wr.rowIs w.heap.size _ (zs.length * 2) (fun j => .int .i64 (flat zs j)))
      go_wp2
      go_ret
      exact ⟨_, _, rfl, Nat.le_refl _, OwnP.of_row hfin.out (Nat.le_refl _), HB.out⟩
theorem copy_none (a : Option Addr) (cap : Nat) (w : World) :
    Calls Tryd.prog 22 #[.slice a 0 cap] w fun e w' => ∃ a cap, e = .returned (.slice a 0 cap) ∧ 0 ≤ cap ∧ OwnP w.heap.size w' (.slice a 0 cap) [] ∧ On w w' := by
  have hmk := fun w => run_make_pairs 0 (by omega) w
  rw [show (((0 : Nat) : Int)) = 0 from rfl] at hmk
  go_enter Tryd.func22, Tryd.ntmps22
  go_wp2
  refine wp_loop_rounds 1 ?_
  rw [rounds_succ]
  go_wp2
  go_ret
  exact ⟨_, _, rfl, Nat.le_refl _, OwnP.empty _ _ _ _, by repeat (first | exact On.refl _ | apply On.alloc)⟩
/-- The copy: a new slice with the same pairs. -/
theorem copyS (v : Value) (zs : List (Int × Int)) (w : World) (hn : zs.length ≤ 1048576) (h : Pairs w v zs) :
    Calls Tryd.prog 22 #[v] w fun e w' => ∃ a cap, e = .returned (.slice a zs.length cap) ∧ zs.length ≤ cap ∧ OwnP w.heap.size w' (.slice a zs.length cap) zs ∧ On w w' := by
  have h' := h
  obtain ⟨a, cap, rfl, -⟩ := h
  by_cases h0 : 0 < zs.length
  · obtain ⟨b, off, rfl, hlt, hcell⟩ := slice_of h' h0
    exact copy_some b off cap zs w hn hlt hcell
  · have : zs = [] := List.eq_nil_of_length_eq_zero (by omega)
    subst this
    exact copy_none a cap w
set_option maxHeartbeats 1000000 in
theorem eq_some (b off cap b2 off2 cap2 : Nat) (zs : List (Int × Int)) (w : World) (hn : zs.length ≤ 1048576) (hl1 : b < w.heap.size) (hl2 : b2 < w.heap.size)
    (hcell : ∀ k, k < zs.length → w.cell? ⟨b, off + k * 2, none⟩ = some (.int .i64 (zs.getD k (0, 0)).1) ∧ w.cell? ⟨b, off + k * 2 + 1, none⟩ = some (.int .i64 (zs.getD k (0, 0)).2))
    (hcell2 : ∀ k, k < zs.length → w.cell? ⟨b2, off2 + k * 2, none⟩ = some (.int .i64 (zs.getD k (0, 0)).1) ∧ w.cell? ⟨b2, off2 + k * 2 + 1, none⟩ = some (.int .i64 (zs.getD k (0, 0)).2)) :
    Calls Tryd.prog 27 #[.slice (some ⟨b, off, none⟩) zs.length cap, .slice (some ⟨b2, off2, none⟩) zs.length cap2] w fun e w' => e = .returned (.bool true) ∧ On w w' := by
  have HC := Lib.hid hcell
  have HC2 := Lib.hid hcell2
  clear hcell hcell2
  go_enter Tryd.func27, Tryd.ntmps27
  go_wp2_with fail
  go_loopw [5] (fun i wr => ∃ k : Nat, k ≤ zs.length ∧ i = .int .i64 k ∧ On w wr) (fun i _ => zs.length - (intOf i).toNat)
  case atStart => exact ⟨0, Nat.zero_le _, rfl, On.refl _⟩
  case round =>
    obtain ⟨k, hk, rfl, ho⟩ := hrel
    have HO := Lib.hid ho
    by_cases hlt : k < zs.length
    · have hlti : (k : Int) < (zs.length : Int) := by omega
      obtain ⟨x, hx⟩ : ∃ x, x = (zs.getD k (0, 0)).1 := ⟨_, rfl⟩
      obtain ⟨y, hy⟩ : ∃ y, y = (zs.getD k (0, 0)).2 := ⟨_, rfl⟩
      have hc1 : wr.cell? ⟨b, off + k * 2, none⟩ = some (.int .i64 x) := by rw [hx]; exact (ho.cell (by exact hl1)).trans (HC.out k hlt).1
      have hc2 : wr.cell? ⟨b, off + k * 2 + 1, none⟩ = some (.int .i64 y) := by rw [hy]; exact (ho.cell (by exact hl1)).trans (HC.out k hlt).2
      have hc3 : wr.cell? ⟨b2, off2 + k * 2, none⟩ = some (.int .i64 x) := by rw [hx]; exact (ho.cell (by exact hl2)).trans (HC2.out k hlt).1
      have hc4 : wr.cell? ⟨b2, off2 + k * 2 + 1, none⟩ = some (.int .i64 y) := by rw [hy]; exact (ho.cell (by exact hl2)).trans (HC2.out k hlt).2
      have g1 := ho.lts _ hl1
      have g2 := ho.lts _ hl2
      have HE := Lib.hid (fun w => eqOne x y w)
      clear hx hy ho
      go_wp2_with fail
      refine wp_region_onh (by kernel_rfl) (by kernel_rfl) ?_
      repeat (refine rest_step (fun K hK => ?_); go_simp; first | (refine hK _ ?_; clear hK K) | (apply Exists.intro; refine ⟨fun v1 hv1 => ?_, hK _ ?_⟩; (first | with_reducible exact rfl | with_reducible exact ⟨rfl, rfl⟩ | with_reducible exact Calls.on hv1 (HE.out _) | (obtain ⟨hc, hf⟩ := bcell hv1; go_simp; first | with_reducible exact rfl | with_reducible exact ⟨rfl, rfl⟩)); clear hK K))
      refine rest_nil ?_
      intro w1 h1
      have HO1 := Lib.hid (HO.out.trans h1)
      clear h1
      go_wp2_with fail
      go_roundw
      case rel => exact ⟨k + 1, by omega, by go_num, HO1.out⟩
      case measure => simp [intOf]; omega
    · go_wp2
      go_ret
      exact ⟨rfl, HO.out⟩
theorem eq_none (a a2 : Option Addr) (cap cap2 : Nat) (w : World) :
    Calls Tryd.prog 27 #[.slice a 0 cap, .slice a2 0 cap2] w fun e w' => e = .returned (.bool true) ∧ On w w' := by
  go_enter Tryd.func27, Tryd.ntmps27
  go_wp2
  refine wp_loop_rounds 1 ?_
  rw [rounds_succ]
  go_wp2
  go_ret
  exact ⟨rfl, On.refl _⟩
/-- The comparison of two slices that read alike. -/
theorem eqS (v v2 : Value) (zs : List (Int × Int)) (w : World) (hn : zs.length ≤ 1048576) (h : Pairs w v zs) (h2 : Pairs w v2 zs) :
    Calls Tryd.prog 27 #[v, v2] w fun e w' => e = .returned (.bool true) ∧ On w w' := by
  have h' := h
  have h2' := h2
  obtain ⟨a, cap, rfl, -⟩ := h
  obtain ⟨a2, cap2, rfl, -⟩ := h2
  by_cases h0 : 0 < zs.length
  · obtain ⟨b, off, rfl, hlt, hcell⟩ := slice_of h' h0
    obtain ⟨b2, off2, rfl, hlt2, hcell2⟩ := slice_of h2' h0
    exact eq_some b off cap b2 off2 cap2 zs w hn hlt hlt2 hcell hcell2
  · have : zs = [] := List.eq_nil_of_length_eq_zero (by omega)
    subst this
    exact eq_none a a2 cap cap2 w
/-- What is left of a count behind one length. -/
def restP (left len : Nat) : Int := if len ≤ left then ((left - len : Nat) : Int) else -1
theorem restP_yes {left len : Nat} (h : len ≤ left) : restP left len = ((left - len : Nat) : Int) := if_pos h
theorem restP_no {left len : Nat} (h : ¬ len ≤ left) : restP left len = -1 := if_neg h
theorem szS (left len : Nat) (a : Option Addr) (cap : Nat) (w : World) (h : left ≤ 1048576) (hl : len ≤ maxLen) :
    Calls Tryd.prog 19 #[.slice a len cap, .int .i64 left] w fun e w' => e = .returned (.int .i64 (restP left len)) ∧ w = w' := by
  unfold maxLen at hl
  by_cases hle : len ≤ left
  · have en := Lib.hid (show (left : Int) - (len : Int) = restP left len by rw [restP_yes hle]; omega)
    have h0 : ¬ (left : Int) - (len : Int) < 0 := by omega
    go_enter Tryd.func19, Tryd.ntmps19
    go_wp2_with fail
    go_ret
    exact ⟨ret_int en.out, rfl⟩
  · have en := Lib.hid (show (-1 : Int) = restP left len from (restP_no hle).symm)
    have h0 : (left : Int) - (len : Int) < 0 := by omega
    go_enter Tryd.func19, Tryd.ntmps19
    go_wp2_with fail
    go_ret
    exact ⟨ret_int en.out, rfl⟩
/-- A slice of pairs that came in, opened. -/
theorem open_pts {H : Type} {enc : TypeId × Value → H} {w : World} {base fuel : Nat} {c : Value} {x : DataW H × List MemPlace} (h : DataW.trod enc Tryd.prog w base (fun _ => true) true fuel 22 [c] = some x) :
    ∃ a len cap zs, c = .slice a len cap ∧ IsPts w a len cap zs := by
  rcases Go.Deep.open_slice_pairs Tryd.underlying22 Tryd.underlying84 (by kernel_rfl) rfl rfl (by kernel_rfl) (by kernel_rfl) h with ⟨hcs, _⟩ | ⟨a, len, cap, m, n, V0, V1, D0, D1, P0, P1, hcs, _, hl, hm, hmm, _, hv⟩
  · exact ⟨none, 0, 0, [], by simpa using hcs, .inl ⟨rfl, rfl, rfl, rfl⟩⟩
  · have hmc : m = cap := by simpa using hmm
    subst hmc
    have hp : ∀ i, ∃ p : Int × Int, i < m → w.cell? (a.add (i * 2)) = some (.int .i64 p.1) ∧ w.cell? (a.add (i * 2 + 1)) = some (.int .i64 p.2) := fun i => by
      by_cases hi : i < m
      · obtain ⟨h0, h1, e0, e1⟩ := hv i hi
        obtain ⟨u, gu, -, -⟩ := DataW.trod_int Tryd.underlying2 e0
        obtain ⟨v, gv, -, -⟩ := DataW.trod_int Tryd.underlying2 e1
        obtain hu : V0 i = .int .i64 u := by simpa using gu
        obtain hv' : V1 i = .int .i64 v := by simpa using gv
        exact ⟨(u, v), fun _ => ⟨by rw [h0, hu], by rw [h1, hv']⟩⟩
      · exact ⟨(0, 0), fun h => absurd h hi⟩
    refine ⟨some a, len, m, (List.range m).map fun i => Classical.choose (hp i), by simpa using hcs, .inr ⟨a, rfl, hl, hm, by simp, fun i hi => ?_⟩⟩
    have hi' : i < m := by simpa using hi
    have := Classical.choose_spec (hp i) hi'
    simpa [hi'] using this
end Go.Proofs.YtggiilbdlbhpgaaDoor.Modes
