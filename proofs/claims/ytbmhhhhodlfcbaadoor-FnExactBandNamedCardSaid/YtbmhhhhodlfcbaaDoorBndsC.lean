
/-
  Lists of bands: what the laws' copy, comparison and count of them return. Condition: at most 1048576 of them.
-/
import Derived.Test.YtbmhhhhodlfcbaaDoorBnds
import Derived.Test.YtbmhhhhodlfcbaaDoorOnH
import Derived.Deep.QuietTactic
import Derived.BigQuiet
import Derived.IntWalk

namespace Go.Proofs.YtbmhhhhodlfcbaaDoor.Bnds
open Go.RowKit

def flat (zs : List B5) (j : Nat) : Value := cellOf (zs.getD (j / 5) d5) (j % 5)
theorem flat_at (zs : List B5) (k q : Nat) (hq : q < 5) : flat zs (k * 5 + q) = cellOf (zs.getD k d5) q := by unfold flat; rw [show (k * 5 + q) / 5 = k by omega, show (k * 5 + q) % 5 = q by omega]
theorem infoP : (Tryd.prog.info? 26).map (fun i => (i.zero, i.size, i.bytes)) = some (some (.agg #[.string ⟨#[]⟩, .int .i64 0, .int .i64 0, .int .i64 0, .int .i64 0]), 5, 48) := by kernel_rfl
/-- 'make' of n bands. -/
theorem run_make_rows (n : Nat) (hn : n ≤ 1048576) (w : World) :
    (Instr.makeSlice 60 (.int .i64 (n : Int)) (.int .i64 (n : Int))).run Tryd.prog w = .ok (.slice (some ⟨w.heap.size, 0, none⟩) n n) (w.alloc (.cells (madeCells #[.string ⟨#[]⟩, .int .i64 0, .int .i64 0, .int .i64 0, .int .i64 0] (n * 5)) 26)) := by
  obtain ⟨i, hi, hzz⟩ := Option.map_eq_some_iff.1 infoP
  simp only [Prod.mk.injEq] at hzz
  obtain ⟨hz, hs, hb⟩ := hzz
  have hr := run_make (P := Tryd.prog) w 60 26 i _ Tryd.underlying60 hi hz .i64 .i64 (n : Int) (n : Int) (by omega) (Int.le_refl _) (by rw [hb]; omega) (by omega)
  simp only [Int.toNat_natCast, hs] at hr
  exact hr
theorem made_row (w : World) (n : Nat) (t : TypeId) : (w.alloc (.cells (madeCells #[.string ⟨#[]⟩, .int .i64 0, .int .i64 0, .int .i64 0, .int .i64 0] (n * 5)) t)).rowIs w.heap.size t (n * 5) (fun j => cellOf d5 (j % 5)) :=
  ⟨_, Go.Deep.blk_alloc_new _ _, size_madeCells _ _, fun i hi => by
    simp only [madeCells, Array.getElem?_map, Array.getElem?_range, hi, if_true, Option.map_some]
    rcases (show i % 5 = 0 ∨ i % 5 = 1 ∨ i % 5 = 2 ∨ i % 5 = 3 ∨ i % 5 = 4 by omega) with h | h | h | h | h <;> simp [h, cellOf, d5]⟩
set_option maxHeartbeats 4000000 in
theorem copy_some (b off cap : Nat) (zs : List B5) (w : World) (hn : zs.length ≤ 1048576) (hlt : b < w.heap.size)
    (hcell : ∀ k, k < zs.length → ∀ q, q < 5 → w.cell? ⟨b, off + k * 5 + q, none⟩ = some (cellOf (zs.getD k d5) q)) :
    Calls Tryd.prog 35 #[.slice (some ⟨b, off, none⟩) zs.length cap] w fun e w' => ∃ a cap, e = .returned (.slice a zs.length cap) ∧ Rows w' (.slice a zs.length cap) zs ∧ On w w' := by
  have hmk := fun w => run_make_rows zs.length hn w
  have HC := Lib.hid hcell
  clear hcell
  go_enter Tryd.func35, Tryd.ntmps35
  go_wp2_with fail
  clear hmk
  go_loopw [4] (fun i wr => ∃ k : Nat, k ≤ zs.length ∧ i = .int .i64 k ∧ wr.rowIs w.heap.size 26 (zs.length * 5) (fun j => if j < k * 5 then flat zs j else cellOf d5 (j % 5)) ∧ On w wr) (fun i _ => zs.length - (intOf i).toNat)
  case atStart =>
    refine ⟨0, Nat.zero_le _, rfl, ?_, On.alloc (On.refl _) _⟩
    exact (made_row w zs.length _).congr fun i _ => by simp
  case round =>
    obtain ⟨k, hk, rfl, hrow, hb⟩ := hrel
    have HR := Lib.hid hrow
    have HB := Lib.hid hb
    clear hrow hb
    by_cases hlt2 : k < zs.length
    · have hlti : (k : Int) < (zs.length : Int) := by omega
      obtain ⟨⟨x, l, h, r, d⟩, hz⟩ : ∃ z : B5, z = zs.getD k d5 := ⟨_, rfl⟩
      have c0 : wr.cell? ⟨b, off + k * 5, none⟩ = some (.string x) := by have := HC.out k hlt2 0 (by omega); rw [← hz] at this; exact (HB.out.cell (by exact hlt)).trans this
      have c1 : wr.cell? ⟨b, off + k * 5 + 1, none⟩ = some (.int .i64 l) := by have := HC.out k hlt2 1 (by omega); rw [← hz] at this; exact (HB.out.cell (by exact hlt)).trans this
      have c2 : wr.cell? ⟨b, off + k * 5 + 2, none⟩ = some (.int .i64 h) := by have := HC.out k hlt2 2 (by omega); rw [← hz] at this; exact (HB.out.cell (by exact hlt)).trans this
      have c3 : wr.cell? ⟨b, off + k * 5 + 3, none⟩ = some (.int .i64 r) := by have := HC.out k hlt2 3 (by omega); rw [← hz] at this; exact (HB.out.cell (by exact hlt)).trans this
      have c4 : wr.cell? ⟨b, off + k * 5 + 4, none⟩ = some (.int .i64 d) := by have := HC.out k hlt2 4 (by omega); rw [← hz] at this; exact (HB.out.cell (by exact hlt)).trans this
      have hbr : b < wr.heap.size := HB.out.lts _ hlt
      have HZ := Lib.hid hz
      clear hz
      go_wp2_with fail
      refine (Bnd.copy x l h r d _).mono ?_
      rintro e w1 ⟨rfl, h1⟩
      have hR1 : w1.rowIs w.heap.size 26 (zs.length * 5) (fun j => if j < k * 5 then flat zs j else cellOf d5 (j % 5)) := HR.out.of_block (h1.block _ HR.out.lt)
      have HR1 := Lib.hid hR1
      have HO1 := Lib.hid (HB.out.trans h1)
      have d0 : w1.cell? ⟨w.heap.size, k * 5, none⟩ = some (cellOf d5 0) := by have := hR1.cell (i := k * 5 + 0) (by omega); rw [if_neg (by omega), show (k * 5 + 0) % 5 = 0 by omega] at this; exact this
      have f0 : w1.frozen? ⟨w.heap.size, k * 5, none⟩ = false := hR1.frozen _
      have d1 : w1.cell? ⟨w.heap.size, k * 5 + 1, none⟩ = some (cellOf d5 1) := by have := hR1.cell (i := k * 5 + 1) (by omega); rw [if_neg (by omega), show (k * 5 + 1) % 5 = 1 by omega] at this; exact this
      have f1 : w1.frozen? ⟨w.heap.size, k * 5 + 1, none⟩ = false := hR1.frozen _
      have d2 : w1.cell? ⟨w.heap.size, k * 5 + 2, none⟩ = some (cellOf d5 2) := by have := hR1.cell (i := k * 5 + 2) (by omega); rw [if_neg (by omega), show (k * 5 + 2) % 5 = 2 by omega] at this; exact this
      have f2 : w1.frozen? ⟨w.heap.size, k * 5 + 2, none⟩ = false := hR1.frozen _
      have d3 : w1.cell? ⟨w.heap.size, k * 5 + 3, none⟩ = some (cellOf d5 3) := by have := hR1.cell (i := k * 5 + 3) (by omega); rw [if_neg (by omega), show (k * 5 + 3) % 5 = 3 by omega] at this; exact this
      have f3 : w1.frozen? ⟨w.heap.size, k * 5 + 3, none⟩ = false := hR1.frozen _
      have d4 : w1.cell? ⟨w.heap.size, k * 5 + 4, none⟩ = some (cellOf d5 4) := by have := hR1.cell (i := k * 5 + 4) (by omega); rw [if_neg (by omega), show (k * 5 + 4) % 5 = 4 by omega] at this; exact this
      have f4 : w1.frozen? ⟨w.heap.size, k * 5 + 4, none⟩ = false := hR1.frozen _
      simp only [cellOf, d5] at d0 d1 d2 d3 d4
      clear h1 hR1 c0 c1 c2 c3 c4 hbr
      go_wp2_with fail
      go_roundw
      case rel =>
        refine ⟨k + 1, by omega, by go_num, (((((HR1.out.set (k * 5) _).set (k * 5 + 1) _).set (k * 5 + 2) _).set (k * 5 + 3) _).set (k * 5 + 4) _).congr fun j hj => ?_, ((((HO1.out.setCell (by exact Nat.le_refl _) _).setCell (by exact Nat.le_refl _) _).setCell (by exact Nat.le_refl _) _).setCell (by exact Nat.le_refl _) _).setCell (by exact Nat.le_refl _) _⟩
        have e := fun q hq => flat_at zs k q hq
        rw [← HZ.out] at e
        by_cases h4 : j = k * 5 + 4
        · subst h4; rw [if_pos rfl, if_pos (by omega), e 4 (by omega)]; rfl
        · rw [if_neg h4]
          by_cases h3 : j = k * 5 + 3
          · subst h3; rw [if_pos rfl, if_pos (by omega), e 3 (by omega)]; rfl
          · rw [if_neg h3]
            by_cases h2 : j = k * 5 + 2
            · subst h2; rw [if_pos rfl, if_pos (by omega), e 2 (by omega)]; rfl
            · rw [if_neg h2]
              by_cases h1 : j = k * 5 + 1
              · subst h1; rw [if_pos rfl, if_pos (by omega), e 1 (by omega)]; rfl
              · rw [if_neg h1]
                by_cases h0 : j = k * 5
                · subst h0; rw [if_pos rfl, if_pos (by omega), show k * 5 = k * 5 + 0 from rfl, e 0 (by omega)]; rfl
                · rw [if_neg h0]
                  by_cases hh : j < k * 5
                  · rw [if_pos hh, if_pos (by omega)]
                  · rw [if_neg hh, if_neg (by omega)]
      case measure => simp [intOf]; omega
    · have hfin := Lib.hid ((HR.out.congr fun i hi => by rw [if_pos (by omega)]) : wr.rowIs w.heap.size _ (zs.length * 5) (fun j => flat zs j))
      go_wp2
      go_ret
      refine ⟨_, _, rfl, ⟨_, _, rfl, fun _ => ⟨w.heap.size, 0, rfl, hfin.out.lt, fun i hi q hq => ?_⟩⟩, HB.out⟩
      rw [Nat.zero_add, hfin.out.cell (i := i * 5 + q) (by omega), flat_at zs i q hq]
theorem copy_none (a : Option Addr) (cap : Nat) (w : World) :
    Calls Tryd.prog 35 #[.slice a 0 cap] w fun e w' => ∃ a cap, e = .returned (.slice a 0 cap) ∧ Rows w' (.slice a 0 cap) [] ∧ On w w' := by
  have hmk := fun w => run_make_rows 0 (by omega) w
  rw [show (((0 : Nat) : Int)) = 0 from rfl] at hmk
  go_enter Tryd.func35, Tryd.ntmps35
  go_wp2
  refine wp_loop_rounds 1 ?_
  rw [rounds_succ]
  go_wp2
  go_ret
  exact ⟨_, _, rfl, Rows.empty _ _ _, by repeat (first | with_reducible exact On.refl _ | with_reducible apply On.alloc | with_reducible apply On.drewN | with_reducible apply On.drew | with_reducible refine On.setCell ?_ (by (try simp) <;> omega) _)⟩
/-- The copy: a new slice with the same bands. -/
theorem copyS (v : Value) (zs : List B5) (w : World) (hn : zs.length ≤ 1048576) (h : Rows w v zs) :
    Calls Tryd.prog 35 #[v] w fun e w' => ∃ a cap, e = .returned (.slice a zs.length cap) ∧ Rows w' (.slice a zs.length cap) zs ∧ On w w' := by
  have h' := h
  obtain ⟨a, cap, rfl, -⟩ := h
  by_cases h0 : 0 < zs.length
  · obtain ⟨b, off, rfl, hlt, hcell⟩ := slice_of h' h0
    exact copy_some b off cap zs w hn hlt hcell
  · have : zs = [] := List.eq_nil_of_length_eq_zero (by omega)
    subst this
    exact copy_none a cap w
set_option maxHeartbeats 4000000 in
theorem eq_some (b off cap b2 off2 cap2 : Nat) (zs : List B5) (w : World) (hn : zs.length ≤ 1048576) (hl1 : b < w.heap.size) (hl2 : b2 < w.heap.size)
    (hcell : ∀ k, k < zs.length → ∀ q, q < 5 → w.cell? ⟨b, off + k * 5 + q, none⟩ = some (cellOf (zs.getD k d5) q))
    (hcell2 : ∀ k, k < zs.length → ∀ q, q < 5 → w.cell? ⟨b2, off2 + k * 5 + q, none⟩ = some (cellOf (zs.getD k d5) q)) :
    Calls Tryd.prog 37 #[.slice (some ⟨b, off, none⟩) zs.length cap, .slice (some ⟨b2, off2, none⟩) zs.length cap2] w fun e w' => e = .returned (.bool true) ∧ On w w' := by
  have HC := Lib.hid hcell
  have HC2 := Lib.hid hcell2
  clear hcell hcell2
  go_enter Tryd.func37, Tryd.ntmps37
  go_wp2_with fail
  go_loopw [5] (fun i wr => ∃ k : Nat, k ≤ zs.length ∧ i = .int .i64 k ∧ On w wr) (fun i _ => zs.length - (intOf i).toNat)
  case atStart => exact ⟨0, Nat.zero_le _, rfl, On.refl _⟩
  case round =>
    obtain ⟨k, hk, rfl, ho⟩ := hrel
    have HB := Lib.hid ho
    by_cases hlt2 : k < zs.length
    · have hlti : (k : Int) < (zs.length : Int) := by omega
      obtain ⟨⟨x, l, h, r, d⟩, hz⟩ : ∃ z : B5, z = zs.getD k d5 := ⟨_, rfl⟩
      have c0 : wr.cell? ⟨b, off + k * 5, none⟩ = some (.string x) := by have := HC.out k hlt2 0 (by omega); rw [← hz] at this; exact (HB.out.cell (by exact hl1)).trans this
      have c1 : wr.cell? ⟨b, off + k * 5 + 1, none⟩ = some (.int .i64 l) := by have := HC.out k hlt2 1 (by omega); rw [← hz] at this; exact (HB.out.cell (by exact hl1)).trans this
      have c2 : wr.cell? ⟨b, off + k * 5 + 2, none⟩ = some (.int .i64 h) := by have := HC.out k hlt2 2 (by omega); rw [← hz] at this; exact (HB.out.cell (by exact hl1)).trans this
      have c3 : wr.cell? ⟨b, off + k * 5 + 3, none⟩ = some (.int .i64 r) := by have := HC.out k hlt2 3 (by omega); rw [← hz] at this; exact (HB.out.cell (by exact hl1)).trans this
      have c4 : wr.cell? ⟨b, off + k * 5 + 4, none⟩ = some (.int .i64 d) := by have := HC.out k hlt2 4 (by omega); rw [← hz] at this; exact (HB.out.cell (by exact hl1)).trans this
      have k0 : wr.cell? ⟨b2, off2 + k * 5, none⟩ = some (.string x) := by have := HC2.out k hlt2 0 (by omega); rw [← hz] at this; exact (HB.out.cell (by exact hl2)).trans this
      have k1 : wr.cell? ⟨b2, off2 + k * 5 + 1, none⟩ = some (.int .i64 l) := by have := HC2.out k hlt2 1 (by omega); rw [← hz] at this; exact (HB.out.cell (by exact hl2)).trans this
      have k2 : wr.cell? ⟨b2, off2 + k * 5 + 2, none⟩ = some (.int .i64 h) := by have := HC2.out k hlt2 2 (by omega); rw [← hz] at this; exact (HB.out.cell (by exact hl2)).trans this
      have k3 : wr.cell? ⟨b2, off2 + k * 5 + 3, none⟩ = some (.int .i64 r) := by have := HC2.out k hlt2 3 (by omega); rw [← hz] at this; exact (HB.out.cell (by exact hl2)).trans this
      have k4 : wr.cell? ⟨b2, off2 + k * 5 + 4, none⟩ = some (.int .i64 d) := by have := HC2.out k hlt2 4 (by omega); rw [← hz] at this; exact (HB.out.cell (by exact hl2)).trans this
      have g1 := ho.lts _ hl1
      have g2 := ho.lts _ hl2
      have HE := Lib.hid (fun w => Bnd.eq x l h r d w)
      clear hz ho
      go_wp2_with fail
      refine wp_region_onh (by kernel_rfl) (by kernel_rfl) ?_
      repeat (refine rest_step (fun K hK => ?_); go_simp; first | (refine hK _ ?_; clear hK K) | (apply Exists.intro; refine ⟨fun v1 hv1 => ?_, hK _ ?_⟩; (first | with_reducible exact rfl | with_reducible exact ⟨rfl, rfl⟩ | with_reducible exact Calls.on hv1 (HE.out _) | (obtain ⟨hc, hf⟩ := bcell hv1; go_simp; first | with_reducible exact rfl | with_reducible exact ⟨rfl, rfl⟩ | exact rfl | exact ⟨rfl, rfl⟩)); clear hK K))
      refine rest_nil ?_
      intro w1 h1
      have HO1 := Lib.hid (HB.out.trans h1)
      clear h1
      go_wp2_with fail
      go_roundw
      case rel => exact ⟨k + 1, by omega, by go_num, HO1.out⟩
      case measure => simp [intOf]; omega
    · go_wp2
      go_ret
      exact ⟨rfl, HB.out⟩
theorem eq_none (a a2 : Option Addr) (cap cap2 : Nat) (w : World) :
    Calls Tryd.prog 37 #[.slice a 0 cap, .slice a2 0 cap2] w fun e w' => e = .returned (.bool true) ∧ On w w' := by
  go_enter Tryd.func37, Tryd.ntmps37
  go_wp2
  refine wp_loop_rounds 1 ?_
  rw [rounds_succ]
  go_wp2
  go_ret
  exact ⟨rfl, On.refl _⟩
/-- The comparison of two slices that read alike. -/
theorem eqS (v v2 : Value) (zs : List B5) (w : World) (hn : zs.length ≤ 1048576) (h : Rows w v zs) (h2 : Rows w v2 zs) :
    Calls Tryd.prog 37 #[v, v2] w fun e w' => e = .returned (.bool true) ∧ On w w' := by
  have h' := h
  have h2' := h2
  obtain ⟨a, cap, rfl, -⟩ := h
  obtain ⟨a2, cap2, rfl, -⟩ := h2
  by_cases h0 : 0 < zs.length
  · obtain ⟨b, off, rfl, hlt, hcell⟩ := slice_of h' h0
    obtain ⟨b2, off2, rfl, hlt2, hcell2⟩ := slice_of h2' h0
    exact eq_some b off cap b2 off2 cap2 zs w hn hlt hlt2 hcell hcell2
  · have : zs = [] := List.eq_nil_of_length_eq_zero (by omega)
    subst this
    exact eq_none a a2 cap cap2 w
set_option maxHeartbeats 4000000 in
/-- The count. -/
theorem szS (v : Value) (zs : List B5) (w : World) (hm : zs.length ≤ maxLen) (hall : ∀ z ∈ zs, z.1.size ≤ maxLen) (h : Rows w v zs) :
    Calls Tryd.prog 33 #[v, .int .i64 1048576] w fun e w' => ∃ r : Int, e = .returned (.int .i64 r) ∧ On w w' ∧ (r < 0 ∨ (0 ≤ r ∧ zs.length ≤ 1048576 ∧ ∀ i, i < zs.length → (zs.getD i d5).1.size ≤ 1048576)) := by
  unfold maxLen at hm
  have hall2 : ∀ i, i < zs.length → (zs.getD i d5).1.size ≤ maxLen := fun i hi => by
    have := hall _ (List.getElem_mem hi)
    simpa [List.getD_eq_getElem?_getD, hi] using this
  have HALL := Lib.hid hall2
  clear hall hall2
  have h' := h
  obtain ⟨a, cap, rfl, -⟩ := h
  by_cases hle : zs.length ≤ 1048576
  · obtain ⟨m, hmd⟩ : ∃ m, m = 1048576 - zs.length := ⟨_, rfl⟩
    have g0 : ¬ (1048576 : Int) - (zs.length : Int) < 0 := by omega
    have g1 : (1048576 : Int) - (zs.length : Int) = (m : Int) := by omega
    have g2 : ¬ (m : Int) < 0 := by omega
    have hmb : m ≤ 1048576 := by omega
    by_cases h0 : 0 < zs.length
    · obtain ⟨b, off, rfl, hlt, hcell⟩ := slice_of h' h0
      have HC := Lib.hid hcell
      clear hcell h' hmd h0
      go_enter Tryd.func33, Tryd.ntmps33
      go_wp2_with fail
      go_loopw [1, 5] (fun u i wr => ∃ k c : Nat, k ≤ zs.length ∧ i = .int .i64 k ∧ u = .int .i64 c ∧ c ≤ 1048576 ∧ (∀ j, j < k → (zs.getD j d5).1.size ≤ 1048576) ∧ On w wr) (fun _ i _ => zs.length - (intOf i).toNat)
      case atStart => exact ⟨0, m, Nat.zero_le _, rfl, rfl, hmb, fun j h => by omega, On.refl _⟩
      case round =>
        obtain ⟨k, c, hk, rfl, rfl, hc, hpre, ho⟩ := hrel
        have HB := Lib.hid ho
        have HPRE := Lib.hid hpre
        clear hpre
        by_cases hlt2 : k < zs.length
        · have hlti : (k : Int) < (zs.length : Int) := by omega
          obtain ⟨⟨x, l, h, r, d⟩, hz⟩ : ∃ z : B5, z = zs.getD k d5 := ⟨_, rfl⟩
          have c0 : wr.cell? ⟨b, off + k * 5, none⟩ = some (.string x) := by have := HC.out k hlt2 0 (by omega); rw [← hz] at this; exact (HB.out.cell (by exact hlt)).trans this
          have c1 : wr.cell? ⟨b, off + k * 5 + 1, none⟩ = some (.int .i64 l) := by have := HC.out k hlt2 1 (by omega); rw [← hz] at this; exact (HB.out.cell (by exact hlt)).trans this
          have c2 : wr.cell? ⟨b, off + k * 5 + 2, none⟩ = some (.int .i64 h) := by have := HC.out k hlt2 2 (by omega); rw [← hz] at this; exact (HB.out.cell (by exact hlt)).trans this
          have c3 : wr.cell? ⟨b, off + k * 5 + 3, none⟩ = some (.int .i64 r) := by have := HC.out k hlt2 3 (by omega); rw [← hz] at this; exact (HB.out.cell (by exact hlt)).trans this
          have c4 : wr.cell? ⟨b, off + k * 5 + 4, none⟩ = some (.int .i64 d) := by have := HC.out k hlt2 4 (by omega); rw [← hz] at this; exact (HB.out.cell (by exact hlt)).trans this
          have g3 := ho.lts _ hlt
          have hx : x.size ≤ maxLen := by have := HALL.out k hlt2; rw [← hz] at this; exact this
          have hcn := fun w => Bnd.count c x l h r d w hc hx
          have HZ := Lib.hid hz
          rcases Bnd.left_or c x.size with hr0 | ⟨n, hr0, hn1, hn2⟩
          · rw [hr0] at hcn
            have HCN := Lib.hid hcn
            clear hcn hr0 hz ho
            go_wp2_with fail
            refine (HCN.out _).mono ?_
            rintro e w1 ⟨rfl, h1⟩
            go_wp2_with fail
            go_ret
            exact ⟨-1, rfl, HB.out.trans h1, .inl (by decide)⟩
          · rw [hr0] at hcn
            have HCN := Lib.hid hcn
            have g4 : ¬ (n : Int) < 0 := by omega
            have HPRE2 := Lib.hid (fun j (hj : j < k + 1) => show (zs.getD j d5).1.size ≤ 1048576 by
              by_cases g : j = k
              · subst g; rw [← HZ.out]; exact Nat.le_trans hn2 hc
              · exact HPRE.out j (by omega))
            have hn3 : n ≤ 1048576 := by omega
            clear hcn hr0 hz ho hn1 hn2
            go_wp2_with fail
            refine (HCN.out _).mono ?_
            rintro e w1 ⟨rfl, h1⟩
            have HO1 := Lib.hid (HB.out.trans h1)
            clear h1
            go_wp2_with fail
            go_roundw
            case rel => exact ⟨k + 1, n, by omega, by go_num, rfl, hn3, HPRE2.out, HO1.out⟩
            case measure => simp [intOf]; omega
        · obtain rfl : k = zs.length := by omega
          go_wp2
          go_ret
          exact ⟨_, rfl, HB.out, .inr ⟨by omega, hle, HPRE.out⟩⟩
    · have : zs = [] := List.eq_nil_of_length_eq_zero (by omega)
      subst this
      clear h' hmd
      go_enter Tryd.func33, Tryd.ntmps33
      go_wp2
      refine wp_loop_rounds 1 ?_
      rw [rounds_succ]
      go_wp2
      go_ret
      exact ⟨_, rfl, On.refl _, .inr ⟨by omega, by simp, fun i hi => by simp at hi⟩⟩
  · have g0 : (1048576 : Int) - (zs.length : Int) < 0 := by omega
    go_enter Tryd.func33, Tryd.ntmps33
    go_wp2_with fail
    go_ret
    exact ⟨-1, rfl, On.refl _, .inl (by decide)⟩
end Go.Proofs.YtbmhhhhodlfcbaaDoor.Bnds

