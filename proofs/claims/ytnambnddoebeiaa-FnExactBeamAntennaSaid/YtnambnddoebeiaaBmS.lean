
/-
  A beam, in the model. Conditions: widths from 1 to 360.
-/
import Derived.Test.YtnambnddoebeiaaBmP
import Derived.Test.YtnambnddoebeiaaClone
import Derived.Deep.AppendLies
import Derived.Deep.OwnRows
import Derived.Deep.RegionLaw
namespace Go.Proofs.Ytnambnddoebeiaa.Ant
open Go.RowKit
open Plain
open Ints (Ints Own)
theorem own_ints {w : World} {B e n : Nat} {V : Value} {zs : List Int} (hz : zs.length = n) (h : w.ownsRow B e 1 V n (Clone.intCells zs)) : ∃ a c, V = .slice a n c ∧ Own B w (.slice a n c) zs := by
  subst hz
  exact Clone.own_of_row h
set_option maxRecDepth 1000000 in
set_option maxHeartbeats 8000000 in
theorem spec_beam (s : ByteArray) (x u v : Int) (w : World) (u0 : 1 ≤ u) (u1 : u ≤ 360) (v0 : 1 ≤ v) (v1 : v ≤ 360) :
    Calls Try.prog 51 #[.string s, .int .i64 x, .int .i64 u, .int .i64 v] w fun e w' => ∃ a2 c2 a3 c3, e = .returned (.agg #[.string s, .int .i64 x, .slice a2 36 c2, .slice a3 19 c3]) ∧ Own w.heap.size w' (.slice a2 36 c2) (listOf (hP u) 36) ∧ Own w.heap.size w' (.slice a3 19 c3) (listOf (vP v) 19) ∧ On w w' := by
  obtain ⟨i0, hi, hz0, hz1, hz2⟩ := info_parts Ints.info
  obtain ⟨W, hW⟩ : ∃ W, W = w.alloc (.cells #[.string ⟨#[]⟩, .int .i64 0, .slice none 0 0, .slice none 0 0] 42) := ⟨_, rfl⟩
  obtain ⟨WB, hWB⟩ : ∃ WB, WB = W.alloc (.cells #[.string s, .int .i64 x, .slice none 0 0, .slice none 0 0] 42) := ⟨_, rfl⟩
  obtain ⟨g, hg⟩ : ∃ g, g = w.heap.size + 1 := ⟨_, rfl⟩
  have hsW : W.heap.size = w.heap.size + 1 := by rw [hW]; simp
  have HWs := Lib.hid (show w.heap.size < W.heap.size by rw [hW]; simp)
  have HO := Lib.hid (show On W WB by rw [hWB]; exact (On.refl W).alloc _)
  have HOW := Lib.hid (show On w W by rw [hW]; exact (On.refl w).alloc _)
  have HR := Lib.hid (show In W w.heap.size ⟨#[]⟩ 0 (.slice none 0 0) (.slice none 0 0) by rw [hW]; exact ⟨by simp [go_sem], by simp [go_sem], by simp [go_sem], by simp [go_sem]⟩)
  have HFR := Lib.hid (show ∀ i, W.frozen? ⟨w.heap.size, i, none⟩ = false by rw [hW]; intro i; simp [go_sem])
  have HF := Lib.hid (show ∀ i, WB.frozen? ⟨g, i, none⟩ = false by rw [hWB, hg, ← hsW]; intro i; simp [go_sem])
  have HGB := Lib.hid (show g < WB.heap.size by rw [hWB, hg, ← hsW]; simp)
  have HGW := Lib.hid (show W.heap.size ≤ g by omega)
  have HGN := Lib.hid (show w.heap.size < g by omega)
  have HSB := Lib.hid (show W.heap.size ≤ WB.heap.size from HO.out.size)
  have HWW := Lib.hid hW
  have HWB := Lib.hid hWB
  have HG := Lib.hid hg
  have HI0 := Lib.hid (show In WB g s x (.slice none 0 0) (.slice none 0 0) by rw [hWB, hg, ← hsW]; exact ⟨by simp [go_sem], by simp [go_sem], by simp [go_sem], by simp [go_sem]⟩)
  clear hW hWB hg hsW
  go_enter Try.func51, Try.ntmps51
  go_wp2_with fail
  rw [← HWW.out, ← HWB.out]
  rw [← HG.out]
  go_loopw [10] (fun i wr => ∃ (k : Nat) (V : Value), k ≤ 36 ∧ i = .int .i64 k ∧ In wr g s x V (.slice none 0 0) ∧ wr.ownsRow WB.heap.size 2 1 V k (Clone.intCells (listOf (hP u) k)) ∧ (∀ i, wr.frozen? ⟨g, i, none⟩ = false) ∧ WB.heap.size ≤ wr.heap.size ∧ On W wr) (fun i _ => 36 - (intOf i).toNat)
  case atStart => exact ⟨0, _, Nat.zero_le _, rfl, HI0.out, World.ownsRow_nil _ _ _ _, HF.out, Nat.le_refl _, HO.out⟩
  case round =>
    obtain ⟨k, V, hk, rfl, hI, hown, hfz, hsz, hO⟩ := hrel
    have HOr := Lib.hid hO
    have HFr := Lib.hid hfz
    have HWr := Lib.hid hown
    by_cases hlt : k < 36
    · have hlti : (k : Int) < 36 := by omega
      obtain ⟨ht, t0, t1⟩ := th hlt
      obtain ⟨t, htt⟩ : ∃ t, t = turn (10 * (k : Int)) 0 := ⟨_, rfl⟩
      rw [← htt] at ht t0 t1
      obtain ⟨z, hz⟩ : ∃ z, z = hP u k := ⟨_, rfl⟩
      have HT := Lib.hid (show listOf (hP u) (k + 1) = listOf (hP u) k ++ [z] by rw [hz]; exact listOf_succ _ _)
      have HMN := Lib.hid (fun w => show Calls Try.prog 65 #[.int .i64 (10 * (k : Int)), .int .i64 (360 - 10 * (k : Int))] w fun e w' => e = .returned (.int .i64 t) ∧ w = w' by rw [← ht]; exact Turn.spec_min _ _ w)
      have HPR := Lib.hid (fun w => show Calls Try.prog 70 #[.int .i64 t, .int .i64 u] w fun e w' => e = .returned (.int .i64 z) ∧ w = w' by have := spec_par t u w t0 t1 u0 u1; rw [show par t u = z by rw [hz, htt]; rfl] at this; exact this)
      have wq1 : IntKind.i64.wrap (10 * (k : Int)) = 10 * (k : Int) := IntWalk.i64_in _ (by omega)
      have wq2 : IntKind.i64.wrap (360 - 10 * (k : Int)) = 360 - 10 * (k : Int) := IntWalk.i64_in _ (by omega)
      have hgr := Nat.lt_of_lt_of_le HGB.out hsz
      have hvg : V.ownBlock ≠ some g := fun e => by have := (hown.lt g e).1; have := HGB.out; omega
      have hf3 := hfz 2
      obtain ⟨i0', i1, i2, i3⟩ := hI
      clear hz hO hown hfz ht htt t0 t1
      go_wp2_with fail
      go_region_law (first
        | (go_simp; go_at_call 65; (with_reducible refine (HMN.out _).mono ?_); rintro e w' ⟨rfl, rfl⟩; dsimp only)
        | (go_simp; go_at_call 70; (with_reducible refine (HPR.out _).mono ?_); rintro e w' ⟨rfl, rfl⟩; dsimp only)
        | (refine step_append_lies _ (by rfl) _ _ _ (by rfl) WB.heap.size 2 i0 _ 1 8 Try.underlying22 hi hz0 hz1 hz2 rfl (by omega) V k (Clone.intCells (listOf (hP u) k)) (by rfl) (by first | exact (HWr.out.alloc _).drew | exact HWr.out.drew.alloc _ | exact HWr.out.alloc _) ⟨wr.heap.size, 0, none⟩ 1 1 [.int .i64 z] (by rfl) (by rfl) (World.news_of_block (cs := #[.int .i64 z]) (t := 2) (fr := (0, 0)) (heap_alloc_new wr _)) (by simp [Value.oneCell']) (by omega) (by unfold maxLen; omega) (by omega) (by simp; omega) (wr.heap.size + 1) (by simp) ?_; intro gg cp w1 hown1 hgrow hat hlt1; have c3 : w1.cell? ⟨g, 2, none⟩ = some V := (hgrow.cell_far _ (by simp; omega) (Ne.symm hvg)).trans (((On.alloc (On.refl wr) _).cell (p := ⟨g, 2, none⟩) (by exact hgr)).trans i2); have fz3 : w1.frozen? ⟨g, 2, none⟩ = false := (hgrow.frozen_far _ (by simp; omega) (Ne.symm hvg)).trans (((On.alloc (On.refl wr) _).frozen (p := ⟨g, 2, none⟩) (by exact hgr)).trans hf3)))
      all_goals
        have hd : Clone.intCells (listOf (hP u) k) ++ [Value.int .i64 z] = Clone.intCells (listOf (hP u) (k + 1)) := by rw [HT.out]; unfold Clone.intCells; rw [List.map_append]; rfl
        rw [hd] at hown1
        have hggb : WB.heap.size ≤ gg := (hown1.lt gg rfl).1
        have d0 : w1.cell? ⟨g, 0, none⟩ = some (.string s) := (hgrow.cell_far _ (by simp; omega) (Ne.symm hvg)).trans (((On.alloc (On.refl wr) _).cell (p := ⟨g, 0, none⟩) (by exact hgr)).trans i0')
        have d1 : w1.cell? ⟨g, 1, none⟩ = some (.int .i64 x) := (hgrow.cell_far _ (by simp; omega) (Ne.symm hvg)).trans (((On.alloc (On.refl wr) _).cell (p := ⟨g, 1, none⟩) (by exact hgr)).trans i1)
        have d2 : w1.cell? ⟨g, 3, none⟩ = some (.slice none 0 0) := (hgrow.cell_far _ (by simp; omega) (Ne.symm hvg)).trans (((On.alloc (On.refl wr) _).cell (p := ⟨g, 3, none⟩) (by exact hgr)).trans i3)
        have hF1 : ∀ i, w1.frozen? ⟨g, i, none⟩ = false := fun i => (hgrow.frozen_far _ (by simp; omega) (Ne.symm hvg)).trans (((On.alloc (On.refl wr) _).frozen (p := ⟨g, i, none⟩) (by exact hgr)).trans (HFr.out i))
        have hO1 : On W w1 := Below.grown (by first | exact HOr.out.alloc _ | exact (HOr.out.alloc _).drew | exact HOr.out.drew.alloc _) hgrow (by have := HOr.out.size; simp; omega) (fun r hr => by have := (HWr.out.lt r hr).1; have := HSB.out; omega)
        have hs1 : WB.heap.size ≤ w1.heap.size := by have := hgrow.size; simp at this; omega
        have HX := Lib.hid (And.intro d0 (And.intro d1 (And.intro d2 (And.intro c3 (And.intro hF1 (And.intro hO1 hs1))))))
        have HY := Lib.hid hown1
        clear d0 d1 d2 hF1 hO1 hs1 hgrow hown1 hat hd
        go_wp2_with fail
        go_roundw
        case rel =>
          obtain ⟨d0, d1, d2, c3', hF1, hO1, hs1⟩ := HX.out
          first | exact ⟨k + 1, .slice (some ⟨gg, 0, none⟩) (k + 1) cp, by omega, by go_num, ⟨(World.cell?_setCell_other (h := fun hc => by injection hc with _ h2 _; omega) ..).trans d0, (World.cell?_setCell_other (h := fun hc => by injection hc with _ h2 _; omega) ..).trans d1, World.cell?_setCell_same (h := c3') .., (World.cell?_setCell_other (h := fun hc => by injection hc with _ h2 _; omega) ..).trans d2⟩, ownsRow_setCell_below HY.out (by exact HGB.out) _, fun i => by rw [World.frozen?_setCell]; exact hF1 i, by simpa using hs1, On.setCell hO1 (by exact HGW.out) _⟩ | ((repeat apply Exists.intro); exact ⟨⟨k + 1, .slice (some ⟨gg, 0, none⟩) (k + 1) cp, by omega, by go_num, ⟨(World.cell?_setCell_other (h := fun hc => by injection hc with _ h2 _; omega) ..).trans d0, (World.cell?_setCell_other (h := fun hc => by injection hc with _ h2 _; omega) ..).trans d1, World.cell?_setCell_same (h := c3') .., (World.cell?_setCell_other (h := fun hc => by injection hc with _ h2 _; omega) ..).trans d2⟩, ownsRow_setCell_below HY.out (by exact HGB.out) _, fun i => by rw [World.frozen?_setCell]; exact hF1 i, by simpa using hs1, On.setCell hO1 (by exact HGW.out) _⟩, rfl⟩)
        case measure => simp [intOf] <;> omega
    · obtain rfl : k = 36 := by omega
      have hO1 := HOr.out
      obtain ⟨WC, hWC⟩ : ∃ z, z = wr := ⟨_, rfl⟩
      have HGC := Lib.hid (show g < WC.heap.size by rw [hWC]; exact Nat.lt_of_lt_of_le HGB.out hsz)
      have HSC := Lib.hid (show W.heap.size ≤ WC.heap.size by rw [hWC]; exact hO1.size)
      obtain ⟨V0, hV0⟩ : ∃ z, z = V := ⟨_, rfl⟩
      rw [← hWC, ← hV0] at hI
      have HIC := Lib.hid hI
      have HWC0 := Lib.hid (show WC.ownsRow WB.heap.size 2 1 V0 36 (Clone.intCells (listOf (hP u) 36)) by rw [hWC, hV0]; exact hown)
      have HFC := Lib.hid (show ∀ i, WC.frozen? ⟨g, i, none⟩ = false by rw [hWC]; exact hfz)
      have HOC := Lib.hid (show On W WC by rw [hWC]; exact hO1)
      have HOB := Lib.hid hsz
      have HV0 := Lib.hid (fun (V' : Value) {w' : World} {n : Nat} {xs : List Value} (h : w'.ownsRow WC.heap.size 2 1 V' n xs) => show V0.ownBlock = none ∨ V0.ownBlock ≠ V'.ownBlock by
        cases e : V0.ownBlock with
        | none => exact .inl rfl
        | some b => refine .inr (fun e2 => ?_); have h1 := (HWC0.out.lt b e).2; have h2 := (h.lt b e2.symm).1; omega)
      rw [← hWC]
      clear hO hown hfz hI hWC hV0 hO1
      go_wp2_with fail
      go_loopw [11] (fun i wr => ∃ (k : Nat) (V : Value), k ≤ 19 ∧ i = .int .i64 k ∧ In wr g s x V0 V ∧ wr.ownsRow WC.heap.size 2 1 V k (Clone.intCells (listOf (vP v) k)) ∧ (∀ i, wr.frozen? ⟨g, i, none⟩ = false) ∧ WC.heap.size ≤ wr.heap.size ∧ On W wr ∧ wr.ownsRow WB.heap.size 2 1 V0 36 (Clone.intCells (listOf (hP u) 36))) (fun i _ => 19 - (intOf i).toNat)
      case atStart => exact ⟨0, _, Nat.zero_le _, rfl, HIC.out, World.ownsRow_nil _ _ _ _, HFC.out, Nat.le_refl _, HOC.out, HWC0.out⟩
      case round =>
        obtain ⟨k, V, hk, rfl, hI, hown, hfz, hsz, hO, hown0⟩ := hrel
        have HOr := Lib.hid hO
        have HFr := Lib.hid hfz
        have HWr := Lib.hid hown
        have HW0 := Lib.hid hown0
        by_cases hlt : k < 19
        · have hlti : (k : Int) < 19 := by omega
          obtain ⟨ht, t0, t1⟩ := tv hlt
          obtain ⟨t, htt⟩ : ∃ t, t = turn (-90 + 10 * (k : Int)) 0 := ⟨_, rfl⟩
          rw [← htt] at ht t0 t1
          obtain ⟨z, hz⟩ : ∃ z, z = vP v k := ⟨_, rfl⟩
          have HT := Lib.hid (show listOf (vP v) (k + 1) = listOf (vP v) k ++ [z] by rw [hz]; exact listOf_succ _ _)
          have HMN := Lib.hid (fun w => show Calls Try.prog 43 #[.int .i64 (10 * (k : Int) - 90), .int .i64 (90 - 10 * (k : Int))] w fun e w' => e = .returned (.int .i64 t) ∧ w = w' by rw [← ht]; exact spec_max _ _ w)
          have HPR := Lib.hid (fun w => show Calls Try.prog 70 #[.int .i64 t, .int .i64 v] w fun e w' => e = .returned (.int .i64 z) ∧ w = w' by have := spec_par t v w t0 t1 v0 v1; rw [show par t v = z by rw [hz, htt]; rfl] at this; exact this)
          have wq1 : IntKind.i64.wrap (10 * (k : Int)) = 10 * (k : Int) := IntWalk.i64_in _ (by omega)
          have wq2 : IntKind.i64.wrap (90 - 10 * (k : Int)) = 90 - 10 * (k : Int) := IntWalk.i64_in _ (by omega)
          have wq3 : IntKind.i64.wrap (10 * (k : Int) - 90) = 10 * (k : Int) - 90 := IntWalk.i64_in _ (by omega)
          have hgr := Nat.lt_of_lt_of_le HGC.out hsz
          have hvg : V.ownBlock ≠ some g := fun e => by have := (hown.lt g e).1; have := HGC.out; omega
          have hv01 : V0.ownBlock = none ∨ V0.ownBlock ≠ V.ownBlock := HV0.out V hown
          have hf3 := hfz 3
          obtain ⟨i0', i1, i2, i3⟩ := hI
          clear hz hO hown hfz ht htt t0 t1 hown0
          go_wp2_with fail
          go_region_law (first
            | (go_simp; go_at_call 43; (with_reducible refine (HMN.out _).mono ?_); rintro e w' ⟨rfl, rfl⟩; dsimp only)
            | (go_simp; go_at_call 70; (with_reducible refine (HPR.out _).mono ?_); rintro e w' ⟨rfl, rfl⟩; dsimp only)
            | (refine step_append_lies _ (by rfl) _ _ _ (by rfl) WC.heap.size 2 i0 _ 1 8 Try.underlying22 hi hz0 hz1 hz2 rfl (by omega) V k (Clone.intCells (listOf (vP v) k)) (by rfl) (by first | exact (HWr.out.alloc _).drew | exact HWr.out.drew.alloc _ | exact HWr.out.alloc _) ⟨wr.heap.size, 0, none⟩ 1 1 [.int .i64 z] (by rfl) (by rfl) (World.news_of_block (cs := #[.int .i64 z]) (t := 2) (fr := (0, 0)) (heap_alloc_new wr _)) (by simp [Value.oneCell']) (by omega) (by unfold maxLen; omega) (by omega) (by simp; omega) (wr.heap.size + 1) (by simp) ?_; intro gg cp w1 hown1 hgrow hat hlt1; have c3 : w1.cell? ⟨g, 3, none⟩ = some V := (hgrow.cell_far _ (by simp; omega) (Ne.symm hvg)).trans (((On.alloc (On.refl wr) _).cell (p := ⟨g, 3, none⟩) (by exact hgr)).trans i3); have fz3 : w1.frozen? ⟨g, 3, none⟩ = false := (hgrow.frozen_far _ (by simp; omega) (Ne.symm hvg)).trans (((On.alloc (On.refl wr) _).frozen (p := ⟨g, 3, none⟩) (by exact hgr)).trans hf3)))
          all_goals
            have hd : Clone.intCells (listOf (vP v) k) ++ [Value.int .i64 z] = Clone.intCells (listOf (vP v) (k + 1)) := by rw [HT.out]; unfold Clone.intCells; rw [List.map_append]; rfl
            rw [hd] at hown1
            have hggb : WC.heap.size ≤ gg := (hown1.lt gg rfl).1
            have d0 : w1.cell? ⟨g, 0, none⟩ = some (.string s) := (hgrow.cell_far _ (by simp; omega) (Ne.symm hvg)).trans (((On.alloc (On.refl wr) _).cell (p := ⟨g, 0, none⟩) (by exact hgr)).trans i0')
            have d1 : w1.cell? ⟨g, 1, none⟩ = some (.int .i64 x) := (hgrow.cell_far _ (by simp; omega) (Ne.symm hvg)).trans (((On.alloc (On.refl wr) _).cell (p := ⟨g, 1, none⟩) (by exact hgr)).trans i1)
            have d2 : w1.cell? ⟨g, 2, none⟩ = some (V0) := (hgrow.cell_far _ (by simp; omega) (Ne.symm hvg)).trans (((On.alloc (On.refl wr) _).cell (p := ⟨g, 2, none⟩) (by exact hgr)).trans i2)
            have hF1 : ∀ i, w1.frozen? ⟨g, i, none⟩ = false := fun i => (hgrow.frozen_far _ (by simp; omega) (Ne.symm hvg)).trans (((On.alloc (On.refl wr) _).frozen (p := ⟨g, i, none⟩) (by exact hgr)).trans (HFr.out i))
            have hO1 : On W w1 := Below.grown (by first | exact HOr.out.alloc _ | exact (HOr.out.alloc _).drew | exact HOr.out.drew.alloc _) hgrow (by have := HOr.out.size; simp; omega) (fun r hr => by have := (HWr.out.lt r hr).1; have := HSC.out; omega)
            have hs1 : WC.heap.size ≤ w1.heap.size := by have := hgrow.size; simp at this; omega
            have hk0 : w1.ownsRow WB.heap.size 2 1 V0 36 (Clone.intCells (listOf (hP u) 36)) := World.ownsRow.kept (by first | exact HW0.out.alloc _ | exact (HW0.out.alloc _).drew | exact HW0.out.drew.alloc _) hgrow hv01
            have HX := Lib.hid (And.intro d0 (And.intro d1 (And.intro d2 (And.intro c3 (And.intro hF1 (And.intro hO1 (And.intro hs1 hk0)))))))
            have HY := Lib.hid hown1
            clear d0 d1 d2 hF1 hO1 hs1 hgrow hown1 hat hd hk0
            go_wp2_with fail
            go_roundw
            case rel =>
              obtain ⟨d0, d1, d2, c3', hF1, hO1, hs1, hk0⟩ := HX.out
              first | exact ⟨k + 1, .slice (some ⟨gg, 0, none⟩) (k + 1) cp, by omega, by go_num, ⟨(World.cell?_setCell_other (h := fun hc => by injection hc with _ h2 _; omega) ..).trans d0, (World.cell?_setCell_other (h := fun hc => by injection hc with _ h2 _; omega) ..).trans d1, (World.cell?_setCell_other (h := fun hc => by injection hc with _ h2 _; omega) ..).trans d2, World.cell?_setCell_same (h := c3') ..⟩, ownsRow_setCell_below HY.out (by exact HGC.out) _, fun i => by rw [World.frozen?_setCell]; exact hF1 i, by simpa using hs1, On.setCell hO1 (by exact HGW.out) _, ownsRow_setCell_below hk0 (by exact HGB.out) _⟩ | ((repeat apply Exists.intro); exact ⟨⟨k + 1, .slice (some ⟨gg, 0, none⟩) (k + 1) cp, by omega, by go_num, ⟨(World.cell?_setCell_other (h := fun hc => by injection hc with _ h2 _; omega) ..).trans d0, (World.cell?_setCell_other (h := fun hc => by injection hc with _ h2 _; omega) ..).trans d1, (World.cell?_setCell_other (h := fun hc => by injection hc with _ h2 _; omega) ..).trans d2, World.cell?_setCell_same (h := c3') ..⟩, ownsRow_setCell_below HY.out (by exact HGC.out) _, fun i => by rw [World.frozen?_setCell]; exact hF1 i, by simpa using hs1, On.setCell hO1 (by exact HGW.out) _, ownsRow_setCell_below hk0 (by exact HGB.out) _⟩, rfl⟩)
            case measure => simp [intOf] <;> omega
        · obtain rfl : k = 19 := by omega
          obtain ⟨a2, c2, rfl, o2⟩ := own_ints (listOf_len (hP u) 36) HW0.out
          obtain ⟨a3, c3, rfl, o3⟩ := own_ints (listOf_len (vP v) 19) HWr.out
          have H2 := Lib.hid o2
          have H3 := Lib.hid o3
          have hOB := HOr.out
          have hwr : w.heap.size < wr.heap.size := by have := HGN.out; have := HGC.out; omega
          have HLW := Lib.hid HGN.out
          obtain ⟨d0, d1, d2, d3⟩ := hI
          have hgr := Nat.lt_of_lt_of_le HGC.out hsz
          obtain ⟨r0, r1, r2, r3⟩ := HR.out.on hO
          have FR := fun i => (hO.frozen (p := ⟨w.heap.size, i, none⟩) (by exact HWs.out)).trans (HFR.out i)
          have fr0 := FR 0
          have fr1 := FR 1
          have fr2 := FR 2
          have fr3 := FR 3
          have hne : g ≠ w.heap.size := by have := HGN.out; omega
          clear FR
          clear o2 o3 hown hown0 hfz hO hOB
          go_wp2_with fail
          refine bodyPost_ret (v := .agg #[.string s, .int .i64 x, .slice a2 36 c2, .slice a3 19 c3]) (by simp [results, Try.results51, go_sem, r0, r1, r2, r3]) rfl ⟨a2, c2, a3, c3, rfl, ?_, ?_, ?_⟩
          · refine Own.mono (B := w.heap.size + 1) ?_ (Nat.le_succ _)
            have q := H2.out.mono (B' := w.heap.size + 1) (by have := HGN.out; have := HGB.out; omega)
            repeat (first | with_reducible exact q | refine Own.setCell ?_ (by (try simp) <;> omega) _)
          · refine Own.mono (B := w.heap.size + 1) ?_ (Nat.le_succ _)
            have q := H3.out.mono (B' := w.heap.size + 1) (by have := HGN.out; have := HGC.out; omega)
            repeat (first | with_reducible exact q | refine Own.setCell ?_ (by (try simp) <;> omega) _)
          · repeat (first | with_reducible exact HOW.out.trans HOr.out | refine On.setCell ?_ (by (try simp) <;> omega) _)
end Go.Proofs.Ytnambnddoebeiaa.Ant
