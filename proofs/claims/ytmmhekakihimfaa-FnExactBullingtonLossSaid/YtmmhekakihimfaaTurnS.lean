
/-
  A profile from the other end, in the model. Condition: at most 1048576 heights.
-/
import Derived.Test.YtmmhekakihimfaaTurnP
import Derived.Deep.AppendLies
import Derived.Deep.OwnRows
import Derived.Deep.RegionLaw
namespace Go.Proofs.Ytmmhekakihimfaa.PRec
open Go.RowKit
open Ints (Ints Own)
open Clone (intCells)

def revTo (zs : List Int) (k : Nat) : List Int := zs.reverse.take k
theorem revTo_len {zs : List Int} {k : Nat} (h : k ≤ zs.length) : (revTo zs k).length = k := by unfold revTo; rw [List.length_take, List.length_reverse]; omega
theorem revTo_succ {zs : List Int} {k j : Nat} (hj : j + 1 + k = zs.length) : revTo zs (k + 1) = revTo zs k ++ [zs.getD j 0] := by
  have h : k < zs.reverse.length := by rw [List.length_reverse]; omega
  unfold revTo
  rw [List.take_succ_eq_append_getElem h, List.getElem_reverse, List.getD_eq_getElem?_getD, List.getElem?_eq_getElem (by omega)]
  congr 3
  omega
theorem revTo_all (zs : List Int) : revTo zs zs.length = zs.reverse := by unfold revTo; rw [List.take_of_length_le]; rw [List.length_reverse]; exact Nat.le_refl _
set_option maxRecDepth 1000000 in
set_option maxHeartbeats 4000000 in
theorem spec_turn_some (gp : Nat) (d f l : Int) (b off cap n : Nat) (zs : List Int) (w : World) (hn : n = zs.length) (hn1 : n ≤ 65) (h0 : 0 < n) (hb : b < w.heap.size) (hc : ∀ i, i < n → w.cell? ⟨b, off + i, none⟩ = some (.int .i64 (zs.getD i 0)))
    (hp : In w gp d f l (.slice (some ⟨b, off, none⟩) n cap)) :
    Calls Try.prog 89 #[.pointer (some ⟨gp, 0, none⟩)] w fun e w' => ∃ a c, e = .returned (.agg #[.int .i64 d, .int .i64 l, .int .i64 f, .slice a n c]) ∧ Own w.heap.size w' (.slice a n c) zs.reverse ∧ On w w' := by
  obtain ⟨i0, hi, hz0, hz1, hz2⟩ := info_parts Ints.info
  have HC := Lib.hid hc
  have HP := Lib.hid hp
  have HN := Lib.hid hn
  have hgp : gp < w.heap.size := World.block_lt_of_cell? _ _ hp.1
  have w1' : IntKind.i64.wrap ((n : Int) - 1) = (n : Int) - 1 := IntWalk.i64_in _ (by omega)
  obtain ⟨W, hW⟩ : ∃ W, W = w.alloc (.cells #[.int .i64 0, .int .i64 0, .int .i64 0, .slice none 0 0] 30) := ⟨_, rfl⟩
  have HO := Lib.hid (show On w W by rw [hW]; exact (On.refl w).alloc _)
  have HR := Lib.hid (show In W w.heap.size 0 0 0 (.slice none 0 0) by rw [hW]; exact ⟨by simp [go_sem], by simp [go_sem], by simp [go_sem], by simp [go_sem]⟩)
  have HF := Lib.hid (show ∀ i, W.frozen? ⟨w.heap.size, i, none⟩ = false by rw [hW]; intro i; simp [go_sem])
  have HPW := Lib.hid (hp.on HO.out)
  have HW := Lib.hid hW
  clear hc hp hn hW
  go_enter Try.func89, Try.ntmps89
  go_upto_region 1 with fail
  rw [← HW.out]
  go_cut [3] (fun sa wx => ∃ g, sa = .pointer (some ⟨g, 0, none⟩) ∧ W.heap.size ≤ g ∧ In wx g d l f (.slice none 0 0) ∧ (∀ i, wx.frozen? ⟨g, i, none⟩ = false) ∧ On W wx)
  case first =>
    go_region_held3 (fun w' => On W w' ∧ w'.cell? ⟨gp, 0, none⟩ = some (.int .i64 d) ∧ w'.cell? ⟨gp, 1, none⟩ = some (.int .i64 f) ∧ w'.cell? ⟨gp, 2, none⟩ = some (.int .i64 l) ∧ w'.cell? ⟨gp, 3, none⟩ = some (.slice (some ⟨b, off, none⟩) n cap))
      ((refine held_one HPW.out ?_; repeat (first | with_reducible exact On.refl _ | with_reducible assumption | apply On.alloc | apply On.drew | (obtain ⟨hOW, _⟩ := ‹On W _ ∧ _›; exact hOW) | (refine On.setCell ?_ (by (try simp) <;> omega) _) | (refine On.trans ?_ (by assumption)))))
      (fail)
    all_goals
      go_wp2_with fail
      go_meet
      refine ⟨_, rfl, ?_, ?_, ?_, ?_⟩
      · (try simp) <;> omega
      · refine ⟨?_, ?_, ?_, ?_⟩ <;> first | (simp [go_sem]; done) | (go_simp; done)
      · intro i
        first | (simp [go_sem]; done) | (go_simp; done)
      · obtain ⟨hOW, _⟩ := ‹On W _ ∧ _›
        exact hOW
  case rest =>
    obtain ⟨g, rfl, hg, hI, hFg, hO⟩ := hcut
    have hgb := World.block_lt_of_cell? _ _ hI.1
    have HIg := Lib.hid hI
    have HFG := Lib.hid hFg
    have HOx := Lib.hid hO
    have HPx := Lib.hid (HPW.out.on hO)
    have hWw : w.heap.size < W.heap.size := World.block_lt_of_cell? _ _ HR.out.1
    clear hI hFg hO
    obtain ⟨q0, q1, q2, q3⟩ := HPx.out
    have hgpx : gp < wc.heap.size := World.block_lt_of_cell? _ _ q0
    go_wp2_with fail
    go_loopw [4] (fun i wr => ∃ (k : Nat) (v : Value), k ≤ n ∧ i = .int .i64 ((n : Int) - 1 - k) ∧ In wr g d l f v ∧ wr.ownsRow wc.heap.size 2 1 v k (intCells (revTo zs k)) ∧ (∀ i, wr.frozen? ⟨g, i, none⟩ = false) ∧ wc.heap.size ≤ wr.heap.size ∧ On W wr) (fun i _ => (intOf i + 1).toNat)
    case atStart => exact ⟨0, _, Nat.zero_le _, by go_num, HIg.out, by simpa [revTo, intCells] using World.ownsRow_nil _ _ _ _, HFG.out, Nat.le_refl _, HOx.out⟩
    case round =>
      obtain ⟨k, v, hk, rfl, hI, hown, hfz, hsz, hO⟩ := hrel
      have HOr := Lib.hid hO
      have HIr := Lib.hid hI
      have HFr := Lib.hid hfz
      have HWr := Lib.hid hown
      have hOw : On w wr := HO.out.trans hO
      have HPr := Lib.hid (HP.out.on hOw)
      by_cases hlt : k < n
      · obtain ⟨j, hj⟩ : ∃ j : Nat, j = n - 1 - k := ⟨_, rfl⟩
        have hji : (n : Int) - 1 - k = (j : Int) := by omega
        have hj0 : (0 : Int) ≤ (j : Int) := by omega
        have hjn : (j : Int) < (n : Int) := by omega
        obtain ⟨z, hz⟩ : ∃ z, z = zs.getD j 0 := ⟨_, rfl⟩
        have cz : wr.cell? ⟨b, off + j, none⟩ = some (.int .i64 z) := by rw [hz]; exact (hOw.cell (by exact hb)).trans (HC.out j (by omega))
        have HT := Lib.hid (show revTo zs (k + 1) = revTo zs k ++ [z] by rw [hz]; exact revTo_succ (by rw [← HN.out]; omega))
        have wJ : IntKind.i64.wrap ((j : Int) - 1) = (j : Int) - 1 := IntWalk.i64_in _ (by omega)
        have hbr := hOw.lts _ hb
        have hgr := Nat.lt_of_lt_of_le hgb hsz
        have hgpr := hOw.lts _ hgp
        have hvg : v.ownBlock ≠ some g := fun e => by have := (hown.lt g e).1; omega
        have hf3 := hfz 3
        obtain ⟨i0', i1, i2, i3⟩ := hI
        obtain ⟨s0, s1, s2, s3⟩ := HPr.out
        have HJ := Lib.hid hj
        rw [hji]
        clear hz hO hj hown hfz
        go_wp2_with fail
        go_region_law? (refine step_append_lies _ (by rfl) _ _ _ (by rfl) wc.heap.size 2 i0 _ 1 8 Try.underlying24 hi hz0 hz1 hz2 rfl (by omega) v k (intCells (revTo zs k)) (by rfl) (by first | exact (HWr.out.alloc _).drew | exact HWr.out.drew.alloc _ | exact HWr.out.alloc _) ⟨wr.heap.size, 0, none⟩ 1 1 [.int .i64 z] (by rfl) (by rfl) (World.news_of_block (cs := #[.int .i64 z]) (t := 2) (fr := (0, 0)) (heap_alloc_new wr _)) (by simp [Value.oneCell']) (by omega) (by unfold maxLen; omega) (by omega) (by simp; omega) (wr.heap.size + 1) (by simp) ?_; intro gg cp w1 hown1 hgrow hat hlt1; have c3 : w1.cell? ⟨g, 3, none⟩ = some v := (hgrow.cell_far _ (by simp; omega) (Ne.symm hvg)).trans (((On.alloc (On.refl wr) _).cell (p := ⟨g, 3, none⟩) (by exact hgr)).trans i3); have fz3 : w1.frozen? ⟨g, 3, none⟩ = false := (hgrow.frozen_far _ (by simp; omega) (Ne.symm hvg)).trans (((On.alloc (On.refl wr) _).frozen (p := ⟨g, 3, none⟩) (by exact hgr)).trans hf3))
        all_goals
          have hd : intCells (revTo zs k) ++ [Value.int .i64 z] = intCells (revTo zs (k + 1)) := by rw [HT.out]; unfold intCells; rw [List.map_append]; rfl
          rw [hd] at hown1
          have hggb : wc.heap.size ≤ gg := (hown1.lt gg rfl).1
          have hggne : g ≠ gg := by omega
          have c0 : w1.cell? ⟨g, 0, none⟩ = some (.int .i64 d) := (hgrow.cell_far _ (by simp; omega) (Ne.symm hvg)).trans (((On.alloc (On.refl wr) _).cell (p := ⟨g, 0, none⟩) (by exact hgr)).trans i0')
          have c1 : w1.cell? ⟨g, 1, none⟩ = some (.int .i64 l) := (hgrow.cell_far _ (by simp; omega) (Ne.symm hvg)).trans (((On.alloc (On.refl wr) _).cell (p := ⟨g, 1, none⟩) (by exact hgr)).trans i1)
          have c2 : w1.cell? ⟨g, 2, none⟩ = some (.int .i64 f) := (hgrow.cell_far _ (by simp; omega) (Ne.symm hvg)).trans (((On.alloc (On.refl wr) _).cell (p := ⟨g, 2, none⟩) (by exact hgr)).trans i2)
          have hF1 : ∀ i, w1.frozen? ⟨g, i, none⟩ = false := fun i => (hgrow.frozen_far _ (by simp; omega) (Ne.symm hvg)).trans (((On.alloc (On.refl wr) _).frozen (p := ⟨g, i, none⟩) (by exact hgr)).trans (HFr.out i))
          have hO1 : On W w1 := Below.grown (by first | exact HOr.out.alloc _ | exact (HOr.out.alloc _).drew | exact HOr.out.drew.alloc _) hgrow (by simp; have := HOr.out.size; omega) (fun q hq => by have := (HWr.out.lt q hq).1; omega)
          have hs1 : wc.heap.size ≤ w1.heap.size := by have := hgrow.size; simp at this; omega
          have HX := Lib.hid (And.intro c0 (And.intro c1 (And.intro c2 (And.intro c3 (And.intro hF1 (And.intro hO1 hs1))))))
          have HY := Lib.hid hown1
          clear c0 c1 c2 hF1 hO1 hs1 hgrow hown1 hat hd
          go_wp2_with fail
          go_roundw
          case rel =>
            obtain ⟨c0, c1, c2, c3', hF1, hO1, hs1⟩ := HX.out
            exact ⟨k + 1, .slice (some ⟨gg, 0, none⟩) (k + 1) cp, by omega, by have := HJ.out; go_num, ⟨(World.cell?_setCell_other (h := fun hc => by injection hc with _ h2 _; omega) ..).trans c0, (World.cell?_setCell_other (h := fun hc => by injection hc with _ h2 _; omega) ..).trans c1, (World.cell?_setCell_other (h := fun hc => by injection hc with _ h2 _; omega) ..).trans c2, World.cell?_setCell_same (h := c3') ..⟩, ownsRow_setCell_below HY.out (by exact hgb) _, fun i => by rw [World.frozen?_setCell]; exact hF1 i, by simpa using hs1, On.setCell hO1 (by exact hg) _⟩
          case measure => simp [intOf] <;> omega
      · have hkn : k = n := by omega
        have hno : ¬ (0 : Int) ≤ (n : Int) - 1 - k := by omega
        have hr : wr.ownsRow wc.heap.size 2 1 v zs.reverse.length (intCells zs.reverse) := by
          rw [List.length_reverse, ← HN.out, ← revTo_all, ← HN.out]
          have := HWr.out
          rw [hkn] at this
          exact this
        obtain ⟨a', c', rfl, ho⟩ := Clone.own_of_row hr
        have HOWN := Lib.hid ho
        have hwc : w.heap.size < wc.heap.size := by omega
        have R := HR.out.on hO
        have hwr : w.heap.size < wr.heap.size := hO.lts _ hWw
        have FR := fun i => (hO.frozen (p := ⟨w.heap.size, i, none⟩) (by exact hWw)).trans (HF.out i)
        have fr0 := FR 0
        have fr1 := FR 1
        have fr2 := FR 2
        have fr3 := FR 3
        obtain ⟨r0, r1, r2, r3⟩ := R
        obtain ⟨i0', i1, i2, i3⟩ := hI
        have hne : g ≠ w.heap.size := by omega
        have HLn := Lib.hid (show zs.reverse.length = n by rw [List.length_reverse]; exact HN.out.symm)
        clear hr ho hown hfz FR hO
        go_wp2_with fail
        refine bodyPost_ret (v := .agg #[.int .i64 d, .int .i64 l, .int .i64 f, .slice a' zs.reverse.length c']) (by simp [results, Try.results89, go_sem, r0, r1, r2, r3]) rfl ⟨a', c', by rw [HLn.out], ?_, ?_⟩
        · rw [← HLn.out]
          refine Own.mono (B := wc.heap.size) ?_ (by omega)
          repeat (first | with_reducible exact HOWN.out | refine Own.setCell ?_ (by (try simp) <;> omega) _)
        · repeat (first | with_reducible exact HO.out.trans HOr.out | refine On.setCell ?_ (by (try simp) <;> omega) _)
end Go.Proofs.Ytmmhekakihimfaa.PRec
