
/-
  The mirrored antenna, in the program. Condition: at most 1048576 bytes and losses.
-/
import Derived.Test.YtmfhhmlndclkiaaMirS
namespace Go.Proofs.Ytmfhhmlndclkiaa.Ant
open Go.RowKit
open Plain
open Ints (Ints Own)

theorem ringA_row (W : World) (g : Nat) (t : TypeId) (fr : Nat × Nat) (z : List Int) (h : W.heap[g]? = some (.cells (ringA z) t fr)) (i : Nat) (hi : i < (ringL z).length) : W.cell? ⟨g, 0 + i, none⟩ = some (.int .i64 ((ringL z).getD i 0)) := by
  rw [ringL_len] at hi
  rw [Nat.zero_add, cell_of_row W g i _ _ _ h]
  have := ringA_get z i hi
  unfold ringL
  simp [hi, this]
set_option maxRecDepth 100000 in
set_option maxHeartbeats 4000000 in
theorem impl_Mirror (x0 : ByteArray) (x1 : Int) (v2 v3 : Value) (z2 z3 : List Int) (w : World) (q0 : x0.size ≤ 1048576) (q2 : z2.length ≤ 1048576) (q3 : z3.length ≤ 1048576) (h2 : Ints w v2 z2) (h3 : Ints w v3 z3) :
    Calls Try.prog 33 #[.agg #[.string x0, .int .i64 x1, v2, v3]] w fun e w' => ∃ a2 c2 a3 c3, e = .returned (.tuple #[.agg #[.string (miT (okA x0 x1 z2 z3) x0), .int .i64 (miG (okA x0 x1 z2 z3) x1), .slice a2 (miL (okA x0 x1 z2 z3) (mir z2)).length c2, .slice a3 (miL (okA x0 x1 z2 z3) z3).length c3], .int .i64 (miC (okA x0 x1 z2 z3))]) ∧ OwnR w.heap.size w' a2 (miL (okA x0 x1 z2 z3) (mir z2)).length c2 a3 (miL (okA x0 x1 z2 z3) z3).length c3 (miL (okA x0 x1 z2 z3) (mir z2)) (miL (okA x0 x1 z2 z3) z3) ∧ On w w' := by
  have HK := fun w' (ho : On w w') => impl_valid x0 x1 v2 v3 z2 z3 w' q0 q2 q3 (h2.below ho) (h3.below ho)
  cases hok : okA x0 x1 z2 z3 with
  | false =>
    rw [hok] at HK
    obtain ⟨a2, cap2, rfl, -⟩ := h2
    obtain ⟨a3, cap3, rfl, -⟩ := h3
    have HK := Lib.hid HK
    go_enter Try.func33, Try.ntmps33
    go_wp2_with fail
    refine (HK.out _ (On.alloc (On.alloc (On.refl _) _) _)).mono ?_
    rintro e w1 ⟨rfl, k1⟩
    obtain ⟨hc1, hf1⟩ := bcell k1
    have O1 := Lib.hid (show On w w1 from On.trans (On.alloc (On.alloc (On.refl _) _) _) k1)
    have HIN := Lib.hid (show In w1 w.heap.size x0 x1 (.slice a2 z2.length cap2) (.slice a3 z3.length cap3) from ⟨(hc1 _ _ (by simp <;> omega)).trans (by simp [go_sem]), (hc1 _ _ (by simp <;> omega)).trans (by simp [go_sem]), (hc1 _ _ (by simp <;> omega)).trans (by simp [go_sem]), (hc1 _ _ (by simp <;> omega)).trans (by simp [go_sem])⟩)
    have HZ := Lib.hid (show In w1 (w.heap.size + 1) ⟨#[]⟩ 0 (.slice none 0 0) (.slice none 0 0) from ⟨(hc1 _ _ (by simp)).trans (by simp [go_sem]), (hc1 _ _ (by simp)).trans (by simp [go_sem]), (hc1 _ _ (by simp)).trans (by simp [go_sem]), (hc1 _ _ (by simp)).trans (by simp [go_sem])⟩)
    have HF := Lib.hid (show ∀ i, w1.frozen? ⟨w.heap.size + 1, i, none⟩ = false from fun i => (hf1 _ _ (by simp)).trans (by simp [go_sem]))
    clear k1 hc1 hf1
    obtain ⟨z0, z1, y2, y3⟩ := HZ.out
    have zb := World.block_lt_of_cell? w1 _ z0
    have f0 := HF.out 0
    have f1 := HF.out 1
    have f2 := HF.out 2
    have f3 := HF.out 3
    clear hok
    go_wp2_with fail
    refine bodyPost_ret (v := .tuple #[.agg #[.string ⟨#[]⟩, .int .i64 0, .slice none 0 0, .slice none 0 0], .int .i64 1]) (by simp [results, Try.results33, go_sem, z0, z1, y2, y3]) rfl ⟨_, _, _, _, rfl, miNil _ _, ?_⟩
    repeat (first | with_reducible exact O1.out | apply On.alloc | refine On.setCell ?_ (by show w.heap.size ≤ w.heap.size + 1; omega) _)
  | true =>
    rw [hok] at HK
    obtain ⟨l2, -, -⟩ := of_loss (of_okA hok).2.2.1
    obtain ⟨l3, -, -⟩ := of_loss (of_okA hok).2.2.2
    clear hok
    have H2 := Lib.hid h2
    have h3' := h3
    obtain ⟨a2, cap2, rfl, -⟩ := h2
    obtain ⟨a3, cap3, rfl, -⟩ := h3
    obtain ⟨b3, o3, rfl, hb3, hc3⟩ := slice_of h3' (by omega)
    have HR := Lib.hid (fun w' (ho : On w w') => impl_around x0 x1 (.slice a2 z2.length cap2) (.slice (some ⟨b3, o3, none⟩) z3.length cap3) z2 w' l2 ⟨_, _, _, rfl⟩ (H2.out.below ho))
    have HC3 := Lib.hid (fun w' (ho : On w w') => Clone.lib_clone b3 o3 cap3 z3 w' (by omega) q3 (ho.lts _ hb3) (fun i hi => (ho.cell (by exact hb3)).trans (hc3 i hi)))
    simp only [miT, miG, miL, miC, if_true]
    have em : (mir z2).length = 36 := mirK_len _ _
    rw [em]
    rw [l3] at HC3 HR ⊢
    rw [l2] at HR HK ⊢
    rw [l3] at HK
    have HK := Lib.hid HK
    clear h3' hc3 q0 q2 q3 H2
    go_enter Try.func33, Try.ntmps33
    go_wp2_with fail
    refine (HK.out _ (On.alloc (On.alloc (On.refl _) _) _)).mono ?_
    rintro e w1 ⟨rfl, k1⟩
    obtain ⟨wA, hA⟩ : ∃ wA, wA = w.alloc (.cells #[.string x0, .int .i64 x1, .slice a2 36 cap2, .slice (some ⟨b3, o3, none⟩) 19 cap3] 60) := ⟨_, rfl⟩
    have OA := Lib.hid (show On w wA by rw [hA]; exact On.alloc (On.refl w) _)
    have HPA := Lib.hid (show In wA w.heap.size x0 x1 (.slice a2 36 cap2) (.slice (some ⟨b3, o3, none⟩) 19 cap3) by rw [hA]; exact ⟨by simp [go_sem], by simp [go_sem], by simp [go_sem], by simp [go_sem]⟩)
    have sA : wA.heap.size = w.heap.size + 1 := by rw [hA]; simp
    have OA1 := Lib.hid (show On wA w1 by rw [hA]; exact On.trans (On.alloc (On.refl _) _) k1)
    clear hA
    obtain ⟨hc1, hf1⟩ := bcell k1
    have O1 := Lib.hid (show On w w1 from On.trans (On.alloc (On.alloc (On.refl _) _) _) k1)
    have HIN := Lib.hid (show In w1 w.heap.size x0 x1 (.slice a2 36 cap2) (.slice (some ⟨b3, o3, none⟩) 19 cap3) from ⟨(hc1 _ _ (by simp <;> omega)).trans (by simp [go_sem]), (hc1 _ _ (by simp <;> omega)).trans (by simp [go_sem]), (hc1 _ _ (by simp <;> omega)).trans (by simp [go_sem]), (hc1 _ _ (by simp <;> omega)).trans (by simp [go_sem])⟩)
    have HZ := Lib.hid (show In w1 (w.heap.size + 1) ⟨#[]⟩ 0 (.slice none 0 0) (.slice none 0 0) from ⟨(hc1 _ _ (by simp)).trans (by simp [go_sem]), (hc1 _ _ (by simp)).trans (by simp [go_sem]), (hc1 _ _ (by simp)).trans (by simp [go_sem]), (hc1 _ _ (by simp)).trans (by simp [go_sem])⟩)
    have HF := Lib.hid (show ∀ i, w1.frozen? ⟨w.heap.size + 1, i, none⟩ = false from fun i => (hf1 _ _ (by simp)).trans (by simp [go_sem]))
    clear k1 hc1 hf1
    clear HK
    obtain ⟨i0, i1, i2, i3⟩ := HIN.out
    have ib := World.block_lt_of_cell? w1 _ i0
    go_wp2_with fail
    refine (HR.out _ O1.out).mono ?_
    rintro e w2 ⟨rfl, k2⟩
    clear i0 i1 i2 i3 ib HR
    have HIN2 := Lib.hid (HIN.out.on k2)
    have HZ2 := Lib.hid (HZ.out.on k2)
    have HF2 := Lib.hid (fun i => (k2.frozen (p := ⟨w.heap.size + 1, i, none⟩) (by have := World.block_lt_of_cell? w1 ⟨w.heap.size + 1, 0, none⟩ HZ.out.1; exact this)).trans (HF.out i))
    have O2 := Lib.hid (On.trans O1.out k2)
    have k2 := Lib.hid k2
    clear HIN HZ HF O1
    go_wp2_with (refine wpList_store_row rfl 102 (.tmp 4) (.tmp 10) rfl w2.heap.size (ringA z2) rfl rfl 102 _ (heap_alloc_last w2 _) (by rw [ringA_size]; exact info68) (by rw [ringA_size]; rfl) (ringA_one z2) ?_; generalize hW : World.setRow _ w2.heap.size (ringA z2) = W3; have HROW := Lib.hid (show W3.heap[w2.heap.size]? = some (.cells (ringA z2) 102 (0, 0)) from hW ▸ setRow_heap _ _ _ _ _ _ (heap_alloc_last w2 _)); have K3 := Lib.hid (show On w2 W3 from hW ▸ below_setRow (On.alloc (On.refl w2) _) (Nat.le_refl _) _); clear hW)
    have hR := Reverse.rev_some w2.heap.size 0 37 (ringL z2) W3 (by rw [ringL_len]; decide) (by rw [ringL_len]; decide) (fun i hi => by simp [World.frozen?, HROW.out]) (ringA_row W3 _ _ _ z2 HROW.out)
    rw [ringL_len] at hR
    refine hR.mono ?_
    rintro e w3 ⟨rfl, rb, rf, rc, -⟩
    have L3 : w2.heap.size < w3.heap.size := Nat.lt_of_lt_of_le (Array.getElem?_eq_some_iff.1 HROW.out).1 rb.size
    have k3 : On w2 w3 := Below.trans K3.out rb
    have O3 := Lib.hid (On.trans O2.out k3)
    have HC2 := Lib.hid (fun w' (ho : On w3 w') => Clone.lib_clone w2.heap.size 0 37 (mir z2) w' (by rw [em]; decide) (by rw [em]; decide) (ho.lts _ L3) (fun i hi => (ho.cell (by exact L3)).trans ((rc i (by rw [em] at hi; omega)).trans (by rw [ring_mir z2 i (by rw [em] at hi; exact hi)]))))
    rw [em] at HC2
    have HZ3 := Lib.hid (HZ2.out.on k3)
    have HF3 := Lib.hid (fun i => (k3.frozen (p := ⟨w.heap.size + 1, i, none⟩) (by have := World.block_lt_of_cell? w2 ⟨w.heap.size + 1, 0, none⟩ HZ2.out.1; exact this)).trans (HF2.out i))
    have OA3 := Lib.hid (On.trans OA1.out (On.trans k2.out k3))
    have HC3' := Lib.hid (fun w' (ho : On w3 w') => HC3.out w' (On.trans O3.out ho))
    clear rb rf rc k3 hR HZ2 HF2 O2 K3 HROW HIN2 HC3 k2 OA1 L3
    go_upto_region 5 with fail
    obtain ⟨r0, r1, r2, r3⟩ := HZ3.out
    obtain ⟨q0, q1, q2, q3⟩ := HPA.out.on OA3.out
    have y0 := HZ3.out.blk
    have f0 := HF3.out 0
    have f1 := HF3.out 1
    have f2 := HF3.out 2
    have f3 := HF3.out 3
    go_region_held3 (fun w' => On wA w' ∧ w'.cell? ⟨w.heap.size, 0, none⟩ = some (.string x0) ∧ w'.cell? ⟨w.heap.size, 1, none⟩ = some (.int .i64 x1) ∧ w'.cell? ⟨w.heap.size, 2, none⟩ = some (.slice a2 36 cap2) ∧ w'.cell? ⟨w.heap.size, 3, none⟩ = some (.slice (some ⟨b3, o3, none⟩) 19 cap3))
      ((refine held_one HPA.out ?_; repeat (first | with_reducible exact OA3.out | with_reducible exact On.refl _ | with_reducible assumption | apply On.alloc | apply On.drew | (obtain ⟨hOW, _⟩ := ‹On wA _ ∧ _›; exact hOW) | (focus (refine On.setCell ?_ ?_ _; rotate_left; ((try simp) <;> omega))) | (refine On.trans ?_ (by assumption)))))
      (first
        | (go_at_call 40; with_reducible refine (HC2.out _ (by repeat (first | with_reducible exact On.refl _ | with_reducible assumption | apply On.alloc | apply On.drew | (refine On.trans ?_ (by assumption))))).mono ?_; rintro e w' ⟨a2', c2, rfl, hown2, hcall⟩; (try (with_reducible replace hcall := On.undrew hcall)); obtain ⟨hc2, hf2⟩ := bcell hcall; have hgr2 := hcall.lts; have hsz2 := hcall.size; have hcall2 := hcall; clear hcall; (try simp at hsz2))
        | (go_at_call 40; with_reducible refine (HC3'.out _ (by repeat (first | with_reducible exact On.refl _ | with_reducible assumption | apply On.alloc | apply On.drew | (refine On.trans ?_ (by assumption))))).mono ?_; rintro e w' ⟨a3', c3, rfl, hown3, hcall⟩; (try (with_reducible replace hcall := On.undrew hcall)); obtain ⟨hc3, hf3⟩ := bcell hcall; have hgr3 := hcall.lts; have hsz3 := hcall.size; have hcall3 := hcall; clear hcall; (try simp at hsz3)))
    all_goals
      go_wp2_with fail
      obtain ⟨hOn, -⟩ := ‹On wA _ ∧ _›
      have u0 : w'.cell? ⟨w.heap.size + 1, 0, none⟩ = some (.string ⟨#[]⟩) := by first | exact (hc3 _ _ (hgr2 _ y0)).trans ((hc2 _ _ y0).trans r0) | exact (hc2 _ _ (hgr3 _ y0)).trans ((hc3 _ _ y0).trans r0)
      have u1 : w'.cell? ⟨w.heap.size + 1, 1, none⟩ = some (.int .i64 0) := by first | exact (hc3 _ _ (hgr2 _ y0)).trans ((hc2 _ _ y0).trans r1) | exact (hc2 _ _ (hgr3 _ y0)).trans ((hc3 _ _ y0).trans r1)
      have u2 : w'.cell? ⟨w.heap.size + 1, 2, none⟩ = some (.slice none 0 0) := by first | exact (hc3 _ _ (hgr2 _ y0)).trans ((hc2 _ _ y0).trans r2) | exact (hc2 _ _ (hgr3 _ y0)).trans ((hc3 _ _ y0).trans r2)
      have u3 : w'.cell? ⟨w.heap.size + 1, 3, none⟩ = some (.slice none 0 0) := by first | exact (hc3 _ _ (hgr2 _ y0)).trans ((hc2 _ _ y0).trans r3) | exact (hc2 _ _ (hgr3 _ y0)).trans ((hc3 _ _ y0).trans r3)
      have Q2 : Own w3.heap.size w' (.slice a2' 36 c2) (mir z2) := by first | exact (hown2.below hcall3).mono (by simp) | exact hown2.mono (by simp; omega) | exact hown2.mono (by omega)
      have Q3 : Own w3.heap.size w' (.slice a3' 19 c3) z3 := by first | exact (hown3.below hcall2).mono (by simp) | exact hown3.mono (by simp; omega) | exact hown3.mono (by omega)
      refine bodyPost_ret (v := .tuple #[.agg #[.string x0, .int .i64 x1, .slice a2' 36 c2, .slice a3' 19 c3], .int .i64 0]) (by simp [results, Try.results33, go_sem, u0, u1, u2, u3]) rfl ⟨_, _, _, _, rfl, ⟨em, l3, ?_, ?_, ?_⟩, On.trans OA.out hOn⟩
      · refine Own.mono (B := w3.heap.size) ?_ (by omega)
        repeat (first | with_reducible exact Q2 | refine Own.setCell ?_ (by exact y0) _)
      · refine Own.mono (B := w3.heap.size) ?_ (by omega)
        repeat (first | with_reducible exact Q3 | refine Own.setCell ?_ (by exact y0) _)
      · intro h0 h1 p q hp hq
        first
          | (have a := own_block em hown2 h0 p hp; have b := own_ge l3 hown3 h1 q hq; omega)
          | (have a := own_block l3 hown3 h1 q hq; have b := own_ge em hown2 h0 p hp; omega)
end Go.Proofs.Ytmfhhmlndclkiaa.Ant
