
/-
  A terrain's copy of its own memory, in the model. Condition: heights and classes are there.
-/
import Derived.Test.YtgcpnodpndgekaaTRecCopy
import Derived.Test.YtgcpnodpndgekaaClone
import Derived.Deep.RegionHeld3
import Derived.Deep.DeepCutAuto
namespace Go.Proofs.Ytgcpnodpndgekaa.TRec
open Go.RowKit
open Ints (Ints Own)

theorem On.undrew {w w' : World} (h : On w.drew w') : On w w' := by
  have h' : Below w.drew.heap.size w.drew w' := h
  exact ⟨h'.os, h'.tape, h'.output, h'.size, fun k hk => h'.block k hk⟩
theorem held_one {W w' : World} {g : Nat} {x0 x1 x2 : Int} {v3 v4 : Value} (P : In W g x0 x1 x2 v3 v4) (h : On W w') :
    On W w' ∧ w'.cell? ⟨g, 0, none⟩ = some (.int .i64 x0) ∧ w'.cell? ⟨g, 1, none⟩ = some (.int .i64 x1) ∧ w'.cell? ⟨g, 2, none⟩ = some (.int .i64 x2) ∧ w'.cell? ⟨g, 3, none⟩ = some v3 ∧ w'.cell? ⟨g, 4, none⟩ = some v4 := by
  obtain ⟨a0, a1, a2, a3, a4⟩ := P.on h
  exact ⟨h, a0, a1, a2, a3, a4⟩
set_option maxRecDepth 100000 in
set_option maxHeartbeats 4000000 in
theorem spec_own (gp : Nat) (s x y : Int) (b3 o3 c3 b4 o4 c4 : Nat) (z3 z4 : List Int) (w : World) (n3 : 0 < z3.length) (n4 : 0 < z4.length) (q3 : z3.length ≤ 1048576) (q4 : z4.length ≤ 1048576) (hb3 : b3 < w.heap.size) (hb4 : b4 < w.heap.size)
    (hc3 : ∀ i, i < z3.length → w.cell? ⟨b3, o3 + i, none⟩ = some (.int .i64 (z3.getD i 0))) (hc4 : ∀ i, i < z4.length → w.cell? ⟨b4, o4 + i, none⟩ = some (.int .i64 (z4.getD i 0)))
    (hp : In w gp s x y (.slice (some ⟨b3, o3, none⟩) z3.length c3) (.slice (some ⟨b4, o4, none⟩) z4.length c4)) :
    Calls Try.prog 14 #[.pointer (some ⟨gp, 0, none⟩)] w fun e w' => ∃ a d a' d', e = .returned (.agg #[.int .i64 s, .int .i64 x, .int .i64 y, .slice a z3.length d, .slice a' z4.length d']) ∧ OwnR w.heap.size w' a z3.length d a' z4.length d' z3 z4 ∧ On w w' := by
  have H3 := Lib.hid (fun w' (hb : On w w') => Clone.spec_own b3 o3 c3 z3 w' n3 q3 (hb.lts _ hb3) (fun i hi => (hb.cell (by exact hb3)).trans (hc3 i hi)))
  have H4 := Lib.hid (fun w' (hb : On w w') => Clone.spec_own b4 o4 c4 z4 w' n4 q4 (hb.lts _ hb4) (fun i hi => (hb.cell (by exact hb4)).trans (hc4 i hi)))
  obtain ⟨W, hW⟩ : ∃ W, W = w.alloc (.cells #[.int .i64 0, .int .i64 0, .int .i64 0, .slice none 0 0, .slice none 0 0] 26) := ⟨_, rfl⟩
  have HW := Lib.hid hW
  have HO := Lib.hid (show On w W by rw [hW]; exact (On.refl w).alloc _)
  have HR := Lib.hid (show In W w.heap.size 0 0 0 (.slice none 0 0) (.slice none 0 0) by rw [hW]; exact ⟨by simp [go_sem], by simp [go_sem], by simp [go_sem], by simp [go_sem], by simp [go_sem]⟩)
  have HF := Lib.hid (show ∀ i, W.frozen? ⟨w.heap.size, i, none⟩ = false by rw [hW]; intro i; simp [go_sem])
  have HP := Lib.hid hp
  have hgp : gp < w.heap.size := World.block_lt_of_cell? _ _ hp.1
  clear hc3 hc4 hp hW
  go_enter Try.func14, Try.ntmps14
  go_upto_region 1 with fail
  rw [← HW.out]
  obtain ⟨r0, r1, r2, r3, r4⟩ := HR.out
  have y0 := HR.out.blk
  have f0 := HF.out 0
  have f1 := HF.out 1
  have f2 := HF.out 2
  have f3 := HF.out 3
  have f4 := HF.out 4
  go_region_held3 (fun w' => On w w' ∧ w'.cell? ⟨gp, 0, none⟩ = some (.int .i64 s) ∧ w'.cell? ⟨gp, 1, none⟩ = some (.int .i64 x) ∧ w'.cell? ⟨gp, 2, none⟩ = some (.int .i64 y) ∧ w'.cell? ⟨gp, 3, none⟩ = some (.slice (some ⟨b3, o3, none⟩) z3.length c3) ∧ w'.cell? ⟨gp, 4, none⟩ = some (.slice (some ⟨b4, o4, none⟩) z4.length c4))
    ((refine held_one HP.out ?_; repeat (first | with_reducible exact HO.out | with_reducible exact On.refl _ | with_reducible assumption | apply On.alloc | apply On.drew | (obtain ⟨hOW, _⟩ := ‹On w _ ∧ _›; exact hOW) | (refine On.setCell ?_ (by (try simp) <;> omega) _) | (refine On.trans ?_ (by assumption)))))
    (first
      | (go_at_call 26; with_reducible refine (H3.out _ (by repeat (first | with_reducible exact HO.out | with_reducible exact On.refl _ | with_reducible assumption | apply On.alloc | apply On.drew | (obtain ⟨hOW, _⟩ := ‹On w _ ∧ _›; exact hOW) | (refine On.trans ?_ (by assumption))))).mono ?_; rintro e w' ⟨a3, c3', rfl, hown3, hcall⟩; (try (with_reducible replace hcall := On.undrew hcall)); obtain ⟨hc3, hf3⟩ := bcell hcall; have hgr3 := hcall.lts; have hsz3 := hcall.size; have hcall3 := hcall; clear hcall; (try simp at hsz3))
      | (go_at_call 26; with_reducible refine (H4.out _ (by repeat (first | with_reducible exact HO.out | with_reducible exact On.refl _ | with_reducible assumption | apply On.alloc | apply On.drew | (obtain ⟨hOW, _⟩ := ‹On w _ ∧ _›; exact hOW) | (refine On.trans ?_ (by assumption))))).mono ?_; rintro e w' ⟨a4, c4', rfl, hown4, hcall⟩; (try (with_reducible replace hcall := On.undrew hcall)); obtain ⟨hc4, hf4⟩ := bcell hcall; have hgr4 := hcall.lts; have hsz4 := hcall.size; have hcall4 := hcall; clear hcall; (try simp at hsz4)))
  all_goals
    go_wp2_with fail
    obtain ⟨hOn, -⟩ := ‹On w _ ∧ _›
    have u0 : w'.cell? ⟨w.heap.size, 0, none⟩ = some (.int .i64 0) := by first | exact (hc4 _ _ (hgr3 _ y0)).trans ((hc3 _ _ y0).trans r0) | exact (hc3 _ _ (hgr4 _ y0)).trans ((hc4 _ _ y0).trans r0)
    have u1 : w'.cell? ⟨w.heap.size, 1, none⟩ = some (.int .i64 0) := by first | exact (hc4 _ _ (hgr3 _ y0)).trans ((hc3 _ _ y0).trans r1) | exact (hc3 _ _ (hgr4 _ y0)).trans ((hc4 _ _ y0).trans r1)
    have u2 : w'.cell? ⟨w.heap.size, 2, none⟩ = some (.int .i64 0) := by first | exact (hc4 _ _ (hgr3 _ y0)).trans ((hc3 _ _ y0).trans r2) | exact (hc3 _ _ (hgr4 _ y0)).trans ((hc4 _ _ y0).trans r2)
    have u3 : w'.cell? ⟨w.heap.size, 3, none⟩ = some (.slice none 0 0) := by first | exact (hc4 _ _ (hgr3 _ y0)).trans ((hc3 _ _ y0).trans r3) | exact (hc3 _ _ (hgr4 _ y0)).trans ((hc4 _ _ y0).trans r3)
    have u4 : w'.cell? ⟨w.heap.size, 4, none⟩ = some (.slice none 0 0) := by first | exact (hc4 _ _ (hgr3 _ y0)).trans ((hc3 _ _ y0).trans r4) | exact (hc3 _ _ (hgr4 _ y0)).trans ((hc4 _ _ y0).trans r4)
    have O3 : Own W.heap.size w' (.slice a3 z3.length c3') z3 := by first | exact (hown3.below hcall4).mono (by simp) | exact hown3.mono (by simp; omega) | exact hown3.mono (by omega)
    have O4 : Own W.heap.size w' (.slice a4 z4.length c4') z4 := by first | exact (hown4.below hcall3).mono (by simp) | exact hown4.mono (by simp; omega) | exact hown4.mono (by omega)
    refine bodyPost_ret (v := .agg #[.int .i64 s, .int .i64 x, .int .i64 y, .slice a3 z3.length c3', .slice a4 z4.length c4']) (by simp [results, Try.results14, go_sem, u0, u1, u2, u3, u4]) rfl ⟨_, _, _, _, rfl, ⟨rfl, rfl, ?_, ?_, ?_⟩, hOn⟩
    · refine Own.mono (B := W.heap.size) ?_ (by omega)
      repeat (first | with_reducible exact O3 | refine Own.setCell ?_ (by show w.heap.size < W.heap.size; exact y0) _)
    · refine Own.mono (B := W.heap.size) ?_ (by omega)
      repeat (first | with_reducible exact O4 | refine Own.setCell ?_ (by show w.heap.size < W.heap.size; exact y0) _)
    · intro h0 h1 p q hp hq
      first
        | (have a := own_block rfl hown3 h0 p hp; have b := own_ge rfl hown4 h1 q hq; omega)
        | (have a := own_block rfl hown4 h1 q hq; have b := own_ge rfl hown3 h0 p hp; omega)
end Go.Proofs.Ytgcpnodpndgekaa.TRec
