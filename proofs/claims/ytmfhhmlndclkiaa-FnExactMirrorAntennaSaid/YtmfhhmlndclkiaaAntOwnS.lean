
/-
  An antenna's copy of its own memory, in the model. Condition: 36 losses around and 19 up and down.
-/
import Derived.Test.YtmfhhmlndclkiaaAntOwn
import Derived.Test.YtmfhhmlndclkiaaClone
import Derived.Test.YtmfhhmlndclkiaaAntOk
import Derived.Deep.RegionHeld3
import Derived.Deep.DeepCutAuto
namespace Go.Proofs.Ytmfhhmlndclkiaa.Ant
open Go.RowKit
open Ints (Ints Own)

theorem On.undrew {w w' : World} (h : On w.drew w') : On w w' := by
  have h' : Below w.drew.heap.size w.drew w' := h
  exact ⟨h'.os, h'.tape, h'.output, h'.size, fun k hk => h'.block k hk⟩
theorem held_one {W w' : World} {g : Nat} {x0 : ByteArray} {x1 : Int} {v2 v3 : Value} (P : In W g x0 x1 v2 v3) (h : On W w') :
    On W w' ∧ w'.cell? ⟨g, 0, none⟩ = some (.string x0) ∧ w'.cell? ⟨g, 1, none⟩ = some (.int .i64 x1) ∧ w'.cell? ⟨g, 2, none⟩ = some v2 ∧ w'.cell? ⟨g, 3, none⟩ = some v3 := by
  obtain ⟨a0, a1, a2, a3⟩ := P.on h
  exact ⟨h, a0, a1, a2, a3⟩
set_option maxRecDepth 100000 in
set_option maxHeartbeats 2000000 in
theorem spec_own (gp : Nat) (s : ByteArray) (x : Int) (b2 o2 c2 b3 o3 c3 : Nat) (z2 z3 : List Int) (w : World) (n2 : z2.length = 36) (n3 : z3.length = 19) (hb2 : b2 < w.heap.size) (hb3 : b3 < w.heap.size)
    (hc2 : ∀ i, i < 36 → w.cell? ⟨b2, o2 + i, none⟩ = some (.int .i64 (z2.getD i 0))) (hc3 : ∀ i, i < 19 → w.cell? ⟨b3, o3 + i, none⟩ = some (.int .i64 (z3.getD i 0)))
    (hp : In w gp s x (.slice (some ⟨b2, o2, none⟩) 36 c2) (.slice (some ⟨b3, o3, none⟩) 19 c3)) :
    Calls Try.prog 70 #[.pointer (some ⟨gp, 0, none⟩)] w fun e w' => ∃ a d a' d', e = .returned (.agg #[.string s, .int .i64 x, .slice a 36 d, .slice a' 19 d']) ∧ OwnR w.heap.size w' a 36 d a' 19 d' z2 z3 ∧ On w w' := by
  have h2 := fun w' (hb : On w w') => Clone.spec_own b2 o2 c2 z2 w' (by omega) (by omega) (hb.lts _ hb2) (fun i hi => (hb.cell (by exact hb2)).trans (hc2 i (by omega)))
  have h3 := fun w' (hb : On w w') => Clone.spec_own b3 o3 c3 z3 w' (by omega) (by omega) (hb.lts _ hb3) (fun i hi => (hb.cell (by exact hb3)).trans (hc3 i (by omega)))
  rw [n2] at h2
  rw [n3] at h3
  have H2 := Lib.hid h2
  have H3 := Lib.hid h3
  obtain ⟨W, hW⟩ : ∃ W, W = w.alloc (.cells #[.string ⟨#[]⟩, .int .i64 0, .slice none 0 0, .slice none 0 0] 60) := ⟨_, rfl⟩
  have HW := Lib.hid hW
  have HO := Lib.hid (show On w W by rw [hW]; exact (On.refl w).alloc _)
  have HR := Lib.hid (show In W w.heap.size ⟨#[]⟩ 0 (.slice none 0 0) (.slice none 0 0) by rw [hW]; exact ⟨by simp [go_sem], by simp [go_sem], by simp [go_sem], by simp [go_sem]⟩)
  have HF := Lib.hid (show ∀ i, W.frozen? ⟨w.heap.size, i, none⟩ = false by rw [hW]; intro i; simp [go_sem])
  have HP := Lib.hid hp
  have hgp : gp < w.heap.size := World.block_lt_of_cell? _ _ hp.1
  clear hc2 hc3 h2 h3 hp hW
  go_enter Try.func70, Try.ntmps70
  go_upto_region 1 with fail
  rw [← HW.out]
  obtain ⟨r0, r1, r2, r3⟩ := HR.out
  have y0 := HR.out.blk
  have f0 := HF.out 0
  have f1 := HF.out 1
  have f2 := HF.out 2
  have f3 := HF.out 3
  go_region_held3 (fun w' => On w w' ∧ w'.cell? ⟨gp, 0, none⟩ = some (.string s) ∧ w'.cell? ⟨gp, 1, none⟩ = some (.int .i64 x) ∧ w'.cell? ⟨gp, 2, none⟩ = some (.slice (some ⟨b2, o2, none⟩) 36 c2) ∧ w'.cell? ⟨gp, 3, none⟩ = some (.slice (some ⟨b3, o3, none⟩) 19 c3))
    ((refine held_one HP.out ?_; repeat (first | with_reducible exact HO.out | with_reducible exact On.refl _ | with_reducible assumption | apply On.alloc | apply On.drew | (obtain ⟨hOW, _⟩ := ‹On w _ ∧ _›; exact hOW) | (refine On.setCell ?_ (by (try simp) <;> omega) _) | (refine On.trans ?_ (by assumption)))))
    (first
      | (go_at_call 93; with_reducible refine (H2.out _ (by repeat (first | with_reducible exact HO.out | with_reducible exact On.refl _ | with_reducible assumption | apply On.alloc | apply On.drew | (obtain ⟨hOW, _⟩ := ‹On w _ ∧ _›; exact hOW) | (refine On.trans ?_ (by assumption))))).mono ?_; rintro e w' ⟨a2, c2, rfl, hown2, hcall⟩; (try (with_reducible replace hcall := On.undrew hcall)); obtain ⟨hc2, hf2⟩ := bcell hcall; have hgr2 := hcall.lts; have hsz2 := hcall.size; have hcall2 := hcall; clear hcall; (try simp at hsz2))
      | (go_at_call 93; with_reducible refine (H3.out _ (by repeat (first | with_reducible exact HO.out | with_reducible exact On.refl _ | with_reducible assumption | apply On.alloc | apply On.drew | (obtain ⟨hOW, _⟩ := ‹On w _ ∧ _›; exact hOW) | (refine On.trans ?_ (by assumption))))).mono ?_; rintro e w' ⟨a3, c3, rfl, hown3, hcall⟩; (try (with_reducible replace hcall := On.undrew hcall)); obtain ⟨hc3, hf3⟩ := bcell hcall; have hgr3 := hcall.lts; have hsz3 := hcall.size; have hcall3 := hcall; clear hcall; (try simp at hsz3)))
  all_goals
    go_wp2_with fail
    obtain ⟨hOn, -⟩ := ‹On w _ ∧ _›
    have u0 : w'.cell? ⟨w.heap.size, 0, none⟩ = some (.string ⟨#[]⟩) := by first | exact (hc3 _ _ (hgr2 _ y0)).trans ((hc2 _ _ y0).trans r0) | exact (hc2 _ _ (hgr3 _ y0)).trans ((hc3 _ _ y0).trans r0)
    have u1 : w'.cell? ⟨w.heap.size, 1, none⟩ = some (.int .i64 0) := by first | exact (hc3 _ _ (hgr2 _ y0)).trans ((hc2 _ _ y0).trans r1) | exact (hc2 _ _ (hgr3 _ y0)).trans ((hc3 _ _ y0).trans r1)
    have u2 : w'.cell? ⟨w.heap.size, 2, none⟩ = some (.slice none 0 0) := by first | exact (hc3 _ _ (hgr2 _ y0)).trans ((hc2 _ _ y0).trans r2) | exact (hc2 _ _ (hgr3 _ y0)).trans ((hc3 _ _ y0).trans r2)
    have u3 : w'.cell? ⟨w.heap.size, 3, none⟩ = some (.slice none 0 0) := by first | exact (hc3 _ _ (hgr2 _ y0)).trans ((hc2 _ _ y0).trans r3) | exact (hc2 _ _ (hgr3 _ y0)).trans ((hc3 _ _ y0).trans r3)
    have O2 : Own W.heap.size w' (.slice a2 36 c2) z2 := by first | exact (hown2.below hcall3).mono (by simp) | exact hown2.mono (by simp; omega) | exact hown2.mono (by omega)
    have O3 : Own W.heap.size w' (.slice a3 19 c3) z3 := by first | exact (hown3.below hcall2).mono (by simp) | exact hown3.mono (by simp; omega) | exact hown3.mono (by omega)
    refine bodyPost_ret (v := .agg #[.string s, .int .i64 x, .slice a2 36 c2, .slice a3 19 c3]) (by simp [results, Try.results70, go_sem, u0, u1, u2, u3]) rfl ⟨_, _, _, _, rfl, ⟨n2, n3, ?_, ?_, ?_⟩, hOn⟩
    · refine Own.mono (B := W.heap.size) ?_ (by omega)
      repeat (first | with_reducible exact O2 | refine Own.setCell ?_ (by show w.heap.size < W.heap.size; exact y0) _)
    · refine Own.mono (B := W.heap.size) ?_ (by omega)
      repeat (first | with_reducible exact O3 | refine Own.setCell ?_ (by show w.heap.size < W.heap.size; exact y0) _)
    · intro h0 h1 p q hp hq
      first
        | (have a := own_block n2 hown2 h0 p hp; have b := own_ge n3 hown3 h1 q hq; omega)
        | (have a := own_block n3 hown3 h1 q hq; have b := own_ge n2 hown2 h0 p hp; omega)
end Go.Proofs.Ytmfhhmlndclkiaa.Ant
