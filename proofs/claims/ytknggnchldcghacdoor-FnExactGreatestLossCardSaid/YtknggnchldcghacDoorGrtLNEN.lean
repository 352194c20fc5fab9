
/-
  The greatest loss for a mode in the program, one pattern of truths. Condition: at most 1048576 modes in each radio, and bytes in the names.
-/
import Derived.Test.YtknggnchldcghacDoorGrt0
import Derived.Deep.RegionWith
import Derived.Deep.RegionHeld3
import Derived.Deep.DeepCutAuto
namespace Go.Proofs.YtknggnchldcghacDoor.Rad
open Go.RowKit
open Plain
open Modes (Pairs)
open Err (errV own ErrVar)
open Chk (errIf gainS lossS levelS)
open Ints (Ints)

set_option maxRecDepth 100000 in
set_option maxHeartbeats 8000000 in
theorem impl_great_NEN (x0 : ByteArray) (x1 x2 x3 x4 : Int) (v5 : Value) (z5 : List (Int × Int)) (y0 : ByteArray) (y1 y2 y3 y4 : Int) (u5 : Value) (t5 : List (Int × Int)) (g t mo : Int) (w : World) (q0 : x0.size ≤ 1048576) (q5 : z5.length ≤ 1048576) (p0 : y0.size ≤ 1048576) (p5 : t5.length ≤ 1048576) (h5 : Pairs w v5 z5) (k5 : Pairs w u5 t5) (hg : ErrVar w) (hok : (okR x0 x1 x2 x3 x4 z5 && okR y0 y1 y2 y3 y4 t5) = true) (hgn : (gB g && gB t) = false) (hmo : moB t5 mo = true) :
    Calls Tryd.prog 36 #[.agg #[.string x0, .int .i64 x1, .int .i64 x2, .int .i64 x3, .int .i64 x4, v5], .int .i64 g, .agg #[.string y0, .int .i64 y1, .int .i64 y2, .int .i64 y3, .int .i64 y4, u5], .int .i64 t, .int .i64 mo] w fun e w' => e = .returned (.tuple #[.int .i64 (greV (okR x0 x1 x2 x3 x4 z5 && okR y0 y1 y2 y3 y4 t5) (gB g && (gB t && moB t5 mo)) (lossN x1 x2 g t (leastV t5 mo y2 y3 y4))), .int .i64 (greC (okR x0 x1 x2 x3 x4 z5 && okR y0 y1 y2 y3 y4 t5) (gB g && (gB t && moB t5 mo)) (lossN x1 x2 g t (leastV t5 mo y2 y3 y4)))]) ∧ On w w' := by
  have CR := Lib.hid (fun b cap w' (hb : On w w') hp hq => check_two b cap x0 x1 x2 x3 x4 v5 z5 y0 y1 y2 y3 y4 u5 t5 w' q0 q5 p0 p5 (h5.below hb) (k5.below hb) hp hq)
  have CM := Lib.hid (fun w' (hb : On w w') => check_mode y0 y1 y2 y3 y4 u5 t5 mo w' p5 (k5.below hb))
  have CG := Lib.hid (fun v w h => Chk.check_gain v [g, t] w (by simp) h)
  obtain ⟨a5, n5, cap5, rfl⟩ := anySlice h5
  have k5' := k5
  obtain ⟨b5, dap5, rfl, -⟩ := k5
  rw [show inB mo 0 ((t5.length : Int) - 1) = moB t5 mo from rfl, hmo] at CM
  rw [show ([g, t] : List Int).all Chk.gainB = (gB g && gB t) by simp [List.all_cons, List.all_nil, Bool.and_true]; rfl, hgn] at CG
  rw [hok] at CR
  have CR1 := Lib.hid (fun b cap w' hb hp hq => show Calls Tryd.prog 48 #[.slice (some ⟨b, 0, none⟩) 2 cap] w' fun e w'' => e = .returned .nilIface ∧ On w' w'' from CR.out b cap w' hb hp hq)
  have CG1 := Lib.hid (fun v w h => show Calls Tryd.prog 53 #[.string Chk.gainS, v] w fun e w' => e = .returned (own Chk.gainS 2) ∧ On w w' from CG.out v w h)
  have CM1 := Lib.hid (fun w' hb => show Calls Tryd.prog 65 #[.agg #[.string y0, .int .i64 y1, .int .i64 y2, .int .i64 y3, .int .i64 y4, .slice b5 t5.length dap5], .int .i64 mo] w' fun e w'' => e = .returned .nilIface ∧ On w' w'' from CM.out w' hb)
  have f63 := field63
  clear CR CG CM
  obtain ⟨m5, hm5⟩ : ∃ n, n = t5.length := ⟨_, rfl⟩
  have hgd : (gB g && (gB t && moB t5 mo)) = false := by
    revert hgn hmo
    generalize gB g = u1
    generalize gB t = u2
    generalize moB t5 mo = u3
    cases u1 <;> cases u2 <;> cases u3 <;> simp
  have en := Lib.hid (gre_2 (v := lossN x1 x2 g t (leastV t5 mo y2 y3 y4)) hok hgd)
  rw [← hm5] at CM1 CR1 ⊢
  clear h5 k5' hm5 hok hmo hgn hgd
  unfold own Chk.gainS at *
  obtain ⟨W, hW⟩ : ∃ W, W = (w.alloc (.cells #[.string x0, .int .i64 x1, .int .i64 x2, .int .i64 x3, .int .i64 x4, (.slice a5 n5 cap5)] 30)).alloc (.cells #[.string y0, .int .i64 y1, .int .i64 y2, .int .i64 y3, .int .i64 y4, (.slice b5 m5 dap5)] 30) := ⟨_, rfl⟩
  have HP0 := Lib.hid (show In W w.heap.size x0 x1 x2 x3 x4 (.slice a5 n5 cap5) by rw [hW]; exact ⟨by simp [go_sem], by simp [go_sem], by simp [go_sem], by simp [go_sem], by simp [go_sem], by simp [go_sem]⟩)
  have HQ0 := Lib.hid (show In W (w.heap.size + 1) y0 y1 y2 y3 y4 (.slice b5 m5 dap5) by rw [hW]; exact ⟨by simp [go_sem], by simp [go_sem], by simp [go_sem], by simp [go_sem], by simp [go_sem], by simp [go_sem]⟩)
  have hz : w.heap.size + 1 < W.heap.size := by rw [hW]; simp
  have HO := Lib.hid (show On w W by rw [hW]; exact ((On.refl w).alloc _).alloc _)
  have HW := Lib.hid hW
  clear hW
  go_enter Tryd.func36, Tryd.ntmps36
  go_upto_region 1 with fail
  rw [← HW.out]
  go_cut [12] (fun sa wx => sa = .int .i64 2 ∧ On W wx)
  case first =>
    go_region_held3 (fun w' => On W w' ∧ w'.cell? ⟨w.heap.size, 0, none⟩ = some (.string x0) ∧ w'.cell? ⟨w.heap.size, 1, none⟩ = some (.int .i64 x1) ∧ w'.cell? ⟨w.heap.size, 2, none⟩ = some (.int .i64 x2) ∧ w'.cell? ⟨w.heap.size, 3, none⟩ = some (.int .i64 x3) ∧ w'.cell? ⟨w.heap.size, 4, none⟩ = some (.int .i64 x4) ∧ w'.cell? ⟨w.heap.size, 5, none⟩ = some ((.slice a5 n5 cap5)) ∧ w'.cell? ⟨w.heap.size + 1, 0, none⟩ = some (.string y0) ∧ w'.cell? ⟨w.heap.size + 1, 1, none⟩ = some (.int .i64 y1) ∧ w'.cell? ⟨w.heap.size + 1, 2, none⟩ = some (.int .i64 y2) ∧ w'.cell? ⟨w.heap.size + 1, 3, none⟩ = some (.int .i64 y3) ∧ w'.cell? ⟨w.heap.size + 1, 4, none⟩ = some (.int .i64 y4) ∧ w'.cell? ⟨w.heap.size + 1, 5, none⟩ = some ((.slice b5 m5 dap5)))
      ((refine held_two HP0.out HQ0.out ?_; repeat (first | with_reducible exact On.refl _ | with_reducible assumption | apply On.alloc | apply On.drew | (obtain ⟨hOW, _⟩ := ‹On W _ ∧ _›; exact hOW) | (refine On.trans ?_ (by assumption)))))
      (first
        | (go_at_call 48; refine (CR1.out _ _ _ (On.trans HO.out (by repeat (first | with_reducible exact On.refl _ | with_reducible assumption | apply On.alloc | apply On.drew | (obtain ⟨hOW, _⟩ := ‹On W _ ∧ _›; exact hOW) | (refine On.trans ?_ (by assumption))))) ⟨(by first | go_simp | simp [go_sem]), (by first | go_simp | simp [go_sem]), (by first | go_simp | simp [go_sem]), (by first | go_simp | simp [go_sem]), (by first | go_simp | simp [go_sem]), (by first | go_simp | simp [go_sem])⟩ ⟨(by first | go_simp | simp [go_sem]), (by first | go_simp | simp [go_sem]), (by first | go_simp | simp [go_sem]), (by first | go_simp | simp [go_sem]), (by first | go_simp | simp [go_sem]), (by first | go_simp | simp [go_sem])⟩).mono ?_; rintro e w' ⟨rfl, hcall⟩; (try (with_reducible replace hcall := On.undrew hcall)); obtain ⟨hc, hf⟩ := bcell hcall; have hgr := hcall.lts; (try (have hl1 := hgr _ (by assumption))); (try (have hl0 := On.last hcall)); have hsz := hcall.size; (try simp at hsz))
        | (go_at_call 53; refine (CG1.out _ _ (ints2 (by first | go_simp | simp [go_sem]) (by first | go_simp | simp [go_sem]))).mono ?_; rintro e w' ⟨rfl, hcall⟩; (try (with_reducible replace hcall := On.undrew hcall)); obtain ⟨hc, hf⟩ := bcell hcall; have hgr := hcall.lts; (try (have hl1 := hgr _ (by assumption))); (try (have hl0 := On.last hcall)); have hsz := hcall.size; (try simp at hsz))
        | (go_at_call 65; refine (CM1.out _ (On.trans HO.out (by repeat (first | with_reducible exact On.refl _ | with_reducible assumption | apply On.alloc | apply On.drew | (obtain ⟨hOW, _⟩ := ‹On W _ ∧ _›; exact hOW) | (refine On.trans ?_ (by assumption)))))).mono ?_; rintro e w' ⟨rfl, hcall⟩; (try (with_reducible replace hcall := On.undrew hcall)); obtain ⟨hc, hf⟩ := bcell hcall; have hgr := hcall.lts; (try (have hl1 := hgr _ (by assumption))); (try (have hl0 := On.last hcall)); have hsz := hcall.size; (try simp at hsz))
        | (go_at_call 47; refine (Err.first_NEN _ _ Chk.gainS 2 _ (hg.on (On.trans HO.out (by repeat (first | with_reducible exact On.refl _ | with_reducible assumption | apply On.alloc | apply On.drew | (obtain ⟨hOW, _⟩ := ‹On W _ ∧ _›; exact hOW) | (refine On.trans ?_ (by assumption)))))) (by first | (go_simp; done) | (go_simp; rfl) | simp [go_sem]) (by first | (go_simp; done) | (go_simp; rfl) | simp [go_sem, own, Chk.gainS]) (by first | (go_simp; done) | (go_simp; rfl) | simp [go_sem])).mono ?_; rintro e w' ⟨rfl, hcall⟩; (try (with_reducible replace hcall := On.undrew hcall)); obtain ⟨hc, hf⟩ := bcell hcall; have hgr := hcall.lts; (try (have hl1 := hgr _ (by assumption))); (try (have hl0 := On.last hcall)); have hsz := hcall.size; (try simp at hsz)))
    all_goals
      go_wp2_with fail
      go_meet
      refine ⟨rfl, ?_⟩
      repeat (first | with_reducible exact On.refl _ | with_reducible assumption | apply On.alloc | apply On.drew | (obtain ⟨hOW, _⟩ := ‹On W _ ∧ _›; exact hOW) | (refine On.trans ?_ (by assumption)))
  case rest =>
    obtain ⟨rfl, hO⟩ := hcut
    have HOc := Lib.hid (HO.out.trans hO)
    obtain ⟨l0, l1, l2, l3, l4, l5⟩ := HP0.out.on hO
    obtain ⟨o0, o1, o2, o3, o4, o5⟩ := HQ0.out.on hO
    have zc := World.block_lt_of_cell? _ _ l0
    have zc' := World.block_lt_of_cell? _ _ o0
    clear hO
    go_wp2_with fail
    go_ret2
    exact ⟨ret_ii en.out.1.symm en.out.2.symm, HOc.out⟩
end Go.Proofs.YtknggnchldcghacDoor.Rad
