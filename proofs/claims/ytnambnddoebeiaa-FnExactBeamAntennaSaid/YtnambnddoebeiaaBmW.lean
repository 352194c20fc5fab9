
/-
  The antenna with a pattern around and one up and down, where both patterns are beams, in the program. Conditions: widths from 1 to 360.
-/
import Derived.Test.YtnambnddoebeiaaBmP
namespace Go.Proofs.Ytnambnddoebeiaa.Ant
open Go.RowKit
open Plain
open Ints (Ints Own)

set_option maxRecDepth 100000 in
set_option maxHeartbeats 4000000 in
theorem antennaWith (s : ByteArray) (x u v : Int) (g1 g2 : Nat) (w : World) (u0 : 1 ≤ u) (u1 : u ≤ 360) (v0 : 1 ≤ v) (v1 : v ≤ 360) (hc1 : w.cell? ⟨g1, 0, none⟩ = some (.int .i64 u)) (hc2 : w.cell? ⟨g2, 0, none⟩ = some (.int .i64 v)) :
    Calls Try.prog 54 #[.string s, .int .i64 x, (.func (Fn.func 71) #[] #[.pointer (some ⟨g1, 0, none⟩)]), (.func (Fn.func 71) #[] #[.pointer (some ⟨g2, 0, none⟩)])] w fun e w' => ∃ a2 c2 a3 c3, e = .returned (.agg #[.string s, .int .i64 x, .slice a2 36 c2, .slice a3 19 c3]) ∧ OwnR w.heap.size w' a2 36 c2 a3 19 c3 (listOf (hP u) 36) (listOf (vP v) 19) ∧ On w w' := by
  have hm1 := fun w => run_make_row' (P := Try.prog) 22 2 (.int .i64 0) 8 Try.underlying22 Ints.info rfl .i64 .i64 36 (by omega) (by omega) w
  have hm2 := fun w => run_make_row' (P := Try.prog) 22 2 (.int .i64 0) 8 Try.underlying22 Ints.info rfl .i64 .i64 19 (by omega) (by omega) w
  rw [show (((36 : Nat) : Int)) = 36 from rfl] at hm1
  rw [show (((19 : Nat) : Int)) = 19 from rfl] at hm2
  obtain ⟨W, hW⟩ : ∃ W, W = w.alloc (.cells #[.string ⟨#[]⟩, .int .i64 0, .slice none 0 0, .slice none 0 0] 42) := ⟨_, rfl⟩
  have HW := Lib.hid hW
  have HC1 := Lib.hid (fun w' (ho : On w w') (k : Nat) (hk : k < 36) => impl_beam g1 (10 * (k : Int)) u w' ((ho.cell (World.block_lt_of_cell? w _ hc1)).trans hc1) (th hk).2.1 (th hk).2.2 u0 u1)
  have HC2 := Lib.hid (fun w' (ho : On w w') (k : Nat) (hk : k < 19) => impl_beam g2 (-90 + 10 * (k : Int)) v w' ((ho.cell (World.block_lt_of_cell? w _ hc2)).trans hc2) (tv hk).2.1 (tv hk).2.2 v0 v1)
  have HO := Lib.hid (show On w W by rw [hW]; exact (On.refl w).alloc _)
  have HR := Lib.hid (show In W w.heap.size ⟨#[]⟩ 0 (.slice none 0 0) (.slice none 0 0) by rw [hW]; exact ⟨by simp [go_sem], by simp [go_sem], by simp [go_sem], by simp [go_sem]⟩)
  have HF := Lib.hid (show ∀ i, W.frozen? ⟨w.heap.size, i, none⟩ = false by rw [hW]; intro i; simp [go_sem])
  clear hW hc1 hc2
  go_enter Try.func54, Try.ntmps54
  go_upto_region 1 with fail
  rw [← HW.out]
  go_cut [9] (fun sa wx => ∃ (WX : World) (g A B : Nat), WX = wx ∧ sa = .pointer (some ⟨g, 0, none⟩) ∧ W.heap.size ≤ g ∧ W.heap.size ≤ A ∧ W.heap.size ≤ B ∧ A ≠ B ∧ A ≠ g ∧ B ≠ g ∧ Kept W g A B s x (hP u) (vP v) 0 0 wx)
  case first =>
    go_region
    all_goals
      go_wp2_with fail
      go_meet
      refine ⟨_, _, ?_, ?_, rfl, rfl, ?_, ?_, ?_, ?_, ?_, ?_, ⟨⟨?_, ?_, ?_, ?_⟩, ?_, ?_, ?_⟩⟩
      rotate_left 10
      · simp [go_sem]; rfl
      · simp [go_sem]; rfl
      · (repeat (first | with_reducible exact made_row _ (by simp) | refine World.rowIs.drew ?_ | refine World.rowIs.alloc ?_ _ | refine World.rowIs.setOther ?_ (by (try simp) <;> omega) _))
      · (repeat (first | with_reducible exact made_row _ (by simp) | refine World.rowIs.drew ?_ | refine World.rowIs.alloc ?_ _ | refine World.rowIs.setOther ?_ (by (try simp) <;> omega) _))
      · (repeat (first | with_reducible exact On.refl _ | apply On.alloc | apply On.drew | apply On.drewN | refine On.setCell ?_ (by (try simp) <;> omega) _))
      · (try simp) <;> omega
      · (try simp) <;> omega
      · (try simp) <;> omega
      · omega
      · omega
      · omega
      · simp [go_sem]
      · simp [go_sem]
  case rest =>
    obtain ⟨WX1, g, A, B, hWX1, rfl, hg, hA, hB, hAB, hAg, hBg, hK⟩ := hcut
    subst hWX1
    have K1 := Lib.hid hK
    obtain ⟨t0, t1, t2, t3⟩ := hK.1
    have y1 := hK.1.blk
    clear hK
    go_wp2_with fail
    have hst : ∀ (w : World) (a : Addr) (g : Nat), (store a (.func (Fn.func 71) #[] #[.pointer (some ⟨g, 0, none⟩)])).run Try.prog w = stored Try.prog w a (.func (Fn.func 71) #[] #[.pointer (some ⟨g, 0, none⟩)]) .plain := fun w a g => run_store _ w a _ _ rfl
    have i0 : ∀ w, (Instr.index 91 (.agg #[.slice (some ⟨A, 0, none⟩) 36 36, .int .i64 0, (.func (Fn.func 71) #[] #[.pointer (some ⟨g1, 0, none⟩)]), .slice (some ⟨B, 0, none⟩) 19 19, .int .i64 (-90), (.func (Fn.func 71) #[] #[.pointer (some ⟨g2, 0, none⟩)])]) (.int .i64 0)).run Try.prog w = .ok (.agg #[.slice (some ⟨A, 0, none⟩) 36 36, .int .i64 0, (.func (Fn.func 71) #[] #[.pointer (some ⟨g1, 0, none⟩)])]) w := fun _ => by kernel_rfl
    have i1 : ∀ w, (Instr.index 91 (.agg #[.slice (some ⟨A, 0, none⟩) 36 36, .int .i64 0, (.func (Fn.func 71) #[] #[.pointer (some ⟨g1, 0, none⟩)]), .slice (some ⟨B, 0, none⟩) 19 19, .int .i64 (-90), (.func (Fn.func 71) #[] #[.pointer (some ⟨g2, 0, none⟩)])]) (.int .i64 1)).run Try.prog w = .ok (.agg #[.slice (some ⟨B, 0, none⟩) 19 19, .int .i64 (-90), (.func (Fn.func 71) #[] #[.pointer (some ⟨g2, 0, none⟩)])]) w := fun _ => by kernel_rfl
    refine wp_loop_rounds 3 ?_
    rw [rounds_succ]
    go_wp2_with fail
    go_loopw [33] (fun i wr => ∃ k : Nat, k ≤ 36 ∧ i = .int .i64 k ∧ Kept W g A B s x (hP u) (vP v) k 0 wr ∧ wr.cell? ⟨WX1.heap.size, 0, none⟩ = some (.slice (some ⟨A, 0, none⟩) 36 36) ∧ wr.cell? ⟨WX1.heap.size, 1, none⟩ = some (.int .i64 0) ∧ wr.cell? ⟨WX1.heap.size, 2, none⟩ = some (.func (Fn.func 71) #[] #[.pointer (some ⟨g1, 0, none⟩)])) (fun i _ => 36 - (intOf i).toNat)
    case atStart => exact ⟨0, Nat.zero_le _, rfl, K1.out.on (On.alloc (On.refl _) _), by simp [go_sem], by simp [go_sem], by simp [go_sem]⟩
    case round =>
      obtain ⟨k, hk, rfl, kept, d0, d1, d2⟩ := hrel
      have HK := Lib.hid kept
      by_cases hlt : k < 36
      · have hlti : (k : Int) < 36 := by omega
        have c1 : wr.cell? ⟨A, k, none⟩ = some (.int .i64 0) := by have := (kept.2.1).cell hlt; unfold pt at this; rw [if_neg (by omega)] at this; exact this
        have f1 := (kept.2.1).frozen k
        have xl := (kept.2.1).lt
        have hl := World.block_lt_of_cell? wr _ d0
        have hne : WX1.heap.size ≠ A := fun e => by rw [e] at d0; have := (kept.2.1).cell (i := 0) (by omega); rw [this] at d0; unfold pt at d0; split at d0 <;> cases d0
        clear kept
        obtain ⟨z, hz⟩ : ∃ z, z = hP u k := ⟨_, rfl⟩
        have HP := Lib.hid (fun w' (ho : On w w') => show Calls Try.prog 71 #[.int .i64 (10 * (k : Int)), .pointer (some ⟨g1, 0, none⟩)] w' fun e w2 => e = .returned (.int .i64 z) ∧ On w' w2 by rw [hz]; exact HC1.out w' ho k hlt)
        have HOX := Lib.hid (HO.out.trans HK.out.2.2.2)
        have HZ := Lib.hid hz
        have wr1 : IntKind.i64.wrap (10 * (k : Int)) = 10 * (k : Int) := IntWalk.i64_in _ (by omega)
        clear hz
        go_wp2_with fail
        refine wp_region_on_tail 12 (by kernel_rfl) (by kernel_rfl) ?_
        simp only [List.take_succ_cons, List.take_zero, List.drop_succ_cons, List.drop_zero]
        repeat (refine wpQuiet_step (fun K hK => ?_); go_simp; first | (refine hK _ ?_; clear hK K) | (apply Exists.intro; refine ⟨fun v1 hv1 => ?_, hK _ ?_⟩; (first | with_reducible exact rfl | with_reducible exact ⟨rfl, rfl⟩ | with_reducible exact Calls.on hv1 (HP.out _ (HOX.out.trans hv1)) | (obtain ⟨hc, hf⟩ := bcell hv1; go_simp; first | exact rfl | exact ⟨rfl, rfl⟩)); clear hK K))
        refine wpQuiet_nil ?_
        intro w9 h9
        have HK9 := Lib.hid (HK.out.on h9)
        have p0 := (h9.cell (by exact hl)).trans d0
        have p1 := (h9.cell (by exact hl)).trans d1
        have p2 := (h9.cell (by exact hl)).trans d2
        have q1 := (h9.cell (by exact xl)).trans c1
        have q2 := (h9.frozen (by exact xl)).trans f1
        have q3 := h9.lts _ xl
        clear h9 d0 d1 d2 c1 f1 xl hl
        go_wp2_with fail
        go_roundw
        case rel => exact ⟨k + 1, by omega, by go_num, by rw [HZ.out]; exact HK9.out.setA hAB hAg hA, (World.cell?_setCell_other (h := fun e => hne (congrArg Addr.block e).symm) ..).trans p0, (World.cell?_setCell_other (h := fun e => hne (congrArg Addr.block e).symm) ..).trans p1, (World.cell?_setCell_other (h := fun e => hne (congrArg Addr.block e).symm) ..).trans p2⟩
        case measure => simp [intOf]; omega
      · obtain rfl : k = 36 := by omega
        clear kept d0 d1 d2
        obtain ⟨WX2, eWX2⟩ : ∃ z, z = wr := ⟨_, rfl⟩
        have K2 := Lib.hid (show Kept W g A B s x (hP u) (vP v) 36 0 WX2 by rw [eWX2]; exact HK.out)
        obtain ⟨t0, t1, t2, t3⟩ := K2.out.1
        have y2 := K2.out.1.blk
        rw [← eWX2]
        clear eWX2 HK
        go_wp2_with fail
        rw [rounds_succ]
        go_wp2_with fail
        go_loopw [33] (fun i wr => ∃ k : Nat, k ≤ 19 ∧ i = .int .i64 k ∧ Kept W g A B s x (hP u) (vP v) 36 k wr ∧ wr.cell? ⟨WX2.heap.size, 0, none⟩ = some (.slice (some ⟨B, 0, none⟩) 19 19) ∧ wr.cell? ⟨WX2.heap.size, 1, none⟩ = some (.int .i64 (-90)) ∧ wr.cell? ⟨WX2.heap.size, 2, none⟩ = some (.func (Fn.func 71) #[] #[.pointer (some ⟨g2, 0, none⟩)])) (fun i _ => 19 - (intOf i).toNat)
        case atStart => exact ⟨0, Nat.zero_le _, rfl, K2.out.on (On.alloc (On.refl _) _), by simp [go_sem], by simp [go_sem], by simp [go_sem]⟩
        case round =>
          obtain ⟨k, hk, rfl, kept, d0, d1, d2⟩ := hrel
          have HK := Lib.hid kept
          by_cases hlt : k < 19
          · have hlti : (k : Int) < 19 := by omega
            have c1 : wr.cell? ⟨B, k, none⟩ = some (.int .i64 0) := by have := (kept.2.2.1).cell hlt; unfold pt at this; rw [if_neg (by omega)] at this; exact this
            have f1 := (kept.2.2.1).frozen k
            have xl := (kept.2.2.1).lt
            have hl := World.block_lt_of_cell? wr _ d0
            have hne : WX2.heap.size ≠ B := fun e => by rw [e] at d0; have := (kept.2.2.1).cell (i := 0) (by omega); rw [this] at d0; unfold pt at d0; split at d0 <;> cases d0
            clear kept
            obtain ⟨z, hz⟩ : ∃ z, z = vP v k := ⟨_, rfl⟩
            have HP := Lib.hid (fun w' (ho : On w w') => show Calls Try.prog 71 #[.int .i64 (-90 + 10 * (k : Int)), .pointer (some ⟨g2, 0, none⟩)] w' fun e w2 => e = .returned (.int .i64 z) ∧ On w' w2 by rw [hz]; exact HC2.out w' ho k hlt)
            have HOX := Lib.hid (HO.out.trans HK.out.2.2.2)
            have HZ := Lib.hid hz
            have wr1 : IntKind.i64.wrap (10 * (k : Int)) = 10 * (k : Int) := IntWalk.i64_in _ (by omega)
            have wr2 : IntKind.i64.wrap (-90 + 10 * (k : Int)) = -90 + 10 * (k : Int) := IntWalk.i64_in _ (by omega)
            clear hz
            go_wp2_with fail
            refine wp_region_on_tail 12 (by kernel_rfl) (by kernel_rfl) ?_
            simp only [List.take_succ_cons, List.take_zero, List.drop_succ_cons, List.drop_zero]
            repeat (refine wpQuiet_step (fun K hK => ?_); go_simp; first | (refine hK _ ?_; clear hK K) | (apply Exists.intro; refine ⟨fun v1 hv1 => ?_, hK _ ?_⟩; (first | with_reducible exact rfl | with_reducible exact ⟨rfl, rfl⟩ | with_reducible exact Calls.on hv1 (HP.out _ (HOX.out.trans hv1)) | (obtain ⟨hc, hf⟩ := bcell hv1; go_simp; first | exact rfl | exact ⟨rfl, rfl⟩)); clear hK K))
            refine wpQuiet_nil ?_
            intro w9 h9
            have HK9 := Lib.hid (HK.out.on h9)
            have p0 := (h9.cell (by exact hl)).trans d0
            have p1 := (h9.cell (by exact hl)).trans d1
            have p2 := (h9.cell (by exact hl)).trans d2
            have q1 := (h9.cell (by exact xl)).trans c1
            have q2 := (h9.frozen (by exact xl)).trans f1
            have q3 := h9.lts _ xl
            clear h9 d0 d1 d2 c1 f1 xl hl
            go_wp2_with fail
            go_roundw
            case rel => exact ⟨k + 1, by omega, by go_num, by rw [HZ.out]; exact HK9.out.setB hAB hBg hB, (World.cell?_setCell_other (h := fun e => hne (congrArg Addr.block e).symm) ..).trans p0, (World.cell?_setCell_other (h := fun e => hne (congrArg Addr.block e).symm) ..).trans p1, (World.cell?_setCell_other (h := fun e => hne (congrArg Addr.block e).symm) ..).trans p2⟩
            case measure => simp [intOf]; omega
          · obtain rfl : k = 19 := by omega
            clear kept d0 d1 d2
            have kA : wr.rowIs A 2 36 (pt (hP u) 36) := HK.out.2.1
            have kB : wr.rowIs B 2 19 (pt (vP v) 19) := HK.out.2.2.1
            have kO : On w wr := HO.out.trans HK.out.2.2.2
            obtain ⟨t0, t1, t2, t3⟩ := HK.out.1
            obtain ⟨r0, r1, r2, r3⟩ := HR.out.on HK.out.2.2.2
            have y3 := HK.out.1.blk
            have yW : w.heap.size < W.heap.size := by rw [HW.out]; simp
            have y4 := HK.out.2.2.2.lts _ yW
            have z0 := (HK.out.2.2.2.frozen (p := ⟨w.heap.size, 0, none⟩) (by exact yW)).trans (HF.out 0)
            have z1 := (HK.out.2.2.2.frozen (p := ⟨w.heap.size, 1, none⟩) (by exact yW)).trans (HF.out 1)
            have z2 := (HK.out.2.2.2.frozen (p := ⟨w.heap.size, 2, none⟩) (by exact yW)).trans (HF.out 2)
            have z3 := (HK.out.2.2.2.frozen (p := ⟨w.heap.size, 3, none⟩) (by exact yW)).trans (HF.out 3)
            go_wp2_with fail
            rw [rounds_succ]
            go_wp2_with fail
            refine bodyPost_ret (v := .agg #[.string s, .int .i64 x, .slice (some ⟨A, 0, none⟩) 36 36, .slice (some ⟨B, 0, none⟩) 19 19]) (by simp [results, Try.results54, go_sem, r0, r1, r2, r3]) rfl ⟨_, _, _, _, rfl, ⟨listOf_len _ _, listOf_len _ _, ?_, ?_, ?_⟩, ?_⟩
            · refine own_pt (t := 2) ?_ (by omega)
              repeat (first | with_reducible exact kA | refine World.rowIs.setOther ?_ (by show A ≠ w.heap.size; omega) _)
            · refine own_pt (t := 2) ?_ (by omega)
              repeat (first | with_reducible exact kB | refine World.rowIs.setOther ?_ (by show B ≠ w.heap.size; omega) _)
            · intro _ _ p q hp hq
              cases hp
              cases hq
              exact hAB
            · repeat (first | with_reducible exact kO | refine On.setCell ?_ (by (try simp) <;> omega) _)
end Go.Proofs.Ytnambnddoebeiaa.Ant
