
/-
  When a network is valid, in the model, whole. Condition: at most 1048576 elements in each list, and numbers and bytes in each of these.
-/
import Derived.Test.YtpnmodmaabhldaaGreatNetM
namespace Go.Proofs.YtpnmodmaabhldaaGreat.Net
open Go.RowKit

set_option maxHeartbeats 8000000 in
set_option maxRecDepth 100000 in
theorem spec_ok (g : Nat) (N : T) (w : World) (hn : N.Small 1048576) (hi : In w g N) :
    Calls Tryz.prog 47 #[.pointer (some ⟨g, 0, none⟩)] w fun e w' => e = .returned (.bool (okB N)) ∧ On w w' := by
  have hg := hi.lt
  have HI := Lib.hid hi
  have HNS := Lib.hid hn
  obtain ⟨a0, cap0, hc0, h0⟩ := hi.c0
  have H0 := Lib.hid h0
  obtain ⟨n0, hn0⟩ : ∃ n, n = N.f0.length := ⟨_, rfl⟩
  have HL0 := Lib.hid hn0
  have nb0 : n0 ≤ 1048576 := by rw [hn0]; exact hn.1.1
  have HS0 := Lib.hid hn.1.2
  rw [← hn0] at hc0
  have HC0 := Lib.hid hc0
  obtain ⟨a1, cap1, hc1, h1⟩ := hi.c1
  have H1 := Lib.hid h1
  obtain ⟨n1, hn1⟩ : ∃ n, n = N.f1.length := ⟨_, rfl⟩
  have HL1 := Lib.hid hn1
  have nb1 : n1 ≤ 1048576 := by rw [hn1]; exact hn.2.1.1
  have HS1 := Lib.hid hn.2.1.2
  rw [← hn1] at hc1
  have HC1 := Lib.hid hc1
  have hm := spec_models g N w hn hi
  cases tm : modelsB N with
  | false =>
    have en := Lib.hid (show okB N = false by unfold okB; rw [tm]; rfl)
    rw [tm] at hm
    have HM := Lib.hid hm
    clear hm h0 h1 hn0 hn1 hi hn hc0 hc1
    go_enter Tryz.func47, Tryz.ntmps47
    go_wp2_with (go_at_call 97; refine HM.out.mono ?_; rintro e w1 ⟨rfl, h1⟩)
    go_ret
    exact ⟨ret_bool en.out.symm, by first | assumption | exact h1⟩
  | true =>
    rw [tm] at hm
    have HM := Lib.hid hm
    have TM := Lib.hid tm
    clear hm h0 h1 hn0 hn1 hi hn hc0 hc1 tm
    by_cases p0 : n0 ≤ 12
    · by_cases p1 : n1 ≤ 24
      · have LE0 := Lib.hid (show N.f0.length ≤ 12 by rw [← HL0.out]; exact p0)
        have LE1 := Lib.hid (show N.f1.length ≤ 24 by rw [← HL1.out]; exact p1)
        have p0i : ¬ (12 : Int) < (n0 : Int) := by omega
        have p1i : ¬ (24 : Int) < (n1 : Int) := by omega
        go_enter Tryz.func47, Tryz.ntmps47
        go_wp2_with fail
        refine HM.out.mono ?_
        rintro e w1 ⟨rfl, h1⟩
        have OM := Lib.hid h1
        have hg1 : g < w1.heap.size := h1.lts _ hg
        have cc0 : w1.cell? ⟨g, 0, none⟩ = some (.slice a0 n0 cap0) := (h1.cell (by exact hg)).trans HC0.out
        have cc1 : w1.cell? ⟨g, 1, none⟩ = some (.slice a1 n1 cap1) := (h1.cell (by exact hg)).trans HC1.out
        clear h1
        go_wp2_with fail
        clear cc0 cc1
        go_loopw [3] (fun i wr => ∃ k : Nat, k ≤ n0 ∧ i = .int .i64 k ∧ Nam.Upto (Nam.step (Sites.ok) Sites.nm Sites.d0 N.f0) k ∧ On w wr) (fun i _ => n0 - (intOf i).toNat)
        case atStart => exact ⟨0, Nat.zero_le _, rfl, Nam.upto_zero _, OM.out⟩
        case round =>
          obtain ⟨k, hk, rfl, hall, ho⟩ := hrel
          have HA := Lib.hid hall
          have HB := Lib.hid ho
          have hgr : g < wr.heap.size := ho.lts _ hg
          have cc : wr.cell? ⟨g, 0, none⟩ = some (.slice a0 n0 cap0) := (ho.cell (by exact hg)).trans HC0.out
          clear hall ho
          by_cases hlt0 : k < n0
          · have hlt2 : k < N.f0.length := by rw [← HL0.out]; exact hlt0
            obtain ⟨b, off, ha, hb, hcell⟩ := Sites.slice_of H0.out (by omega)
            rw [ha] at cc
            have hbr : b < wr.heap.size := HB.out.lts _ hb
            have HCELL := Lib.hid hcell
            obtain ⟨z, hz⟩ : ∃ z : Sites.Z, z = N.f0.getD k Sites.d0 := ⟨_, rfl⟩
            have E : Sites.El wr b (off + k * 4) z := by rw [hz]; exact (hcell k hlt2).on HB.out
            have hsm : Sites.Small 1048576 z := by rw [hz]; exact HS0.out k hlt2
            have HO := Lib.hid (fun w' (h : On wr w') => Sites.spec_ok b (off + k * 4) z w' hsm (E.on h))
            clear hcell ha hb
            cases g0 : Sites.ok z with
            | false =>
              have hlti : (k : Int) < (n0 : Int) := by omega
              rw [g0] at HO
              have en := Lib.hid (Nam.all_bad (p := Nam.step (Sites.ok) Sites.nm Sites.d0 N.f0) hlt2 (Nam.step_no hz (g0)))
              have HX := Lib.hid HB
              clear hz E hsm hlt2
              go_wp2_with fail
              refine wp_region_onh (by kernel_rfl) (by kernel_rfl) ?_
              repeat (refine rest_step (fun K hK => ?_); go_simp; first | (refine hK _ ?_; clear hK K) | (apply Exists.intro; refine ⟨fun v1 hv1 => ?_, hK _ ?_⟩; (first | with_reducible exact rfl | with_reducible exact ⟨rfl, rfl⟩ | with_reducible exact Calls.on hv1 (HO.out _ hv1) | (obtain ⟨hc, hf⟩ := bcell hv1; go_simp; first | with_reducible exact rfl | with_reducible exact ⟨rfl, rfl⟩ | exact rfl | exact ⟨rfl, rfl⟩)); clear hK K))
              refine rest_nil ?_
              intro w1 h1
              have HO1 := Lib.hid (HB.out.trans h1)
              clear h1
              go_wp2_with fail
              go_ret
              exact ⟨ret_bool (by unfold okB; first | rw [show Nam.allN Sites.ok Sites.nm Sites.d0 N.f0 = false from en.out, Bool.false_and, Bool.and_false, Bool.and_false, Bool.and_false] | rw [show Nam.allN (secOk N) Secs.nm Secs.d0 N.f1 = false from en.out, Bool.and_false, Bool.and_false, Bool.and_false, Bool.and_false]), HO1.out⟩
            | true =>
              rw [g0] at HO
              cases k with
              | zero =>
                have hlti : (0 : Int) < (n0 : Int) := by omega
                have HU2 := Lib.hid (Nam.upto_succ HA.out (Nam.step_zero hz g0))
                rw [show (((0 : Nat)) : Int) = 0 from rfl]
                have c0 := E.c0
                clear hz hsm hlt2 E
                have hlt2 := hlt0
                go_wp2_with fail
                refine wp_region_onh (by kernel_rfl) (by kernel_rfl) ?_
                repeat (refine rest_step (fun K hK => ?_); go_simp; first | (refine hK _ ?_; clear hK K) | (apply Exists.intro; refine ⟨fun v1 hv1 => ?_, hK _ ?_⟩; (first | with_reducible exact rfl | with_reducible exact ⟨rfl, rfl⟩ | with_reducible exact Calls.on hv1 (HO.out _ hv1) | (obtain ⟨hc, hf⟩ := bcell hv1; go_simp; first | with_reducible exact rfl | with_reducible exact ⟨rfl, rfl⟩ | exact rfl | exact ⟨rfl, rfl⟩)); clear hK K))
                refine rest_nil ?_
                intro w1 h1
                have HO1 := Lib.hid (HB.out.trans h1)
                clear h1
                go_wp2_with fail
                go_roundw
                case rel => first | exact ⟨_, hlt2, by go_num, HU2.out, HO1.out⟩ | ((repeat apply Exists.intro); exact ⟨hlt2, by go_num, HU2.out, HO1.out⟩)
                case measure => simp [intOf]; omega
              | succ j =>
                have hlti : (j : Int) + 1 < (n0 : Int) := by omega
                have hltj : (j : Int) < (n0 : Int) := by omega
                have gk : decide (0 < (j : Int) + 1) = true := decide_eq_true (by omega)
                have gk' : (0 : Int) < (j : Int) + 1 := by omega
                have wj : IntKind.i64.wrap ((j : Int) + 1 - 1) = (j : Int) := by rw [show (j : Int) + 1 - 1 = j by omega]; exact IntWalk.i64_in _ (by omega)
                have wj2 : IntKind.i64.wrap (j : Int) = (j : Int) := IntWalk.i64_in _ (by omega)
                obtain ⟨y, hy⟩ : ∃ y : Sites.Z, y = N.f0.getD j Sites.d0 := ⟨_, rfl⟩
                have cy : wr.cell? ⟨b, off + j * 4, none⟩ = some (.string y.x0) := by rw [hy]; exact ((HCELL.out j (by omega)).on HB.out).c0
                have c0 := E.c0
                cases g2 : Op.bytesLess y.x0.toList z.x0.toList with
                | false =>
                  have en := Lib.hid (Nam.all_bad (p := Nam.step (Sites.ok) Sites.nm Sites.d0 N.f0) hlt2 (Nam.step_succ hz hy g0 g2))
                  have HX := Lib.hid HB
                  clear hz hy E hsm hlt2
                  go_wp2_with fail
                  refine wp_region_onh (by kernel_rfl) (by kernel_rfl) ?_
                  repeat (refine rest_step (fun K hK => ?_); go_simp; first | (refine hK _ ?_; clear hK K) | (apply Exists.intro; refine ⟨fun v1 hv1 => ?_, hK _ ?_⟩; (first | with_reducible exact rfl | with_reducible exact ⟨rfl, rfl⟩ | with_reducible exact Calls.on hv1 (HO.out _ hv1) | (obtain ⟨hc, hf⟩ := bcell hv1; go_simp; first | with_reducible exact rfl | with_reducible exact ⟨rfl, rfl⟩ | exact rfl | exact ⟨rfl, rfl⟩)); clear hK K))
                  refine rest_nil ?_
                  intro w1 h1
                  have HO1 := Lib.hid (HB.out.trans h1)
                  clear h1
                  go_wp2_with fail
                  go_ret
                  exact ⟨ret_bool (by unfold okB; first | rw [show Nam.allN Sites.ok Sites.nm Sites.d0 N.f0 = false from en.out, Bool.false_and, Bool.and_false, Bool.and_false, Bool.and_false] | rw [show Nam.allN (secOk N) Secs.nm Secs.d0 N.f1 = false from en.out, Bool.and_false, Bool.and_false, Bool.and_false, Bool.and_false]), HO1.out⟩
                | true =>
                  have HU2 := Lib.hid (Nam.upto_succ HA.out (Nam.step_succ hz hy g0 g2))
                  clear hz hy hsm hlt2 E
                  have hlt2 := hlt0
                  go_wp2_with fail
                  refine wp_region_onh (by kernel_rfl) (by kernel_rfl) ?_
                  repeat (refine rest_step (fun K hK => ?_); go_simp; first | (refine hK _ ?_; clear hK K) | (apply Exists.intro; refine ⟨fun v1 hv1 => ?_, hK _ ?_⟩; (first | with_reducible exact rfl | with_reducible exact ⟨rfl, rfl⟩ | with_reducible exact Calls.on hv1 (HO.out _ hv1) | (obtain ⟨hc, hf⟩ := bcell hv1; go_simp; first | with_reducible exact rfl | with_reducible exact ⟨rfl, rfl⟩ | exact rfl | exact ⟨rfl, rfl⟩)); clear hK K))
                  refine rest_nil ?_
                  intro w1 h1
                  have HO1 := Lib.hid (HB.out.trans h1)
                  clear h1
                  go_wp2_with fail
                  go_roundw
                  case rel => first | exact ⟨_, hlt2, by go_num, HU2.out, HO1.out⟩ | ((repeat apply Exists.intro); exact ⟨hlt2, by go_num, HU2.out, HO1.out⟩)
                  case measure => simp [intOf]; omega
          · obtain rfl : n0 = k := by omega
            have ALL0 := Lib.hid (show Nam.allN (Sites.ok) Sites.nm Sites.d0 N.f0 = true from Nam.all_all (by rw [← HL0.out]; exact HA.out))
            have O0 := HB
            go_wp2_with fail
            clear cc hgr
            go_loopw [4] (fun i wr => ∃ k : Nat, k ≤ n1 ∧ i = .int .i64 k ∧ Nam.Upto (Nam.step (secOk N) Secs.nm Secs.d0 N.f1) k ∧ On w wr) (fun i _ => n1 - (intOf i).toNat)
            case atStart => exact ⟨0, Nat.zero_le _, rfl, Nam.upto_zero _, O0.out⟩
            case round =>
              obtain ⟨k, hk, rfl, hall, ho⟩ := hrel
              have HA := Lib.hid hall
              have HB := Lib.hid ho
              have hgr : g < wr.heap.size := ho.lts _ hg
              have cc : wr.cell? ⟨g, 1, none⟩ = some (.slice a1 n1 cap1) := (ho.cell (by exact hg)).trans HC1.out
              clear hall ho
              by_cases hlt0 : k < n1
              · have hlt2 : k < N.f1.length := by rw [← HL1.out]; exact hlt0
                obtain ⟨b, off, ha, hb, hcell⟩ := Secs.slice_of H1.out (by omega)
                rw [ha] at cc
                have hbr : b < wr.heap.size := HB.out.lts _ hb
                have HCELL := Lib.hid hcell
                obtain ⟨z, hz⟩ : ∃ z : Secs.Z, z = N.f1.getD k Secs.d0 := ⟨_, rfl⟩
                have E : Secs.El wr b (off + k * 9) z := by rw [hz]; exact (hcell k hlt2).on HB.out
                have hsm : Secs.Small 1048576 z := by rw [hz]; exact HS1.out k hlt2
                have HO := Lib.hid (fun w' (h : On wr w') => Secs.spec_ok b (off + k * 9) z w' hsm (E.on h))
                have HRF := Lib.hid (fun w' (h : On wr w') => spec_refers g b (off + k * 9) z N w' HNS.out ((HI.out.on HB.out).on h) (E.on h))
                clear hcell ha hb
                cases g0 : Secs.ok z with
                | false =>
                  have hlti : (k : Int) < (n1 : Int) := by omega
                  rw [g0] at HO
                  have en := Lib.hid (Nam.all_bad (p := Nam.step (secOk N) Secs.nm Secs.d0 N.f1) hlt2 (Nam.step_no hz (show secOk N z = false by unfold secOk; rw [g0]; rfl)))
                  have HX := Lib.hid HB
                  clear hz E hsm hlt2
                  go_wp2_with fail
                  refine wp_region_onh (by kernel_rfl) (by kernel_rfl) ?_
                  repeat (refine rest_step (fun K hK => ?_); go_simp; first | (refine hK _ ?_; clear hK K) | (apply Exists.intro; refine ⟨fun v1 hv1 => ?_, hK _ ?_⟩; (first | with_reducible exact rfl | with_reducible exact ⟨rfl, rfl⟩ | with_reducible exact Calls.on hv1 (HO.out _ hv1) | with_reducible exact Calls.on hv1 (HRF.out _ hv1) | (obtain ⟨hc, hf⟩ := bcell hv1; go_simp; first | with_reducible exact rfl | with_reducible exact ⟨rfl, rfl⟩ | exact rfl | exact ⟨rfl, rfl⟩)); clear hK K))
                  refine rest_nil ?_
                  intro w1 h1
                  have HO1 := Lib.hid (HB.out.trans h1)
                  clear h1
                  go_wp2_with fail
                  go_ret
                  exact ⟨ret_bool (by unfold okB; first | rw [show Nam.allN Sites.ok Sites.nm Sites.d0 N.f0 = false from en.out, Bool.false_and, Bool.and_false, Bool.and_false, Bool.and_false] | rw [show Nam.allN (secOk N) Secs.nm Secs.d0 N.f1 = false from en.out, Bool.and_false, Bool.and_false, Bool.and_false, Bool.and_false]), HO1.out⟩
                | true =>
                  rw [g0] at HO
                  cases g1 : refB N z with
                  | false =>
                    have hlti : (k : Int) < (n1 : Int) := by omega
                    rw [g1] at HRF
                    have en := Lib.hid (Nam.all_bad (p := Nam.step (secOk N) Secs.nm Secs.d0 N.f1) hlt2 (Nam.step_no hz (show secOk N z = false by unfold secOk; rw [g0, g1]; rfl)))
                    have HX := Lib.hid HB
                    clear hz E hsm hlt2
                    go_wp2_with fail
                    refine wp_region_onh (by kernel_rfl) (by kernel_rfl) ?_
                    repeat (refine rest_step (fun K hK => ?_); go_simp; first | (refine hK _ ?_; clear hK K) | (apply Exists.intro; refine ⟨fun v1 hv1 => ?_, hK _ ?_⟩; (first | with_reducible exact rfl | with_reducible exact ⟨rfl, rfl⟩ | with_reducible exact Calls.on hv1 (HO.out _ hv1) | with_reducible exact Calls.on hv1 (HRF.out _ hv1) | (obtain ⟨hc, hf⟩ := bcell hv1; go_simp; first | with_reducible exact rfl | with_reducible exact ⟨rfl, rfl⟩ | exact rfl | exact ⟨rfl, rfl⟩)); clear hK K))
                    refine rest_nil ?_
                    intro w1 h1
                    have HO1 := Lib.hid (HB.out.trans h1)
                    clear h1
                    go_wp2_with fail
                    go_ret
                    exact ⟨ret_bool (by unfold okB; first | rw [show Nam.allN Sites.ok Sites.nm Sites.d0 N.f0 = false from en.out, Bool.false_and, Bool.and_false, Bool.and_false, Bool.and_false] | rw [show Nam.allN (secOk N) Secs.nm Secs.d0 N.f1 = false from en.out, Bool.and_false, Bool.and_false, Bool.and_false, Bool.and_false]), HO1.out⟩
                  | true =>
                    rw [g1] at HRF
                    cases k with
                    | zero =>
                      have hlti : (0 : Int) < (n1 : Int) := by omega
                      have HU2 := Lib.hid (Nam.upto_succ HA.out (Nam.step_zero hz (show secOk N z = true by unfold secOk; rw [g0, g1]; rfl)))
                      rw [show (((0 : Nat)) : Int) = 0 from rfl]
                      have c0 := E.c0
                      clear hz hsm hlt2 E
                      have hlt2 := hlt0
                      go_wp2_with fail
                      refine wp_region_onh (by kernel_rfl) (by kernel_rfl) ?_
                      repeat (refine rest_step (fun K hK => ?_); go_simp; first | (refine hK _ ?_; clear hK K) | (apply Exists.intro; refine ⟨fun v1 hv1 => ?_, hK _ ?_⟩; (first | with_reducible exact rfl | with_reducible exact ⟨rfl, rfl⟩ | with_reducible exact Calls.on hv1 (HO.out _ hv1) | with_reducible exact Calls.on hv1 (HRF.out _ hv1) | (obtain ⟨hc, hf⟩ := bcell hv1; go_simp; first | with_reducible exact rfl | with_reducible exact ⟨rfl, rfl⟩ | exact rfl | exact ⟨rfl, rfl⟩)); clear hK K))
                      refine rest_nil ?_
                      intro w1 h1
                      have HO1 := Lib.hid (HB.out.trans h1)
                      clear h1
                      go_wp2_with fail
                      go_roundw
                      case rel => first | exact ⟨_, hlt2, by go_num, HU2.out, HO1.out⟩ | ((repeat apply Exists.intro); exact ⟨hlt2, by go_num, HU2.out, HO1.out⟩)
                      case measure => simp [intOf]; omega
                    | succ j =>
                      have hlti : (j : Int) + 1 < (n1 : Int) := by omega
                      have hltj : (j : Int) < (n1 : Int) := by omega
                      have gk : decide (0 < (j : Int) + 1) = true := decide_eq_true (by omega)
                      have gk' : (0 : Int) < (j : Int) + 1 := by omega
                      have wj : IntKind.i64.wrap ((j : Int) + 1 - 1) = (j : Int) := by rw [show (j : Int) + 1 - 1 = j by omega]; exact IntWalk.i64_in _ (by omega)
                      have wj2 : IntKind.i64.wrap (j : Int) = (j : Int) := IntWalk.i64_in _ (by omega)
                      obtain ⟨y, hy⟩ : ∃ y : Secs.Z, y = N.f1.getD j Secs.d0 := ⟨_, rfl⟩
                      have cy : wr.cell? ⟨b, off + j * 9, none⟩ = some (.string y.x0) := by rw [hy]; exact ((HCELL.out j (by omega)).on HB.out).c0
                      have c0 := E.c0
                      cases g2 : Op.bytesLess y.x0.toList z.x0.toList with
                      | false =>
                        have en := Lib.hid (Nam.all_bad (p := Nam.step (secOk N) Secs.nm Secs.d0 N.f1) hlt2 (Nam.step_succ hz hy (show secOk N z = true by unfold secOk; rw [g0, g1]; rfl) g2))
                        have HX := Lib.hid HB
                        clear hz hy E hsm hlt2
                        go_wp2_with fail
                        refine wp_region_onh (by kernel_rfl) (by kernel_rfl) ?_
                        repeat (refine rest_step (fun K hK => ?_); go_simp; first | (refine hK _ ?_; clear hK K) | (apply Exists.intro; refine ⟨fun v1 hv1 => ?_, hK _ ?_⟩; (first | with_reducible exact rfl | with_reducible exact ⟨rfl, rfl⟩ | with_reducible exact Calls.on hv1 (HO.out _ hv1) | with_reducible exact Calls.on hv1 (HRF.out _ hv1) | (obtain ⟨hc, hf⟩ := bcell hv1; go_simp; first | with_reducible exact rfl | with_reducible exact ⟨rfl, rfl⟩ | exact rfl | exact ⟨rfl, rfl⟩)); clear hK K))
                        refine rest_nil ?_
                        intro w1 h1
                        have HO1 := Lib.hid (HB.out.trans h1)
                        clear h1
                        go_wp2_with fail
                        go_ret
                        exact ⟨ret_bool (by unfold okB; first | rw [show Nam.allN Sites.ok Sites.nm Sites.d0 N.f0 = false from en.out, Bool.false_and, Bool.and_false, Bool.and_false, Bool.and_false] | rw [show Nam.allN (secOk N) Secs.nm Secs.d0 N.f1 = false from en.out, Bool.and_false, Bool.and_false, Bool.and_false, Bool.and_false]), HO1.out⟩
                      | true =>
                        have HU2 := Lib.hid (Nam.upto_succ HA.out (Nam.step_succ hz hy (show secOk N z = true by unfold secOk; rw [g0, g1]; rfl) g2))
                        clear hz hy hsm hlt2 E
                        have hlt2 := hlt0
                        go_wp2_with fail
                        refine wp_region_onh (by kernel_rfl) (by kernel_rfl) ?_
                        repeat (refine rest_step (fun K hK => ?_); go_simp; first | (refine hK _ ?_; clear hK K) | (apply Exists.intro; refine ⟨fun v1 hv1 => ?_, hK _ ?_⟩; (first | with_reducible exact rfl | with_reducible exact ⟨rfl, rfl⟩ | with_reducible exact Calls.on hv1 (HO.out _ hv1) | with_reducible exact Calls.on hv1 (HRF.out _ hv1) | (obtain ⟨hc, hf⟩ := bcell hv1; go_simp; first | with_reducible exact rfl | with_reducible exact ⟨rfl, rfl⟩ | exact rfl | exact ⟨rfl, rfl⟩)); clear hK K))
                        refine rest_nil ?_
                        intro w1 h1
                        have HO1 := Lib.hid (HB.out.trans h1)
                        clear h1
                        go_wp2_with fail
                        go_roundw
                        case rel => first | exact ⟨_, hlt2, by go_num, HU2.out, HO1.out⟩ | ((repeat apply Exists.intro); exact ⟨hlt2, by go_num, HU2.out, HO1.out⟩)
                        case measure => simp [intOf]; omega
              · obtain rfl : n1 = k := by omega
                have ALL1 := Lib.hid (show Nam.allN (secOk N) Secs.nm Secs.d0 N.f1 = true from Nam.all_all (by rw [← HL1.out]; exact HA.out))
                have O1 := HB
                have en := Lib.hid (show okB N = true by unfold okB; rw [TM.out, ALL0.out, ALL1.out, decide_eq_true LE0.out, decide_eq_true LE1.out]; rfl)
                go_wp2
                go_ret
                exact ⟨ret_bool en.out.symm, HB.out⟩
      · have en := Lib.hid (show okB N = false by unfold okB; rw [decide_eq_false (show ¬ N.f1.length ≤ 24 by rw [← HL1.out]; exact p1), Bool.false_and, Bool.and_false, Bool.and_false])
        have p0i : ¬ (12 : Int) < (n0 : Int) := by omega
        have p1i : (24 : Int) < (n1 : Int) := by omega
        go_enter Tryz.func47, Tryz.ntmps47
        go_wp2_with fail
        refine HM.out.mono ?_
        rintro e w1 ⟨rfl, h1⟩
        have OM := Lib.hid h1
        have hg1 : g < w1.heap.size := h1.lts _ hg
        have cc0 : w1.cell? ⟨g, 0, none⟩ = some (.slice a0 n0 cap0) := (h1.cell (by exact hg)).trans HC0.out
        have cc1 : w1.cell? ⟨g, 1, none⟩ = some (.slice a1 n1 cap1) := (h1.cell (by exact hg)).trans HC1.out
        clear h1
        go_wp2_with fail
        go_ret
        exact ⟨ret_bool en.out.symm, OM.out⟩
    · have en := Lib.hid (show okB N = false by unfold okB; rw [decide_eq_false (show ¬ N.f0.length ≤ 12 by rw [← HL0.out]; exact p0), Bool.false_and, Bool.and_false])
      have p0i : (12 : Int) < (n0 : Int) := by omega
      go_enter Tryz.func47, Tryz.ntmps47
      go_wp2_with fail
      refine HM.out.mono ?_
      rintro e w1 ⟨rfl, h1⟩
      have OM := Lib.hid h1
      have hg1 : g < w1.heap.size := h1.lts _ hg
      have cc0 : w1.cell? ⟨g, 0, none⟩ = some (.slice a0 n0 cap0) := (h1.cell (by exact hg)).trans HC0.out
      have cc1 : w1.cell? ⟨g, 1, none⟩ = some (.slice a1 n1 cap1) := (h1.cell (by exact hg)).trans HC1.out
      clear h1
      go_wp2_with fail
      go_ret
      exact ⟨ret_bool en.out.symm, OM.out⟩
end Go.Proofs.YtpnmodmaabhldaaGreat.Net
