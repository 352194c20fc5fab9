
/-
  When a network is valid, in the model. Condition: at most 1048576 elements in each list, and numbers and bytes in each of these.
-/
import Derived.Test.YtpnmodmaabhldaaGreatNetF
namespace Go.Proofs.YtpnmodmaabhldaaGreat.Net
open Go.RowKit

def secOk (N : T) (z : Secs.Z) : Bool := Secs.ok z && refB N z
/-- Antennas and radios are valid. -/
def modelsB (N : T) : Bool := Nam.allN Ants.ok Ants.nm Ants.d0 N.f2 && (Nam.allN Rads.ok Rads.nm Rads.d0 N.f3 && (decide (N.f2.length ≤ 8) && decide (N.f3.length ≤ 8)))
/-- The network is valid. -/
def okB (N : T) : Bool := modelsB N && (decide (N.f0.length ≤ 12) && (decide (N.f1.length ≤ 24) && (Nam.allN Sites.ok Sites.nm Sites.d0 N.f0 && Nam.allN (secOk N) Secs.nm Secs.d0 N.f1)))

set_option maxHeartbeats 8000000 in
theorem spec_models (g : Nat) (N : T) (w : World) (hn : N.Small 1048576) (hi : In w g N) :
    Calls Tryz.prog 97 #[.pointer (some ⟨g, 0, none⟩)] w fun e w' => e = .returned (.bool (modelsB N)) ∧ On w w' := by
  have hg := hi.lt
  obtain ⟨a2, cap2, hc2, h2⟩ := hi.c2
  have H2 := Lib.hid h2
  obtain ⟨n2, hn2⟩ : ∃ n, n = N.f2.length := ⟨_, rfl⟩
  have HL2 := Lib.hid hn2
  have nb2 : n2 ≤ 1048576 := by rw [hn2]; exact hn.2.2.1.1
  have HS2 := Lib.hid hn.2.2.1.2
  rw [← hn2] at hc2
  have HC2 := Lib.hid hc2
  obtain ⟨a3, cap3, hc3, h3⟩ := hi.c3
  have H3 := Lib.hid h3
  obtain ⟨n3, hn3⟩ : ∃ n, n = N.f3.length := ⟨_, rfl⟩
  have HL3 := Lib.hid hn3
  have nb3 : n3 ≤ 1048576 := by rw [hn3]; exact hn.2.2.2.1
  have HS3 := Lib.hid hn.2.2.2.2
  rw [← hn3] at hc3
  have HC3 := Lib.hid hc3
  clear h2 h3 hn2 hn3 hi hn hc2 hc3
  go_enter Tryz.func97, Tryz.ntmps97
  go_wp2_with fail
  go_loopw [3] (fun i wr => ∃ k : Nat, k ≤ n2 ∧ i = .int .i64 k ∧ Nam.Upto (Nam.step (Ants.ok) Ants.nm Ants.d0 N.f2) k ∧ On w wr) (fun i _ => n2 - (intOf i).toNat)
  case atStart => exact ⟨0, Nat.zero_le _, rfl, Nam.upto_zero _, On.refl _⟩
  case round =>
    obtain ⟨k, hk, rfl, hall, ho⟩ := hrel
    have HA := Lib.hid hall
    have HB := Lib.hid ho
    have hgr : g < wr.heap.size := ho.lts _ hg
    have cc : wr.cell? ⟨g, 2, none⟩ = some (.slice a2 n2 cap2) := (ho.cell (by exact hg)).trans HC2.out
    clear hall ho
    by_cases hlt0 : k < n2
    · have hlt2 : k < N.f2.length := by rw [← HL2.out]; exact hlt0
      obtain ⟨b, off, ha, hb, hcell⟩ := Ants.slice_of H2.out (by omega)
      rw [ha] at cc
      have hbr : b < wr.heap.size := HB.out.lts _ hb
      have HCELL := Lib.hid hcell
      obtain ⟨z, hz⟩ : ∃ z : Ants.Z, z = N.f2.getD k Ants.d0 := ⟨_, rfl⟩
      have E : Ants.El wr b (off + k * 4) z := by rw [hz]; exact (hcell k hlt2).on HB.out
      have hsm : Ants.Small 1048576 z := by rw [hz]; exact HS2.out k hlt2
      have HO := Lib.hid (fun w' (h : On wr w') => Ants.spec_ok b (off + k * 4) z w' hsm (E.on h))
      clear hcell ha hb
      cases g0 : Ants.ok z with
      | false =>
        have hlti : (k : Int) < (n2 : Int) := by omega
        rw [g0] at HO
        have en := Lib.hid (Nam.all_bad (p := Nam.step (Ants.ok) Ants.nm Ants.d0 N.f2) hlt2 (Nam.step_no hz (g0)))
        have HX := Lib.hid HB
        clear hz E hsm hlt2
        go_wp2_with fail
        refine wp_region_onh (by kernel_rfl) (by kernel_rfl) ?_
        repeat (refine rest_step (fun K hK => ?_); go_simp; first | (refine hK _ ?_; clear hK K) | (apply Exists.intro; refine ⟨fun v1 hv1 => ?_, hK _ ?_⟩; (first | with_reducible exact rfl | with_reducible exact ⟨rfl, rfl⟩ | with_reducible exact Calls.on hv1 (HO.out _ hv1) | (obtain ⟨hc, hf⟩ := bcell hv1; go_simp; first | with_reducible exact rfl | with_reducible exact ⟨rfl, rfl⟩ | exact rfl | exact ⟨rfl, rfl⟩)); clear hK K))
        refine rest_nil ?_
        intro w1 h1
        have HO1 := Lib.hid (HB.out.trans h1)
        clear h1
        go_wp2_with fail
        go_ret
        exact ⟨ret_bool (by unfold modelsB; first | rw [show Nam.allN Ants.ok Ants.nm Ants.d0 N.f2 = false from en.out, Bool.false_and] | rw [show Nam.allN Rads.ok Rads.nm Rads.d0 N.f3 = false from en.out, Bool.false_and, Bool.and_false]), HO1.out⟩
      | true =>
        rw [g0] at HO
        cases k with
        | zero =>
          have hlti : (0 : Int) < (n2 : Int) := by omega
          have HU2 := Lib.hid (Nam.upto_succ HA.out (Nam.step_zero hz g0))
          rw [show (((0 : Nat)) : Int) = 0 from rfl]
          have c0 := E.c0
          clear hz hsm hlt2 E
          have hlt2 := hlt0
          go_wp2_with fail
          refine wp_region_onh (by kernel_rfl) (by kernel_rfl) ?_
          repeat (refine rest_step (fun K hK => ?_); go_simp; first | (refine hK _ ?_; clear hK K) | (apply Exists.intro; refine ⟨fun v1 hv1 => ?_, hK _ ?_⟩; (first | with_reducible exact rfl | with_reducible exact ⟨rfl, rfl⟩ | with_reducible exact Calls.on hv1 (HO.out _ hv1) | (obtain ⟨hc, hf⟩ := bcell hv1; go_simp; first | with_reducible exact rfl | with_reducible exact ⟨rfl, rfl⟩ | exact rfl | exact ⟨rfl, rfl⟩)); clear hK K))
          refine rest_nil ?_
          intro w1 h1
          have HO1 := Lib.hid (HB.out.trans h1)
          clear h1
          go_wp2_with fail
          go_roundw
          case rel => first | exact ⟨_, hlt2, by go_num, HU2.out, HO1.out⟩ | ((repeat apply Exists.intro); exact ⟨hlt2, by go_num, HU2.out, HO1.out⟩)
          case measure => simp [intOf]; omega
        | succ j =>
          have hlti : (j : Int) + 1 < (n2 : Int) := by omega
          have hltj : (j : Int) < (n2 : Int) := by omega
          have gk : decide (0 < (j : Int) + 1) = true := decide_eq_true (by omega)
          have gk' : (0 : Int) < (j : Int) + 1 := by omega
          have wj : IntKind.i64.wrap ((j : Int) + 1 - 1) = (j : Int) := by rw [show (j : Int) + 1 - 1 = j by omega]; exact IntWalk.i64_in _ (by omega)
          have wj2 : IntKind.i64.wrap (j : Int) = (j : Int) := IntWalk.i64_in _ (by omega)
          obtain ⟨y, hy⟩ : ∃ y : Ants.Z, y = N.f2.getD j Ants.d0 := ⟨_, rfl⟩
          have cy : wr.cell? ⟨b, off + j * 4, none⟩ = some (.string y.x0) := by rw [hy]; exact ((HCELL.out j (by omega)).on HB.out).c0
          have c0 := E.c0
          cases g2 : Op.bytesLess y.x0.toList z.x0.toList with
          | false =>
            have en := Lib.hid (Nam.all_bad (p := Nam.step (Ants.ok) Ants.nm Ants.d0 N.f2) hlt2 (Nam.step_succ hz hy g0 g2))
            have HX := Lib.hid HB
            clear hz hy E hsm hlt2
            go_wp2_with fail
            refine wp_region_onh (by kernel_rfl) (by kernel_rfl) ?_
            repeat (refine rest_step (fun K hK => ?_); go_simp; first | (refine hK _ ?_; clear hK K) | (apply Exists.intro; refine ⟨fun v1 hv1 => ?_, hK _ ?_⟩; (first | with_reducible exact rfl | with_reducible exact ⟨rfl, rfl⟩ | with_reducible exact Calls.on hv1 (HO.out _ hv1) | (obtain ⟨hc, hf⟩ := bcell hv1; go_simp; first | with_reducible exact rfl | with_reducible exact ⟨rfl, rfl⟩ | exact rfl | exact ⟨rfl, rfl⟩)); clear hK K))
            refine rest_nil ?_
            intro w1 h1
            have HO1 := Lib.hid (HB.out.trans h1)
            clear h1
            go_wp2_with fail
            go_ret
            exact ⟨ret_bool (by unfold modelsB; first | rw [show Nam.allN Ants.ok Ants.nm Ants.d0 N.f2 = false from en.out, Bool.false_and] | rw [show Nam.allN Rads.ok Rads.nm Rads.d0 N.f3 = false from en.out, Bool.false_and, Bool.and_false]), HO1.out⟩
          | true =>
            have HU2 := Lib.hid (Nam.upto_succ HA.out (Nam.step_succ hz hy g0 g2))
            clear hz hy hsm hlt2 E
            have hlt2 := hlt0
            go_wp2_with fail
            refine wp_region_onh (by kernel_rfl) (by kernel_rfl) ?_
            repeat (refine rest_step (fun K hK => ?_); go_simp; first | (refine hK _ ?_; clear hK K) | (apply Exists.intro; refine ⟨fun v1 hv1 => ?_, hK _ ?_⟩; (first | with_reducible exact rfl | with_reducible exact ⟨rfl, rfl⟩ | with_reducible exact Calls.on hv1 (HO.out _ hv1) | (obtain ⟨hc, hf⟩ := bcell hv1; go_simp; first | with_reducible exact rfl | with_reducible exact ⟨rfl, rfl⟩ | exact rfl | exact ⟨rfl, rfl⟩)); clear hK K))
            refine rest_nil ?_
            intro w1 h1
            have HO1 := Lib.hid (HB.out.trans h1)
            clear h1
            go_wp2_with fail
            go_roundw
            case rel => first | exact ⟨_, hlt2, by go_num, HU2.out, HO1.out⟩ | ((repeat apply Exists.intro); exact ⟨hlt2, by go_num, HU2.out, HO1.out⟩)
            case measure => simp [intOf]; omega
    · obtain rfl : n2 = k := by omega
      have ALL2 := Lib.hid (show Nam.allN (Ants.ok) Ants.nm Ants.d0 N.f2 = true from Nam.all_all (by rw [← HL2.out]; exact HA.out))
      have O2 := HB
      go_wp2_with fail
      clear cc hgr
      go_loopw [4] (fun i wr => ∃ k : Nat, k ≤ n3 ∧ i = .int .i64 k ∧ Nam.Upto (Nam.step (Rads.ok) Rads.nm Rads.d0 N.f3) k ∧ On w wr) (fun i _ => n3 - (intOf i).toNat)
      case atStart => exact ⟨0, Nat.zero_le _, rfl, Nam.upto_zero _, O2.out⟩
      case round =>
        obtain ⟨k, hk, rfl, hall, ho⟩ := hrel
        have HA := Lib.hid hall
        have HB := Lib.hid ho
        have hgr : g < wr.heap.size := ho.lts _ hg
        have cc : wr.cell? ⟨g, 3, none⟩ = some (.slice a3 n3 cap3) := (ho.cell (by exact hg)).trans HC3.out
        clear hall ho
        by_cases hlt0 : k < n3
        · have hlt2 : k < N.f3.length := by rw [← HL3.out]; exact hlt0
          obtain ⟨b, off, ha, hb, hcell⟩ := Rads.slice_of H3.out (by omega)
          rw [ha] at cc
          have hbr : b < wr.heap.size := HB.out.lts _ hb
          have HCELL := Lib.hid hcell
          obtain ⟨z, hz⟩ : ∃ z : Rads.Z, z = N.f3.getD k Rads.d0 := ⟨_, rfl⟩
          have E : Rads.El wr b (off + k * 6) z := by rw [hz]; exact (hcell k hlt2).on HB.out
          have hsm : Rads.Small 1048576 z := by rw [hz]; exact HS3.out k hlt2
          have HO := Lib.hid (fun w' (h : On wr w') => Rads.spec_ok b (off + k * 6) z w' hsm (E.on h))
          clear hcell ha hb
          cases g0 : Rads.ok z with
          | false =>
            have hlti : (k : Int) < (n3 : Int) := by omega
            rw [g0] at HO
            have en := Lib.hid (Nam.all_bad (p := Nam.step (Rads.ok) Rads.nm Rads.d0 N.f3) hlt2 (Nam.step_no hz (g0)))
            have HX := Lib.hid HB
            clear hz E hsm hlt2
            go_wp2_with fail
            refine wp_region_onh (by kernel_rfl) (by kernel_rfl) ?_
            repeat (refine rest_step (fun K hK => ?_); go_simp; first | (refine hK _ ?_; clear hK K) | (apply Exists.intro; refine ⟨fun v1 hv1 => ?_, hK _ ?_⟩; (first | with_reducible exact rfl | with_reducible exact ⟨rfl, rfl⟩ | with_reducible exact Calls.on hv1 (HO.out _ hv1) | (obtain ⟨hc, hf⟩ := bcell hv1; go_simp; first | with_reducible exact rfl | with_reducible exact ⟨rfl, rfl⟩ | exact rfl | exact ⟨rfl, rfl⟩)); clear hK K))
            refine rest_nil ?_
            intro w1 h1
            have HO1 := Lib.hid (HB.out.trans h1)
            clear h1
            go_wp2_with fail
            go_ret
            exact ⟨ret_bool (by unfold modelsB; first | rw [show Nam.allN Ants.ok Ants.nm Ants.d0 N.f2 = false from en.out, Bool.false_and] | rw [show Nam.allN Rads.ok Rads.nm Rads.d0 N.f3 = false from en.out, Bool.false_and, Bool.and_false]), HO1.out⟩
          | true =>
            rw [g0] at HO
            cases k with
            | zero =>
              have hlti : (0 : Int) < (n3 : Int) := by omega
              have HU2 := Lib.hid (Nam.upto_succ HA.out (Nam.step_zero hz g0))
              rw [show (((0 : Nat)) : Int) = 0 from rfl]
              have c0 := E.c0
              clear hz hsm hlt2 E
              have hlt2 := hlt0
              go_wp2_with fail
              refine wp_region_onh (by kernel_rfl) (by kernel_rfl) ?_
              repeat (refine rest_step (fun K hK => ?_); go_simp; first | (refine hK _ ?_; clear hK K) | (apply Exists.intro; refine ⟨fun v1 hv1 => ?_, hK _ ?_⟩; (first | with_reducible exact rfl | with_reducible exact ⟨rfl, rfl⟩ | with_reducible exact Calls.on hv1 (HO.out _ hv1) | (obtain ⟨hc, hf⟩ := bcell hv1; go_simp; first | with_reducible exact rfl | with_reducible exact ⟨rfl, rfl⟩ | exact rfl | exact ⟨rfl, rfl⟩)); clear hK K))
              refine rest_nil ?_
              intro w1 h1
              have HO1 := Lib.hid (HB.out.trans h1)
              clear h1
              go_wp2_with fail
              go_roundw
              case rel => first | exact ⟨_, hlt2, by go_num, HU2.out, HO1.out⟩ | ((repeat apply Exists.intro); exact ⟨hlt2, by go_num, HU2.out, HO1.out⟩)
              case measure => simp [intOf]; omega
            | succ j =>
              have hlti : (j : Int) + 1 < (n3 : Int) := by omega
              have hltj : (j : Int) < (n3 : Int) := by omega
              have gk : decide (0 < (j : Int) + 1) = true := decide_eq_true (by omega)
              have gk' : (0 : Int) < (j : Int) + 1 := by omega
              have wj : IntKind.i64.wrap ((j : Int) + 1 - 1) = (j : Int) := by rw [show (j : Int) + 1 - 1 = j by omega]; exact IntWalk.i64_in _ (by omega)
              have wj2 : IntKind.i64.wrap (j : Int) = (j : Int) := IntWalk.i64_in _ (by omega)
              obtain ⟨y, hy⟩ : ∃ y : Rads.Z, y = N.f3.getD j Rads.d0 := ⟨_, rfl⟩
              have cy : wr.cell? ⟨b, off + j * 6, none⟩ = some (.string y.x0) := by rw [hy]; exact ((HCELL.out j (by omega)).on HB.out).c0
              have c0 := E.c0
              cases g2 : Op.bytesLess y.x0.toList z.x0.toList with
              | false =>
                have en := Lib.hid (Nam.all_bad (p := Nam.step (Rads.ok) Rads.nm Rads.d0 N.f3) hlt2 (Nam.step_succ hz hy g0 g2))
                have HX := Lib.hid HB
                clear hz hy E hsm hlt2
                go_wp2_with fail
                refine wp_region_onh (by kernel_rfl) (by kernel_rfl) ?_
                repeat (refine rest_step (fun K hK => ?_); go_simp; first | (refine hK _ ?_; clear hK K) | (apply Exists.intro; refine ⟨fun v1 hv1 => ?_, hK _ ?_⟩; (first | with_reducible exact rfl | with_reducible exact ⟨rfl, rfl⟩ | with_reducible exact Calls.on hv1 (HO.out _ hv1) | (obtain ⟨hc, hf⟩ := bcell hv1; go_simp; first | with_reducible exact rfl | with_reducible exact ⟨rfl, rfl⟩ | exact rfl | exact ⟨rfl, rfl⟩)); clear hK K))
                refine rest_nil ?_
                intro w1 h1
                have HO1 := Lib.hid (HB.out.trans h1)
                clear h1
                go_wp2_with fail
                go_ret
                exact ⟨ret_bool (by unfold modelsB; first | rw [show Nam.allN Ants.ok Ants.nm Ants.d0 N.f2 = false from en.out, Bool.false_and] | rw [show Nam.allN Rads.ok Rads.nm Rads.d0 N.f3 = false from en.out, Bool.false_and, Bool.and_false]), HO1.out⟩
              | true =>
                have HU2 := Lib.hid (Nam.upto_succ HA.out (Nam.step_succ hz hy g0 g2))
                clear hz hy hsm hlt2 E
                have hlt2 := hlt0
                go_wp2_with fail
                refine wp_region_onh (by kernel_rfl) (by kernel_rfl) ?_
                repeat (refine rest_step (fun K hK => ?_); go_simp; first | (refine hK _ ?_; clear hK K) | (apply Exists.intro; refine ⟨fun v1 hv1 => ?_, hK _ ?_⟩; (first | with_reducible exact rfl | with_reducible exact ⟨rfl, rfl⟩ | with_reducible exact Calls.on hv1 (HO.out _ hv1) | (obtain ⟨hc, hf⟩ := bcell hv1; go_simp; first | with_reducible exact rfl | with_reducible exact ⟨rfl, rfl⟩ | exact rfl | exact ⟨rfl, rfl⟩)); clear hK K))
                refine rest_nil ?_
                intro w1 h1
                have HO1 := Lib.hid (HB.out.trans h1)
                clear h1
                go_wp2_with fail
                go_roundw
                case rel => first | exact ⟨_, hlt2, by go_num, HU2.out, HO1.out⟩ | ((repeat apply Exists.intro); exact ⟨hlt2, by go_num, HU2.out, HO1.out⟩)
                case measure => simp [intOf]; omega
        · obtain rfl : n3 = k := by omega
          have ALL3 := Lib.hid (show Nam.allN (Rads.ok) Rads.nm Rads.d0 N.f3 = true from Nam.all_all (by rw [← HL3.out]; exact HA.out))
          have O3 := HB
          have cc2 : wr.cell? ⟨g, 2, none⟩ = some (.slice a2 n2 cap2) := (HB.out.cell (by exact hg)).trans HC2.out
          have cc3 : wr.cell? ⟨g, 3, none⟩ = some (.slice a3 n3 cap3) := (HB.out.cell (by exact hg)).trans HC3.out
          have en := Lib.hid (show modelsB N = (decide (n2 ≤ 8) && decide (n3 ≤ 8)) by unfold modelsB; rw [ALL2.out, ALL3.out, HL2.out, HL3.out]; rfl)
          by_cases p2 : n2 ≤ 8
          · by_cases p3 : n3 ≤ 8
            · have p2i : (n2 : Int) ≤ 8 := by omega
              have p3i : (n3 : Int) ≤ 8 := by omega
              go_wp2
              go_ret
              exact ⟨ret_bool (by rw [en.out]; simp [p2, p3]), HB.out⟩
            · have p2i : (n2 : Int) ≤ 8 := by omega
              have p3i : ¬ (n3 : Int) ≤ 8 := by omega
              go_wp2
              go_ret
              exact ⟨ret_bool (by rw [en.out]; simp [p2, p3]), HB.out⟩
          · by_cases p3 : n3 ≤ 8
            · have p2i : ¬ (n2 : Int) ≤ 8 := by omega
              have p3i : (n3 : Int) ≤ 8 := by omega
              go_wp2
              go_ret
              exact ⟨ret_bool (by rw [en.out]; simp [p2, p3]), HB.out⟩
            · have p2i : ¬ (n2 : Int) ≤ 8 := by omega
              have p3i : ¬ (n3 : Int) ≤ 8 := by omega
              go_wp2
              go_ret
              exact ⟨ret_bool (by rw [en.out]; simp [p2, p3]), HB.out⟩

end Go.Proofs.YtpnmodmaabhldaaGreat.Net
