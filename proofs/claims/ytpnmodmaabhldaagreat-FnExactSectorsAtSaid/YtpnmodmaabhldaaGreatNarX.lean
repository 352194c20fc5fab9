
/-
  Whether a list of records Sector is valid, in the program. Condition: at most 1048576 elements, and numbers and bytes in each.
-/
import Derived.Test.YtpnmodmaabhldaaGreatSecOk
import Derived.Test.YtpnmodmaabhldaaGreatNam
import Derived.Test.YtpnmodmaabhldaaGreatOnH
namespace Go.Proofs.YtpnmodmaabhldaaGreat.Secs
open Go.RowKit

theorem impl_name (z : Z) (w : World) :
    Calls Tryz.prog 184 #[.agg #[.string z.x0, .string z.x1, .string z.x2, .string z.x3, .string z.x4, .int .i64 z.x5, .int .i64 z.x6, .int .i64 z.x7, .int .i64 z.x8]] w fun e w' => e = .returned (.string z.x0) ∧ On w w' := by
  go_enter Tryz.func184, Tryz.ntmps184
  go_wp2_with fail
  go_ret
  exact ⟨rfl, by repeat (first | with_reducible exact On.refl _ | with_reducible apply On.alloc | with_reducible apply On.drewN | with_reducible apply On.drew | with_reducible refine On.setCell ?_ (by (try simp) <;> omega) _)⟩
theorem methodName (v : Value) (w : World) : (Go.method 316 66 v "loop.example/g00925/impl.name").run Tryz.prog w = .ok (184, v) w := by kernel_rfl

set_option maxHeartbeats 8000000 in
theorem impl_some (b off cap : Nat) (zs : List Z) (w : World) (hn : zs.length ≤ 1048576) (hs : ∀ k, k < zs.length → Small 1048576 (zs.getD k d0)) (hlt : b < w.heap.size)
    (hcell : ∀ k, k < zs.length → El w b (off + k * 9) (zs.getD k d0)) :
    Calls Tryz.prog 112 #[.slice (some ⟨b, off, none⟩) zs.length cap, .int .i64 24, (.func (Fn.func 86) #[] #[])] w fun e w' => e = .returned (.bool (Nam.listN 24 ok nm d0 zs)) ∧ On w w' := by
  have HC := Lib.hid hcell
  have HS := Lib.hid hs
  obtain ⟨n, hnn⟩ : ∃ n, n = zs.length := ⟨_, rfl⟩
  have HL := Lib.hid hnn
  by_cases h8 : zs.length ≤ 24
  · have HEQ := Lib.hid (Nam.list_short (ok := ok) (nm := nm) (d := d0) h8)
    rw [← hnn] at hn ⊢
    have h8i : ¬ (24 : Int) < (n : Int) := by omega
    clear hcell hs hnn h8
    have hm := methodName
    go_enter Tryz.func112, Tryz.ntmps112
    go_wp2_with fail
    go_loopw [15] (fun i wr => ∃ k : Nat, k ≤ n ∧ i = .int .i64 k ∧ Nam.Upto (Nam.step ok nm d0 zs) k ∧ On w wr) (fun i _ => n - (intOf i).toNat)
    case atStart => exact ⟨0, Nat.zero_le _, rfl, Nam.upto_zero _, On.refl _⟩
    case round =>
      obtain ⟨k, hk, rfl, hall, ho⟩ := hrel
      have HA := Lib.hid hall
      have HB := Lib.hid ho
      have hbr : b < wr.heap.size := ho.lts _ hlt
      have hbn : b ≠ wr.heap.size := Nat.ne_of_lt hbr
      clear hall ho
      by_cases hlt0 : k < n
      · have hlt2 : k < zs.length := by rw [← HL.out]; exact hlt0
        obtain ⟨z, hz⟩ : ∃ z : Z, z = zs.getD k d0 := ⟨_, rfl⟩
        have E : El wr b (off + k * 9) z := by rw [hz]; exact (HC.out k hlt2).on HB.out
        have hsm : Small 1048576 z := by rw [hz]; exact HS.out k hlt2
        have c0 := E.c0
        have c1 := E.c1
        have c2 := E.c2
        have c3 := E.c3
        have c4 := E.c4
        have c5 := E.c5
        have c6 := E.c6
        have c7 := E.c7
        have c8 := E.c8
        have HO := Lib.hid (fun w' (ho : On wr w') => impl_ok z w' hsm)
        have HN1 := Lib.hid (fun w' => impl_name z w')
        clear E hsm
        cases g : ok z with
        | false =>
          have hlti : (k : Int) < (n : Int) := by omega
          have en := Lib.hid (show Nam.listN 24 ok nm d0 zs = false by rw [HEQ.out]; exact Nam.all_bad hlt2 (Nam.step_no hz g))
          rw [g] at HO
          have HN2 := HN1
          clear hz hlt2
          go_wp2_with fail
          refine wp_region_onh (by kernel_rfl) (by kernel_rfl) ?_
          repeat (refine rest_step (fun K hK => ?_); go_simp; first | (refine hK _ ?_; clear hK K) | (apply Exists.intro; refine ⟨fun v1 hv1 => ?_, hK _ ?_⟩; (first | with_reducible exact rfl | with_reducible exact ⟨rfl, rfl⟩ | with_reducible exact Calls.on hv1 (HO.out _ (On.trans (On.alloc (On.refl _) _) hv1)) | with_reducible exact Calls.on hv1 (HN1.out _) | with_reducible exact Calls.on hv1 (HN2.out _) | (obtain ⟨hc, hf⟩ := bcell hv1; go_simp; first | with_reducible exact rfl | with_reducible exact ⟨rfl, rfl⟩ | exact rfl | exact ⟨rfl, rfl⟩)); clear hK K))
          refine rest_nil ?_
          intro w1 h1
          go_wp2_with fail
          go_ret
          exact ⟨ret_bool en.out.symm, by repeat (first | with_reducible exact On.refl _ | with_reducible apply On.alloc | with_reducible apply On.drewN | with_reducible apply On.drew | with_reducible refine On.setCell ?_ (by (try simp) <;> omega) _ | refine On.trans ?_ h1 | refine On.trans ?_ HB.out)⟩
        | true =>
          rw [g] at HO
          cases k with
          | zero =>
            have hlti : (0 : Int) < (n : Int) := by omega
            have HU2 := Lib.hid (Nam.upto_succ HA.out (Nam.step_zero hz g))
            rw [show (((0 : Nat)) : Int) = 0 from rfl]
            rw [Nat.zero_mul, Nat.add_zero] at c0 c1 c2 c3 c4 c5 c6 c7 c8
            have HN2 := HN1
            clear hz hlt2
            have hlt2 := hlt0
            go_wp2_with fail
            refine wp_region_onh (by kernel_rfl) (by kernel_rfl) ?_
            repeat (refine rest_step (fun K hK => ?_); go_simp; first | (refine hK _ ?_; clear hK K) | (apply Exists.intro; refine ⟨fun v1 hv1 => ?_, hK _ ?_⟩; (first | with_reducible exact rfl | with_reducible exact ⟨rfl, rfl⟩ | with_reducible exact Calls.on hv1 (HO.out _ (On.trans (On.alloc (On.refl _) _) hv1)) | with_reducible exact Calls.on hv1 (HN1.out _) | with_reducible exact Calls.on hv1 (HN2.out _) | (obtain ⟨hc, hf⟩ := bcell hv1; go_simp; first | with_reducible exact rfl | with_reducible exact ⟨rfl, rfl⟩ | exact rfl | exact ⟨rfl, rfl⟩)); clear hK K))
            refine rest_nil ?_
            intro w1 h1
            have HO1 := Lib.hid (show On w w1 by repeat (first | with_reducible exact On.refl _ | with_reducible apply On.alloc | with_reducible apply On.drewN | with_reducible apply On.drew | with_reducible refine On.setCell ?_ (by (try simp) <;> omega) _ | refine On.trans ?_ h1 | refine On.trans ?_ HB.out))
            clear h1
            go_wp2_with fail
            go_roundw
            case rel => first | exact ⟨_, hlt2, by go_num, HU2.out, HO1.out⟩ | ((repeat apply Exists.intro); exact ⟨hlt2, by go_num, HU2.out, HO1.out⟩)
            case measure => simp [intOf]; omega
          | succ j =>
            have hlti : (j : Int) + 1 < (n : Int) := by omega
            have hltj : (j : Int) < (n : Int) := by omega
            have gk : decide (0 < (j : Int) + 1) = true := decide_eq_true (by omega)
            have gk' : (0 : Int) < (j : Int) + 1 := by omega
            have wj : IntKind.i64.wrap ((j : Int) + 1 - 1) = (j : Int) := by rw [show (j : Int) + 1 - 1 = j by omega]; exact IntWalk.i64_in _ (by omega)
            have wj2 : IntKind.i64.wrap (j : Int) = (j : Int) := IntWalk.i64_in _ (by omega)
            obtain ⟨y, hy⟩ : ∃ y : Z, y = zs.getD j d0 := ⟨_, rfl⟩
            have E2 : El wr b (off + j * 9) y := by rw [hy]; exact (HC.out j (by omega)).on HB.out
            have e0 := E2.c0
            have e1 := E2.c1
            have e2 := E2.c2
            have e3 := E2.c3
            have e4 := E2.c4
            have e5 := E2.c5
            have e6 := E2.c6
            have e7 := E2.c7
            have e8 := E2.c8
            have HN2 := Lib.hid (fun w' => impl_name y w')
            have lo := Nam.less_or y.x0.toList z.x0.toList
            clear E2
            cases g2 : Op.bytesLess y.x0.toList z.x0.toList with
            | false =>
              have en := Lib.hid (show Nam.listN 24 ok nm d0 zs = false by rw [HEQ.out]; exact Nam.all_bad hlt2 (Nam.step_succ hz hy g g2))
              rw [g2] at lo
              clear hz hy hlt2
              go_wp2_with fail
              refine wp_region_onh (by kernel_rfl) (by kernel_rfl) ?_
              repeat (refine rest_step (fun K hK => ?_); go_simp; first | (refine hK _ ?_; clear hK K) | (apply Exists.intro; refine ⟨fun v1 hv1 => ?_, hK _ ?_⟩; (first | with_reducible exact rfl | with_reducible exact ⟨rfl, rfl⟩ | with_reducible exact Calls.on hv1 (HO.out _ (On.trans (On.alloc (On.refl _) _) hv1)) | with_reducible exact Calls.on hv1 (HN1.out _) | with_reducible exact Calls.on hv1 (HN2.out _) | (obtain ⟨hc, hf⟩ := bcell hv1; go_simp; first | with_reducible exact rfl | with_reducible exact ⟨rfl, rfl⟩ | exact rfl | exact ⟨rfl, rfl⟩)); clear hK K))
              refine rest_nil ?_
              intro w1 h1
              go_wp2_with fail
              go_ret
              exact ⟨ret_bool en.out.symm, by repeat (first | with_reducible exact On.refl _ | with_reducible apply On.alloc | with_reducible apply On.drewN | with_reducible apply On.drew | with_reducible refine On.setCell ?_ (by (try simp) <;> omega) _ | refine On.trans ?_ h1 | refine On.trans ?_ HB.out)⟩
            | true =>
              have HU2 := Lib.hid (Nam.upto_succ HA.out (Nam.step_succ hz hy g g2))
              rw [g2] at lo
              clear hz hy hlt2
              have hlt2 := hlt0
              go_wp2_with fail
              refine wp_region_onh (by kernel_rfl) (by kernel_rfl) ?_
              repeat (refine rest_step (fun K hK => ?_); go_simp; first | (refine hK _ ?_; clear hK K) | (apply Exists.intro; refine ⟨fun v1 hv1 => ?_, hK _ ?_⟩; (first | with_reducible exact rfl | with_reducible exact ⟨rfl, rfl⟩ | with_reducible exact Calls.on hv1 (HO.out _ (On.trans (On.alloc (On.refl _) _) hv1)) | with_reducible exact Calls.on hv1 (HN1.out _) | with_reducible exact Calls.on hv1 (HN2.out _) | (obtain ⟨hc, hf⟩ := bcell hv1; go_simp; first | with_reducible exact rfl | with_reducible exact ⟨rfl, rfl⟩ | exact rfl | exact ⟨rfl, rfl⟩)); clear hK K))
              refine rest_nil ?_
              intro w1 h1
              have HO1 := Lib.hid (show On w w1 by repeat (first | with_reducible exact On.refl _ | with_reducible apply On.alloc | with_reducible apply On.drewN | with_reducible apply On.drew | with_reducible refine On.setCell ?_ (by (try simp) <;> omega) _ | refine On.trans ?_ h1 | refine On.trans ?_ HB.out))
              clear h1
              go_wp2_with fail
              go_roundw
              case rel => first | exact ⟨_, hlt2, by go_num, HU2.out, HO1.out⟩ | ((repeat apply Exists.intro); exact ⟨hlt2, by go_num, HU2.out, HO1.out⟩)
              case measure => simp [intOf]; omega
      · obtain rfl : n = k := by omega
        have en := Lib.hid (show Nam.listN 24 ok nm d0 zs = true by rw [HEQ.out]; exact Nam.all_all (by rw [← HL.out]; exact HA.out))
        go_wp2
        go_ret
        exact ⟨ret_bool en.out.symm, HB.out⟩
  · have en := Lib.hid (Nam.list_long (ok := ok) (nm := nm) (d := d0) h8)
    have h8i : (24 : Int) < (zs.length : Int) := by omega
    clear hcell hs hnn HL
    go_enter Tryz.func112, Tryz.ntmps112
    go_wp2_with fail
    go_ret
    exact ⟨ret_bool en.out.symm, On.refl _⟩
theorem impl_none (a : Option Addr) (cap : Nat) (w : World) :
    Calls Tryz.prog 112 #[.slice a 0 cap, .int .i64 24, (.func (Fn.func 86) #[] #[])] w fun e w' => e = .returned (.bool (Nam.listN 24 ok nm d0 [])) ∧ On w w' := by
  go_enter Tryz.func112, Tryz.ntmps112
  go_wp2
  refine wp_loop_rounds 1 ?_
  rw [rounds_succ]
  go_wp2
  go_ret
  exact ⟨rfl, On.refl _⟩
theorem impl_list (v : Value) (zs : List Z) (w : World) (hn : zs.length ≤ 1048576) (hs : ∀ k, k < zs.length → Small 1048576 (zs.getD k d0)) (h : Rows w v zs) :
    Calls Tryz.prog 112 #[v, .int .i64 24, (.func (Fn.func 86) #[] #[])] w fun e w' => e = .returned (.bool (Nam.listN 24 ok nm d0 zs)) ∧ On w w' := by
  have h' := h
  obtain ⟨a, cap, rfl, -⟩ := h
  by_cases h0 : 0 < zs.length
  · obtain ⟨b, off, rfl, hlt, hcell⟩ := slice_of h' h0
    exact impl_some b off cap zs w hn hs hlt hcell
  · have : zs = [] := List.eq_nil_of_length_eq_zero (by omega)
    subst this
    exact impl_none a cap w
end Go.Proofs.YtpnmodmaabhldaaGreat.Secs
