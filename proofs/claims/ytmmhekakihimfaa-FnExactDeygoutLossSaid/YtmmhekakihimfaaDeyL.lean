
/-
  DeygoutLoss, whole, in the model and in the program. Condition: at most 1048576 heights, and room for them.
-/
import Derived.Test.YtmmhekakihimfaaDeyS
namespace Go.Proofs.Ytmmhekakihimfaa.Nu
open Go.RowKit Go.Shelf
open Plain
open Ints (Ints Own)
open Prof (PIn clr off_bd off slice_of okP of_okP ret_ii)

/-- DeygoutLoss. -/
def dgV (d f l fr : Int) (zs : List Int) : Int := if seeC d f l zs fr = 0 then deyV d f l fr (zs.length - 1) zs else 0
theorem dg_no {d f l fr : Int} {zs : List Int} (h : seeC d f l zs fr ≠ 0) : dgV d f l fr zs = 0 := if_neg h
theorem dg_ok {d f l fr : Int} {zs : List Int} {n : Nat} (h : seeC d f l zs fr = 0) (hn : zs.length = n + 1) : dgV d f l fr zs = deyV d f l fr n zs := by
  unfold dgV; rw [if_pos h, hn, Nat.add_sub_cancel]
set_option maxHeartbeats 4000000 in
theorem spec_DeygoutLoss (d f l fr : Int) (a : Option Addr) (cap : Nat) (zs : List Int) (w : World) (hn : zs.length ≤ 1048576) (hcap : zs.length ≤ cap) (h : Ints w (.slice a zs.length cap) zs) :
    Calls Try.prog 31 #[.agg #[.int .i64 d, .int .i64 f, .int .i64 l, .slice a zs.length cap], .int .i64 fr] w fun e w' => e = .returned (.tuple #[.int .i64 (dgV d f l fr zs), .int .i64 (seeC d f l zs fr)]) ∧ On w w' := by
  have hA := fun w' (hb : On w w') hp => spec_ask w.heap.size d f l fr a cap zs w' hn hp (h.below hb)
  by_cases hs : seeC d f l zs fr = 0
  · have en := fun (n : Nat) (hzn : zs.length = n + 1) => dg_ok hs hzn
    have HS := Lib.hid hs
    rw [hs] at hA
    have HA := Lib.hid hA
    obtain ⟨n, hzn, n0, n1, hzb, ⟨d0, d1⟩, ⟨f0, f1⟩, ⟨l0, l1⟩, fr0, fr1⟩ := see_at hs
    obtain ⟨b, off, rfl, hb, hcell⟩ := slice_of h (by omega)
    have HW := Lib.hid (fun w' (hw : On w w') hp => spec_deygout w.heap.size n cap b off d f l fr zs w' hp (hw.lts _ hb) (fun k hk => (hw.cell (p := ⟨b, off + k, none⟩) (by exact hb)).trans (hcell k (by omega))) hzb hzn hcap d0 d1 f0 f1 l0 l1 n0 n1 fr0 fr1)
    have en := Lib.hid (en n hzn)
    rw [hzn] at HA ⊢
    clear hA h hs hzn hcell hzb
    go_enter Try.func31, Try.ntmps31
    go_wp2_with fail
    refine (HA.out _ (by repeat (first | with_reducible exact On.refl _ | apply On.alloc)) ⟨by simp [go_sem], by simp [go_sem], by simp [go_sem], by simp [go_sem]⟩).mono ?_
    rintro e w1 ⟨rfl, q, rfl⟩
    go_wp2_with fail
    refine (HW.out _ (by repeat (first | with_reducible exact On.refl _ | apply On.drewN | apply On.alloc)) ⟨by simp [go_sem], by simp [go_sem], by simp [go_sem], by simp [go_sem]⟩).mono ?_
    rintro e w2 ⟨rfl, h2⟩
    have HO2 := Lib.hid (show On w w2 by refine On.trans ?_ h2; repeat (first | with_reducible exact On.refl _ | apply On.drewN | apply On.alloc))
    clear h2
    go_wp2_with fail
    go_ret2
    exact ⟨ret_ii en.out.symm HS.out.symm, HO2.out⟩
  · have en := Lib.hid (dg_no hs)
    have hb : (seeC d f l zs fr == 0) = false := beq_eq_false_iff_ne.2 hs
    have hb2 : (seeC d f l zs fr != 0) = true := bne_iff_ne.2 hs
    have HA := Lib.hid hA
    clear hA h hs
    go_enter Try.func31, Try.ntmps31
    go_wp2_with fail
    refine (HA.out _ (by repeat (first | with_reducible exact On.refl _ | apply On.alloc)) ⟨by simp [go_sem], by simp [go_sem], by simp [go_sem], by simp [go_sem]⟩).mono ?_
    rintro e w1 ⟨rfl, q, rfl⟩
    go_wp2_with fail
    go_ret2
    exact ⟨ret_ii en.out.symm rfl, by repeat (first | with_reducible exact On.refl _ | apply On.drewN | apply On.alloc)⟩
set_option maxHeartbeats 4000000 in
theorem impl_DeygoutLoss (d f l fr : Int) (a : Option Addr) (cap : Nat) (zs : List Int) (w : World) (hn : zs.length ≤ 1048576) (hcap : zs.length ≤ cap) (h : Ints w (.slice a zs.length cap) zs) :
    Calls Try.prog 32 #[.agg #[.int .i64 d, .int .i64 f, .int .i64 l, .slice a zs.length cap], .int .i64 fr] w fun e w' => e = .returned (.tuple #[.int .i64 (dgV d f l fr zs), .int .i64 (seeC d f l zs fr)]) ∧ On w w' := by
  have hA := fun w' (hb : On w w') => impl_sightAlong d f l fr a cap zs w' hn (h.below hb)
  by_cases hs : seeC d f l zs fr = 0
  · have en := fun (n : Nat) (hzn : zs.length = n + 1) => dg_ok hs hzn
    have HS := Lib.hid hs
    have hok := (of_see hs).1
    rw [hs] at hA
    have HA := Lib.hid hA
    obtain ⟨n, hzn, n0, n1, hzb, ⟨d0, d1⟩, ⟨f0, f1⟩, ⟨l0, l1⟩, fr0, fr1⟩ := see_at hs
    obtain ⟨b, off, rfl, hb, hcell⟩ := slice_of h (by omega)
    have en := Lib.hid (en n hzn)
    have hi : Ints w (.slice (some ⟨b, off, none⟩) (n + 1 : Nat) cap) zs := by rw [← hzn]; exact h
    have HW := Lib.hid (fun w' (hw : On w w') => impl_dey1 n cap b off d f l fr zs w' (hw.lts _ hb) (fun k hk => (hw.cell (p := ⟨b, off + k, none⟩) (by exact hb)).trans (hcell k (by omega))) hzb (hi.below hw) hzn hok hcap d0 d1 f0 f1 l0 l1 n0 n1 fr0 fr1)
    rw [hzn] at HA ⊢
    clear hA h hs hzn hcell hzb hi hok hcap
    go_enter Try.func32, Try.ntmps32
    go_wp2_with fail
    refine (HA.out _ (by repeat (first | with_reducible exact On.refl _ | apply On.alloc))).mono ?_
    rintro e w1 ⟨v, rfl, hv, hv', h1⟩
    have HO := Lib.hid (show On w w1 by refine On.trans ?_ h1; repeat (first | with_reducible exact On.refl _ | apply On.alloc))
    obtain rfl := hv trivial
    clear h1 hv hv'
    go_wp2_with fail
    refine (HW.out _ (by repeat (first | with_reducible exact HO.out | apply On.alloc | refine On.setCell ?_ (by (try simp) <;> omega) _))).mono ?_
    rintro e w3 ⟨rfl, h3⟩
    have HO3 := Lib.hid (show On w w3 by refine On.trans ?_ h3; repeat (first | with_reducible exact HO.out | apply On.alloc | refine On.setCell ?_ (by (try simp) <;> omega) _))
    clear h3
    go_wp2_with fail
    go_ret2
    exact ⟨ret_ii en.out.symm HS.out.symm, HO3.out⟩
  · have en := Lib.hid (dg_no hs)
    have hb : (seeC d f l zs fr == 0) = false := beq_eq_false_iff_ne.2 hs
    have hb2 : (seeC d f l zs fr != 0) = true := bne_iff_ne.2 hs
    have HA := Lib.hid hA
    have HS := Lib.hid hs
    clear hA h hs
    go_enter Try.func32, Try.ntmps32
    go_wp2_with fail
    refine (HA.out _ (by repeat (first | with_reducible exact On.refl _ | apply On.alloc))).mono ?_
    rintro e w1 ⟨v, rfl, hv, hv', h1⟩
    have HO := Lib.hid (show On w w1 by refine On.trans ?_ h1; repeat (first | with_reducible exact On.refl _ | apply On.alloc))
    obtain rfl := hv' HS.out
    clear h1 hv hv'
    go_wp2_with fail
    go_ret2
    exact ⟨ret_ii en.out.symm rfl, by repeat (first | with_reducible exact HO.out | apply On.alloc | refine On.setCell ?_ (by (try simp) <;> omega) _)⟩
end Go.Proofs.Ytmmhekakihimfaa.Nu
