
/-
  BullingtonLoss, whole, in the model and in the program. Condition: at most 1048576 heights.
-/
import Derived.Test.YtmmhekakihimfaaBull
namespace Go.Proofs.Ytmmhekakihimfaa.Nu
open Go.RowKit Go.Shelf
open Plain
open Ints (Ints Own)
open Prof (PIn clr off_bd off slice_of okP of_okP ret_ii)

/-- BullingtonLoss. -/
def blV (d f l fr : Int) (zs : List Int) : Int := if seeC d f l zs fr = 0 then bul d f l fr (zs.length - 1) zs else 0
theorem bl_no {d f l fr : Int} {zs : List Int} (h : seeC d f l zs fr ≠ 0) : blV d f l fr zs = 0 := if_neg h
theorem bl_ok {d f l fr : Int} {zs : List Int} {n : Nat} (h : seeC d f l zs fr = 0) (hn : zs.length = n + 1) : blV d f l fr zs = bul d f l fr n zs := by
  unfold blV; rw [if_pos h, hn, Nat.add_sub_cancel]
set_option maxHeartbeats 4000000 in
theorem spec_BullingtonLoss (d f l fr : Int) (a : Option Addr) (cap : Nat) (zs : List Int) (w : World) (hn : zs.length ≤ 1048576) (h : Ints w (.slice a zs.length cap) zs) :
    Calls Try.prog 33 #[.agg #[.int .i64 d, .int .i64 f, .int .i64 l, .slice a zs.length cap], .int .i64 fr] w fun e w' => e = .returned (.tuple #[.int .i64 (blV d f l fr zs), .int .i64 (seeC d f l zs fr)]) ∧ On w w' := by
  have hA := fun w' (hb : On w w') hp => spec_ask w.heap.size d f l fr a cap zs w' hn hp (h.below hb)
  by_cases hs : seeC d f l zs fr = 0
  · have en := fun (n : Nat) (hzn : zs.length = n + 1) => bl_ok hs hzn
    have HS := Lib.hid hs
    rw [hs] at hA
    have HA := Lib.hid hA
    obtain ⟨n, hzn, n0, n1, hzb, ⟨d0, d1⟩, ⟨f0, f1⟩, ⟨l0, l1⟩, fr0, fr1⟩ := see_at hs
    obtain ⟨b, off, rfl, hb, hcell⟩ := slice_of h (by omega)
    have HW := Lib.hid (fun w' (hw : On w w') hp => spec_bullington w.heap.size n cap b off d f l fr zs w' hzn hp (hw.lts _ hb) (fun k hk => (hw.cell (p := ⟨b, off + k, none⟩) (by exact hb)).trans (hcell k (by omega))) hzb d0 d1 f0 f1 l0 l1 n0 n1 fr0 fr1)
    have en := Lib.hid (en n hzn)
    rw [hzn] at HA ⊢
    clear hA h hs hzn hcell hzb
    go_enter Try.func33, Try.ntmps33
    go_wp2_with fail
    refine (HA.out _ (by repeat (first | with_reducible exact On.refl _ | apply On.alloc)) ⟨by simp [go_sem], by simp [go_sem], by simp [go_sem], by simp [go_sem]⟩).mono ?_
    rintro e w1 ⟨rfl, q, rfl⟩
    go_wp2_with fail
    refine (HW.out _ (by repeat (first | with_reducible exact On.refl _ | apply On.drewN | apply On.alloc)) ⟨by simp [go_sem], by simp [go_sem], by simp [go_sem], by simp [go_sem]⟩).mono ?_
    rintro e w2 ⟨rfl, h2⟩
    have HO2 := Lib.hid (show On w w2 by refine On.trans ?_ h2; repeat (first | with_reducible exact On.refl _ | apply On.drewN | apply On.alloc))
    clear h2
    go_wp2_with fail
    go_ret2
    exact ⟨ret_ii en.out.symm HS.out.symm, HO2.out⟩
  · have en := Lib.hid (bl_no hs)
    have hb : (seeC d f l zs fr == 0) = false := beq_eq_false_iff_ne.2 hs
    have hb2 : (seeC d f l zs fr != 0) = true := bne_iff_ne.2 hs
    have HA := Lib.hid hA
    clear hA h hs
    go_enter Try.func33, Try.ntmps33
    go_wp2_with fail
    refine (HA.out _ (by repeat (first | with_reducible exact On.refl _ | apply On.alloc)) ⟨by simp [go_sem], by simp [go_sem], by simp [go_sem], by simp [go_sem]⟩).mono ?_
    rintro e w1 ⟨rfl, q, rfl⟩
    go_wp2_with fail
    go_ret2
    exact ⟨ret_ii en.out.symm rfl, by repeat (first | with_reducible exact On.refl _ | apply On.drewN | apply On.alloc)⟩
set_option maxHeartbeats 4000000 in
theorem impl_BullingtonLoss (d f l fr : Int) (a : Option Addr) (cap : Nat) (zs : List Int) (w : World) (hn : zs.length ≤ 1048576) (h : Ints w (.slice a zs.length cap) zs) :
    Calls Try.prog 34 #[.agg #[.int .i64 d, .int .i64 f, .int .i64 l, .slice a zs.length cap], .int .i64 fr] w fun e w' => e = .returned (.tuple #[.int .i64 (blV d f l fr zs), .int .i64 (seeC d f l zs fr)]) ∧ On w w' := by
  have hA := fun w' (hb : On w w') => impl_sightAlong d f l fr a cap zs w' hn (h.below hb)
  by_cases hs : seeC d f l zs fr = 0
  · have en := fun (n : Nat) (hzn : zs.length = n + 1) => bl_ok hs hzn
    have HS := Lib.hid hs
    have hok := (of_see hs).1
    rw [hs] at hA
    have HA := Lib.hid hA
    obtain ⟨n, hzn, n0, n1, hzb, ⟨d0, d1⟩, ⟨f0, f1⟩, ⟨l0, l1⟩, fr0, fr1⟩ := see_at hs
    obtain ⟨b, off, rfl, hb, hcell⟩ := slice_of h (by omega)
    have hst := fun w => Prof.steps d f l (some ⟨b, off, none⟩) zs.length cap w hn
    rw [hzn, show ((((n + 1 : Nat)) : Int) - 1) = n from by omega] at hst
    have HST := Lib.hid hst
    have en := (en n hzn)
    have hi : Ints w (.slice (some ⟨b, off, none⟩) (n + 1 : Nat) cap) zs := by rw [← hzn]; exact h
    by_cases n2 : n < 2
    · have en := Lib.hid (en.trans (bul_none (show n - 1 = 0 by omega)))
      have hn2 : (n : Int) < 2 := by omega
      rw [hzn] at HA ⊢
      clear hA h hs hzn hcell hzb hst hi hok
      go_enter Try.func34, Try.ntmps34
      go_wp2_with fail
      refine (HA.out _ (by repeat (first | with_reducible exact On.refl _ | apply On.alloc))).mono ?_
      rintro e w1 ⟨v, rfl, hv, hv', h1⟩
      have HO := Lib.hid (show On w w1 by refine On.trans ?_ h1; repeat (first | with_reducible exact On.refl _ | apply On.alloc))
      obtain rfl := hv trivial
      clear h1 hv hv'
      go_wp2_with fail
      refine (HST.out _).mono ?_
      rintro e w2 ⟨rfl, h2⟩
      have HO2 := Lib.hid (show On w w2 by refine On.trans ?_ h2; repeat (first | with_reducible exact HO.out | apply On.alloc | refine On.setCell ?_ (by (try simp) <;> omega) _))
      clear h2
      go_wp2_with fail
      go_ret2
      exact ⟨ret_ii en.out.symm HS.out.symm, HO2.out⟩
    · have en := Lib.hid en
      have hn2 : ¬ (n : Int) < 2 := by omega
      have HW := Lib.hid (fun w' (hw : On w w') => impl_bullington n cap b off d f l fr zs w' hzn hok (hi.below hw) (hw.lts _ hb) (fun k hk => (hw.cell (p := ⟨b, off + k, none⟩) (by exact hb)).trans (hcell k (by omega))) hzb d0 d1 f0 f1 l0 l1 (by omega) n1 fr0 fr1)
      rw [hzn] at HA ⊢
      clear hA h hs hzn hcell hzb hst hi hok
      go_enter Try.func34, Try.ntmps34
      go_wp2_with fail
      refine (HA.out _ (by repeat (first | with_reducible exact On.refl _ | apply On.alloc))).mono ?_
      rintro e w1 ⟨v, rfl, hv, hv', h1⟩
      have HO := Lib.hid (show On w w1 by refine On.trans ?_ h1; repeat (first | with_reducible exact On.refl _ | apply On.alloc))
      obtain rfl := hv trivial
      clear h1 hv hv'
      go_wp2_with fail
      refine (HST.out _).mono ?_
      rintro e w2 ⟨rfl, h2⟩
      obtain ⟨⟨p0, p1, p2, p3⟩, p4⟩ : SIn w2 w1.heap.size d f l (.slice (some ⟨b, off, none⟩) (n + 1) cap) fr := SIn.on ⟨⟨by simp [go_sem], by simp [go_sem], by simp [go_sem], by simp [go_sem]⟩, by simp [go_sem]⟩ h2
      have hg2 := World.block_lt_of_cell? w2 _ p0
      have HO2 := Lib.hid (show On w w2 by refine On.trans ?_ h2; repeat (first | with_reducible exact HO.out | apply On.alloc | refine On.setCell ?_ (by (try simp) <;> omega) _))
      clear h2
      go_wp2_with fail
      refine (HW.out _ HO2.out).mono ?_
      rintro e w3 ⟨rfl, h3⟩
      have HO3 := Lib.hid (HO2.out.trans h3)
      clear h3
      go_wp2_with fail
      go_ret2
      exact ⟨ret_ii en.out.symm HS.out.symm, HO3.out⟩
  · have en := Lib.hid (bl_no hs)
    have hb : (seeC d f l zs fr == 0) = false := beq_eq_false_iff_ne.2 hs
    have hb2 : (seeC d f l zs fr != 0) = true := bne_iff_ne.2 hs
    have HA := Lib.hid hA
    have HS := Lib.hid hs
    clear hA h hs
    go_enter Try.func34, Try.ntmps34
    go_wp2_with fail
    refine (HA.out _ (by repeat (first | with_reducible exact On.refl _ | apply On.alloc))).mono ?_
    rintro e w1 ⟨v, rfl, hv, hv', h1⟩
    have HO := Lib.hid (show On w w1 by refine On.trans ?_ h1; repeat (first | with_reducible exact On.refl _ | apply On.alloc))
    obtain rfl := hv' HS.out
    clear h1 hv hv'
    go_wp2_with fail
    go_ret2
    exact ⟨ret_ii en.out.symm rfl, by repeat (first | with_reducible exact HO.out | apply On.alloc | refine On.setCell ?_ (by (try simp) <;> omega) _)⟩
end Go.Proofs.Ytmmhekakihimfaa.Nu
