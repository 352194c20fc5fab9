
/-
  The parameter of a point, whole, in the model and in the program. Condition: at most 1048576 heights.
-/
import Derived.Test.YtmmhekakihimfaaNu
namespace Go.Proofs.Ytmmhekakihimfaa.Nu
open Go.RowKit
open Plain
open Ints (Ints Own)
open Prof (PIn clr off_bd off slice_of okP of_okP ret_ii)

def nuC (d f l : Int) (zs : List Int) (fr i : Int) : Int := if seeC d f l zs fr = 0 then (if inB i 1 ((zs.length : Int) - 2) = true then 0 else 2) else seeC d f l zs fr
def nuV (d f l : Int) (zs : List Int) (fr i : Int) : Int := if nuC d f l zs fr i = 0 then nu d f l ((zs.length : Int) - 1) fr i (zs.getD i.toNat 0) else 0
theorem nu_no {d f l fr i : Int} {zs : List Int} (h : seeC d f l zs fr ≠ 0) : nuC d f l zs fr i = seeC d f l zs fr ∧ nuV d f l zs fr i = 0 := by
  have e : nuC d f l zs fr i = seeC d f l zs fr := if_neg h
  exact ⟨e, if_neg (by rw [e]; exact h)⟩
theorem nu_far {d f l fr i : Int} {zs : List Int} (h : seeC d f l zs fr = 0) (g : inB i 1 ((zs.length : Int) - 2) = false) : nuC d f l zs fr i = 2 ∧ nuV d f l zs fr i = 0 := by
  have e : nuC d f l zs fr i = 2 := by unfold nuC; rw [if_pos h, g]; rfl
  exact ⟨e, if_neg (by rw [e]; decide)⟩
theorem nu_ok {d f l fr i : Int} {zs : List Int} (h : seeC d f l zs fr = 0) (g : inB i 1 ((zs.length : Int) - 2) = true) : nuC d f l zs fr i = 0 ∧ nuV d f l zs fr i = nu d f l ((zs.length : Int) - 1) fr i (zs.getD i.toNat 0) := by
  have e : nuC d f l zs fr i = 0 := by unfold nuC; rw [if_pos h, g]; rfl
  exact ⟨e, if_pos e⟩
/-- What holds of a profile that can be seen. -/
theorem see_at {d f l fr : Int} {zs : List Int} (h : seeC d f l zs fr = 0) : ∃ n : Nat, zs.length = n + 1 ∧ 1 ≤ n ∧ n ≤ 64 ∧ (∀ k, k ≤ n → 0 ≤ zs.getD k 0 ∧ zs.getD k 0 ≤ 90000) ∧ (1 ≤ d ∧ d ≤ 283000) ∧ (0 ≤ f ∧ f ≤ 180000) ∧ (0 ≤ l ∧ l ≤ 180000) ∧ 1 ≤ fr ∧ fr ≤ 100000000 := by
  obtain ⟨ho, hf⟩ := of_see h
  obtain ⟨hd, ⟨n2, n65⟩, hz, ⟨f0, f1⟩, l0, l1⟩ := of_okP ho
  have y0 := of_inB (hz 0 (by omega))
  have yl := of_inB (hz (zs.length - 1) (by omega))
  exact ⟨zs.length - 1, by omega, by omega, by omega, fun k hk => of_inB (hz k (by omega)), hd, ⟨by omega, f1⟩, ⟨by omega, l1⟩, of_inB hf⟩
set_option maxHeartbeats 2000000 in
theorem spec_NuAt (d f l fr i : Int) (a : Option Addr) (cap : Nat) (zs : List Int) (w : World) (hn : zs.length ≤ 1048576) (h : Ints w (.slice a zs.length cap) zs) :
    Calls Try.prog 16 #[.agg #[.int .i64 d, .int .i64 f, .int .i64 l, .slice a zs.length cap], .int .i64 fr, .int .i64 i] w fun e w' => e = .returned (.tuple #[.int .i64 (nuV d f l zs fr i), .int .i64 (nuC d f l zs fr i)]) ∧ On w w' := by
  have hA := fun w' (hb : On w w') hp => spec_ask w.heap.size d f l fr a cap zs w' hn hp (h.below hb)
  by_cases hs : seeC d f l zs fr = 0
  · rw [hs] at hA
    have HA := Lib.hid hA
    obtain ⟨n, hzn, n0, n1, hzb, ⟨d0, d1⟩, ⟨f0, f1⟩, ⟨l0, l1⟩, fr0, fr1⟩ := see_at hs
    cases hi : inB i 1 ((zs.length : Int) - 2) with
    | false =>
      have en := Lib.hid (nu_far hs hi)
      have hi' : inB i 1 ((n : Int) - 1) = false := by rw [← hi, hzn]; congr 1; omega
      rw [hzn] at HA ⊢
      clear hA h hs hzn hi
      go_enter Try.func16, Try.ntmps16
      go_wp2_with fail
      refine (HA.out _ (by repeat (first | with_reducible exact On.refl _ | apply On.alloc)) ⟨by simp [go_sem], by simp [go_sem], by simp [go_sem], by simp [go_sem]⟩).mono ?_
      rintro e w1 ⟨rfl, q, rfl⟩
      go_wp2_with fail
      rw [show ((n : Int) + 1 - 2) = (n : Int) - 1 from by omega]
      refine (Arith.l00In _ _ _ _).mono ?_
      rintro e w' ⟨rfl, rfl⟩
      rw [hi']
      go_wp2_with fail
      go_ret2
      exact ⟨ret_ii en.out.2.symm en.out.1.symm, by repeat (first | with_reducible exact On.refl _ | apply On.drewN | apply On.alloc)⟩
    | true =>
      have en := Lib.hid (nu_ok hs hi)
      have hib := of_inB hi
      obtain ⟨k, rfl⟩ := Int.eq_ofNat_of_zero_le (show 0 ≤ i by omega)
      obtain ⟨b, off, rfl, hb, hcell⟩ := slice_of h (by omega)
      obtain ⟨z, hz⟩ : ∃ z, z = zs.getD k 0 := ⟨_, rfl⟩
      have zb := hzb k (by omega)
      have hc := hcell k (by omega)
      rw [← hz] at zb hc
      obtain ⟨z0, z1⟩ := zb
      have EN := Lib.hid (show nuV d f l zs fr k = nu d f l n fr k z by rw [en.out.2, Int.toNat_natCast, ← hz, hzn, show (((n + 1 : Nat) : Int) - 1) = n from by omega])
      have HV := Lib.hid (fun w' (hw : On w w') hp => spec_nu w.heap.size n cap k b off d f l z fr w' hp (hw.lts _ hb) ((hw.cell (p := ⟨b, off + k, none⟩) (by exact hb)).trans hc) z0 z1 d0 d1 f0 f1 l0 l1 (by omega) n0 n1 fr0 fr1)
      have hi' : inB (k : Int) 1 ((n : Int) - 1) = true := inB_yes (by omega) (by omega)
      rw [hzn] at HA ⊢
      clear hA h hs hzn hi hz hc hcell hzb
      go_enter Try.func16, Try.ntmps16
      go_wp2_with fail
      refine (HA.out _ (by repeat (first | with_reducible exact On.refl _ | apply On.alloc)) ⟨by simp [go_sem], by simp [go_sem], by simp [go_sem], by simp [go_sem]⟩).mono ?_
      rintro e w1 ⟨rfl, q, rfl⟩
      go_wp2_with fail
      rw [show ((n : Int) + 1 - 2) = (n : Int) - 1 from by omega]
      refine (Arith.l00In _ _ _ _).mono ?_
      rintro e w' ⟨rfl, rfl⟩
      rw [hi']
      go_wp2_with fail
      refine (HV.out _ (by repeat (first | with_reducible exact On.refl _ | apply On.drewN | apply On.alloc)) ⟨by simp [go_sem], by simp [go_sem], by simp [go_sem], by simp [go_sem]⟩).mono ?_
      rintro e w2 ⟨rfl, h2⟩
      go_wp2_with fail
      go_ret2
      exact ⟨ret_ii EN.out.symm en.out.1.symm, by refine On.trans ?_ h2; repeat (first | with_reducible exact On.refl _ | apply On.drewN | apply On.alloc)⟩
  · have en := Lib.hid (nu_no (i := i) hs)
    have hb : (seeC d f l zs fr == 0) = false := beq_eq_false_iff_ne.2 hs
    have hb2 : (seeC d f l zs fr != 0) = true := bne_iff_ne.2 hs
    have HA := Lib.hid hA
    clear hA h hs
    go_enter Try.func16, Try.ntmps16
    go_wp2_with fail
    refine (HA.out _ (by repeat (first | with_reducible exact On.refl _ | apply On.alloc)) ⟨by simp [go_sem], by simp [go_sem], by simp [go_sem], by simp [go_sem]⟩).mono ?_
    rintro e w1 ⟨rfl, q, rfl⟩
    go_wp2_with fail
    go_ret2
    exact ⟨ret_ii en.out.2.symm en.out.1.symm, by repeat (first | with_reducible exact On.refl _ | apply On.drewN | apply On.alloc)⟩
set_option maxHeartbeats 4000000 in
theorem impl_NuAt (d f l fr i : Int) (a : Option Addr) (cap : Nat) (zs : List Int) (w : World) (hn : zs.length ≤ 1048576) (h : Ints w (.slice a zs.length cap) zs) :
    Calls Try.prog 18 #[.agg #[.int .i64 d, .int .i64 f, .int .i64 l, .slice a zs.length cap], .int .i64 fr, .int .i64 i] w fun e w' => e = .returned (.tuple #[.int .i64 (nuV d f l zs fr i), .int .i64 (nuC d f l zs fr i)]) ∧ On w w' := by
  have hA := fun w' (hb : On w w') => impl_sightAlong d f l fr a cap zs w' hn (h.below hb)
  by_cases hs : seeC d f l zs fr = 0
  · rw [hs] at hA
    have HA := Lib.hid hA
    obtain ⟨n, hzn, n0, n1, hzb, ⟨d0, d1⟩, ⟨f0, f1⟩, ⟨l0, l1⟩, fr0, fr1⟩ := see_at hs
    have hst := fun w => Prof.steps d f l a zs.length cap w hn
    rw [hzn, show ((((n + 1 : Nat)) : Int) - 1) = n from by omega] at hst
    have HST := Lib.hid hst
    cases hi : inB i 1 ((zs.length : Int) - 2) with
    | false =>
      have en := Lib.hid (nu_far hs hi)
      have hi' : inB i 1 ((n : Int) - 1) = false := by rw [← hi, hzn]; congr 1; omega
      rw [hzn] at HA ⊢
      clear hA h hs hzn hi hst
      go_enter Try.func18, Try.ntmps18
      go_wp2_with fail
      refine (HA.out _ (by repeat (first | with_reducible exact On.refl _ | apply On.alloc))).mono ?_
      rintro e w1 ⟨v, rfl, hv, hv', h1⟩
      obtain rfl := hv trivial
      obtain ⟨p0, p1, p2, p3⟩ : PIn w1 w.heap.size d f l (.slice a (n + 1) cap) := PIn.on ⟨by simp [go_sem], by simp [go_sem], by simp [go_sem], by simp [go_sem]⟩ h1
      have z1 : w.heap.size < w1.heap.size := World.block_lt_of_cell? w1 _ p0
      have HO := Lib.hid (show On w w1 by refine On.trans ?_ h1; repeat (first | with_reducible exact On.refl _ | apply On.alloc))
      clear h1 hv hv'
      go_wp2_with fail
      refine (HST.out _).mono ?_
      rintro e w2 ⟨rfl, h2⟩
      go_wp2_with fail
      refine (Arith.within _ _ _ _).mono ?_
      rintro e w' ⟨rfl, rfl⟩
      rw [hi']
      go_wp2_with fail
      go_ret2
      exact ⟨ret_ii en.out.2.symm en.out.1.symm, by refine On.trans ?_ h2; repeat (first | with_reducible exact HO.out | apply On.alloc | refine On.setCell ?_ (by (try simp) <;> omega) _)⟩
    | true =>
      have en := Lib.hid (nu_ok hs hi)
      have hib := of_inB hi
      obtain ⟨k, rfl⟩ := Int.eq_ofNat_of_zero_le (show 0 ≤ i by omega)
      obtain ⟨b, off, rfl, hb, hcell⟩ := slice_of h (by omega)
      obtain ⟨z, hz⟩ : ∃ z, z = zs.getD k 0 := ⟨_, rfl⟩
      have zb := hzb k (by omega)
      have hc := hcell k (by omega)
      rw [← hz] at zb hc
      obtain ⟨z0, z1⟩ := zb
      have EN := Lib.hid (show nuV d f l zs fr k = nu d f l n fr k z by rw [en.out.2, Int.toNat_natCast, ← hz, hzn, show (((n + 1 : Nat) : Int) - 1) = n from by omega])
      have HV := Lib.hid (fun w' (hw : On w w') => impl_parameter n cap k b off d f l z fr w' (hw.lts _ hb) ((hw.cell (p := ⟨b, off + k, none⟩) (by exact hb)).trans hc) z0 z1 d0 d1 f0 f1 l0 l1 (by omega) n0 n1 fr0 fr1)
      have hi' : inB (k : Int) 1 ((n : Int) - 1) = true := inB_yes (by omega) (by omega)
      rw [hzn] at HA ⊢
      clear hA h hs hzn hi hz hc hcell hzb hst
      go_enter Try.func18, Try.ntmps18
      go_wp2_with fail
      refine (HA.out _ (by repeat (first | with_reducible exact On.refl _ | apply On.alloc))).mono ?_
      rintro e w1 ⟨v, rfl, hv, hv', h1⟩
      obtain rfl := hv trivial
      obtain ⟨p0, p1, p2, p3⟩ : PIn w1 w.heap.size d f l (.slice (some ⟨b, off, none⟩) (n + 1) cap) := PIn.on ⟨by simp [go_sem], by simp [go_sem], by simp [go_sem], by simp [go_sem]⟩ h1
      have y1 : w.heap.size < w1.heap.size := World.block_lt_of_cell? w1 _ p0
      have HO := Lib.hid (show On w w1 by refine On.trans ?_ h1; repeat (first | with_reducible exact On.refl _ | apply On.alloc))
      clear h1 hv hv'
      go_wp2_with fail
      refine (HST.out _).mono ?_
      rintro e w2 ⟨rfl, h2⟩
      obtain ⟨⟨s0, s1, s2, s3⟩, s4⟩ : SIn w2 w1.heap.size d f l (.slice (some ⟨b, off, none⟩) (n + 1) cap) fr := SIn.on ⟨⟨by simp [go_sem], by simp [go_sem], by simp [go_sem], by simp [go_sem]⟩, by simp [go_sem]⟩ h2
      have HO2 := Lib.hid (show On w w2 by refine On.trans ?_ h2; repeat (first | with_reducible exact HO.out | apply On.alloc | refine On.setCell ?_ (by (try simp) <;> omega) _))
      clear h2
      go_wp2_with fail
      refine (Arith.within _ _ _ _).mono ?_
      rintro e w' ⟨rfl, rfl⟩
      rw [hi']
      go_wp2_with fail
      refine (HV.out _ HO2.out).mono ?_
      rintro e w3 ⟨rfl, h3⟩
      go_wp2_with fail
      go_ret2
      exact ⟨ret_ii EN.out.symm en.out.1.symm, HO2.out.trans h3⟩
  · have en := Lib.hid (nu_no (i := i) hs)
    have hb : (seeC d f l zs fr == 0) = false := beq_eq_false_iff_ne.2 hs
    have hb2 : (seeC d f l zs fr != 0) = true := bne_iff_ne.2 hs
    have HS := Lib.hid hs
    have HA := Lib.hid hA
    clear hA h hs
    go_enter Try.func18, Try.ntmps18
    go_wp2_with fail
    refine (HA.out _ (by repeat (first | with_reducible exact On.refl _ | apply On.alloc))).mono ?_
    rintro e w1 ⟨v, rfl, hv, hv', h1⟩
    have HO := Lib.hid (show On w w1 by refine On.trans ?_ h1; repeat (first | with_reducible exact On.refl _ | apply On.alloc))
    obtain rfl := hv' HS.out
    clear h1 hv hv'
    go_wp2_with fail
    go_ret2
    exact ⟨ret_ii en.out.2.symm en.out.1.symm, by repeat (first | with_reducible exact HO.out | apply On.alloc | refine On.setCell ?_ (by (try simp) <;> omega) _)⟩
end Go.Proofs.Ytmmhekakihimfaa.Nu
