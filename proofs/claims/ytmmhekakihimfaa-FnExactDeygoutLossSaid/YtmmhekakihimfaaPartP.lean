
/-
  A part of a profile, in the program, of its own memory. Condition: at most 1048576 heights.
-/
import Derived.Test.YtmmhekakihimfaaPart
import Derived.Deep.RegionHeld3
namespace Go.Proofs.Ytmmhekakihimfaa.Nu
open Go.RowKit
open Plain
open Ints (Ints Own)
open Prof (PIn okP of_okP slice_of off off_bd)
set_option maxRecDepth 100000 in
set_option maxHeartbeats 4000000 in
theorem impl_part (d f l i k : Int) (v : Value) (zs : List Int) (w : World) (hn : zs.length ≤ 1048576) (h : FitI w v zs) :
    Calls Try.prog 29 #[.agg #[.int .i64 d, .int .i64 f, .int .i64 l, v], .int .i64 i, .int .i64 k] w fun e w' => ∃ a c, e = .returned (.tuple #[.agg #[.int .i64 (rX (ptC d f l i k zs) (ptD d zs i k)), .int .i64 (rX (ptC d f l i k zs) (ptE f l zs i)), .int .i64 (rX (ptC d f l i k zs) (ptE f l zs k)), .slice a (rZ (ptC d f l i k zs) (ptZ zs i k)).length c], .int .i64 (ptC d f l i k zs)]) ∧ PRec.OwnR w.heap.size w' a (rZ (ptC d f l i k zs) (ptZ zs i k)).length c (rZ (ptC d f l i k zs) (ptZ zs i k)) ∧ On w w' := by
  obtain ⟨h, a, cap, rfl, hcap⟩ := h
  have HV := Lib.hid (fun w' (hb : On w w') => Prof.impl_valid d f l a cap zs w' hn (h.below hb))
  cases hok : okP d f l zs with
  | false =>
    rw [hok] at HV
    rw [pt_1 hok]
    clear h
    go_enter_defers Try.func29, Try.ntmps29
    go_wp2_with fail
    refine (HV.out _ (by repeat (first | with_reducible exact On.refl _ | apply On.alloc))).mono ?_
    rintro e w1 ⟨rfl, h1⟩
    have HO := Lib.hid (show On w w1 by refine On.trans ?_ h1; repeat (first | with_reducible exact On.refl _ | apply On.alloc))
    have HP := Lib.hid (show PRec.In w1 w.heap.size d f l (.slice a zs.length cap) from PRec.In.on ⟨by simp [go_sem], by simp [go_sem], by simp [go_sem], by simp [go_sem]⟩ h1)
    have HR := Lib.hid (show PIn w1 (w.heap.size + 1) 0 0 0 (.slice none 0 0) from PIn.on ⟨by simp [go_sem], by simp [go_sem], by simp [go_sem], by simp [go_sem]⟩ h1)
    have hpc : w1.cell? ⟨w.heap.size + 1 + 1, 0, none⟩ = some (.int .i64 0) := (h1.cell (by simp)).trans (by simp [go_sem])
    have HF := Lib.hid (show ∀ i, w1.frozen? ⟨w.heap.size + 1, i, none⟩ = false from fun i => (h1.frozen (by simp)).trans (by simp [go_sem]))
    have hkc : w1.frozen? ⟨w.heap.size + 1 + 1, 0, none⟩ = false := (h1.frozen (by simp)).trans (by simp [go_sem])
    have hg := World.block_lt_of_cell? w1 _ hpc
    have HPC := Lib.hid hpc
    have HKC := Lib.hid hkc
    clear h1 hpc hkc
    obtain ⟨p0, p1, p2, p3⟩ := HP.out.on (On.refl w1)
    obtain ⟨r0, r1, r2, r3⟩ := HR.out.on (On.refl w1)
    have pc := (On.cell (On.refl w1) (p := ⟨w.heap.size + 1 + 1, 0, none⟩) (by exact hg)).trans HPC.out
    have kc := (On.frozen (On.refl w1) (p := ⟨w.heap.size + 1 + 1, 0, none⟩) (by exact hg)).trans HKC.out
    have hgx := World.block_lt_of_cell? w1 _ pc
    have k0 := (On.frozen (On.refl w1) (p := ⟨w.heap.size + 1, 0, none⟩) (by exact Nat.lt_trans (Nat.lt_succ_self _) hg)).trans (HF.out 0)
    have k1 := (On.frozen (On.refl w1) (p := ⟨w.heap.size + 1, 1, none⟩) (by exact Nat.lt_trans (Nat.lt_succ_self _) hg)).trans (HF.out 1)
    have k2 := (On.frozen (On.refl w1) (p := ⟨w.heap.size + 1, 2, none⟩) (by exact Nat.lt_trans (Nat.lt_succ_self _) hg)).trans (HF.out 2)
    have k3 := (On.frozen (On.refl w1) (p := ⟨w.heap.size + 1, 3, none⟩) (by exact Nat.lt_trans (Nat.lt_succ_self _) hg)).trans (HF.out 3)
    go_wp2_with fail
    refine ⟨.tuple #[.agg #[.int .i64 0, .int .i64 0, .int .i64 0, .slice none 0 0], .int .i64 1], by simp [results, Try.results29, go_sem, r0, r1, r2, r3, pc], none, 0, rfl, ⟨rfl, Own.empty _ _ _ _⟩, ?_⟩
    repeat (first | with_reducible exact HO.out | refine On.setCell ?_ (by (try simp) <;> omega) _)
  | true =>
    rw [hok] at HV
    obtain ⟨⟨d0, d1⟩, ⟨n2, n65⟩, -⟩ := of_okP hok
    obtain ⟨n, hzn⟩ : ∃ n, zs.length = n + 1 := ⟨zs.length - 1, by omega⟩
    obtain ⟨b, off, rfl, hb, hc⟩ := slice_of h (by omega)
    have hst := fun w => Prof.steps d f l (some ⟨b, off, none⟩) (n + 1) cap w (by omega)
    rw [show ((((n + 1 : Nat)) : Int) - 1) = n from by omega] at hst
    have HST := Lib.hid hst
    have hnn : ((zs.length : Int) - 1) = n := by omega
    cases hi : inB i 0 (n : Int) with
    | false =>
      rw [pt_2 hok (by unfold ptB; rw [hnn, hi]; rfl)]
      rw [hzn] at HV ⊢
      clear h hc hst hnn
      go_enter_defers Try.func29, Try.ntmps29
      go_wp2_with fail
      refine (HV.out _ (by repeat (first | with_reducible exact On.refl _ | apply On.alloc))).mono ?_
      rintro e w1 ⟨rfl, h1⟩
      have HO := Lib.hid (show On w w1 by refine On.trans ?_ h1; repeat (first | with_reducible exact On.refl _ | apply On.alloc))
      have HP := Lib.hid (show PRec.In w1 w.heap.size d f l (.slice (some ⟨b, off, none⟩) (n + 1) cap) from PRec.In.on ⟨by simp [go_sem], by simp [go_sem], by simp [go_sem], by simp [go_sem]⟩ h1)
      have HR := Lib.hid (show PIn w1 (w.heap.size + 1) 0 0 0 (.slice none 0 0) from PIn.on ⟨by simp [go_sem], by simp [go_sem], by simp [go_sem], by simp [go_sem]⟩ h1)
      have hpc : w1.cell? ⟨w.heap.size + 1 + 1, 0, none⟩ = some (.int .i64 0) := (h1.cell (by simp)).trans (by simp [go_sem])
      have HF := Lib.hid (show ∀ i, w1.frozen? ⟨w.heap.size + 1, i, none⟩ = false from fun i => (h1.frozen (by simp)).trans (by simp [go_sem]))
      have hkc : w1.frozen? ⟨w.heap.size + 1 + 1, 0, none⟩ = false := (h1.frozen (by simp)).trans (by simp [go_sem])
      have hg := World.block_lt_of_cell? w1 _ hpc
      have HPC := Lib.hid hpc
      have HKC := Lib.hid hkc
      clear h1 hpc hkc
      obtain ⟨p0, p1, p2, p3⟩ := HP.out.on (On.refl w1)
      obtain ⟨r0, r1, r2, r3⟩ := HR.out.on (On.refl w1)
      have pc := (On.cell (On.refl w1) (p := ⟨w.heap.size + 1 + 1, 0, none⟩) (by exact hg)).trans HPC.out
      have kc := (On.frozen (On.refl w1) (p := ⟨w.heap.size + 1 + 1, 0, none⟩) (by exact hg)).trans HKC.out
      have hgx := World.block_lt_of_cell? w1 _ pc
      have k0 := (On.frozen (On.refl w1) (p := ⟨w.heap.size + 1, 0, none⟩) (by exact Nat.lt_trans (Nat.lt_succ_self _) hg)).trans (HF.out 0)
      have k1 := (On.frozen (On.refl w1) (p := ⟨w.heap.size + 1, 1, none⟩) (by exact Nat.lt_trans (Nat.lt_succ_self _) hg)).trans (HF.out 1)
      have k2 := (On.frozen (On.refl w1) (p := ⟨w.heap.size + 1, 2, none⟩) (by exact Nat.lt_trans (Nat.lt_succ_self _) hg)).trans (HF.out 2)
      have k3 := (On.frozen (On.refl w1) (p := ⟨w.heap.size + 1, 3, none⟩) (by exact Nat.lt_trans (Nat.lt_succ_self _) hg)).trans (HF.out 3)
      go_wp2_with fail
      refine (HST.out _).mono ?_
      rintro e ws1 ⟨rfl, hs1⟩
      have HS1 := Lib.hid (show On w1 ws1 from hs1)
      clear hs1 p0 p1 p2 p3 r0 r1 r2 r3 pc kc hgx k0 k1 k2 k3
      obtain ⟨p0, p1, p2, p3⟩ := HP.out.on HS1.out
      obtain ⟨r0, r1, r2, r3⟩ := HR.out.on HS1.out
      have pc := (On.cell HS1.out (p := ⟨w.heap.size + 1 + 1, 0, none⟩) (by exact hg)).trans HPC.out
      have kc := (On.frozen HS1.out (p := ⟨w.heap.size + 1 + 1, 0, none⟩) (by exact hg)).trans HKC.out
      have hgx := World.block_lt_of_cell? ws1 _ pc
      have k0 := (On.frozen HS1.out (p := ⟨w.heap.size + 1, 0, none⟩) (by exact Nat.lt_trans (Nat.lt_succ_self _) hg)).trans (HF.out 0)
      have k1 := (On.frozen HS1.out (p := ⟨w.heap.size + 1, 1, none⟩) (by exact Nat.lt_trans (Nat.lt_succ_self _) hg)).trans (HF.out 1)
      have k2 := (On.frozen HS1.out (p := ⟨w.heap.size + 1, 2, none⟩) (by exact Nat.lt_trans (Nat.lt_succ_self _) hg)).trans (HF.out 2)
      have k3 := (On.frozen HS1.out (p := ⟨w.heap.size + 1, 3, none⟩) (by exact Nat.lt_trans (Nat.lt_succ_self _) hg)).trans (HF.out 3)
      go_wp2_with fail
      refine (Arith.within _ _ _ _).mono ?_
      rintro e w' ⟨rfl, rfl⟩
      rw [hi]
      go_wp2_with fail
      refine ⟨.tuple #[.agg #[.int .i64 0, .int .i64 0, .int .i64 0, .slice none 0 0], .int .i64 2], by simp [results, Try.results29, go_sem, r0, r1, r2, r3, pc], none, 0, rfl, ⟨rfl, Own.empty _ _ _ _⟩, ?_⟩
      repeat (first | with_reducible exact HO.out.trans HS1.out | refine On.setCell ?_ (by (try simp) <;> omega) _)
    | true =>
      obtain ⟨i0, i1⟩ := of_inB hi
      have ei : IntKind.i64.wrap (i + 1) = i + 1 := IntWalk.i64_in _ (by omega)
      cases hk : inB k (i + 1) (n : Int) with
      | false =>
        rw [pt_2 hok (by unfold ptB; rw [hnn, hi, hk]; rfl)]
        rw [hzn] at HV ⊢
        clear h hc hst hnn
        go_enter_defers Try.func29, Try.ntmps29
        go_wp2_with fail
        refine (HV.out _ (by repeat (first | with_reducible exact On.refl _ | apply On.alloc))).mono ?_
        rintro e w1 ⟨rfl, h1⟩
        have HO := Lib.hid (show On w w1 by refine On.trans ?_ h1; repeat (first | with_reducible exact On.refl _ | apply On.alloc))
        have HP := Lib.hid (show PRec.In w1 w.heap.size d f l (.slice (some ⟨b, off, none⟩) (n + 1) cap) from PRec.In.on ⟨by simp [go_sem], by simp [go_sem], by simp [go_sem], by simp [go_sem]⟩ h1)
        have HR := Lib.hid (show PIn w1 (w.heap.size + 1) 0 0 0 (.slice none 0 0) from PIn.on ⟨by simp [go_sem], by simp [go_sem], by simp [go_sem], by simp [go_sem]⟩ h1)
        have hpc : w1.cell? ⟨w.heap.size + 1 + 1, 0, none⟩ = some (.int .i64 0) := (h1.cell (by simp)).trans (by simp [go_sem])
        have HF := Lib.hid (show ∀ i, w1.frozen? ⟨w.heap.size + 1, i, none⟩ = false from fun i => (h1.frozen (by simp)).trans (by simp [go_sem]))
        have hkc : w1.frozen? ⟨w.heap.size + 1 + 1, 0, none⟩ = false := (h1.frozen (by simp)).trans (by simp [go_sem])
        have hg := World.block_lt_of_cell? w1 _ hpc
        have HPC := Lib.hid hpc
        have HKC := Lib.hid hkc
        clear h1 hpc hkc
        obtain ⟨p0, p1, p2, p3⟩ := HP.out.on (On.refl w1)
        obtain ⟨r0, r1, r2, r3⟩ := HR.out.on (On.refl w1)
        have pc := (On.cell (On.refl w1) (p := ⟨w.heap.size + 1 + 1, 0, none⟩) (by exact hg)).trans HPC.out
        have kc := (On.frozen (On.refl w1) (p := ⟨w.heap.size + 1 + 1, 0, none⟩) (by exact hg)).trans HKC.out
        have hgx := World.block_lt_of_cell? w1 _ pc
        have k0 := (On.frozen (On.refl w1) (p := ⟨w.heap.size + 1, 0, none⟩) (by exact Nat.lt_trans (Nat.lt_succ_self _) hg)).trans (HF.out 0)
        have k1 := (On.frozen (On.refl w1) (p := ⟨w.heap.size + 1, 1, none⟩) (by exact Nat.lt_trans (Nat.lt_succ_self _) hg)).trans (HF.out 1)
        have k2 := (On.frozen (On.refl w1) (p := ⟨w.heap.size + 1, 2, none⟩) (by exact Nat.lt_trans (Nat.lt_succ_self _) hg)).trans (HF.out 2)
        have k3 := (On.frozen (On.refl w1) (p := ⟨w.heap.size + 1, 3, none⟩) (by exact Nat.lt_trans (Nat.lt_succ_self _) hg)).trans (HF.out 3)
        go_wp2_with fail
        refine (HST.out _).mono ?_
        rintro e ws1 ⟨rfl, hs1⟩
        have HS1 := Lib.hid (show On w1 ws1 from hs1)
        clear hs1 p0 p1 p2 p3 r0 r1 r2 r3 pc kc hgx k0 k1 k2 k3
        obtain ⟨p0, p1, p2, p3⟩ := HP.out.on HS1.out
        obtain ⟨r0, r1, r2, r3⟩ := HR.out.on HS1.out
        have pc := (On.cell HS1.out (p := ⟨w.heap.size + 1 + 1, 0, none⟩) (by exact hg)).trans HPC.out
        have kc := (On.frozen HS1.out (p := ⟨w.heap.size + 1 + 1, 0, none⟩) (by exact hg)).trans HKC.out
        have hgx := World.block_lt_of_cell? ws1 _ pc
        have k0 := (On.frozen HS1.out (p := ⟨w.heap.size + 1, 0, none⟩) (by exact Nat.lt_trans (Nat.lt_succ_self _) hg)).trans (HF.out 0)
        have k1 := (On.frozen HS1.out (p := ⟨w.heap.size + 1, 1, none⟩) (by exact Nat.lt_trans (Nat.lt_succ_self _) hg)).trans (HF.out 1)
        have k2 := (On.frozen HS1.out (p := ⟨w.heap.size + 1, 2, none⟩) (by exact Nat.lt_trans (Nat.lt_succ_self _) hg)).trans (HF.out 2)
        have k3 := (On.frozen HS1.out (p := ⟨w.heap.size + 1, 3, none⟩) (by exact Nat.lt_trans (Nat.lt_succ_self _) hg)).trans (HF.out 3)
        go_wp2_with fail
        refine (Arith.within _ _ _ _).mono ?_
        rintro e w' ⟨rfl, rfl⟩
        rw [hi]
        go_wp2_with fail
        refine (HST.out _).mono ?_
        rintro e ws2 ⟨rfl, hs2⟩
        have HS2 := Lib.hid (show On w1 ws2 from On.trans HS1.out hs2)
        clear hs2 p0 p1 p2 p3 r0 r1 r2 r3 pc kc hgx k0 k1 k2 k3
        obtain ⟨p0, p1, p2, p3⟩ := HP.out.on HS2.out
        obtain ⟨r0, r1, r2, r3⟩ := HR.out.on HS2.out
        have pc := (On.cell HS2.out (p := ⟨w.heap.size + 1 + 1, 0, none⟩) (by exact hg)).trans HPC.out
        have kc := (On.frozen HS2.out (p := ⟨w.heap.size + 1 + 1, 0, none⟩) (by exact hg)).trans HKC.out
        have hgx := World.block_lt_of_cell? ws2 _ pc
        have k0 := (On.frozen HS2.out (p := ⟨w.heap.size + 1, 0, none⟩) (by exact Nat.lt_trans (Nat.lt_succ_self _) hg)).trans (HF.out 0)
        have k1 := (On.frozen HS2.out (p := ⟨w.heap.size + 1, 1, none⟩) (by exact Nat.lt_trans (Nat.lt_succ_self _) hg)).trans (HF.out 1)
        have k2 := (On.frozen HS2.out (p := ⟨w.heap.size + 1, 2, none⟩) (by exact Nat.lt_trans (Nat.lt_succ_self _) hg)).trans (HF.out 2)
        have k3 := (On.frozen HS2.out (p := ⟨w.heap.size + 1, 3, none⟩) (by exact Nat.lt_trans (Nat.lt_succ_self _) hg)).trans (HF.out 3)
        go_wp2_with fail
        refine (Arith.within _ _ _ _).mono ?_
        rintro e w' ⟨rfl, rfl⟩
        rw [hk]
        go_wp2_with fail
        refine ⟨.tuple #[.agg #[.int .i64 0, .int .i64 0, .int .i64 0, .slice none 0 0], .int .i64 2], by simp [results, Try.results29, go_sem, r0, r1, r2, r3, pc], none, 0, rfl, ⟨rfl, Own.empty _ _ _ _⟩, ?_⟩
        repeat (first | with_reducible exact HO.out.trans HS2.out | refine On.setCell ?_ (by (try simp) <;> omega) _)
      | true =>
        obtain ⟨j0, j1⟩ := of_inB hk
        obtain ⟨i', rfl⟩ := Int.eq_ofNat_of_zero_le i0
        obtain ⟨k', rfl⟩ := Int.eq_ofNat_of_zero_le (show 0 ≤ k by omega)
        have HPB := Lib.hid (show ptB zs (i' : Int) (k' : Int) = true by unfold ptB; rw [hnn, hi, hk]; rfl)
        have HOK := Lib.hid hok
        have en : okP (ptD d zs i' k') (ptE f l zs i') (ptE f l zs k') (ptZ zs i' k') = true ∨ okP (ptD d zs i' k') (ptE f l zs i') (ptE f l zs k') (ptZ zs i' k') = false := by cases okP (ptD d zs i' k') (ptE f l zs i') (ptE f l zs k') (ptZ zs i' k') <;> simp
        have hcl : (ptZ zs i' k').length = k' + 1 - i' := by unfold ptZ; rw [Int.toNat_natCast, Int.toNat_natCast, cut_len (by omega)]
        have hcc := fun j (hj : j < k' + 1 - i') => show (ptZ zs i' k').getD j 0 = zs.getD (i' + j) 0 by unfold ptZ; rw [Int.toNat_natCast, Int.toNat_natCast, cut_at hj]
        have hE1 := fun w' (hw : On w w') => impl_endAt n cap b off i' d f l (zs.getD i' 0) w' (hw.lts _ hb) ((hw.cell (p := ⟨b, off + i', none⟩) (by exact hb)).trans (hc i' (by omega))) (by omega) (by omega) (by omega)
        have hE2 := fun w' (hw : On w w') => impl_endAt n cap b off k' d f l (zs.getD k' 0) w' (hw.lts _ hb) ((hw.cell (p := ⟨b, off + k', none⟩) (by exact hb)).trans (hc k' (by omega))) (by omega) (by omega) (by omega)
        rw [show endV f l n i' (zs.getD i' 0) = ptE f l zs i' from by unfold ptE; rw [Int.toNat_natCast, hzn]; rfl] at hE1
        rw [show endV f l n k' (zs.getD k' 0) = ptE f l zs k' from by unfold ptE; rw [Int.toNat_natCast, hzn]; rfl] at hE2
        have hO1 := fun w => Prof.impl_offset n cap d f l i' (some ⟨b, off, none⟩) w d0 d1 (by omega) (by omega) (by omega) (by omega)
        have hO2 := fun w => Prof.impl_offset n cap d f l k' (some ⟨b, off, none⟩) w d0 d1 (by omega) (by omega) (by omega) (by omega)
        have hof : ptD d zs i' k' = Prof.off d n k' - Prof.off d n i' := by unfold ptD; rw [hnn]
        obtain ⟨o0, o1⟩ := off_bd (d := d) (n := n) (i := i') (by omega) (by omega) (by omega) (by omega)
        obtain ⟨o2, o3⟩ := off_bd (d := d) (n := n) (i := k') (by omega) (by omega) (by omega) (by omega)
        have hCL := fun w' (hw : On w w') => Clone.lib_clone b (off + i') (cap - i') (ptZ zs i' k') w' (by omega) (by omega) (hw.lts _ hb) (fun j hj => by rw [hcc j (by omega), Nat.add_assoc]; exact (hw.cell (p := ⟨b, off + (i' + j), none⟩) (by exact hb)).trans (hc _ (by omega)))
        rw [hcl] at hCL
        have HE1 := Lib.hid hE1
        have HE2 := Lib.hid hE2
        have HO1 := Lib.hid hO1
        have HO2 := Lib.hid hO2
        have HCL := Lib.hid hCL
        have HZL := Lib.hid hcl
        have HOF := Lib.hid hof
        have EN := Lib.hid en
        generalize Prof.off d n i' = oi at *
        generalize Prof.off d n k' = ok at *
        have eo : IntKind.i64.wrap (ok - oi) = ok - oi := IntWalk.i64_in _ (by omega)
        have P0 := Lib.hid (fun q => pt_0 (d := d) (f := f) (l := l) (i := i') (k := k') (zs := zs) HOK.out HPB.out q)
        have P6 := Lib.hid (fun q => pt_6 (d := d) (f := f) (l := l) (i := i') (k := k') (zs := zs) HOK.out HPB.out q)
        have hl1 : (i' : Int) ≤ (k' : Int) + 1 := by omega
        have hl2 : (k' : Int) + 1 ≤ (cap : Int) := by omega
        have hl0 : (0 : Int) ≤ (i' : Int) := by omega
        have ek : IntKind.i64.wrap ((k' : Int) + 1) = (k' : Int) + 1 := IntWalk.i64_in _ (by omega)
        rw [hzn] at HV
        generalize ptE f l zs i' = ei' at *
        generalize ptE f l zs k' = ek' at *
        clear h hc hst hnn hcl hcc hE1 hE2 hO1 hO2 hCL hof en
        have hsl : (.slice (some ⟨b, off, none⟩) zs.length cap : Value) = .slice (some ⟨b, off, none⟩) (n + 1) cap := by rw [hzn]
        rw [hsl]
        have HZN := Lib.hid hzn
        clear hsl hzn hok
        go_enter_defers Try.func29, Try.ntmps29
        go_wp2_with fail
        refine (HV.out _ (by repeat (first | with_reducible exact On.refl _ | apply On.alloc))).mono ?_
        rintro e w1 ⟨rfl, h1⟩
        have HO := Lib.hid (show On w w1 by refine On.trans ?_ h1; repeat (first | with_reducible exact On.refl _ | apply On.alloc))
        have HP := Lib.hid (show PRec.In w1 w.heap.size d f l (.slice (some ⟨b, off, none⟩) (n + 1) cap) from PRec.In.on ⟨by simp [go_sem], by simp [go_sem], by simp [go_sem], by simp [go_sem]⟩ h1)
        have HR := Lib.hid (show PIn w1 (w.heap.size + 1) 0 0 0 (.slice none 0 0) from PIn.on ⟨by simp [go_sem], by simp [go_sem], by simp [go_sem], by simp [go_sem]⟩ h1)
        have hpc : w1.cell? ⟨w.heap.size + 1 + 1, 0, none⟩ = some (.int .i64 0) := (h1.cell (by simp)).trans (by simp [go_sem])
        have HF := Lib.hid (show ∀ i, w1.frozen? ⟨w.heap.size + 1, i, none⟩ = false from fun i => (h1.frozen (by simp)).trans (by simp [go_sem]))
        have hkc : w1.frozen? ⟨w.heap.size + 1 + 1, 0, none⟩ = false := (h1.frozen (by simp)).trans (by simp [go_sem])
        have hg := World.block_lt_of_cell? w1 _ hpc
        have HPC := Lib.hid hpc
        have HKC := Lib.hid hkc
        clear h1 hpc hkc
        obtain ⟨p0, p1, p2, p3⟩ := HP.out.on (On.refl w1)
        obtain ⟨r0, r1, r2, r3⟩ := HR.out.on (On.refl w1)
        have pc := (On.cell (On.refl w1) (p := ⟨w.heap.size + 1 + 1, 0, none⟩) (by exact hg)).trans HPC.out
        have kc := (On.frozen (On.refl w1) (p := ⟨w.heap.size + 1 + 1, 0, none⟩) (by exact hg)).trans HKC.out
        have hgx := World.block_lt_of_cell? w1 _ pc
        have k0 := (On.frozen (On.refl w1) (p := ⟨w.heap.size + 1, 0, none⟩) (by exact Nat.lt_trans (Nat.lt_succ_self _) hg)).trans (HF.out 0)
        have k1 := (On.frozen (On.refl w1) (p := ⟨w.heap.size + 1, 1, none⟩) (by exact Nat.lt_trans (Nat.lt_succ_self _) hg)).trans (HF.out 1)
        have k2 := (On.frozen (On.refl w1) (p := ⟨w.heap.size + 1, 2, none⟩) (by exact Nat.lt_trans (Nat.lt_succ_self _) hg)).trans (HF.out 2)
        have k3 := (On.frozen (On.refl w1) (p := ⟨w.heap.size + 1, 3, none⟩) (by exact Nat.lt_trans (Nat.lt_succ_self _) hg)).trans (HF.out 3)
        go_wp2_with fail
        refine (HST.out _).mono ?_
        rintro e ws1 ⟨rfl, hs1⟩
        have HS1 := Lib.hid (show On w1 ws1 from hs1)
        clear hs1 p0 p1 p2 p3 r0 r1 r2 r3 pc kc hgx k0 k1 k2 k3
        obtain ⟨p0, p1, p2, p3⟩ := HP.out.on HS1.out
        obtain ⟨r0, r1, r2, r3⟩ := HR.out.on HS1.out
        have pc := (On.cell HS1.out (p := ⟨w.heap.size + 1 + 1, 0, none⟩) (by exact hg)).trans HPC.out
        have kc := (On.frozen HS1.out (p := ⟨w.heap.size + 1 + 1, 0, none⟩) (by exact hg)).trans HKC.out
        have hgx := World.block_lt_of_cell? ws1 _ pc
        have k0 := (On.frozen HS1.out (p := ⟨w.heap.size + 1, 0, none⟩) (by exact Nat.lt_trans (Nat.lt_succ_self _) hg)).trans (HF.out 0)
        have k1 := (On.frozen HS1.out (p := ⟨w.heap.size + 1, 1, none⟩) (by exact Nat.lt_trans (Nat.lt_succ_self _) hg)).trans (HF.out 1)
        have k2 := (On.frozen HS1.out (p := ⟨w.heap.size + 1, 2, none⟩) (by exact Nat.lt_trans (Nat.lt_succ_self _) hg)).trans (HF.out 2)
        have k3 := (On.frozen HS1.out (p := ⟨w.heap.size + 1, 3, none⟩) (by exact Nat.lt_trans (Nat.lt_succ_self _) hg)).trans (HF.out 3)
        go_wp2_with fail
        refine (Arith.within _ _ _ _).mono ?_
        rintro e w' ⟨rfl, rfl⟩
        rw [hi]
        go_wp2_with fail
        refine (HST.out _).mono ?_
        rintro e ws2 ⟨rfl, hs2⟩
        have HS2 := Lib.hid (show On w1 ws2 from On.trans HS1.out hs2)
        clear hs2 p0 p1 p2 p3 r0 r1 r2 r3 pc kc hgx k0 k1 k2 k3
        obtain ⟨p0, p1, p2, p3⟩ := HP.out.on HS2.out
        obtain ⟨r0, r1, r2, r3⟩ := HR.out.on HS2.out
        have pc := (On.cell HS2.out (p := ⟨w.heap.size + 1 + 1, 0, none⟩) (by exact hg)).trans HPC.out
        have kc := (On.frozen HS2.out (p := ⟨w.heap.size + 1 + 1, 0, none⟩) (by exact hg)).trans HKC.out
        have hgx := World.block_lt_of_cell? ws2 _ pc
        have k0 := (On.frozen HS2.out (p := ⟨w.heap.size + 1, 0, none⟩) (by exact Nat.lt_trans (Nat.lt_succ_self _) hg)).trans (HF.out 0)
        have k1 := (On.frozen HS2.out (p := ⟨w.heap.size + 1, 1, none⟩) (by exact Nat.lt_trans (Nat.lt_succ_self _) hg)).trans (HF.out 1)
        have k2 := (On.frozen HS2.out (p := ⟨w.heap.size + 1, 2, none⟩) (by exact Nat.lt_trans (Nat.lt_succ_self _) hg)).trans (HF.out 2)
        have k3 := (On.frozen HS2.out (p := ⟨w.heap.size + 1, 3, none⟩) (by exact Nat.lt_trans (Nat.lt_succ_self _) hg)).trans (HF.out 3)
        go_wp2_with fail
        refine (Arith.within _ _ _ _).mono ?_
        rintro e w' ⟨rfl, rfl⟩
        rw [hk]
        go_upto_region 6 with fail
        have HPS := Lib.hid (show PRec.In ws2 w.heap.size d f l (.slice (some ⟨b, off, none⟩) (n + 1) cap) from HP.out.on HS2.out)
        have hgR : w.heap.size + 1 < ws2.heap.size := by omega
        have hsx := HO.out.size
        go_region_held3 (fun w' => Below (w.heap.size + 1) ws2 w' ∧ w'.cell? ⟨w.heap.size, 0, none⟩ = some (.int .i64 d) ∧ w'.cell? ⟨w.heap.size, 1, none⟩ = some (.int .i64 f) ∧ w'.cell? ⟨w.heap.size, 2, none⟩ = some (.int .i64 l) ∧ w'.cell? ⟨w.heap.size, 3, none⟩ = some (.slice (some ⟨b, off, none⟩) (n + 1) cap))
          ((refine held_at HPS.out (Nat.lt_succ_self _) ?_; repeat (first | with_reducible exact Below.refl _ _ | with_reducible assumption | apply Below.drew | (obtain ⟨hOW, _⟩ := ‹Below _ ws2 _ ∧ _›; exact hOW) | (refine Below.setCell ?_ (by (try simp) <;> omega) _))))
          (first
            | (go_at_call 61; (first | with_reducible refine (HO1.out _).mono ?_ | with_reducible refine (HO2.out _).mono ?_); rintro e w' ⟨rfl, hcall⟩; (have hx : On ws2 w' := by refine On.trans ?_ hcall; repeat (first | with_reducible exact On.refl _ | with_reducible exact Below.refl _ _ | with_reducible assumption | apply On.drew | apply Below.drew)); (have hxB : Below (w.heap.size + 1) ws2 w' := Below.mono hx (by omega)))
            | (go_at_call 62; (first | with_reducible refine (HE1.out _ (On.trans HO.out (On.trans HS2.out (by repeat (first | with_reducible exact On.refl _ | with_reducible exact Below.refl _ _ | with_reducible assumption | apply On.drew | apply Below.drew))))).mono ?_ | with_reducible refine (HE2.out _ (On.trans HO.out (On.trans HS2.out (by repeat (first | with_reducible exact On.refl _ | with_reducible exact Below.refl _ _ | with_reducible assumption | apply On.drew | apply Below.drew))))).mono ?_); rintro e w' ⟨rfl, hcall⟩; (have hx : On ws2 w' := by refine On.trans ?_ hcall; repeat (first | with_reducible exact On.refl _ | with_reducible exact Below.refl _ _ | with_reducible assumption | apply On.drew | apply Below.drew)); (have hxB : Below (w.heap.size + 1) ws2 w' := Below.mono hx (by omega)))
            | (go_at_call 63; refine (HCL.out _ (On.trans HO.out (On.trans HS2.out (by repeat (first | with_reducible exact On.refl _ | with_reducible exact Below.refl _ _ | with_reducible assumption | apply On.drew | apply Below.drew))))).mono ?_; rintro e w' ⟨a', c', rfl, hown, hcall⟩; (have hx : On ws2 w' := by refine On.trans ?_ hcall; repeat (first | with_reducible exact On.refl _ | with_reducible exact Below.refl _ _ | with_reducible assumption | apply On.drew | apply Below.drew)); (have hxB : Below (w.heap.size + 1) ws2 w' := Below.mono hx (by omega)); (have hown2 := hown.mono (B' := ws2.heap.size) (by refine Below.size (B := ws2.heap.size) (w := ws2) (show On ws2 _ from ?_); repeat (first | with_reducible exact On.refl _ | with_reducible exact Below.refl _ _ | with_reducible assumption | apply On.drew | apply Below.drew))); obtain ⟨z0, z1, z2, z3⟩ := HR.out.on (HS2.out.trans hx); (have zc := (hx.cell (p := ⟨w.heap.size + 1 + 1, 0, none⟩) (by exact hgx)).trans pc); (have y0 := (hx.frozen (p := ⟨w.heap.size + 1, 0, none⟩) (by exact hgR)).trans k0); (have y1 := (hx.frozen (p := ⟨w.heap.size + 1, 1, none⟩) (by exact hgR)).trans k1); (have y2 := (hx.frozen (p := ⟨w.heap.size + 1, 2, none⟩) (by exact hgR)).trans k2); (have y3 := (hx.frozen (p := ⟨w.heap.size + 1, 3, none⟩) (by exact hgR)).trans k3); (have yc := (hx.frozen (p := ⟨w.heap.size + 1 + 1, 0, none⟩) (by exact hgx)).trans kc); have hsz := hcall.size; (try simp at hsz)))
        all_goals
          go_wp2_with fail
          obtain ⟨WX, hWX⟩ : ∃ WX, WX = (((((w'.setCell ⟨w.heap.size + 1, 0, none⟩ (.int .i64 (ok - oi))).setCell ⟨w.heap.size + 1, 1, none⟩ (.int .i64 ei')).setCell ⟨w.heap.size + 1, 2, none⟩ (.int .i64 ek')).setCell ⟨w.heap.size + 1, 3, none⟩ (.slice a' (k' + 1 - i') c')).setCell ⟨w.heap.size + 1 + 1, 0, none⟩ (.int .i64 0)) := ⟨_, rfl⟩
          rw [← hWX]
          have HD0 : PIn WX (w.heap.size + 1) (ok - oi) ei' ek' (.slice a' (k' + 1 - i') c') := by rw [hWX]; exact ⟨by simp [go_sem, z0], by simp [go_sem, z1], by simp [go_sem, z2], by simp [go_sem, z3]⟩
          have HW0 : Own ws2.heap.size WX (.slice a' (k' + 1 - i') c') (ptZ zs i' k') := by rw [hWX]; repeat (first | with_reducible exact hown2 | exact hown2 | refine Own.setCell ?_ (by (try simp) <;> omega) _)
          have HCc : WX.cell? ⟨w.heap.size + 1 + 1, 0, none⟩ = some (.int .i64 0) := by rw [hWX]; simp [go_sem, zc]
          have HFr : ∀ i, WX.frozen? ⟨w.heap.size + 1, i, none⟩ = false := fun i => by rw [hWX]; simp only [World.frozen?_setCell]; exact ((On.trans HS2.out hx).frozen (p := ⟨w.heap.size + 1, i, none⟩) (by exact Nat.lt_trans (Nat.lt_succ_self _) hg)).trans (HF.out i)
          have HFc : WX.frozen? ⟨w.heap.size + 1 + 1, 0, none⟩ = false := by rw [hWX]; simp only [World.frozen?_setCell]; exact yc
          have HOX : On w WX := by rw [hWX]; repeat (first | with_reducible exact On.trans HO.out (On.trans HS2.out hx) | refine On.setCell ?_ (by (try simp) <;> omega) _)
          clear hWX
          have hzl : (ptZ zs i' k').length ≤ 1048576 := by rw [HZL.out]; have := HZN.out; omega
          rw [HOF.out] at EN P0 P6
          rw [← HZL.out] at HD0 HW0
          rw [HOF.out]
          rcases EN.out with hk | hk
          · rw [P0.out hk]
            refine leaves_cons (f := 60) (args := #[.pointer (some ⟨w.heap.size + 1, 0, none⟩), .pointer (some ⟨w.heap.size + 1 + 1, 0, none⟩)]) (by simp) (by simp [go_sem]) ?_
            refine (drop_ok (w.heap.size + 1) (w.heap.size + 1 + 1) (ok - oi) ei' ek' a' c' (ptZ zs i' k') .returning _ hzl HD0 HW0.ints hk).mono ?_
            rintro e u' w'' ⟨rfl, rfl, h2⟩
            obtain ⟨d0, d1, d2, d3⟩ := HD0.on h2
            have dc := (h2.cell (p := ⟨w.heap.size + 1 + 1, 0, none⟩) (by exact World.block_lt_of_cell? _ _ HCc)).trans HCc
            refine ⟨.tuple #[.agg #[.int .i64 (ok - oi), .int .i64 ei', .int .i64 ek', .slice a' (ptZ zs i' k').length c'], .int .i64 0], by simp [results, Try.results29, go_sem, d0, d1, d2, d3, dc], a', c', rfl, ⟨rfl, ?_⟩, HOX.trans h2⟩
            exact (HW0.below h2).mono (by omega)
          · rw [P6.out hk]
            refine leaves_cons (f := 60) (args := #[.pointer (some ⟨w.heap.size + 1, 0, none⟩), .pointer (some ⟨w.heap.size + 1 + 1, 0, none⟩)]) (by simp) (by simp [go_sem]) ?_
            refine (drop_no (w.heap.size + 1) (w.heap.size + 1 + 1) w.heap.size (ok - oi) ei' ek' 0 a' c' (ptZ zs i' k') .returning _ hzl HD0 HW0.ints hk HCc HFr HFc (by omega) (by omega) (by omega)).mono ?_
            rintro e u' w'' ⟨rfl, rfl, ⟨d0, d1, d2, d3⟩, dc, h2⟩
            refine ⟨.tuple #[.agg #[.int .i64 0, .int .i64 0, .int .i64 0, .slice none 0 0], .int .i64 6], by simp [results, Try.results29, go_sem, d0, d1, d2, d3, dc], none, 0, rfl, ⟨rfl, Own.empty _ _ _ _⟩, Below.trans HOX h2⟩
end Go.Proofs.Ytmmhekakihimfaa.Nu
