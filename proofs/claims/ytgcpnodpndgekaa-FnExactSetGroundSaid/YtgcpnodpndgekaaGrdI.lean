
/-
  A change of a grid point, the program's. No condition but the slices' lengths.
-/
import Derived.Test.YtgcpnodpndgekaaGrd0
import Derived.Test.YtgcpnodpndgekaaTerrOkI
import Derived.Test.YtgcpnodpndgekaaTerrClut
import Derived.Test.YtgcpnodpndgekaaClone
import Derived.Deep.RegionWith
import Derived.Deep.DeepCutAuto
namespace Go.Proofs.Ytgcpnodpndgekaa.Grd
open Go.RowKit
open Plain Terr
open Ints (Ints Own)
theorem impl_has (s x y px py : Int) (w : World) (x0 : 2 ≤ x) (x1 : x ≤ 24) (y0 : 2 ≤ y) (y1 : y ≤ 24) :
    Calls Try.prog 18 #[.agg #[.int .i64 s, .int .i64 x, .int .i64 y], .int .i64 px, .int .i64 py] w fun e w' => e = .returned (.bool (hasB x y px py)) ∧ On w w' := by
  have w1 : IntKind.i64.wrap (x - 1) = x - 1 := IntWalk.i64_in _ (by omega)
  have w2 : IntKind.i64.wrap (y - 1) = y - 1 := IntWalk.i64_in _ (by omega)
  have H1 := Lib.hid (fun w => Arith.within px 0 (x - 1) w)
  have H2 := Lib.hid (fun w => Arith.within py 0 (y - 1) w)
  cases k1 : inB px 0 (x - 1) with
  | false =>
    rw [has_1 k1]
    rw [k1] at H1
    go_enter Try.func18, Try.ntmps18
    go_wp2_with fail
    refine (H1.out _).mono ?_
    rintro e w' ⟨rfl, rfl⟩
    go_wp2_with fail
    go_ret
    exact ⟨rfl, On.alloc (On.refl _) _⟩
  | true =>
    rw [has_2 k1]
    rw [k1] at H1
    go_enter Try.func18, Try.ntmps18
    go_wp2_with fail
    refine (H1.out _).mono ?_
    rintro e w' ⟨rfl, rfl⟩
    go_wp2_with fail
    refine (H2.out _).mono ?_
    rintro e w' ⟨rfl, rfl⟩
    go_wp2_with fail
    go_ret
    exact ⟨rfl, On.alloc (On.refl _) _⟩
set_option maxRecDepth 100000 in
set_option maxHeartbeats 8000000 in
theorem impl_SetGround (s x y px py h c : Int) (v3 v4 : Value) (z3 z4 : List Int) (w : World) (q3 : z3.length ≤ 1048576) (q4 : z4.length ≤ 1048576) (h3 : Ints w v3 z3) (h4 : Ints w v4 z4) :
    Calls Try.prog 7 #[.agg #[.int .i64 s, .int .i64 x, .int .i64 y, v3, v4], .int .i64 px, .int .i64 py, .int .i64 h, .int .i64 c] w fun e w' => ∃ a3 c3 a4 c4, e = .returned (.tuple #[.agg #[.int .i64 (sgI (sgC s x y px py h c z3 z4) s), .int .i64 (sgI (sgC s x y px py h c z3 z4) x), .int .i64 (sgI (sgC s x y px py h c z3 z4) y), .slice a3 (sgL (sgC s x y px py h c z3 z4) (z3.set (py * x + px).toNat h)).length c3, .slice a4 (sgL (sgC s x y px py h c z3 z4) (z4.set (py * x + px).toNat c)).length c4], .int .i64 (sgC s x y px py h c z3 z4)]) ∧ TRec.OwnR w.heap.size w' a3 (sgL (sgC s x y px py h c z3 z4) (z3.set (py * x + px).toNat h)).length c3 a4 (sgL (sgC s x y px py h c z3 z4) (z4.set (py * x + px).toNat c)).length c4 (sgL (sgC s x y px py h c z3 z4) (z3.set (py * x + px).toNat h)) (sgL (sgC s x y px py h c z3 z4) (z4.set (py * x + px).toNat c)) ∧ On w w' := by
  have h3' := h3
  have h4' := h4
  obtain ⟨a, cap3, rfl, -⟩ := h3
  obtain ⟨b, cap4, rfl, -⟩ := h4
  have HV := Lib.hid (fun w' (hb : On w w') => impl_validT s x y a b z3.length cap3 z4.length cap4 z3 z4 w' rfl rfl q3 q4 (h3'.below hb) (h4'.below hb))
  cases ho : okT s x y z3 z4 with
  | false =>
    rw [ho] at HV
    rw [sg_1 ho]
    clear ho h3' h4'
    go_enter Try.func7, Try.ntmps7
    go_wp2_with fail
    refine (HV.out _ (by repeat (first | with_reducible exact On.refl _ | with_reducible exact Below.refl _ _ | apply On.alloc))).mono ?_
    rintro e w1 ⟨rfl, k1⟩
    have O1 := Lib.hid (show On w w1 by refine On.trans ?_ k1; repeat (first | with_reducible exact On.refl _ | apply On.alloc))
    have KT := Lib.hid (show TRec.In w1 w.heap.size s x y (.slice a z3.length cap3) (.slice b z4.length cap4) from TRec.In.on ⟨by simp [go_sem], by simp [go_sem], by simp [go_sem], by simp [go_sem], by simp [go_sem]⟩ k1)
    have KR := Lib.hid (show TRec.In w1 (w.heap.size + 1) 0 0 0 (.slice none 0 0) (.slice none 0 0) from TRec.In.on ⟨by simp [go_sem], by simp [go_sem], by simp [go_sem], by simp [go_sem], by simp [go_sem]⟩ k1)
    have KF := Lib.hid (show ∀ i, w1.frozen? ⟨w.heap.size + 1, i, none⟩ = false from fun i => (k1.frozen (by simp)).trans (by simp [go_sem]))
    have KG := Lib.hid (show ∀ i, w1.frozen? ⟨w.heap.size, i, none⟩ = false from fun i => (k1.frozen (by simp; try omega)).trans (by simp [go_sem]))
    clear k1
    obtain ⟨r0, r1, r2, r3, r4⟩ := KR.out
    have ry := World.block_lt_of_cell? w1 _ r0
    have f0 : ∀ i, w1.frozen? ⟨w.heap.size + 1, i, none⟩ = false := KF.out
    have g0 := f0 0
    have g1 := f0 1
    have g2 := f0 2
    have g3 := f0 3
    have g4 := f0 4
    clear f0
    go_wp2_with fail
    refine bodyPost_ret (v := .tuple #[.agg #[.int .i64 0, .int .i64 0, .int .i64 0, .slice none 0 0, .slice none 0 0], .int .i64 1]) (by simp [results, Try.results7, go_sem, r0, r1, r2, r3, r4]) rfl ⟨_, _, _, _, rfl, nilR _ _, ?_⟩
    iterate 5 refine On.setCell ?_ (by show w.heap.size ≤ w.heap.size + 1; omega) _
    exact O1.out
  | true =>
    obtain ⟨hs, hxy, hcl, -⟩ := of_okT ho
    obtain ⟨⟨s0, s1⟩, ⟨x0, x1⟩, ⟨y0, y1⟩, -, -⟩ := of_size hs
    have hp5 := prod_n x0 x1 y0 y1
    have HG := Lib.hid (fun w => impl_grid s x y a b z3.length cap3 z4.length cap4 w)
    have HH := Lib.hid (fun w => impl_has s x y px py w x0 x1 y0 y1)
    have HB := Lib.hid (fun w => impl_ground h c w)
    rw [ho] at HV
    cases hh : hasB x y px py with
    | false =>
      rw [sg_2 ho hh]
      rw [hh] at HH
      clear ho h3' h4' hh hs hxy hcl hp5
      go_enter Try.func7, Try.ntmps7
      go_wp2_with fail
      refine (HV.out _ (by repeat (first | with_reducible exact On.refl _ | with_reducible exact Below.refl _ _ | apply On.alloc))).mono ?_
      rintro e w1 ⟨rfl, k1⟩
      have O1 := Lib.hid (show On w w1 by refine On.trans ?_ k1; repeat (first | with_reducible exact On.refl _ | apply On.alloc))
      have KT := Lib.hid (show TRec.In w1 w.heap.size s x y (.slice a z3.length cap3) (.slice b z4.length cap4) from TRec.In.on ⟨by simp [go_sem], by simp [go_sem], by simp [go_sem], by simp [go_sem], by simp [go_sem]⟩ k1)
      have KR := Lib.hid (show TRec.In w1 (w.heap.size + 1) 0 0 0 (.slice none 0 0) (.slice none 0 0) from TRec.In.on ⟨by simp [go_sem], by simp [go_sem], by simp [go_sem], by simp [go_sem], by simp [go_sem]⟩ k1)
      have KF := Lib.hid (show ∀ i, w1.frozen? ⟨w.heap.size + 1, i, none⟩ = false from fun i => (k1.frozen (by simp)).trans (by simp [go_sem]))
      have KG := Lib.hid (show ∀ i, w1.frozen? ⟨w.heap.size, i, none⟩ = false from fun i => (k1.frozen (by simp; try omega)).trans (by simp [go_sem]))
      clear k1
      obtain ⟨t0, t1, t2, t3, t4⟩ := KT.out
      have ty := KT.out.blk
      go_wp2_with fail
      refine (HG.out _).mono ?_
      rintro e w2 ⟨rfl, k2⟩
      clear t0 t1 t2 t3 t4 ty
      go_wp2_with fail
      refine (HH.out _).mono ?_
      rintro e w3 ⟨rfl, k3⟩
      have O13 := Lib.hid (On.trans k2 k3)
      clear k2 k3
      obtain ⟨r0, r1, r2, r3, r4⟩ := KR.out.on O13.out
      have ry := World.block_lt_of_cell? w3 _ r0
      have f0 : ∀ i, w3.frozen? ⟨w.heap.size + 1, i, none⟩ = false := fun i => (O13.out.frozen (by exact KR.out.blk)).trans (KF.out i)
      have g0 := f0 0
      have g1 := f0 1
      have g2 := f0 2
      have g3 := f0 3
      have g4 := f0 4
      clear f0
      go_wp2_with fail
      refine bodyPost_ret (v := .tuple #[.agg #[.int .i64 0, .int .i64 0, .int .i64 0, .slice none 0 0, .slice none 0 0], .int .i64 2]) (by simp [results, Try.results7, go_sem, r0, r1, r2, r3, r4]) rfl ⟨_, _, _, _, rfl, nilR _ _, ?_⟩
      iterate 5 refine On.setCell ?_ (by show w.heap.size ≤ w.heap.size + 1; omega) _
      exact On.trans O1.out O13.out
    | true =>
      rw [hh] at HH
      cases hg : gB h c with
      | false =>
        rw [sg_3 ho hh hg]
        rw [hg] at HB
        clear ho h3' h4' hh hs hg hxy hcl hp5
        go_enter Try.func7, Try.ntmps7
        go_wp2_with fail
        refine (HV.out _ (by repeat (first | with_reducible exact On.refl _ | with_reducible exact Below.refl _ _ | apply On.alloc))).mono ?_
        rintro e w1 ⟨rfl, k1⟩
        have O1 := Lib.hid (show On w w1 by refine On.trans ?_ k1; repeat (first | with_reducible exact On.refl _ | apply On.alloc))
        have KT := Lib.hid (show TRec.In w1 w.heap.size s x y (.slice a z3.length cap3) (.slice b z4.length cap4) from TRec.In.on ⟨by simp [go_sem], by simp [go_sem], by simp [go_sem], by simp [go_sem], by simp [go_sem]⟩ k1)
        have KR := Lib.hid (show TRec.In w1 (w.heap.size + 1) 0 0 0 (.slice none 0 0) (.slice none 0 0) from TRec.In.on ⟨by simp [go_sem], by simp [go_sem], by simp [go_sem], by simp [go_sem], by simp [go_sem]⟩ k1)
        have KF := Lib.hid (show ∀ i, w1.frozen? ⟨w.heap.size + 1, i, none⟩ = false from fun i => (k1.frozen (by simp)).trans (by simp [go_sem]))
        have KG := Lib.hid (show ∀ i, w1.frozen? ⟨w.heap.size, i, none⟩ = false from fun i => (k1.frozen (by simp; try omega)).trans (by simp [go_sem]))
        clear k1
        obtain ⟨t0, t1, t2, t3, t4⟩ := KT.out
        have ty := KT.out.blk
        go_wp2_with fail
        refine (HG.out _).mono ?_
        rintro e w2 ⟨rfl, k2⟩
        clear t0 t1 t2 t3 t4 ty
        go_wp2_with fail
        refine (HH.out _).mono ?_
        rintro e w3 ⟨rfl, k3⟩
        have O13 := Lib.hid (On.trans k2 k3)
        clear k2 k3
        go_wp2_with fail
        refine (HB.out _).mono ?_
        rintro e w3' ⟨rfl, rfl⟩
        obtain ⟨r0, r1, r2, r3, r4⟩ := KR.out.on O13.out
        have ry := World.block_lt_of_cell? w3 _ r0
        have f0 : ∀ i, w3.frozen? ⟨w.heap.size + 1, i, none⟩ = false := fun i => (O13.out.frozen (by exact KR.out.blk)).trans (KF.out i)
        have g0 := f0 0
        have g1 := f0 1
        have g2 := f0 2
        have g3 := f0 3
        have g4 := f0 4
        clear f0
        go_wp2_with fail
        refine bodyPost_ret (v := .tuple #[.agg #[.int .i64 0, .int .i64 0, .int .i64 0, .slice none 0 0, .slice none 0 0], .int .i64 2]) (by simp [results, Try.results7, go_sem, r0, r1, r2, r3, r4]) rfl ⟨_, _, _, _, rfl, nilR _ _, ?_⟩
        iterate 5 refine On.setCell ?_ (by show w.heap.size ≤ w.heap.size + 1; omega) _
        exact On.trans O1.out O13.out
      | true =>
        rw [sg_4 ho hh hg]
        rw [hg] at HB
        obtain ⟨⟨e0, e1⟩, i0, iN, iN2⟩ := at_in (n := z3.length) hs hxy hh
        obtain ⟨⟨p0, p1⟩, q0, q1⟩ := of_has hh
        obtain ⟨I, hI⟩ : ∃ I : Nat, I = (py * x + px).toNat := ⟨_, rfl⟩
        have hI2 : py * x + px = (I : Int) := by omega
        rw [← hI] at iN
        rw [← hI]
        have HX := Lib.hid (fun w => impl_index s x y px py w e0 (by omega) p0 (by omega))
        rw [hI2] at HX
        obtain ⟨b3, o3, rfl, hlt3, hcell3⟩ := Terr.slice_of h3' rfl (by omega)
        obtain ⟨b4, o4, rfl, hlt4, hcell4⟩ := Terr.slice_of h4' rfl (by omega)
        have H3 := Lib.hid (fun w' (ho : On w w') => Clone.lib_clone b3 o3 cap3 z3 w' (by omega) q3 (ho.lts _ hlt3) (fun i hi => (ho.cell (by exact hlt3)).trans (hcell3 i hi)))
        have H4 := Lib.hid (fun w' (ho : On w w') => Clone.lib_clone b4 o4 cap4 z4 w' (by omega) q4 (ho.lts _ hlt4) (fun i hi => (ho.cell (by exact hlt4)).trans (hcell4 i hi)))
        have HG2 := Lib.hid (fun a b c3 c4 w => impl_grid s x y a b z3.length c3 z4.length c4 w)
        have iI : (I : Int) < (z3.length : Int) := by omega
        have iJ : (I : Int) < (z4.length : Int) := by omega
        have n3 : 0 < z3.length := by omega
        have n4 : 0 < z4.length := by omega
        have jN : I < z4.length := by omega
        clear ho h3' h4' hh hs hg hxy hcl hp5 hI hI2 e0 e1 i0 iN2 hcell3 hcell4 p0 p1 q0 q1
        go_enter Try.func7, Try.ntmps7
        go_wp2_with fail
        refine (HV.out _ (by repeat (first | with_reducible exact On.refl _ | with_reducible exact Below.refl _ _ | apply On.alloc))).mono ?_
        rintro e w1 ⟨rfl, k1⟩
        have O1 := Lib.hid (show On w w1 by refine On.trans ?_ k1; repeat (first | with_reducible exact On.refl _ | apply On.alloc))
        have KT := Lib.hid (show TRec.In w1 w.heap.size s x y (.slice (some ⟨b3, o3, none⟩) z3.length cap3) (.slice (some ⟨b4, o4, none⟩) z4.length cap4) from TRec.In.on ⟨by simp [go_sem], by simp [go_sem], by simp [go_sem], by simp [go_sem], by simp [go_sem]⟩ k1)
        have KR := Lib.hid (show TRec.In w1 (w.heap.size + 1) 0 0 0 (.slice none 0 0) (.slice none 0 0) from TRec.In.on ⟨by simp [go_sem], by simp [go_sem], by simp [go_sem], by simp [go_sem], by simp [go_sem]⟩ k1)
        have KF := Lib.hid (show ∀ i, w1.frozen? ⟨w.heap.size + 1, i, none⟩ = false from fun i => (k1.frozen (by simp)).trans (by simp [go_sem]))
        have KG := Lib.hid (show ∀ i, w1.frozen? ⟨w.heap.size, i, none⟩ = false from fun i => (k1.frozen (by simp; try omega)).trans (by simp [go_sem]))
        clear k1
        obtain ⟨t0, t1, t2, t3, t4⟩ := KT.out
        have ty := KT.out.blk
        go_wp2_with fail
        refine (HG.out _).mono ?_
        rintro e w2 ⟨rfl, k2⟩
        clear t0 t1 t2 t3 t4 ty
        go_wp2_with fail
        refine (HH.out _).mono ?_
        rintro e w3 ⟨rfl, k3⟩
        have O13 := Lib.hid (On.trans k2 k3)
        clear k2 k3
        go_wp2_with fail
        refine (HB.out _).mono ?_
        rintro e w3' ⟨rfl, rfl⟩
        have P3 := Lib.hid (KT.out.on O13.out)
        have R3 := Lib.hid (KR.out.on O13.out)
        have F3 := Lib.hid (fun i => (O13.out.frozen (p := ⟨w.heap.size + 1, i, none⟩) (by exact KR.out.blk)).trans (KF.out i))
        have G3 := Lib.hid (fun i => (O13.out.frozen (p := ⟨w.heap.size, i, none⟩) (by exact KT.out.blk)).trans (KG.out i))
        have O3 := Lib.hid (On.trans O1.out O13.out)
        clear KT KR KF KG O1 O13
        go_upto_region 5 with fail
        go_cut [11] (fun s11 wx => s11 = .int .i64 0 ∧ ∃ a3 c3 a4 c4, TRec.In wx w.heap.size s x y (.slice a3 z3.length c3) (.slice a4 z4.length c4) ∧ TRec.OwnR w3.heap.size wx a3 z3.length c3 a4 z4.length c4 z3 z4 ∧ TRec.In wx (w.heap.size + 1) 0 0 0 (.slice none 0 0) (.slice none 0 0) ∧ (∀ i, wx.frozen? ⟨w.heap.size + 1, i, none⟩ = false) ∧ On w wx)
        case first =>
          obtain ⟨t0, t1, t2, t3, t4⟩ := P3.out
          have ty := P3.out.blk
          go_region_with (first
            | (go_at_call 20; (with_reducible refine (H3.out _ (On.trans O3.out (by repeat (first | with_reducible exact On.refl _ | with_reducible assumption | apply On.drew)))).mono ?_); rintro e w5 ⟨a3, c3, rfl, own3, hcall⟩; (have h35 : On w3 w5 := by refine On.trans ?_ hcall; repeat (first | with_reducible exact On.refl _ | with_reducible assumption | apply On.drew)); obtain ⟨u0, u1, u2, u3, u4⟩ := P3.out.on h35; have uy := World.block_lt_of_cell? w5 _ u0; have own3' := own3.mono (B' := w3.heap.size) (by first | exact Nat.le_refl _ | simp))
            | (go_at_call 20; (with_reducible refine (H4.out _ (On.trans O3.out (by repeat (first | with_reducible exact On.refl _ | with_reducible assumption | apply On.drew)))).mono ?_); rintro e w6 ⟨a4, c4, rfl, own4, h56⟩; (have h36 : On w3 w6 := by refine On.trans ?_ h56; repeat (first | with_reducible exact On.refl _ | with_reducible assumption | apply On.drew)); obtain ⟨s0, s1, s2, s3, s4⟩ := P3.out.on h36; have sy := World.block_lt_of_cell? w6 _ s0; have sf3 : w6.frozen? ⟨w.heap.size, 3, none⟩ = false := (h36.frozen (by exact ty)).trans (G3.out 3); have sf4 : w6.frozen? ⟨w.heap.size, 4, none⟩ = false := (h36.frozen (by exact ty)).trans (G3.out 4)))
          all_goals
            go_wp2_with fail
            go_meet
            have hR6 := R3.out.on h36
            have hbw : w.heap.size < w3.heap.size := ty
            refine ⟨rfl, a3, c3, a4, c4, ?_, ⟨rfl, rfl, ?_, ?_, ?_⟩, ?_, ?_, ?_⟩
            · refine ⟨?_, ?_, ?_, ?_, ?_⟩ <;> first | (simp [go_sem]; done) | (go_simp; done)
            · exact ((own3'.below h56).setCell (by exact hbw) _).setCell (by exact hbw) _
            · exact ((own4.mono (B' := w3.heap.size) h35.size).setCell (by exact hbw) _).setCell (by exact hbw) _
            · intro _ _ p q hp hq
              have e1 := TRec.own_block rfl own3 n3 p hp
              have e2 := TRec.own_ge rfl own4 n4 q hq
              omega
            · refine hR6.keep (fun i => ?_)
              have hne : ∀ o, (⟨w.heap.size, o, none⟩ : Addr) ≠ ⟨w.heap.size + 1, i, none⟩ := fun o hc => by injection hc with h1 _ _; omega
              exact (World.cell?_setCell_other (h := hne _) ..).trans (World.cell?_setCell_other (h := hne _) ..)
            · intro i
              rw [World.frozen?_setCell, World.frozen?_setCell]
              exact (h36.frozen (by exact R3.out.blk)).trans (F3.out i)
            · exact ((On.trans O3.out h36).setCell (Nat.le_refl _) _).setCell (Nat.le_refl _) _
        case rest =>
          obtain ⟨rfl, a3, c3, a4, c4, hIn, ⟨-, -, hw3, hw4, hd⟩, hRn, hFn, hOn⟩ := hcut
          obtain ⟨w7, hw7⟩ : ∃ w7, w7 = wc := ⟨_, rfl⟩
          subst hw7
          have ty := hIn.blk
          have hIn' := hIn
          obtain ⟨t0, t1, t2, t3, t4⟩ := hIn'
          have KI := Lib.hid hIn
          have KR := Lib.hid hRn
          have KF := Lib.hid hFn
          have KO := Lib.hid hOn
          have K3 := Lib.hid hw3
          have K4 := Lib.hid hw4
          have KD := Lib.hid hd
          clear hIn hRn hFn hOn hw3 hw4 hd
          go_wp2_with fail
          refine (HG2.out _ _ _ _ _).mono ?_
          rintro e w8 ⟨rfl, k8⟩
          clear t0 t1 t2 t3 t4 ty
          go_wp2_with fail
          refine (HX.out _).mono ?_
          rintro e w9 ⟨rfl, k9⟩
          have h79 := On.trans k8 k9
          obtain ⟨x3, d3, he3, hh3⟩ := K3.out.below h79
          obtain ⟨e3, f3, rfl, hB3, hl3, hfz3, hc3⟩ := hh3 n3
          injection he3 with j1 j2 j3
          subst j1
          obtain ⟨x4, d4, he4, hh4⟩ := K4.out.below h79
          obtain ⟨e4, f4, rfl, hB4, hl4, hfz4, hc4⟩ := hh4 n4
          injection he4 with j4 j5 j6
          subst j4
          have hne34 : e3 ≠ e4 := KD.out n3 n4 _ _ rfl rfl
          obtain ⟨t0, t1, t2, t3, t4⟩ := KI.out.on h79
          have ty := World.block_lt_of_cell? w9 _ t0
          have hbw : w.heap.size + 1 < w3.heap.size := R3.out.blk
          have y1 := hc3 I iN
          have y2 := hc4 I jN
          have y3 := hfz3 I iN
          have y4 := hfz4 I jN
          have ne1 : e3 ≠ w.heap.size := by omega
          have ne2 : e4 ≠ w.heap.size := by omega
          have ne3 : e3 ≠ w.heap.size + 1 := by omega
          have ne4 : e4 ≠ w.heap.size + 1 := by omega
          have hIi : (0 : Int) ≤ (I : Int) := Int.natCast_nonneg _
          generalize z3.getD I 0 = old3 at y1
          generalize z4.getD I 0 = old4 at y2
          have W3 := Lib.hid (K3.out.below h79)
          have W4 := Lib.hid (K4.out.below h79)
          have R9 := Lib.hid (KR.out.on h79)
          have I9 := Lib.hid (KI.out.on h79)
          have F9 := Lib.hid (fun i => (h79.frozen (p := ⟨w.heap.size + 1, i, none⟩) (by exact KR.out.blk)).trans (KF.out i))
          have O9 := Lib.hid (On.trans KO.out h79)
          clear k8 k9 h79 hh3 hh4 hc3 hc4 hfz3 hfz4 j2 j3 j5 j6
          go_upto_region 7 with fail
          go_cut [11] (fun s11 wx => s11 = .int .i64 0 ∧ TRec.In wx w.heap.size s x y (.slice (some ⟨e3, f3, none⟩) z3.length c3) (.slice (some ⟨e4, f4, none⟩) z4.length c4) ∧ Own w3.heap.size wx (.slice (some ⟨e3, f3, none⟩) z3.length c3) (z3.set I h) ∧ Own w3.heap.size wx (.slice (some ⟨e4, f4, none⟩) z4.length c4) (z4.set I c) ∧ TRec.In wx (w.heap.size + 1) 0 0 0 (.slice none 0 0) (.slice none 0 0) ∧ (∀ i, wx.frozen? ⟨w.heap.size + 1, i, none⟩ = false) ∧ On w wx)
          case first =>
            go_region
            all_goals
              go_wp2_with fail
              go_meet
              refine ⟨rfl, ?_, ?_, ?_, ?_, ?_, ?_⟩
              · refine I9.out.keep (fun i => ?_)
                have hn1 : ∀ o, (⟨e3, o, none⟩ : Addr) ≠ ⟨w.heap.size, i, none⟩ := fun o hc => by injection hc with h1 _ _; omega
                have hn2 : ∀ o, (⟨e4, o, none⟩ : Addr) ≠ ⟨w.heap.size, i, none⟩ := fun o hc => by injection hc with h1 _ _; omega
                first | exact (World.cell?_setCell_other (h := hn2 _) ..).trans (World.cell?_setCell_other (h := hn1 _) ..) | exact (World.cell?_setCell_other (h := hn1 _) ..).trans (World.cell?_setCell_other (h := hn2 _) ..)
              · first | exact own_far (own_put rfl W3.out iN h) (by exact hne34.symm) _ | exact own_put rfl (own_far W3.out (by exact hne34.symm) _) iN h
              · first | exact own_put rfl (own_far W4.out (by exact hne34) _) jN c | exact own_far (own_put rfl W4.out jN c) (by exact hne34) _
              · refine R9.out.keep (fun i => ?_)
                have hn1 : ∀ o, (⟨e3, o, none⟩ : Addr) ≠ ⟨w.heap.size + 1, i, none⟩ := fun o hc => by injection hc with h1 _ _; omega
                have hn2 : ∀ o, (⟨e4, o, none⟩ : Addr) ≠ ⟨w.heap.size + 1, i, none⟩ := fun o hc => by injection hc with h1 _ _; omega
                first | exact (World.cell?_setCell_other (h := hn2 _) ..).trans (World.cell?_setCell_other (h := hn1 _) ..) | exact (World.cell?_setCell_other (h := hn1 _) ..).trans (World.cell?_setCell_other (h := hn2 _) ..)
              · intro i
                have hfi := F9.out i
                first | exact hfi | (simp [World.frozen?_setCell, go_sem, hfi]; done)
              · have ha3 : w.heap.size ≤ e3 := by omega
                have ha4 : w.heap.size ≤ e4 := by omega
                repeat (first | with_reducible exact O9.out | apply On.drew | (refine On.setCell ?_ (by first | exact ha3 | exact ha4) _))
          case rest =>
            obtain ⟨rfl, hIn, hw3, hw4, hRn, hFn, hOn⟩ := hcut
            obtain ⟨w10, hw10⟩ : ∃ w10, w10 = wc := ⟨_, rfl⟩
            subst hw10
            have ty := hIn.blk
            obtain ⟨t0, t1, t2, t3, t4⟩ := hIn
            have ry := hRn.blk
            obtain ⟨r0, r1, r2, r3, r4⟩ := hRn
            have g0 := hFn 0
            have g1 := hFn 1
            have g2 := hFn 2
            have g3 := hFn 3
            have g4 := hFn 4
            have K3 := Lib.hid hw3
            have K4 := Lib.hid hw4
            have KO := Lib.hid hOn
            have hww : w.heap.size ≤ w3.heap.size := O3.out.size
            clear hw3 hw4 hFn hOn
            go_wp2_with fail
            have E3 : (sgL 0 (z3.set I h)).length = z3.length := by show (z3.set I h).length = _; rw [List.length_set]
            have E4 : (sgL 0 (z4.set I c)).length = z4.length := by show (z4.set I c).length = _; rw [List.length_set]
            rw [E3, E4]
            refine bodyPost_ret (v := .tuple #[.agg #[.int .i64 s, .int .i64 x, .int .i64 y, .slice (some ⟨e3, f3, none⟩) z3.length c3, .slice (some ⟨e4, f4, none⟩) z4.length c4], .int .i64 0]) (by simp [results, Try.results7, go_sem, r0, r1, r2, r3, r4]) rfl ⟨_, _, _, _, rfl, ⟨E3, E4, ?_, ?_, ?_⟩, ?_⟩
            · refine Own.mono (B := w3.heap.size) ?_ hww
              iterate 5 refine Own.setCell ?_ (by exact hbw) _
              exact K3.out
            · refine Own.mono (B := w3.heap.size) ?_ hww
              iterate 5 refine Own.setCell ?_ (by exact hbw) _
              exact K4.out
            · intro _ _ p q hp hq
              injection hp with hp
              injection hq with hq
              rw [← hp, ← hq]
              exact hne34
            · iterate 5 refine On.setCell ?_ (by show w.heap.size ≤ w.heap.size + 1; omega) _
              exact KO.out
end Go.Proofs.Ytgcpnodpndgekaa.Grd
