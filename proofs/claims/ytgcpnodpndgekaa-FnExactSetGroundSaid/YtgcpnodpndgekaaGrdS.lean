
/-
  A change of a grid point, the model's. No condition but the slices' lengths.
-/
import Derived.Test.YtgcpnodpndgekaaGrd0
import Derived.Test.YtgcpnodpndgekaaGrdO
import Derived.Test.YtgcpnodpndgekaaTerrOk
namespace Go.Proofs.Ytgcpnodpndgekaa.Grd
open Go.RowKit
open Plain Terr
open Ints (Ints Own)
set_option maxRecDepth 100000 in
set_option maxHeartbeats 8000000 in
theorem spec_SetGround (s x y px py h c : Int) (v3 v4 : Value) (z3 z4 : List Int) (w : World) (q3 : z3.length ≤ 1048576) (q4 : z4.length ≤ 1048576) (h3 : Ints w v3 z3) (h4 : Ints w v4 z4) :
    Calls Try.prog 5 #[.agg #[.int .i64 s, .int .i64 x, .int .i64 y, v3, v4], .int .i64 px, .int .i64 py, .int .i64 h, .int .i64 c] w fun e w' => ∃ a3 c3 a4 c4, e = .returned (.tuple #[.agg #[.int .i64 (sgI (sgC s x y px py h c z3 z4) s), .int .i64 (sgI (sgC s x y px py h c z3 z4) x), .int .i64 (sgI (sgC s x y px py h c z3 z4) y), .slice a3 (sgL (sgC s x y px py h c z3 z4) (z3.set (py * x + px).toNat h)).length c3, .slice a4 (sgL (sgC s x y px py h c z3 z4) (z4.set (py * x + px).toNat c)).length c4], .int .i64 (sgC s x y px py h c z3 z4)]) ∧ TRec.OwnR w.heap.size w' a3 (sgL (sgC s x y px py h c z3 z4) (z3.set (py * x + px).toNat h)).length c3 a4 (sgL (sgC s x y px py h c z3 z4) (z4.set (py * x + px).toNat c)).length c4 (sgL (sgC s x y px py h c z3 z4) (z3.set (py * x + px).toNat h)) (sgL (sgC s x y px py h c z3 z4) (z4.set (py * x + px).toNat c)) ∧ On w w' := by
  have h3' := h3
  have h4' := h4
  obtain ⟨a, cap3, rfl, -⟩ := h3
  obtain ⟨b, cap4, rfl, -⟩ := h4
  have HV := Lib.hid (fun w' (hb : On w w') hp => spec_okT w.heap.size z3.length cap3 z4.length cap4 s x y a b z3 z4 w' rfl rfl q3 q4 hp (h3'.below hb) (h4'.below hb))
  cases ho : okT s x y z3 z4 with
  | false =>
    rw [ho] at HV
    rw [sg_1 ho]
    clear ho h3' h4'
    go_enter Try.func5, Try.ntmps5
    go_wp2_with fail
    refine (HV.out _ (by repeat (first | with_reducible exact On.refl _ | with_reducible exact Below.refl _ _ | apply On.alloc)) ⟨by simp [go_sem], by simp [go_sem], by simp [go_sem], by simp [go_sem], by simp [go_sem]⟩).mono ?_
    rintro e w1 ⟨rfl, k1⟩
    have O1 := Lib.hid (show On w w1 by refine On.trans ?_ k1; repeat (first | with_reducible exact On.refl _ | apply On.alloc))
    have KT := Lib.hid (show TRec.In w1 w.heap.size s x y (.slice a z3.length cap3) (.slice b z4.length cap4) from TRec.In.on ⟨by simp [go_sem], by simp [go_sem], by simp [go_sem], by simp [go_sem], by simp [go_sem]⟩ k1)
    have KR := Lib.hid (show TRec.In w1 (w.heap.size + 1) 0 0 0 (.slice none 0 0) (.slice none 0 0) from TRec.In.on ⟨by simp [go_sem], by simp [go_sem], by simp [go_sem], by simp [go_sem], by simp [go_sem]⟩ k1)
    have KF := Lib.hid (show ∀ i, w1.frozen? ⟨w.heap.size + 1, i, none⟩ = false from fun i => (k1.frozen (by simp)).trans (by simp [go_sem]))
    clear k1
    obtain ⟨r0, r1, r2, r3, r4⟩ := KR.out
    have ry := KR.out.blk
    have g0 := KF.out 0
    have g1 := KF.out 1
    have g2 := KF.out 2
    have g3 := KF.out 3
    have g4 := KF.out 4
    go_wp2_with fail
    refine bodyPost_ret (v := .tuple #[.agg #[.int .i64 0, .int .i64 0, .int .i64 0, .slice none 0 0, .slice none 0 0], .int .i64 1]) (by simp [results, Try.results5, go_sem, r0, r1, r2, r3, r4]) rfl ⟨_, _, _, _, rfl, nilR _ _, ?_⟩
    iterate 5 refine On.setCell ?_ (by show w.heap.size ≤ w.heap.size + 1; omega) _
    exact O1.out
  | true =>
    obtain ⟨hs, hxy, hcl, -⟩ := of_okT ho
    obtain ⟨⟨s0, s1⟩, ⟨x0, x1⟩, ⟨y0, y1⟩, -, -⟩ := of_size hs
    have hp5 := prod_n x0 x1 y0 y1
    have wx : IntKind.i64.wrap (x - 1) = x - 1 := IntWalk.i64_in _ (by omega)
    have wy : IntKind.i64.wrap (y - 1) = y - 1 := IntWalk.i64_in _ (by omega)
    have J1 := Lib.hid (fun w => Arith.l00In px 0 (x - 1) w)
    have J2 := Lib.hid (fun w => Arith.l00In py 0 (y - 1) w)
    have J3 := Lib.hid (fun w => Arith.l00In h 0 90000 w)
    have J4 := Lib.hid (fun w => Arith.l00In c 0 7 w)
    rw [ho] at HV
    cases k1 : inB px 0 (x - 1) with
    | false =>
      rw [sg_2 ho (has_1 k1)]
      rw [k1] at J1
      clear ho h3' h4' hs k1 hxy hcl hp5
      go_enter Try.func5, Try.ntmps5
      go_wp2_with fail
      refine (HV.out _ (by repeat (first | with_reducible exact On.refl _ | with_reducible exact Below.refl _ _ | apply On.alloc)) ⟨by simp [go_sem], by simp [go_sem], by simp [go_sem], by simp [go_sem], by simp [go_sem]⟩).mono ?_
      rintro e w1 ⟨rfl, k1⟩
      have O1 := Lib.hid (show On w w1 by refine On.trans ?_ k1; repeat (first | with_reducible exact On.refl _ | apply On.alloc))
      have KT := Lib.hid (show TRec.In w1 w.heap.size s x y (.slice a z3.length cap3) (.slice b z4.length cap4) from TRec.In.on ⟨by simp [go_sem], by simp [go_sem], by simp [go_sem], by simp [go_sem], by simp [go_sem]⟩ k1)
      have KR := Lib.hid (show TRec.In w1 (w.heap.size + 1) 0 0 0 (.slice none 0 0) (.slice none 0 0) from TRec.In.on ⟨by simp [go_sem], by simp [go_sem], by simp [go_sem], by simp [go_sem], by simp [go_sem]⟩ k1)
      have KF := Lib.hid (show ∀ i, w1.frozen? ⟨w.heap.size + 1, i, none⟩ = false from fun i => (k1.frozen (by simp)).trans (by simp [go_sem]))
      clear k1
      obtain ⟨t0, t1, t2, t3, t4⟩ := KT.out
      have ty := KT.out.blk
      go_wp2_with fail
      refine (J1.out _).mono ?_
      rintro e w' ⟨rfl, rfl⟩
      obtain ⟨r0, r1, r2, r3, r4⟩ := KR.out
      have ry := KR.out.blk
      have g0 := KF.out 0
      have g1 := KF.out 1
      have g2 := KF.out 2
      have g3 := KF.out 3
      have g4 := KF.out 4
      go_wp2_with fail
      refine bodyPost_ret (v := .tuple #[.agg #[.int .i64 0, .int .i64 0, .int .i64 0, .slice none 0 0, .slice none 0 0], .int .i64 2]) (by simp [results, Try.results5, go_sem, r0, r1, r2, r3, r4]) rfl ⟨_, _, _, _, rfl, nilR _ _, ?_⟩
      iterate 5 refine On.setCell ?_ (by show w.heap.size ≤ w.heap.size + 1; omega) _
      exact O1.out
    | true =>
      rw [k1] at J1
      cases k2 : inB py 0 (y - 1) with
      | false =>
        rw [sg_2 ho (by rw [has_2 k1]; exact k2)]
        rw [k2] at J2
        clear ho h3' h4' hs k1 k2 hxy hcl hp5
        go_enter Try.func5, Try.ntmps5
        go_wp2_with fail
        refine (HV.out _ (by repeat (first | with_reducible exact On.refl _ | with_reducible exact Below.refl _ _ | apply On.alloc)) ⟨by simp [go_sem], by simp [go_sem], by simp [go_sem], by simp [go_sem], by simp [go_sem]⟩).mono ?_
        rintro e w1 ⟨rfl, k1⟩
        have O1 := Lib.hid (show On w w1 by refine On.trans ?_ k1; repeat (first | with_reducible exact On.refl _ | apply On.alloc))
        have KT := Lib.hid (show TRec.In w1 w.heap.size s x y (.slice a z3.length cap3) (.slice b z4.length cap4) from TRec.In.on ⟨by simp [go_sem], by simp [go_sem], by simp [go_sem], by simp [go_sem], by simp [go_sem]⟩ k1)
        have KR := Lib.hid (show TRec.In w1 (w.heap.size + 1) 0 0 0 (.slice none 0 0) (.slice none 0 0) from TRec.In.on ⟨by simp [go_sem], by simp [go_sem], by simp [go_sem], by simp [go_sem], by simp [go_sem]⟩ k1)
        have KF := Lib.hid (show ∀ i, w1.frozen? ⟨w.heap.size + 1, i, none⟩ = false from fun i => (k1.frozen (by simp)).trans (by simp [go_sem]))
        clear k1
        obtain ⟨t0, t1, t2, t3, t4⟩ := KT.out
        have ty := KT.out.blk
        go_wp2_with fail
        refine (J1.out _).mono ?_
        rintro e w' ⟨rfl, rfl⟩
        go_wp2_with fail
        refine (J2.out _).mono ?_
        rintro e w' ⟨rfl, rfl⟩
        obtain ⟨r0, r1, r2, r3, r4⟩ := KR.out
        have ry := KR.out.blk
        have g0 := KF.out 0
        have g1 := KF.out 1
        have g2 := KF.out 2
        have g3 := KF.out 3
        have g4 := KF.out 4
        go_wp2_with fail
        refine bodyPost_ret (v := .tuple #[.agg #[.int .i64 0, .int .i64 0, .int .i64 0, .slice none 0 0, .slice none 0 0], .int .i64 2]) (by simp [results, Try.results5, go_sem, r0, r1, r2, r3, r4]) rfl ⟨_, _, _, _, rfl, nilR _ _, ?_⟩
        iterate 5 refine On.setCell ?_ (by show w.heap.size ≤ w.heap.size + 1; omega) _
        exact O1.out
      | true =>
        rw [k2] at J2
        have hh : hasB x y px py = true := by rw [has_2 k1]; exact k2
        cases k3 : inB h 0 90000 with
        | false =>
          rw [sg_3 ho hh (gB_1 k3)]
          rw [k3] at J3
          clear ho h3' h4' hs k1 k2 k3 hh hxy hcl hp5
          go_enter Try.func5, Try.ntmps5
          go_wp2_with fail
          refine (HV.out _ (by repeat (first | with_reducible exact On.refl _ | with_reducible exact Below.refl _ _ | apply On.alloc)) ⟨by simp [go_sem], by simp [go_sem], by simp [go_sem], by simp [go_sem], by simp [go_sem]⟩).mono ?_
          rintro e w1 ⟨rfl, k1⟩
          have O1 := Lib.hid (show On w w1 by refine On.trans ?_ k1; repeat (first | with_reducible exact On.refl _ | apply On.alloc))
          have KT := Lib.hid (show TRec.In w1 w.heap.size s x y (.slice a z3.length cap3) (.slice b z4.length cap4) from TRec.In.on ⟨by simp [go_sem], by simp [go_sem], by simp [go_sem], by simp [go_sem], by simp [go_sem]⟩ k1)
          have KR := Lib.hid (show TRec.In w1 (w.heap.size + 1) 0 0 0 (.slice none 0 0) (.slice none 0 0) from TRec.In.on ⟨by simp [go_sem], by simp [go_sem], by simp [go_sem], by simp [go_sem], by simp [go_sem]⟩ k1)
          have KF := Lib.hid (show ∀ i, w1.frozen? ⟨w.heap.size + 1, i, none⟩ = false from fun i => (k1.frozen (by simp)).trans (by simp [go_sem]))
          clear k1
          obtain ⟨t0, t1, t2, t3, t4⟩ := KT.out
          have ty := KT.out.blk
          go_wp2_with fail
          refine (J1.out _).mono ?_
          rintro e w' ⟨rfl, rfl⟩
          go_wp2_with fail
          refine (J2.out _).mono ?_
          rintro e w' ⟨rfl, rfl⟩
          go_wp2_with fail
          refine (J3.out _).mono ?_
          rintro e w' ⟨rfl, rfl⟩
          obtain ⟨r0, r1, r2, r3, r4⟩ := KR.out
          have ry := KR.out.blk
          have g0 := KF.out 0
          have g1 := KF.out 1
          have g2 := KF.out 2
          have g3 := KF.out 3
          have g4 := KF.out 4
          go_wp2_with fail
          refine bodyPost_ret (v := .tuple #[.agg #[.int .i64 0, .int .i64 0, .int .i64 0, .slice none 0 0, .slice none 0 0], .int .i64 2]) (by simp [results, Try.results5, go_sem, r0, r1, r2, r3, r4]) rfl ⟨_, _, _, _, rfl, nilR _ _, ?_⟩
          iterate 5 refine On.setCell ?_ (by show w.heap.size ≤ w.heap.size + 1; omega) _
          exact O1.out
        | true =>
          rw [k3] at J3
          cases k4 : inB c 0 7 with
          | false =>
            rw [sg_3 ho hh (by rw [gB_2 k3]; exact k4)]
            rw [k4] at J4
            clear ho h3' h4' hs k1 k2 k3 k4 hh hxy hcl hp5
            go_enter Try.func5, Try.ntmps5
            go_wp2_with fail
            refine (HV.out _ (by repeat (first | with_reducible exact On.refl _ | with_reducible exact Below.refl _ _ | apply On.alloc)) ⟨by simp [go_sem], by simp [go_sem], by simp [go_sem], by simp [go_sem], by simp [go_sem]⟩).mono ?_
            rintro e w1 ⟨rfl, k1⟩
            have O1 := Lib.hid (show On w w1 by refine On.trans ?_ k1; repeat (first | with_reducible exact On.refl _ | apply On.alloc))
            have KT := Lib.hid (show TRec.In w1 w.heap.size s x y (.slice a z3.length cap3) (.slice b z4.length cap4) from TRec.In.on ⟨by simp [go_sem], by simp [go_sem], by simp [go_sem], by simp [go_sem], by simp [go_sem]⟩ k1)
            have KR := Lib.hid (show TRec.In w1 (w.heap.size + 1) 0 0 0 (.slice none 0 0) (.slice none 0 0) from TRec.In.on ⟨by simp [go_sem], by simp [go_sem], by simp [go_sem], by simp [go_sem], by simp [go_sem]⟩ k1)
            have KF := Lib.hid (show ∀ i, w1.frozen? ⟨w.heap.size + 1, i, none⟩ = false from fun i => (k1.frozen (by simp)).trans (by simp [go_sem]))
            clear k1
            obtain ⟨t0, t1, t2, t3, t4⟩ := KT.out
            have ty := KT.out.blk
            go_wp2_with fail
            refine (J1.out _).mono ?_
            rintro e w' ⟨rfl, rfl⟩
            go_wp2_with fail
            refine (J2.out _).mono ?_
            rintro e w' ⟨rfl, rfl⟩
            go_wp2_with fail
            refine (J3.out _).mono ?_
            rintro e w' ⟨rfl, rfl⟩
            go_wp2_with fail
            refine (J4.out _).mono ?_
            rintro e w' ⟨rfl, rfl⟩
            obtain ⟨r0, r1, r2, r3, r4⟩ := KR.out
            have ry := KR.out.blk
            have g0 := KF.out 0
            have g1 := KF.out 1
            have g2 := KF.out 2
            have g3 := KF.out 3
            have g4 := KF.out 4
            go_wp2_with fail
            refine bodyPost_ret (v := .tuple #[.agg #[.int .i64 0, .int .i64 0, .int .i64 0, .slice none 0 0, .slice none 0 0], .int .i64 2]) (by simp [results, Try.results5, go_sem, r0, r1, r2, r3, r4]) rfl ⟨_, _, _, _, rfl, nilR _ _, ?_⟩
            iterate 5 refine On.setCell ?_ (by show w.heap.size ≤ w.heap.size + 1; omega) _
            exact O1.out
          | true =>
            rw [sg_4 ho hh (by rw [gB_2 k3]; exact k4)]
            rw [k4] at J4
            obtain ⟨⟨e0, e1⟩, i0, iN, iN2⟩ := at_in (n := z3.length) hs hxy hh
            obtain ⟨⟨p0, p1⟩, q0, q1⟩ := of_has hh
            obtain ⟨I, hI⟩ : ∃ I : Nat, I = (py * x + px).toNat := ⟨_, rfl⟩
            have hI2 : py * x + px = (I : Int) := by omega
            rw [← hI] at iN
            rw [← hI]
            have wm : IntKind.i64.wrap (py * x) = py * x := IntWalk.i64_in _ (by omega)
            have wa : IntKind.i64.wrap (py * x + px) = (I : Int) := by rw [IntWalk.i64_in _ (by omega)]; exact hI2
            have iI : (I : Int) < (z3.length : Int) := by omega
            have iJ : (I : Int) < (z4.length : Int) := by omega
            have hIi : (0 : Int) ≤ (I : Int) := Int.natCast_nonneg _
            have n3 : 0 < z3.length := by omega
            have n4 : 0 < z4.length := by omega
            have jN : I < z4.length := by omega
            obtain ⟨b3, o3, rfl, hlt3, hcell3⟩ := Terr.slice_of h3' rfl n3
            obtain ⟨b4, o4, rfl, hlt4, hcell4⟩ := Terr.slice_of h4' rfl n4
            have HS := Lib.hid (fun w' (hb : On w w') hp => TRec.spec_own w.heap.size s x y b3 o3 cap3 b4 o4 cap4 z3 z4 w' n3 n4 q3 q4 (hb.lts _ hlt3) (hb.lts _ hlt4) (fun i hi => (hb.cell (by exact hlt3)).trans (hcell3 i hi)) (fun i hi => (hb.cell (by exact hlt4)).trans (hcell4 i hi)) hp)
            clear ho h3' h4' hh hs hxy hcl hp5 hI hI2 e0 e1 i0 iN2 hcell3 hcell4 p0 p1 q0 q1 k1 k2 k3 k4
            go_enter Try.func5, Try.ntmps5
            go_wp2_with fail
            refine (HV.out _ (by repeat (first | with_reducible exact On.refl _ | with_reducible exact Below.refl _ _ | apply On.alloc)) ⟨by simp [go_sem], by simp [go_sem], by simp [go_sem], by simp [go_sem], by simp [go_sem]⟩).mono ?_
            rintro e w1 ⟨rfl, k1⟩
            have O1 := Lib.hid (show On w w1 by refine On.trans ?_ k1; repeat (first | with_reducible exact On.refl _ | apply On.alloc))
            have KT := Lib.hid (show TRec.In w1 w.heap.size s x y (.slice (some ⟨b3, o3, none⟩) z3.length cap3) (.slice (some ⟨b4, o4, none⟩) z4.length cap4) from TRec.In.on ⟨by simp [go_sem], by simp [go_sem], by simp [go_sem], by simp [go_sem], by simp [go_sem]⟩ k1)
            have KR := Lib.hid (show TRec.In w1 (w.heap.size + 1) 0 0 0 (.slice none 0 0) (.slice none 0 0) from TRec.In.on ⟨by simp [go_sem], by simp [go_sem], by simp [go_sem], by simp [go_sem], by simp [go_sem]⟩ k1)
            have KF := Lib.hid (show ∀ i, w1.frozen? ⟨w.heap.size + 1, i, none⟩ = false from fun i => (k1.frozen (by simp)).trans (by simp [go_sem]))
            clear k1
            obtain ⟨t0, t1, t2, t3, t4⟩ := KT.out
            have ty := KT.out.blk
            go_wp2_with fail
            refine (J1.out _).mono ?_
            rintro e w' ⟨rfl, rfl⟩
            go_wp2_with fail
            refine (J2.out _).mono ?_
            rintro e w' ⟨rfl, rfl⟩
            go_wp2_with fail
            refine (J3.out _).mono ?_
            rintro e w' ⟨rfl, rfl⟩
            go_wp2_with fail
            refine (J4.out _).mono ?_
            rintro e w' ⟨rfl, rfl⟩
            go_wp2_with fail
            refine (HS.out _ O1.out KT.out).mono ?_
            rintro e w2 ⟨a3, c3, a4, c4, rfl, ⟨-, -, hw3, hw4, hd⟩, k2⟩
            clear t0 t1 t2 t3 t4 ty
            obtain ⟨t0, t1, t2, t3, t4⟩ := KT.out.on k2
            have ty := World.block_lt_of_cell? w2 _ t0
            obtain ⟨x3, d3, he3, hh3⟩ := hw3
            obtain ⟨e3, f3, rfl, hB3, hl3, hfz3, hc3⟩ := hh3 n3
            injection he3 with j1 j2 j3
            subst j1
            obtain ⟨x4, d4, he4, hh4⟩ := hw4
            obtain ⟨e4, f4, rfl, hB4, hl4, hfz4, hc4⟩ := hh4 n4
            injection he4 with j4 j5 j6
            subst j4
            have hne34 : e3 ≠ e4 := hd n3 n4 _ _ rfl rfl
            have K3 := Lib.hid (show Own w1.heap.size w2 (.slice (some ⟨e3, f3, none⟩) z3.length c3) z3 from ⟨_, c3, rfl, fun _ => ⟨e3, f3, rfl, hB3, hl3, hfz3, hc3⟩⟩)
            have K4 := Lib.hid (show Own w1.heap.size w2 (.slice (some ⟨e4, f4, none⟩) z4.length c4) z4 from ⟨_, c4, rfl, fun _ => ⟨e4, f4, rfl, hB4, hl4, hfz4, hc4⟩⟩)
            have y1 := hc3 I iN
            have y2 := hc4 I jN
            have y3 := hfz3 I iN
            have y4 := hfz4 I jN
            generalize z3.getD I 0 = old3 at y1
            generalize z4.getD I 0 = old4 at y2
            have hbw : w.heap.size + 1 < w1.heap.size := KR.out.blk
            have ne1 : e3 ≠ w.heap.size := by omega
            have ne2 : e4 ≠ w.heap.size := by omega
            have ne3 : e3 ≠ w.heap.size + 1 := by omega
            have ne4 : e4 ≠ w.heap.size + 1 := by omega
            have ne5 : e3 ≠ w2.heap.size := by omega
            have ne6 : e4 ≠ w2.heap.size := by omega
            have hs12 := k2.size
            have ne7 : w2.heap.size ≠ w.heap.size := by omega
            have ne8 : w2.heap.size ≠ w.heap.size + 1 := by omega
            have R2 := Lib.hid (KR.out.on k2)
            have F2 := Lib.hid (fun i => (k2.frozen (p := ⟨w.heap.size + 1, i, none⟩) (by exact hbw)).trans (KF.out i))
            have O2 := Lib.hid (On.trans O1.out k2)
            have hrl := R2.out.blk
            clear hh3 hh4 hc3 hc4 hfz3 hfz4 j2 j3 j5 j6 hd k2
            go_upto_region 7 with fail
            go_cut [11, 12] (fun s11 s12 wx => s11 = .int .i64 0 ∧ s12 = .pointer (some ⟨w2.heap.size, 0, none⟩) ∧ TRec.In wx w2.heap.size s x y (.slice (some ⟨e3, f3, none⟩) z3.length c3) (.slice (some ⟨e4, f4, none⟩) z4.length c4) ∧ Own w1.heap.size wx (.slice (some ⟨e3, f3, none⟩) z3.length c3) (z3.set I h) ∧ Own w1.heap.size wx (.slice (some ⟨e4, f4, none⟩) z4.length c4) (z4.set I c) ∧ TRec.In wx (w.heap.size + 1) 0 0 0 (.slice none 0 0) (.slice none 0 0) ∧ (∀ i, wx.frozen? ⟨w.heap.size + 1, i, none⟩ = false) ∧ On w wx)
            case first =>
              go_wp2_with fail
              go_meet
              have hn1 : ∀ o g i, g ≠ e3 → (⟨e3, o, none⟩ : Addr) ≠ ⟨g, i, none⟩ := fun o g i hg hc => by injection hc with h1 _ _; exact hg h1.symm
              have hn2 : ∀ o g i, g ≠ e4 → (⟨e4, o, none⟩ : Addr) ≠ ⟨g, i, none⟩ := fun o g i hg hc => by injection hc with h1 _ _; exact hg h1.symm
              have ha3 : w.heap.size ≤ e3 := by omega
              have ha4 : w.heap.size ≤ e4 := by omega
              refine ⟨rfl, rfl, ?_, ?_, ?_, ?_, ?_, ?_⟩
              · exact ⟨by simp [go_sem], by simp [go_sem], by simp [go_sem], by simp [go_sem], by simp [go_sem]⟩
              · exact (own_far (own_put rfl K3.out iN h) (p := ⟨e4, f4 + I, none⟩) (by exact hne34.symm) _).below (On.alloc (On.refl _) _)
              · exact (own_put rfl (own_far K4.out (p := ⟨e3, f3 + I, none⟩) (by exact hne34) _) jN c).below (On.alloc (On.refl _) _)
              · exact (R2.out.keep (fun i => (World.cell?_setCell_other (h := hn2 _ _ _ ne4.symm) ..).trans (World.cell?_setCell_other (h := hn1 _ _ _ ne3.symm) ..))).on (On.alloc (On.refl _) _)
              · intro i
                have hfi := F2.out i
                first | exact hfi | (simp [World.frozen?_setCell, go_sem, hfi, hrl]; done) | (refine ((On.alloc (On.refl _) _).frozen (by simp; exact hrl)).trans ?_; rw [World.frozen?_setCell, World.frozen?_setCell]; exact hfi)
              · exact On.alloc (On.setCell (On.setCell O2.out (p := ⟨e3, f3 + I, none⟩) ha3 _) (p := ⟨e4, f4 + I, none⟩) ha4 _) _
            case rest =>
              obtain ⟨rfl, rfl, hIn, hw3, hw4, hRn, hFn, hOn⟩ := hcut
              obtain ⟨w10, hw10⟩ : ∃ w10, w10 = wc := ⟨_, rfl⟩
              subst hw10
              have ty2 := hIn.blk
              obtain ⟨v0, v1, v2, v3, v4⟩ := hIn
              have ry := hRn.blk
              obtain ⟨r0, r1, r2, r3, r4⟩ := hRn
              have g0 := hFn 0
              have g1 := hFn 1
              have g2 := hFn 2
              have g3 := hFn 3
              have g4 := hFn 4
              have K3' := Lib.hid hw3
              have K4' := Lib.hid hw4
              have KO := Lib.hid hOn
              clear hw3 hw4 hFn hOn t0 t1 t2 t3 t4 ty y1 y2 y3 y4
              go_wp2_with fail
              have E3 : (sgL 0 (z3.set I h)).length = z3.length := by show (z3.set I h).length = _; rw [List.length_set]
              have E4 : (sgL 0 (z4.set I c)).length = z4.length := by show (z4.set I c).length = _; rw [List.length_set]
              rw [E3, E4]
              refine bodyPost_ret (v := .tuple #[.agg #[.int .i64 s, .int .i64 x, .int .i64 y, .slice (some ⟨e3, f3, none⟩) z3.length c3, .slice (some ⟨e4, f4, none⟩) z4.length c4], .int .i64 0]) (by simp [results, Try.results5, go_sem, r0, r1, r2, r3, r4]) rfl ⟨_, _, _, _, rfl, ⟨E3, E4, ?_, ?_, ?_⟩, ?_⟩
              · refine Own.mono (B := w1.heap.size) ?_ (by omega)
                iterate 5 refine Own.setCell ?_ (by exact hbw) _
                exact K3'.out
              · refine Own.mono (B := w1.heap.size) ?_ (by omega)
                iterate 5 refine Own.setCell ?_ (by exact hbw) _
                exact K4'.out
              · intro _ _ p q hp hq
                injection hp with hp
                injection hq with hq
                rw [← hp, ← hq]
                exact hne34
              · iterate 5 refine On.setCell ?_ (by show w.heap.size ≤ w.heap.size + 1; omega) _
                exact KO.out
theorem spec_SetGroundI (s x y px py h c : Int) (v3 v4 : Value) (z3 z4 : List Int) (w : World) (q3 : z3.length ≤ 1048576) (q4 : z4.length ≤ 1048576) (h3 : Ints w v3 z3) (h4 : Ints w v4 z4) :
    Calls Try.prog 5 #[.agg #[.int .i64 s, .int .i64 x, .int .i64 y, v3, v4], .int .i64 px, .int .i64 py, .int .i64 h, .int .i64 c] w fun e w' => ∃ a3 c3 a4 c4, e = .returned (.tuple #[.agg #[.int .i64 (sgI (sgC s x y px py h c z3 z4) s), .int .i64 (sgI (sgC s x y px py h c z3 z4) x), .int .i64 (sgI (sgC s x y px py h c z3 z4) y), .slice a3 (sgL (sgC s x y px py h c z3 z4) (z3.set (py * x + px).toNat h)).length c3, .slice a4 (sgL (sgC s x y px py h c z3 z4) (z4.set (py * x + px).toNat c)).length c4], .int .i64 (sgC s x y px py h c z3 z4)]) ∧ Ints w' (.slice a3 (sgL (sgC s x y px py h c z3 z4) (z3.set (py * x + px).toNat h)).length c3) (sgL (sgC s x y px py h c z3 z4) (z3.set (py * x + px).toNat h)) ∧ Ints w' (.slice a4 (sgL (sgC s x y px py h c z3 z4) (z4.set (py * x + px).toNat c)).length c4) (sgL (sgC s x y px py h c z3 z4) (z4.set (py * x + px).toNat c)) ∧ On w w' :=
  (spec_SetGround s x y px py h c v3 v4 z3 z4 w q3 q4 h3 h4).mono fun _ _ ⟨a3, c3, a4, c4, he, ho, k⟩ => ⟨a3, c3, a4, c4, he, ho.ints3, ho.ints4, k⟩
end Go.Proofs.Ytgcpnodpndgekaa.Grd
