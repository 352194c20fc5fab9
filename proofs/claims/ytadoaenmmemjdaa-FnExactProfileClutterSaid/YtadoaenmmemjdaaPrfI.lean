
/-
  The values of the ground between two points, in the program. Conditions: each theorem's own.
-/
import Derived.Test.YtadoaenmmemjdaaPrf0
import Derived.Test.YtadoaenmmemjdaaTerrOkI
import Derived.Test.YtadoaenmmemjdaaTerrClut2
import Derived.Test.YtadoaenmmemjdaaTerrHI
namespace Go.Proofs.Ytadoaenmmemjdaa.Prf
open Go.RowKit
open Plain Terr Plc
open Point (okB)
open Ints (Ints Own)
open Pts (OwnP flat flat_even flat_odd)
set_option maxRecDepth 100000 in
set_option maxHeartbeats 4000000 in
theorem impl_heights (F : Int → Int → Int) (s x y : Int) (a b : Option Addr) (n cap d dap : Nat) (zs cs : List Int) (ax ay bx bv j : Int) (w : World) (hzn : zs.length = n) (hcm : cs.length = d) (hn : n ≤ 1048576) (hm : d ≤ 1048576) (h : Ints w (.slice a n cap) zs) (k : Ints w (.slice b d dap) cs)
    (HK : ∀ (p q : Int) w', okT s x y zs cs = true → inT s x y p q = true → On w w' → Calls Try.prog 37 #[.agg #[.int .i64 s, .int .i64 x, .int .i64 y, .slice a n cap, .slice b d dap], .agg #[.int .i64 p, .int .i64 q]] w' fun e w'' => e = .returned (.int .i64 (F p q)) ∧ On w' w'') :
    Calls Try.prog 36 #[.agg #[.int .i64 s, .int .i64 x, .int .i64 y, .slice a n cap, .slice b d dap], .agg #[.int .i64 ax, .int .i64 ay], .agg #[.int .i64 bx, .int .i64 bv], .int .i64 j, .func (Fn.func 37) #[.agg #[.int .i64 s, .int .i64 x, .int .i64 y, .slice a n cap, .slice b d dap]] #[]] w fun e w' => ∃ v, e = .returned (.tuple #[v, .int .i64 (prC s x y ax ay bx bv j zs cs)]) ∧ Own w.heap.size w' v (prL F s x y ax ay bx bv j zs cs) ∧ On w w' := by
  have HV := Lib.hid (fun w' (hb : On w w') => impl_validT s x y a b n cap d dap zs cs w' hzn hcm hn hm (h.below hb) (k.below hb))
  have HK := Lib.hid HK
  clear h k
  cases ho : okT s x y zs cs with
  | false =>
    have hc := prC_0 (ax := ax) (ay := ay) (bx := bx) (bv := bv) (n := j) ho
    rw [prL_no hc (by omega), hc]
    rw [ho] at HV
    clear HK hc ho
    go_enter Try.func36, Try.ntmps36
    go_wp2_with fail
    refine (HV.out _ (by repeat (first | with_reducible exact On.refl _ | with_reducible exact Below.refl _ _ | apply On.alloc))).mono ?_
    rintro e w1 ⟨rfl, h1⟩
    go_wp2_with fail
    go_ret2
    exact ⟨_, rfl, Own.empty _ _ _ _, by refine On.trans ?_ h1; repeat (first | with_reducible exact On.refl _ | apply On.alloc)⟩
  | true =>
    rw [ho] at HV
    obtain ⟨hs, -⟩ := of_okT ho
    obtain ⟨⟨s0, s1⟩, ⟨x0, x1⟩, ⟨y0, y1⟩, -, -⟩ := of_size hs
    have HP := Lib.hid (fun w => impl_P ax ay bx bv j w)
    have HG := Lib.hid (fun w => impl_grid s x y a b n cap d dap w)
    have HIA := Lib.hid (fun w => impl_contains s x y ax ay w s0 s1 x0 x1 y0 y1)
    have HIB := Lib.hid (fun w => impl_contains s x y bx bv w s0 s1 x0 x1 y0 y1)
    cases oa : okB ax ay with
    | false =>
      have hc := prC_1 (bx := bx) (bv := bv) (n := j) ho oa
      rw [prL_no hc (by omega), hc]
      have hp := plC_1 (bx := bx) (bv := bv) (n := j) oa
      rw [plL_no hp (by omega), hp] at HP
      clear HK hc hp ho oa hs
      go_enter Try.func36, Try.ntmps36
      go_wp2_with fail
      refine (HV.out _ (by repeat (first | with_reducible exact On.refl _ | with_reducible exact Below.refl _ _ | apply On.alloc))).mono ?_
      rintro e w1 ⟨rfl, h1⟩
      have T1 : TIn w1 w.heap.size s x y (.slice a n cap) (.slice b d dap) := TIn.on ⟨by simp [go_sem], by simp [go_sem], by simp [go_sem], by simp [go_sem], by simp [go_sem]⟩ h1
      have c0 : w1.cell? ⟨w.heap.size + 1, 0, none⟩ = some (.int .i64 ax) := (h1.cell (by simp; try omega)).trans (by simp [go_sem])
      have c1 : w1.cell? ⟨w.heap.size + 1, 1, none⟩ = some (.int .i64 ay) := (h1.cell (by simp; try omega)).trans (by simp [go_sem])
      have c2 : w1.cell? ⟨w.heap.size + 1 + 1, 0, none⟩ = some (.int .i64 bx) := (h1.cell (by simp)).trans (by simp [go_sem])
      have c3 : w1.cell? ⟨w.heap.size + 1 + 1, 1, none⟩ = some (.int .i64 bv) := (h1.cell (by simp)).trans (by simp [go_sem])
      have O1 := Lib.hid (show On w w1 by refine On.trans ?_ h1; repeat (first | with_reducible exact On.refl _ | apply On.alloc))
      have KT := Lib.hid T1
      have KP := Lib.hid (And.intro c0 (And.intro c1 (And.intro c2 c3)))
      clear h1 T1
      go_wp2_with fail
      refine (HP.out _).mono ?_
      rintro e w2 ⟨v2, rfl, op, h2⟩
      have O2 := Lib.hid (On.trans O1.out h2)
      clear h2 op
      go_wp2_with fail
      go_ret2
      exact ⟨_, rfl, Own.empty _ _ _ _, O2.out⟩
    | true =>
      cases ob : okB bx bv with
      | false =>
        have hc := prC_2 (ax := ax) (ay := ay) (n := j) ho ob
        rw [prL_no hc (by omega), hc]
        have hp := plC_2 (ax := ax) (ay := ay) (n := j) ob
        rw [plL_no hp (by omega), hp] at HP
        clear HK hc hp ho oa ob hs
        go_enter Try.func36, Try.ntmps36
        go_wp2_with fail
        refine (HV.out _ (by repeat (first | with_reducible exact On.refl _ | with_reducible exact Below.refl _ _ | apply On.alloc))).mono ?_
        rintro e w1 ⟨rfl, h1⟩
        have T1 : TIn w1 w.heap.size s x y (.slice a n cap) (.slice b d dap) := TIn.on ⟨by simp [go_sem], by simp [go_sem], by simp [go_sem], by simp [go_sem], by simp [go_sem]⟩ h1
        have c0 : w1.cell? ⟨w.heap.size + 1, 0, none⟩ = some (.int .i64 ax) := (h1.cell (by simp; try omega)).trans (by simp [go_sem])
        have c1 : w1.cell? ⟨w.heap.size + 1, 1, none⟩ = some (.int .i64 ay) := (h1.cell (by simp; try omega)).trans (by simp [go_sem])
        have c2 : w1.cell? ⟨w.heap.size + 1 + 1, 0, none⟩ = some (.int .i64 bx) := (h1.cell (by simp)).trans (by simp [go_sem])
        have c3 : w1.cell? ⟨w.heap.size + 1 + 1, 1, none⟩ = some (.int .i64 bv) := (h1.cell (by simp)).trans (by simp [go_sem])
        have O1 := Lib.hid (show On w w1 by refine On.trans ?_ h1; repeat (first | with_reducible exact On.refl _ | apply On.alloc))
        have KT := Lib.hid T1
        have KP := Lib.hid (And.intro c0 (And.intro c1 (And.intro c2 c3)))
        clear h1 T1
        go_wp2_with fail
        refine (HP.out _).mono ?_
        rintro e w2 ⟨v2, rfl, op, h2⟩
        have O2 := Lib.hid (On.trans O1.out h2)
        clear h2 op
        go_wp2_with fail
        go_ret2
        exact ⟨_, rfl, Own.empty _ _ _ _, O2.out⟩
      | true =>
        cases hj : inB j 2 65 with
        | false =>
          have hc := prC_3 ho oa ob hj
          rw [prL_no hc (by omega), hc]
          have hp := plC_3 oa ob hj
          rw [plL_no hp (by omega), hp] at HP
          clear HK hc hp ho oa ob hs hj
          go_enter Try.func36, Try.ntmps36
          go_wp2_with fail
          refine (HV.out _ (by repeat (first | with_reducible exact On.refl _ | with_reducible exact Below.refl _ _ | apply On.alloc))).mono ?_
          rintro e w1 ⟨rfl, h1⟩
          have T1 : TIn w1 w.heap.size s x y (.slice a n cap) (.slice b d dap) := TIn.on ⟨by simp [go_sem], by simp [go_sem], by simp [go_sem], by simp [go_sem], by simp [go_sem]⟩ h1
          have c0 : w1.cell? ⟨w.heap.size + 1, 0, none⟩ = some (.int .i64 ax) := (h1.cell (by simp; try omega)).trans (by simp [go_sem])
          have c1 : w1.cell? ⟨w.heap.size + 1, 1, none⟩ = some (.int .i64 ay) := (h1.cell (by simp; try omega)).trans (by simp [go_sem])
          have c2 : w1.cell? ⟨w.heap.size + 1 + 1, 0, none⟩ = some (.int .i64 bx) := (h1.cell (by simp)).trans (by simp [go_sem])
          have c3 : w1.cell? ⟨w.heap.size + 1 + 1, 1, none⟩ = some (.int .i64 bv) := (h1.cell (by simp)).trans (by simp [go_sem])
          have O1 := Lib.hid (show On w w1 by refine On.trans ?_ h1; repeat (first | with_reducible exact On.refl _ | apply On.alloc))
          have KT := Lib.hid T1
          have KP := Lib.hid (And.intro c0 (And.intro c1 (And.intro c2 c3)))
          clear h1 T1
          go_wp2_with fail
          refine (HP.out _).mono ?_
          rintro e w2 ⟨v2, rfl, op, h2⟩
          have O2 := Lib.hid (On.trans O1.out h2)
          clear h2 op
          go_wp2_with fail
          go_ret2
          exact ⟨_, rfl, Own.empty _ _ _ _, O2.out⟩
        | true =>
          obtain ⟨n0, n1⟩ := of_inB hj
          obtain ⟨m, rfl⟩ : ∃ m : Nat, j = (m : Int) := ⟨j.toNat, by omega⟩
          clear HP
          have HP := Lib.hid (fun w => impl_places ax ay bx bv m w oa ob (by omega) (by omega))
          cases ia : inT s x y ax ay with
          | false =>
            have hc := prC_4 ho oa ob hj ia
            rw [prL_no hc (by omega), hc]
            rw [ia] at HIA
            clear HK hc ho oa ob hs hj ia
            go_enter Try.func36, Try.ntmps36
            go_wp2_with fail
            refine (HV.out _ (by repeat (first | with_reducible exact On.refl _ | with_reducible exact Below.refl _ _ | apply On.alloc))).mono ?_
            rintro e w1 ⟨rfl, h1⟩
            have T1 : TIn w1 w.heap.size s x y (.slice a n cap) (.slice b d dap) := TIn.on ⟨by simp [go_sem], by simp [go_sem], by simp [go_sem], by simp [go_sem], by simp [go_sem]⟩ h1
            have c0 : w1.cell? ⟨w.heap.size + 1, 0, none⟩ = some (.int .i64 ax) := (h1.cell (by simp; try omega)).trans (by simp [go_sem])
            have c1 : w1.cell? ⟨w.heap.size + 1, 1, none⟩ = some (.int .i64 ay) := (h1.cell (by simp; try omega)).trans (by simp [go_sem])
            have c2 : w1.cell? ⟨w.heap.size + 1 + 1, 0, none⟩ = some (.int .i64 bx) := (h1.cell (by simp)).trans (by simp [go_sem])
            have c3 : w1.cell? ⟨w.heap.size + 1 + 1, 1, none⟩ = some (.int .i64 bv) := (h1.cell (by simp)).trans (by simp [go_sem])
            have O1 := Lib.hid (show On w w1 by refine On.trans ?_ h1; repeat (first | with_reducible exact On.refl _ | apply On.alloc))
            have KT := Lib.hid T1
            have KP := Lib.hid (And.intro c0 (And.intro c1 (And.intro c2 c3)))
            clear h1 T1
            go_wp2_with fail
            refine (HP.out _).mono ?_
            rintro e w2 ⟨pa, pc, rfl, op, h2⟩
            have O2 := Lib.hid (On.trans O1.out h2)
            obtain ⟨k0, k1, k2, k3, k4⟩ := KT.out.on h2
            obtain ⟨d0, d1⟩ := heldP KP.out.1 KP.out.2.1 h2
            obtain ⟨d2, d3⟩ := heldP KP.out.2.2.1 KP.out.2.2.2 h2
            have z0 := World.block_lt_of_cell? w2 _ k0
            have z1 := World.block_lt_of_cell? w2 _ d0
            have z2 := World.block_lt_of_cell? w2 _ d2
            clear h2 c0 c1 c2 c3 KP KT
            clear op
            go_wp2_with fail
            refine wp_region_onh (by kernel_rfl) (by kernel_rfl) ?_
            repeat (refine rest_step (fun K hK => ?_); go_simp; first | (refine hK _ ?_; clear hK K) | (apply Exists.intro; refine ⟨fun v1 hv1 => ?_, hK _ ?_⟩; (first | with_reducible exact rfl | with_reducible exact ⟨rfl, rfl⟩ | with_reducible exact Calls.on hv1 (HG.out _) | with_reducible exact Calls.on hv1 (HIA.out _) | with_reducible exact Calls.on hv1 (HIB.out _) | (obtain ⟨hc, hf⟩ := bcell hv1; go_simp; first | with_reducible exact rfl | with_reducible exact ⟨rfl, rfl⟩ | exact rfl | exact ⟨rfl, rfl⟩)); clear hK K))
            refine rest_nil ?_
            intro w3 h3
            have O3 := Lib.hid (On.trans O2.out h3)
            go_wp2_with fail
            go_ret2
            exact ⟨_, rfl, Own.empty _ _ _ _, O3.out⟩
          | true =>
            cases ib : inT s x y bx bv with
            | false =>
              have hc := prC_5 ho oa ob hj ib
              rw [prL_no hc (by omega), hc]
              rw [ia] at HIA
              rw [ib] at HIB
              clear HK hc ho oa ob hs hj ia ib
              go_enter Try.func36, Try.ntmps36
              go_wp2_with fail
              refine (HV.out _ (by repeat (first | with_reducible exact On.refl _ | with_reducible exact Below.refl _ _ | apply On.alloc))).mono ?_
              rintro e w1 ⟨rfl, h1⟩
              have T1 : TIn w1 w.heap.size s x y (.slice a n cap) (.slice b d dap) := TIn.on ⟨by simp [go_sem], by simp [go_sem], by simp [go_sem], by simp [go_sem], by simp [go_sem]⟩ h1
              have c0 : w1.cell? ⟨w.heap.size + 1, 0, none⟩ = some (.int .i64 ax) := (h1.cell (by simp; try omega)).trans (by simp [go_sem])
              have c1 : w1.cell? ⟨w.heap.size + 1, 1, none⟩ = some (.int .i64 ay) := (h1.cell (by simp; try omega)).trans (by simp [go_sem])
              have c2 : w1.cell? ⟨w.heap.size + 1 + 1, 0, none⟩ = some (.int .i64 bx) := (h1.cell (by simp)).trans (by simp [go_sem])
              have c3 : w1.cell? ⟨w.heap.size + 1 + 1, 1, none⟩ = some (.int .i64 bv) := (h1.cell (by simp)).trans (by simp [go_sem])
              have O1 := Lib.hid (show On w w1 by refine On.trans ?_ h1; repeat (first | with_reducible exact On.refl _ | apply On.alloc))
              have KT := Lib.hid T1
              have KP := Lib.hid (And.intro c0 (And.intro c1 (And.intro c2 c3)))
              clear h1 T1
              go_wp2_with fail
              refine (HP.out _).mono ?_
              rintro e w2 ⟨pa, pc, rfl, op, h2⟩
              have O2 := Lib.hid (On.trans O1.out h2)
              obtain ⟨k0, k1, k2, k3, k4⟩ := KT.out.on h2
              obtain ⟨d0, d1⟩ := heldP KP.out.1 KP.out.2.1 h2
              obtain ⟨d2, d3⟩ := heldP KP.out.2.2.1 KP.out.2.2.2 h2
              have z0 := World.block_lt_of_cell? w2 _ k0
              have z1 := World.block_lt_of_cell? w2 _ d0
              have z2 := World.block_lt_of_cell? w2 _ d2
              clear h2 c0 c1 c2 c3 KP KT
              clear op
              go_wp2_with fail
              refine wp_region_onh (by kernel_rfl) (by kernel_rfl) ?_
              repeat (refine rest_step (fun K hK => ?_); go_simp; first | (refine hK _ ?_; clear hK K) | (apply Exists.intro; refine ⟨fun v1 hv1 => ?_, hK _ ?_⟩; (first | with_reducible exact rfl | with_reducible exact ⟨rfl, rfl⟩ | with_reducible exact Calls.on hv1 (HG.out _) | with_reducible exact Calls.on hv1 (HIA.out _) | with_reducible exact Calls.on hv1 (HIB.out _) | (obtain ⟨hc, hf⟩ := bcell hv1; go_simp; first | with_reducible exact rfl | with_reducible exact ⟨rfl, rfl⟩ | exact rfl | exact ⟨rfl, rfl⟩)); clear hK K))
              refine rest_nil ?_
              intro w3 h3
              have O3 := Lib.hid (On.trans O2.out h3)
              go_wp2_with fail
              go_ret2
              exact ⟨_, rfl, Own.empty _ _ _ _, O3.out⟩
            | true =>
              have hc := prC_6 ho oa ob hj ia ib
              rw [prL_yes hc, hc]
              rw [ia] at HIA
              rw [ib] at HIB
              have HIN := Lib.hid (fun k (hk : k < m) => plc_in (s := s) (x := x) (y := y) (by omega) hk ia ib)
              have hpl := plcs_len ax ay bx bv m
              obtain ⟨ps, hps⟩ : ∃ ps, ps = plcs ax ay bx bv m := ⟨_, rfl⟩
              have HK2 := Lib.hid (fun p q w' hi ho' => HK.out p q w' ho hi ho')
              rw [← hps] at HP HIN hpl
              rw [← hps]
              obtain ⟨vs, hvs⟩ : ∃ vs, vs = vals F ps := ⟨_, rfl⟩
              have HVS := Lib.hid (fun k (hk : k < m) => show vs.getD k 0 = F (ps.getD k (0, 0)).1 (ps.getD k (0, 0)).2 by rw [hvs]; exact vals_at F (by omega))
              have HVL := Lib.hid (show vs.length = m by rw [hvs, vals_len, hpl])
              rw [← hvs]
              have hmk := fun w => run_make_row' (P := Try.prog) 32 2 (.int .i64 0) 8 Try.underlying32 Ints.info rfl .i64 .i64 m (by omega) (by omega) w
              clear HK hc ho oa ob hs hj ia ib hps hvs
              go_enter Try.func36, Try.ntmps36
              go_wp2_with fail
              refine (HV.out _ (by repeat (first | with_reducible exact On.refl _ | with_reducible exact Below.refl _ _ | apply On.alloc))).mono ?_
              rintro e w1 ⟨rfl, h1⟩
              have T1 : TIn w1 w.heap.size s x y (.slice a n cap) (.slice b d dap) := TIn.on ⟨by simp [go_sem], by simp [go_sem], by simp [go_sem], by simp [go_sem], by simp [go_sem]⟩ h1
              have c0 : w1.cell? ⟨w.heap.size + 1, 0, none⟩ = some (.int .i64 ax) := (h1.cell (by simp; try omega)).trans (by simp [go_sem])
              have c1 : w1.cell? ⟨w.heap.size + 1, 1, none⟩ = some (.int .i64 ay) := (h1.cell (by simp; try omega)).trans (by simp [go_sem])
              have c2 : w1.cell? ⟨w.heap.size + 1 + 1, 0, none⟩ = some (.int .i64 bx) := (h1.cell (by simp)).trans (by simp [go_sem])
              have c3 : w1.cell? ⟨w.heap.size + 1 + 1, 1, none⟩ = some (.int .i64 bv) := (h1.cell (by simp)).trans (by simp [go_sem])
              have O1 := Lib.hid (show On w w1 by refine On.trans ?_ h1; repeat (first | with_reducible exact On.refl _ | apply On.alloc))
              have KT := Lib.hid T1
              have KP := Lib.hid (And.intro c0 (And.intro c1 (And.intro c2 c3)))
              clear h1 T1
              go_wp2_with fail
              refine (HP.out _).mono ?_
              rintro e w2 ⟨pa, pc, rfl, op, h2⟩
              have O2 := Lib.hid (On.trans O1.out h2)
              obtain ⟨k0, k1, k2, k3, k4⟩ := KT.out.on h2
              obtain ⟨d0, d1⟩ := heldP KP.out.1 KP.out.2.1 h2
              obtain ⟨d2, d3⟩ := heldP KP.out.2.2.1 KP.out.2.2.2 h2
              have z0 := World.block_lt_of_cell? w2 _ k0
              have z1 := World.block_lt_of_cell? w2 _ d0
              have z2 := World.block_lt_of_cell? w2 _ d2
              clear h2 c0 c1 c2 c3 KP KT
              have HOP := Lib.hid op
              clear op
              go_wp2_with fail
              refine wp_region_onh (by kernel_rfl) (by kernel_rfl) ?_
              repeat (refine rest_step (fun K hK => ?_); go_simp; first | (refine hK _ ?_; clear hK K) | (apply Exists.intro; refine ⟨fun v1 hv1 => ?_, hK _ ?_⟩; (first | with_reducible exact rfl | with_reducible exact ⟨rfl, rfl⟩ | with_reducible exact Calls.on hv1 (HG.out _) | with_reducible exact Calls.on hv1 (HIA.out _) | with_reducible exact Calls.on hv1 (HIB.out _) | (obtain ⟨hc, hf⟩ := bcell hv1; go_simp; first | with_reducible exact rfl | with_reducible exact ⟨rfl, rfl⟩ | exact rfl | exact ⟨rfl, rfl⟩)); clear hK K))
              refine rest_nil ?_
              intro w3 h3
              have O3 := Lib.hid (On.trans O2.out h3)
              obtain ⟨a', cap', he, hcc⟩ := HOP.out.below h3
              obtain ⟨q, off, hq, -, hlt, -, hcl⟩ := hcc (by omega)
              injection he with e1 e2 e3
              subst e1
              subst hq
              rw [hpl] at hcl
              have HCL := Lib.hid hcl
              clear hcl hcc e2 e3 h3 k0 k1 k2 k3 k4 d0 d1 d2 d3 z0 z1 z2
              go_wp2_with fail
              clear hmk
              go_loopw [46] (fun i wr => ∃ k : Nat, k ≤ m ∧ i = .int .i64 k ∧ wr.rowIs w3.heap.size 2 m (fun j => if j < k then .int .i64 (vs.getD j 0) else .int .i64 0) ∧ On w3 wr) (fun i _ => m - (intOf i).toNat)
              case atStart =>
                refine ⟨0, Nat.zero_le _, rfl, ?_, On.alloc (On.refl _) _⟩
                exact (World.rowIs_made w3 (.int .i64 0) m _).congr fun i _ => by simp
              case round =>
                obtain ⟨k, hk, rfl, hrow, hb⟩ := hrel
                have HR := Lib.hid hrow
                have HB := Lib.hid hb
                clear hrow hb
                by_cases hlt2 : k < m
                · have hlti : (k : Int) < (m : Int) := by omega
                  obtain ⟨px, hpx⟩ : ∃ p, p = (ps.getD k (0, 0)).1 := ⟨_, rfl⟩
                  obtain ⟨py, hpy⟩ : ∃ p, p = (ps.getD k (0, 0)).2 := ⟨_, rfl⟩
                  have hin := HIN.out k hlt2
                  have hv := HVS.out k hlt2
                  rw [← hpx, ← hpy] at hin hv
                  have p0 : wr.cell? ⟨q, off + k * 2, none⟩ = some (.int .i64 px) := by rw [hpx, ← flat_even]; exact (HB.out.cell (by exact hlt)).trans (HCL.out (k * 2) (by omega))
                  have p1 : wr.cell? ⟨q, off + k * 2 + 1, none⟩ = some (.int .i64 py) := by rw [hpy, ← flat_odd]; exact (HB.out.cell (by exact hlt)).trans (HCL.out (k * 2 + 1) (by omega))
                  have HKK := Lib.hid (fun w' (ho' : On w w') => HK2.out px py w' hin ho')
                  have HV2 := Lib.hid hv
                  have HOr := Lib.hid (On.trans O3.out HB.out)
                  have hG := HR.out.lt
                  clear hpx hpy hin hv
                  go_wp2_with fail
                  refine (HKK.out _ (by refine On.trans HOr.out ?_; repeat (first | with_reducible exact On.refl _ | apply On.alloc | (refine On.setCell ?_ (by (try simp) <;> omega) _)))).mono ?_
                  rintro e w5 ⟨rfl, h5⟩
                  have h5r : On wr w5 := by refine On.trans ?_ h5; repeat (first | with_reducible exact On.refl _ | apply On.alloc | (refine On.setCell ?_ (by (try simp) <;> omega) _))
                  have hR5 := HR.out.of_block (h5r.block _ HR.out.lt)
                  have HR5 := Lib.hid hR5
                  have HB5 := Lib.hid (HB.out.trans h5r)
                  have d1 : w5.cell? ⟨w3.heap.size, k, none⟩ = some (.int .i64 0) := by have := hR5.cell hlt2; rw [if_neg (by omega)] at this; exact this
                  have f1 : w5.frozen? ⟨w3.heap.size, k, none⟩ = false := hR5.frozen k
                  clear h5 h5r hR5
                  go_wp2_with fail
                  go_roundw
                  case rel =>
                    refine ⟨k + 1, by omega, by go_num, (HR5.out.set k _).congr fun i _ => ?_, HB5.out.setCell (by exact Nat.le_refl _) _⟩
                    by_cases h1 : i = k
                    · subst h1; rw [if_pos rfl, if_pos (by omega), HV2.out]
                    · rw [if_neg h1]
                      by_cases h2 : i < k
                      · rw [if_pos h2, if_pos (by omega)]
                      · rw [if_neg h2, if_neg (by omega)]
                  case measure => simp [intOf]; omega
                · have hfin := Lib.hid ((HR.out.congr fun i hi => by rw [if_pos (by omega)]) : wr.rowIs w3.heap.size _ m (fun j => .int .i64 (vs.getD j 0)))
                  go_wp2_with fail
                  go_ret2
                  refine ⟨_, rfl, ?_, On.trans O3.out HB.out⟩
                  have h9 := hfin.out
                  rw [← HVL.out] at h9
                  have := Own.of_row (cap := m) h9 (show w.heap.size ≤ w3.heap.size from O3.out.size)
                  rw [HVL.out] at this
                  exact this
set_option maxRecDepth 100000 in
set_option maxHeartbeats 4000000 in
theorem impl_clutters (F : Int → Int → Int) (s x y : Int) (a b : Option Addr) (n cap d dap : Nat) (zs cs : List Int) (ax ay bx bv j : Int) (w : World) (hzn : zs.length = n) (hcm : cs.length = d) (hn : n ≤ 1048576) (hm : d ≤ 1048576) (h : Ints w (.slice a n cap) zs) (k : Ints w (.slice b d dap) cs)
    (HK : ∀ (p q : Int) w', okT s x y zs cs = true → inT s x y p q = true → On w w' → Calls Try.prog 39 #[.agg #[.int .i64 s, .int .i64 x, .int .i64 y, .slice a n cap, .slice b d dap], .agg #[.int .i64 p, .int .i64 q]] w' fun e w'' => e = .returned (.int .i64 (F p q)) ∧ On w' w'') :
    Calls Try.prog 36 #[.agg #[.int .i64 s, .int .i64 x, .int .i64 y, .slice a n cap, .slice b d dap], .agg #[.int .i64 ax, .int .i64 ay], .agg #[.int .i64 bx, .int .i64 bv], .int .i64 j, .func (Fn.func 39) #[.agg #[.int .i64 s, .int .i64 x, .int .i64 y, .slice a n cap, .slice b d dap]] #[]] w fun e w' => ∃ v, e = .returned (.tuple #[v, .int .i64 (prC s x y ax ay bx bv j zs cs)]) ∧ Own w.heap.size w' v (prL F s x y ax ay bx bv j zs cs) ∧ On w w' := by
  have HV := Lib.hid (fun w' (hb : On w w') => impl_validT s x y a b n cap d dap zs cs w' hzn hcm hn hm (h.below hb) (k.below hb))
  have HK := Lib.hid HK
  clear h k
  cases ho : okT s x y zs cs with
  | false =>
    have hc := prC_0 (ax := ax) (ay := ay) (bx := bx) (bv := bv) (n := j) ho
    rw [prL_no hc (by omega), hc]
    rw [ho] at HV
    clear HK hc ho
    go_enter Try.func36, Try.ntmps36
    go_wp2_with fail
    refine (HV.out _ (by repeat (first | with_reducible exact On.refl _ | with_reducible exact Below.refl _ _ | apply On.alloc))).mono ?_
    rintro e w1 ⟨rfl, h1⟩
    go_wp2_with fail
    go_ret2
    exact ⟨_, rfl, Own.empty _ _ _ _, by refine On.trans ?_ h1; repeat (first | with_reducible exact On.refl _ | apply On.alloc)⟩
  | true =>
    rw [ho] at HV
    obtain ⟨hs, -⟩ := of_okT ho
    obtain ⟨⟨s0, s1⟩, ⟨x0, x1⟩, ⟨y0, y1⟩, -, -⟩ := of_size hs
    have HP := Lib.hid (fun w => impl_P ax ay bx bv j w)
    have HG := Lib.hid (fun w => impl_grid s x y a b n cap d dap w)
    have HIA := Lib.hid (fun w => impl_contains s x y ax ay w s0 s1 x0 x1 y0 y1)
    have HIB := Lib.hid (fun w => impl_contains s x y bx bv w s0 s1 x0 x1 y0 y1)
    cases oa : okB ax ay with
    | false =>
      have hc := prC_1 (bx := bx) (bv := bv) (n := j) ho oa
      rw [prL_no hc (by omega), hc]
      have hp := plC_1 (bx := bx) (bv := bv) (n := j) oa
      rw [plL_no hp (by omega), hp] at HP
      clear HK hc hp ho oa hs
      go_enter Try.func36, Try.ntmps36
      go_wp2_with fail
      refine (HV.out _ (by repeat (first | with_reducible exact On.refl _ | with_reducible exact Below.refl _ _ | apply On.alloc))).mono ?_
      rintro e w1 ⟨rfl, h1⟩
      have T1 : TIn w1 w.heap.size s x y (.slice a n cap) (.slice b d dap) := TIn.on ⟨by simp [go_sem], by simp [go_sem], by simp [go_sem], by simp [go_sem], by simp [go_sem]⟩ h1
      have c0 : w1.cell? ⟨w.heap.size + 1, 0, none⟩ = some (.int .i64 ax) := (h1.cell (by simp; try omega)).trans (by simp [go_sem])
      have c1 : w1.cell? ⟨w.heap.size + 1, 1, none⟩ = some (.int .i64 ay) := (h1.cell (by simp; try omega)).trans (by simp [go_sem])
      have c2 : w1.cell? ⟨w.heap.size + 1 + 1, 0, none⟩ = some (.int .i64 bx) := (h1.cell (by simp)).trans (by simp [go_sem])
      have c3 : w1.cell? ⟨w.heap.size + 1 + 1, 1, none⟩ = some (.int .i64 bv) := (h1.cell (by simp)).trans (by simp [go_sem])
      have O1 := Lib.hid (show On w w1 by refine On.trans ?_ h1; repeat (first | with_reducible exact On.refl _ | apply On.alloc))
      have KT := Lib.hid T1
      have KP := Lib.hid (And.intro c0 (And.intro c1 (And.intro c2 c3)))
      clear h1 T1
      go_wp2_with fail
      refine (HP.out _).mono ?_
      rintro e w2 ⟨v2, rfl, op, h2⟩
      have O2 := Lib.hid (On.trans O1.out h2)
      clear h2 op
      go_wp2_with fail
      go_ret2
      exact ⟨_, rfl, Own.empty _ _ _ _, O2.out⟩
    | true =>
      cases ob : okB bx bv with
      | false =>
        have hc := prC_2 (ax := ax) (ay := ay) (n := j) ho ob
        rw [prL_no hc (by omega), hc]
        have hp := plC_2 (ax := ax) (ay := ay) (n := j) ob
        rw [plL_no hp (by omega), hp] at HP
        clear HK hc hp ho oa ob hs
        go_enter Try.func36, Try.ntmps36
        go_wp2_with fail
        refine (HV.out _ (by repeat (first | with_reducible exact On.refl _ | with_reducible exact Below.refl _ _ | apply On.alloc))).mono ?_
        rintro e w1 ⟨rfl, h1⟩
        have T1 : TIn w1 w.heap.size s x y (.slice a n cap) (.slice b d dap) := TIn.on ⟨by simp [go_sem], by simp [go_sem], by simp [go_sem], by simp [go_sem], by simp [go_sem]⟩ h1
        have c0 : w1.cell? ⟨w.heap.size + 1, 0, none⟩ = some (.int .i64 ax) := (h1.cell (by simp; try omega)).trans (by simp [go_sem])
        have c1 : w1.cell? ⟨w.heap.size + 1, 1, none⟩ = some (.int .i64 ay) := (h1.cell (by simp; try omega)).trans (by simp [go_sem])
        have c2 : w1.cell? ⟨w.heap.size + 1 + 1, 0, none⟩ = some (.int .i64 bx) := (h1.cell (by simp)).trans (by simp [go_sem])
        have c3 : w1.cell? ⟨w.heap.size + 1 + 1, 1, none⟩ = some (.int .i64 bv) := (h1.cell (by simp)).trans (by simp [go_sem])
        have O1 := Lib.hid (show On w w1 by refine On.trans ?_ h1; repeat (first | with_reducible exact On.refl _ | apply On.alloc))
        have KT := Lib.hid T1
        have KP := Lib.hid (And.intro c0 (And.intro c1 (And.intro c2 c3)))
        clear h1 T1
        go_wp2_with fail
        refine (HP.out _).mono ?_
        rintro e w2 ⟨v2, rfl, op, h2⟩
        have O2 := Lib.hid (On.trans O1.out h2)
        clear h2 op
        go_wp2_with fail
        go_ret2
        exact ⟨_, rfl, Own.empty _ _ _ _, O2.out⟩
      | true =>
        cases hj : inB j 2 65 with
        | false =>
          have hc := prC_3 ho oa ob hj
          rw [prL_no hc (by omega), hc]
          have hp := plC_3 oa ob hj
          rw [plL_no hp (by omega), hp] at HP
          clear HK hc hp ho oa ob hs hj
          go_enter Try.func36, Try.ntmps36
          go_wp2_with fail
          refine (HV.out _ (by repeat (first | with_reducible exact On.refl _ | with_reducible exact Below.refl _ _ | apply On.alloc))).mono ?_
          rintro e w1 ⟨rfl, h1⟩
          have T1 : TIn w1 w.heap.size s x y (.slice a n cap) (.slice b d dap) := TIn.on ⟨by simp [go_sem], by simp [go_sem], by simp [go_sem], by simp [go_sem], by simp [go_sem]⟩ h1
          have c0 : w1.cell? ⟨w.heap.size + 1, 0, none⟩ = some (.int .i64 ax) := (h1.cell (by simp; try omega)).trans (by simp [go_sem])
          have c1 : w1.cell? ⟨w.heap.size + 1, 1, none⟩ = some (.int .i64 ay) := (h1.cell (by simp; try omega)).trans (by simp [go_sem])
          have c2 : w1.cell? ⟨w.heap.size + 1 + 1, 0, none⟩ = some (.int .i64 bx) := (h1.cell (by simp)).trans (by simp [go_sem])
          have c3 : w1.cell? ⟨w.heap.size + 1 + 1, 1, none⟩ = some (.int .i64 bv) := (h1.cell (by simp)).trans (by simp [go_sem])
          have O1 := Lib.hid (show On w w1 by refine On.trans ?_ h1; repeat (first | with_reducible exact On.refl _ | apply On.alloc))
          have KT := Lib.hid T1
          have KP := Lib.hid (And.intro c0 (And.intro c1 (And.intro c2 c3)))
          clear h1 T1
          go_wp2_with fail
          refine (HP.out _).mono ?_
          rintro e w2 ⟨v2, rfl, op, h2⟩
          have O2 := Lib.hid (On.trans O1.out h2)
          clear h2 op
          go_wp2_with fail
          go_ret2
          exact ⟨_, rfl, Own.empty _ _ _ _, O2.out⟩
        | true =>
          obtain ⟨n0, n1⟩ := of_inB hj
          obtain ⟨m, rfl⟩ : ∃ m : Nat, j = (m : Int) := ⟨j.toNat, by omega⟩
          clear HP
          have HP := Lib.hid (fun w => impl_places ax ay bx bv m w oa ob (by omega) (by omega))
          cases ia : inT s x y ax ay with
          | false =>
            have hc := prC_4 ho oa ob hj ia
            rw [prL_no hc (by omega), hc]
            rw [ia] at HIA
            clear HK hc ho oa ob hs hj ia
            go_enter Try.func36, Try.ntmps36
            go_wp2_with fail
            refine (HV.out _ (by repeat (first | with_reducible exact On.refl _ | with_reducible exact Below.refl _ _ | apply On.alloc))).mono ?_
            rintro e w1 ⟨rfl, h1⟩
            have T1 : TIn w1 w.heap.size s x y (.slice a n cap) (.slice b d dap) := TIn.on ⟨by simp [go_sem], by simp [go_sem], by simp [go_sem], by simp [go_sem], by simp [go_sem]⟩ h1
            have c0 : w1.cell? ⟨w.heap.size + 1, 0, none⟩ = some (.int .i64 ax) := (h1.cell (by simp; try omega)).trans (by simp [go_sem])
            have c1 : w1.cell? ⟨w.heap.size + 1, 1, none⟩ = some (.int .i64 ay) := (h1.cell (by simp; try omega)).trans (by simp [go_sem])
            have c2 : w1.cell? ⟨w.heap.size + 1 + 1, 0, none⟩ = some (.int .i64 bx) := (h1.cell (by simp)).trans (by simp [go_sem])
            have c3 : w1.cell? ⟨w.heap.size + 1 + 1, 1, none⟩ = some (.int .i64 bv) := (h1.cell (by simp)).trans (by simp [go_sem])
            have O1 := Lib.hid (show On w w1 by refine On.trans ?_ h1; repeat (first | with_reducible exact On.refl _ | apply On.alloc))
            have KT := Lib.hid T1
            have KP := Lib.hid (And.intro c0 (And.intro c1 (And.intro c2 c3)))
            clear h1 T1
            go_wp2_with fail
            refine (HP.out _).mono ?_
            rintro e w2 ⟨pa, pc, rfl, op, h2⟩
            have O2 := Lib.hid (On.trans O1.out h2)
            obtain ⟨k0, k1, k2, k3, k4⟩ := KT.out.on h2
            obtain ⟨d0, d1⟩ := heldP KP.out.1 KP.out.2.1 h2
            obtain ⟨d2, d3⟩ := heldP KP.out.2.2.1 KP.out.2.2.2 h2
            have z0 := World.block_lt_of_cell? w2 _ k0
            have z1 := World.block_lt_of_cell? w2 _ d0
            have z2 := World.block_lt_of_cell? w2 _ d2
            clear h2 c0 c1 c2 c3 KP KT
            clear op
            go_wp2_with fail
            refine wp_region_onh (by kernel_rfl) (by kernel_rfl) ?_
            repeat (refine rest_step (fun K hK => ?_); go_simp; first | (refine hK _ ?_; clear hK K) | (apply Exists.intro; refine ⟨fun v1 hv1 => ?_, hK _ ?_⟩; (first | with_reducible exact rfl | with_reducible exact ⟨rfl, rfl⟩ | with_reducible exact Calls.on hv1 (HG.out _) | with_reducible exact Calls.on hv1 (HIA.out _) | with_reducible exact Calls.on hv1 (HIB.out _) | (obtain ⟨hc, hf⟩ := bcell hv1; go_simp; first | with_reducible exact rfl | with_reducible exact ⟨rfl, rfl⟩ | exact rfl | exact ⟨rfl, rfl⟩)); clear hK K))
            refine rest_nil ?_
            intro w3 h3
            have O3 := Lib.hid (On.trans O2.out h3)
            go_wp2_with fail
            go_ret2
            exact ⟨_, rfl, Own.empty _ _ _ _, O3.out⟩
          | true =>
            cases ib : inT s x y bx bv with
            | false =>
              have hc := prC_5 ho oa ob hj ib
              rw [prL_no hc (by omega), hc]
              rw [ia] at HIA
              rw [ib] at HIB
              clear HK hc ho oa ob hs hj ia ib
              go_enter Try.func36, Try.ntmps36
              go_wp2_with fail
              refine (HV.out _ (by repeat (first | with_reducible exact On.refl _ | with_reducible exact Below.refl _ _ | apply On.alloc))).mono ?_
              rintro e w1 ⟨rfl, h1⟩
              have T1 : TIn w1 w.heap.size s x y (.slice a n cap) (.slice b d dap) := TIn.on ⟨by simp [go_sem], by simp [go_sem], by simp [go_sem], by simp [go_sem], by simp [go_sem]⟩ h1
              have c0 : w1.cell? ⟨w.heap.size + 1, 0, none⟩ = some (.int .i64 ax) := (h1.cell (by simp; try omega)).trans (by simp [go_sem])
              have c1 : w1.cell? ⟨w.heap.size + 1, 1, none⟩ = some (.int .i64 ay) := (h1.cell (by simp; try omega)).trans (by simp [go_sem])
              have c2 : w1.cell? ⟨w.heap.size + 1 + 1, 0, none⟩ = some (.int .i64 bx) := (h1.cell (by simp)).trans (by simp [go_sem])
              have c3 : w1.cell? ⟨w.heap.size + 1 + 1, 1, none⟩ = some (.int .i64 bv) := (h1.cell (by simp)).trans (by simp [go_sem])
              have O1 := Lib.hid (show On w w1 by refine On.trans ?_ h1; repeat (first | with_reducible exact On.refl _ | apply On.alloc))
              have KT := Lib.hid T1
              have KP := Lib.hid (And.intro c0 (And.intro c1 (And.intro c2 c3)))
              clear h1 T1
              go_wp2_with fail
              refine (HP.out _).mono ?_
              rintro e w2 ⟨pa, pc, rfl, op, h2⟩
              have O2 := Lib.hid (On.trans O1.out h2)
              obtain ⟨k0, k1, k2, k3, k4⟩ := KT.out.on h2
              obtain ⟨d0, d1⟩ := heldP KP.out.1 KP.out.2.1 h2
              obtain ⟨d2, d3⟩ := heldP KP.out.2.2.1 KP.out.2.2.2 h2
              have z0 := World.block_lt_of_cell? w2 _ k0
              have z1 := World.block_lt_of_cell? w2 _ d0
              have z2 := World.block_lt_of_cell? w2 _ d2
              clear h2 c0 c1 c2 c3 KP KT
              clear op
              go_wp2_with fail
              refine wp_region_onh (by kernel_rfl) (by kernel_rfl) ?_
              repeat (refine rest_step (fun K hK => ?_); go_simp; first | (refine hK _ ?_; clear hK K) | (apply Exists.intro; refine ⟨fun v1 hv1 => ?_, hK _ ?_⟩; (first | with_reducible exact rfl | with_reducible exact ⟨rfl, rfl⟩ | with_reducible exact Calls.on hv1 (HG.out _) | with_reducible exact Calls.on hv1 (HIA.out _) | with_reducible exact Calls.on hv1 (HIB.out _) | (obtain ⟨hc, hf⟩ := bcell hv1; go_simp; first | with_reducible exact rfl | with_reducible exact ⟨rfl, rfl⟩ | exact rfl | exact ⟨rfl, rfl⟩)); clear hK K))
              refine rest_nil ?_
              intro w3 h3
              have O3 := Lib.hid (On.trans O2.out h3)
              go_wp2_with fail
              go_ret2
              exact ⟨_, rfl, Own.empty _ _ _ _, O3.out⟩
            | true =>
              have hc := prC_6 ho oa ob hj ia ib
              rw [prL_yes hc, hc]
              rw [ia] at HIA
              rw [ib] at HIB
              have HIN := Lib.hid (fun k (hk : k < m) => plc_in (s := s) (x := x) (y := y) (by omega) hk ia ib)
              have hpl := plcs_len ax ay bx bv m
              obtain ⟨ps, hps⟩ : ∃ ps, ps = plcs ax ay bx bv m := ⟨_, rfl⟩
              have HK2 := Lib.hid (fun p q w' hi ho' => HK.out p q w' ho hi ho')
              rw [← hps] at HP HIN hpl
              rw [← hps]
              obtain ⟨vs, hvs⟩ : ∃ vs, vs = vals F ps := ⟨_, rfl⟩
              have HVS := Lib.hid (fun k (hk : k < m) => show vs.getD k 0 = F (ps.getD k (0, 0)).1 (ps.getD k (0, 0)).2 by rw [hvs]; exact vals_at F (by omega))
              have HVL := Lib.hid (show vs.length = m by rw [hvs, vals_len, hpl])
              rw [← hvs]
              have hmk := fun w => run_make_row' (P := Try.prog) 32 2 (.int .i64 0) 8 Try.underlying32 Ints.info rfl .i64 .i64 m (by omega) (by omega) w
              clear HK hc ho oa ob hs hj ia ib hps hvs
              go_enter Try.func36, Try.ntmps36
              go_wp2_with fail
              refine (HV.out _ (by repeat (first | with_reducible exact On.refl _ | with_reducible exact Below.refl _ _ | apply On.alloc))).mono ?_
              rintro e w1 ⟨rfl, h1⟩
              have T1 : TIn w1 w.heap.size s x y (.slice a n cap) (.slice b d dap) := TIn.on ⟨by simp [go_sem], by simp [go_sem], by simp [go_sem], by simp [go_sem], by simp [go_sem]⟩ h1
              have c0 : w1.cell? ⟨w.heap.size + 1, 0, none⟩ = some (.int .i64 ax) := (h1.cell (by simp; try omega)).trans (by simp [go_sem])
              have c1 : w1.cell? ⟨w.heap.size + 1, 1, none⟩ = some (.int .i64 ay) := (h1.cell (by simp; try omega)).trans (by simp [go_sem])
              have c2 : w1.cell? ⟨w.heap.size + 1 + 1, 0, none⟩ = some (.int .i64 bx) := (h1.cell (by simp)).trans (by simp [go_sem])
              have c3 : w1.cell? ⟨w.heap.size + 1 + 1, 1, none⟩ = some (.int .i64 bv) := (h1.cell (by simp)).trans (by simp [go_sem])
              have O1 := Lib.hid (show On w w1 by refine On.trans ?_ h1; repeat (first | with_reducible exact On.refl _ | apply On.alloc))
              have KT := Lib.hid T1
              have KP := Lib.hid (And.intro c0 (And.intro c1 (And.intro c2 c3)))
              clear h1 T1
              go_wp2_with fail
              refine (HP.out _).mono ?_
              rintro e w2 ⟨pa, pc, rfl, op, h2⟩
              have O2 := Lib.hid (On.trans O1.out h2)
              obtain ⟨k0, k1, k2, k3, k4⟩ := KT.out.on h2
              obtain ⟨d0, d1⟩ := heldP KP.out.1 KP.out.2.1 h2
              obtain ⟨d2, d3⟩ := heldP KP.out.2.2.1 KP.out.2.2.2 h2
              have z0 := World.block_lt_of_cell? w2 _ k0
              have z1 := World.block_lt_of_cell? w2 _ d0
              have z2 := World.block_lt_of_cell? w2 _ d2
              clear h2 c0 c1 c2 c3 KP KT
              have HOP := Lib.hid op
              clear op
              go_wp2_with fail
              refine wp_region_onh (by kernel_rfl) (by kernel_rfl) ?_
              repeat (refine rest_step (fun K hK => ?_); go_simp; first | (refine hK _ ?_; clear hK K) | (apply Exists.intro; refine ⟨fun v1 hv1 => ?_, hK _ ?_⟩; (first | with_reducible exact rfl | with_reducible exact ⟨rfl, rfl⟩ | with_reducible exact Calls.on hv1 (HG.out _) | with_reducible exact Calls.on hv1 (HIA.out _) | with_reducible exact Calls.on hv1 (HIB.out _) | (obtain ⟨hc, hf⟩ := bcell hv1; go_simp; first | with_reducible exact rfl | with_reducible exact ⟨rfl, rfl⟩ | exact rfl | exact ⟨rfl, rfl⟩)); clear hK K))
              refine rest_nil ?_
              intro w3 h3
              have O3 := Lib.hid (On.trans O2.out h3)
              obtain ⟨a', cap', he, hcc⟩ := HOP.out.below h3
              obtain ⟨q, off, hq, -, hlt, -, hcl⟩ := hcc (by omega)
              injection he with e1 e2 e3
              subst e1
              subst hq
              rw [hpl] at hcl
              have HCL := Lib.hid hcl
              clear hcl hcc e2 e3 h3 k0 k1 k2 k3 k4 d0 d1 d2 d3 z0 z1 z2
              go_wp2_with fail
              clear hmk
              go_loopw [46] (fun i wr => ∃ k : Nat, k ≤ m ∧ i = .int .i64 k ∧ wr.rowIs w3.heap.size 2 m (fun j => if j < k then .int .i64 (vs.getD j 0) else .int .i64 0) ∧ On w3 wr) (fun i _ => m - (intOf i).toNat)
              case atStart =>
                refine ⟨0, Nat.zero_le _, rfl, ?_, On.alloc (On.refl _) _⟩
                exact (World.rowIs_made w3 (.int .i64 0) m _).congr fun i _ => by simp
              case round =>
                obtain ⟨k, hk, rfl, hrow, hb⟩ := hrel
                have HR := Lib.hid hrow
                have HB := Lib.hid hb
                clear hrow hb
                by_cases hlt2 : k < m
                · have hlti : (k : Int) < (m : Int) := by omega
                  obtain ⟨px, hpx⟩ : ∃ p, p = (ps.getD k (0, 0)).1 := ⟨_, rfl⟩
                  obtain ⟨py, hpy⟩ : ∃ p, p = (ps.getD k (0, 0)).2 := ⟨_, rfl⟩
                  have hin := HIN.out k hlt2
                  have hv := HVS.out k hlt2
                  rw [← hpx, ← hpy] at hin hv
                  have p0 : wr.cell? ⟨q, off + k * 2, none⟩ = some (.int .i64 px) := by rw [hpx, ← flat_even]; exact (HB.out.cell (by exact hlt)).trans (HCL.out (k * 2) (by omega))
                  have p1 : wr.cell? ⟨q, off + k * 2 + 1, none⟩ = some (.int .i64 py) := by rw [hpy, ← flat_odd]; exact (HB.out.cell (by exact hlt)).trans (HCL.out (k * 2 + 1) (by omega))
                  have HKK := Lib.hid (fun w' (ho' : On w w') => HK2.out px py w' hin ho')
                  have HV2 := Lib.hid hv
                  have HOr := Lib.hid (On.trans O3.out HB.out)
                  have hG := HR.out.lt
                  clear hpx hpy hin hv
                  go_wp2_with fail
                  refine (HKK.out _ (by refine On.trans HOr.out ?_; repeat (first | with_reducible exact On.refl _ | apply On.alloc | (refine On.setCell ?_ (by (try simp) <;> omega) _)))).mono ?_
                  rintro e w5 ⟨rfl, h5⟩
                  have h5r : On wr w5 := by refine On.trans ?_ h5; repeat (first | with_reducible exact On.refl _ | apply On.alloc | (refine On.setCell ?_ (by (try simp) <;> omega) _))
                  have hR5 := HR.out.of_block (h5r.block _ HR.out.lt)
                  have HR5 := Lib.hid hR5
                  have HB5 := Lib.hid (HB.out.trans h5r)
                  have d1 : w5.cell? ⟨w3.heap.size, k, none⟩ = some (.int .i64 0) := by have := hR5.cell hlt2; rw [if_neg (by omega)] at this; exact this
                  have f1 : w5.frozen? ⟨w3.heap.size, k, none⟩ = false := hR5.frozen k
                  clear h5 h5r hR5
                  go_wp2_with fail
                  go_roundw
                  case rel =>
                    refine ⟨k + 1, by omega, by go_num, (HR5.out.set k _).congr fun i _ => ?_, HB5.out.setCell (by exact Nat.le_refl _) _⟩
                    by_cases h1 : i = k
                    · subst h1; rw [if_pos rfl, if_pos (by omega), HV2.out]
                    · rw [if_neg h1]
                      by_cases h2 : i < k
                      · rw [if_pos h2, if_pos (by omega)]
                      · rw [if_neg h2, if_neg (by omega)]
                  case measure => simp [intOf]; omega
                · have hfin := Lib.hid ((HR.out.congr fun i hi => by rw [if_pos (by omega)]) : wr.rowIs w3.heap.size _ m (fun j => .int .i64 (vs.getD j 0)))
                  go_wp2_with fail
                  go_ret2
                  refine ⟨_, rfl, ?_, On.trans O3.out HB.out⟩
                  have h9 := hfin.out
                  rw [← HVL.out] at h9
                  have := Own.of_row (cap := m) h9 (show w.heap.size ≤ w3.heap.size from O3.out.size)
                  rw [HVL.out] at this
                  exact this
end Go.Proofs.Ytadoaenmmemjdaa.Prf
