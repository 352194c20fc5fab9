
/-
  When a radio is valid, the model's asked by a pointer into any place of a block. Condition: at most 1048576 modes and bytes in the name.
-/
import Derived.Test.YtpnmodmaabhldaaGreatRadOk
import Derived.Test.YtpnmodmaabhldaaGreatRads
namespace Go.Proofs.YtpnmodmaabhldaaGreat.Rad
open Go.RowKit
open Plain
open Modes (Pairs)

/-- The cells from o on in block g hold it. -/
def InO (w : World) (g o : Nat) (x0 : ByteArray) (x1 x2 x3 x4 : Int) (v5 : Value) : Prop := w.cell? ⟨g, o, none⟩ = some (.string x0) ∧ w.cell? ⟨g, o + 1, none⟩ = some (.int .i64 x1) ∧ w.cell? ⟨g, o + 2, none⟩ = some (.int .i64 x2) ∧ w.cell? ⟨g, o + 3, none⟩ = some (.int .i64 x3) ∧ w.cell? ⟨g, o + 4, none⟩ = some (.int .i64 x4) ∧ w.cell? ⟨g, o + 5, none⟩ = some v5
theorem InO.lt {w : World} {g o : Nat} {x0 : ByteArray} {x1 x2 x3 x4 : Int} {v5 : Value} (hi : InO w g o x0 x1 x2 x3 x4 v5) : g < w.heap.size := World.block_lt_of_cell? w _ hi.1
theorem InO.on {w w' : World} {g o : Nat} {x0 : ByteArray} {x1 x2 x3 x4 : Int} {v5 : Value} (hi : InO w g o x0 x1 x2 x3 x4 v5) (ho : On w w') : InO w' g o x0 x1 x2 x3 x4 v5 :=
  ⟨(ho.cell (by exact hi.lt)).trans hi.1, (ho.cell (by exact hi.lt)).trans hi.2.1, (ho.cell (by exact hi.lt)).trans hi.2.2.1, (ho.cell (by exact hi.lt)).trans hi.2.2.2.1, (ho.cell (by exact hi.lt)).trans hi.2.2.2.2.1, (ho.cell (by exact hi.lt)).trans hi.2.2.2.2.2⟩
set_option maxRecDepth 100000 in
set_option maxHeartbeats 4000000 in
theorem spec_okO (g o : Nat) (x0 : ByteArray) (x1 x2 x3 x4 : Int) (v5 : Value) (z5 : List (Int × Int)) (w : World) (q0 : x0.size ≤ 1048576) (q5 : z5.length ≤ 1048576) (hp : InO w g o x0 x1 x2 x3 x4 v5) (h5 : Pairs w v5 z5) :
    Calls Tryz.prog 145 #[.pointer (some ⟨g, o, none⟩)] w fun e w' => e = .returned (.bool (okR x0 x1 x2 x3 x4 z5)) ∧ On w w' := by
  have KP := Lib.hid hp
  obtain ⟨k0, k1, k2, k3, k4, k5⟩ := hp
  have hg := World.block_lt_of_cell? w _ k0
  have HN := Lib.hid (fun w => Text1.spec_l01Name x0 w q0)
  have h5' := h5
  obtain ⟨a5, cap5, rfl, -⟩ := h5
  cases t0 : nameB x0.data.toList with
  | false =>
    have en := Lib.hid (okR_0 (x1 := x1) (x2 := x2) (x3 := x3) (x4 := x4) (z5 := z5) t0)
    clear h5' KP
    rw [t0] at HN
    go_enter Tryz.func145, Tryz.ntmps145
    go_wp2_with (first | (go_at_call 107; refine (HN.out _).mono ?_; rintro e w' ⟨rfl, rfl⟩) | (go_at_call 93; refine (Arith.l00In _ _ _ _).mono ?_; rintro e w' ⟨rfl, rfl⟩))
    go_ret
    exact ⟨ret_bool en.out.symm, On.refl _⟩
  | true =>
    rw [t0] at HN
    cases t1 : inB x1 (-100000) 100000 with
    | false =>
      have en := Lib.hid (okR_1 (x0 := x0) (x2 := x2) (x3 := x3) (x4 := x4) (z5 := z5) t1)
      clear h5' KP
      skip
      go_enter Tryz.func145, Tryz.ntmps145
      go_wp2_with (first | (go_at_call 107; refine (HN.out _).mono ?_; rintro e w' ⟨rfl, rfl⟩) | (go_at_call 93; refine (Arith.l00In _ _ _ _).mono ?_; rintro e w' ⟨rfl, rfl⟩))
      go_ret
      exact ⟨ret_bool en.out.symm, On.refl _⟩
    | true =>
      skip
      cases t2 : inB x2 0 30000 with
      | false =>
        have en := Lib.hid (okR_2 (x0 := x0) (x1 := x1) (x3 := x3) (x4 := x4) (z5 := z5) t2)
        clear h5' KP
        skip
        go_enter Tryz.func145, Tryz.ntmps145
        go_wp2_with (first | (go_at_call 107; refine (HN.out _).mono ?_; rintro e w' ⟨rfl, rfl⟩) | (go_at_call 93; refine (Arith.l00In _ _ _ _).mono ?_; rintro e w' ⟨rfl, rfl⟩))
        go_ret
        exact ⟨ret_bool en.out.symm, On.refl _⟩
      | true =>
        skip
        cases t3 : inB x3 0 30000 with
        | false =>
          have en := Lib.hid (okR_3 (x0 := x0) (x1 := x1) (x2 := x2) (x4 := x4) (z5 := z5) t3)
          clear h5' KP
          skip
          go_enter Tryz.func145, Tryz.ntmps145
          go_wp2_with (first | (go_at_call 107; refine (HN.out _).mono ?_; rintro e w' ⟨rfl, rfl⟩) | (go_at_call 93; refine (Arith.l00In _ _ _ _).mono ?_; rintro e w' ⟨rfl, rfl⟩))
          go_ret
          exact ⟨ret_bool en.out.symm, On.refl _⟩
        | true =>
          skip
          cases t4 : inB x4 1 100000 with
          | false =>
            have en := Lib.hid (okR_4 (x0 := x0) (x1 := x1) (x2 := x2) (x3 := x3) (z5 := z5) t4)
            clear h5' KP
            skip
            go_enter Tryz.func145, Tryz.ntmps145
            go_wp2_with (first | (go_at_call 107; refine (HN.out _).mono ?_; rintro e w' ⟨rfl, rfl⟩) | (go_at_call 93; refine (Arith.l00In _ _ _ _).mono ?_; rintro e w' ⟨rfl, rfl⟩))
            go_ret
            exact ⟨ret_bool en.out.symm, On.refl _⟩
          | true =>
            skip
            have EQ := Lib.hid (okR_yes (z5 := z5) t0 t1 t2 t3 t4)
            by_cases hl : 1 ≤ z5.length ∧ z5.length ≤ 8
            · obtain ⟨b, off, rfl, hb, hcell⟩ := Modes.slice_of h5' (by omega)
              have HC0 := Lib.hid hcell
              obtain ⟨n, hn⟩ : ∃ n, n = z5.length := ⟨_, rfl⟩
              have HL := Lib.hid hn
              have HC := Lib.hid (fun (k : Nat) (hk : k < n) => show w.cell? ⟨b, off + k * 2, none⟩ = some (.int .i64 (at0 z5 k)) ∧ w.cell? ⟨b, off + k * 2 + 1, none⟩ = some (.int .i64 (at1 z5 k)) from HC0.out k (by rw [← HL.out]; exact hk))
              rw [← hn] at hl KP k5
              obtain ⟨n1, n8⟩ := hl
              have n1' : ¬ (n : Int) < 1 := by omega
              have n8' : ¬ (8 : Int) < (n : Int) := by omega
              clear hcell HC0 hn h5'
              go_enter Tryz.func145, Tryz.ntmps145
              go_wp2_with (first | (go_at_call 107; refine (HN.out _).mono ?_; rintro e w' ⟨rfl, rfl⟩) | (go_at_call 93; refine (Arith.l00In _ _ _ _).mono ?_; rintro e w' ⟨rfl, rfl⟩))
              go_loopw [3] (fun i wr => ∃ k : Nat, k ≤ n ∧ i = .int .i64 k ∧ Upto z5 k ∧ On w wr) (fun i _ => n - (intOf i).toNat)
              case atStart => exact ⟨0, Nat.zero_le _, rfl, upto_zero _, On.refl _⟩
              case round =>
                obtain ⟨k, hk, rfl, hall, ho⟩ := hrel
                have HA := Lib.hid hall
                have HO := Lib.hid ho
                have K1 := Lib.hid (KP.out.on ho)
                obtain ⟨k0, k1, k2, k3, k4, k5⟩ := K1.out
                have hg := World.block_lt_of_cell? wr _ k0
                clear hall ho
                by_cases hlt : k < n
                · have hlti : (k : Int) < (n : Int) := by omega
                  obtain ⟨x, hx⟩ : ∃ x, x = at0 z5 k := ⟨_, rfl⟩
                  obtain ⟨y, hy⟩ : ∃ y, y = at1 z5 k := ⟨_, rfl⟩
                  have c1 : wr.cell? ⟨b, off + k * 2, none⟩ = some (.int .i64 x) := by rw [hx]; exact (HO.out.cell (by exact hb)).trans (HC.out k hlt).1
                  have c2 : wr.cell? ⟨b, off + k * 2 + 1, none⟩ = some (.int .i64 y) := by rw [hy]; exact (HO.out.cell (by exact hb)).trans (HC.out k hlt).2
                  have hbr := HO.out.lts _ hb
                  have HX := Lib.hid hx
                  have HY := Lib.hid hy
                  clear hx hy
                  cases hin : inB x (-50000) 100000 with
                  | false =>
                    have en := Lib.hid (modes_bad (k := k) (by rw [← HL.out]; exact hlt) (step_1 HX.out hin))
                    go_wp2_with (go_at_call 93; refine (Arith.l00In _ _ _ _).mono ?_; rintro e w' ⟨rfl, rfl⟩)
                    go_ret
                    exact ⟨ret_bool (en.out.symm.trans EQ.out.symm), HO.out.trans (by repeat (first | with_reducible exact On.refl _ | apply On.alloc))⟩
                  | true =>
                    cases hin2 : inB y 1 1000000 with
                    | false =>
                      have en := Lib.hid (modes_bad (k := k) (by rw [← HL.out]; exact hlt) (step_2 HY.out hin2))
                      go_wp2_with (go_at_call 93; refine (Arith.l00In _ _ _ _).mono ?_; rintro e w' ⟨rfl, rfl⟩)
                      go_ret
                      exact ⟨ret_bool (en.out.symm.trans EQ.out.symm), HO.out.trans (by repeat (first | with_reducible exact On.refl _ | apply On.alloc))⟩
                    | true =>
                      cases k with
                      | zero =>
                        have HS := Lib.hid (upto_succ HA.out (step_0 HX.out HY.out hin hin2))
                        rw [show off + 0 * 2 = off by omega] at c1 c2
                        have z0 : ((0 : Nat) : Int) = 0 := rfl
                        rw [z0] at *
                        go_wp2_with (go_at_call 93; refine (Arith.l00In _ _ _ _).mono ?_; rintro e w' ⟨rfl, rfl⟩)
                        refine wp_region_onh (by kernel_rfl) (by kernel_rfl) ?_
                        repeat (refine rest_step (fun K hK => ?_); go_simp; first | (refine hK _ ?_; clear hK K) | (apply Exists.intro; refine ⟨fun v1 hv1 => ?_, hK _ ?_⟩; (first | with_reducible exact rfl | with_reducible exact ⟨rfl, rfl⟩ | (obtain ⟨hc, hf⟩ := bcell hv1; go_simp; first | with_reducible exact rfl | with_reducible exact ⟨rfl, rfl⟩ | exact rfl | exact ⟨rfl, rfl⟩)); clear hK K))
                        refine rest_nil ?_
                        intro w5 h5
                        have HO5 := Lib.hid (HO.out.trans (On.trans (by repeat (first | with_reducible exact On.refl _ | apply On.alloc)) h5))
                        clear h5
                        go_wp2_with fail
                        go_roundw
                        case rel => exact ⟨1, by omega, by go_num, HS.out, HO5.out⟩
                        case measure => simp [intOf]; omega
                      | succ k =>
                        obtain ⟨u, hu⟩ : ∃ u, u = at0 z5 k := ⟨_, rfl⟩
                        obtain ⟨v, hv⟩ : ∃ v, v = at1 z5 k := ⟨_, rfl⟩
                        have c3 : wr.cell? ⟨b, off + k * 2, none⟩ = some (.int .i64 u) := by rw [hu]; exact (HO.out.cell (by exact hb)).trans (HC.out k (by omega)).1
                        have c4 : wr.cell? ⟨b, off + k * 2 + 1, none⟩ = some (.int .i64 v) := by rw [hv]; exact (HO.out.cell (by exact hb)).trans (HC.out k (by omega)).2
                        have HU := Lib.hid hu
                        have HV := Lib.hid hv
                        clear hu hv
                        have g0 : decide ((0 : Int) < (k : Int) + 1) = true := decide_eq_true (by omega)
                        have g0' : (0 : Int) < (k : Int) + 1 := by omega
                        have wk : IntKind.i64.wrap ((k : Int) + 1 - 1) = (k : Int) := by rw [show (k : Int) + 1 - 1 = (k : Int) by omega]; exact IntWalk.i64_in _ (by omega)
                        have wk' : IntKind.i64.wrap (k : Int) = (k : Int) := IntWalk.i64_in _ (by omega)
                        have kn : (k : Int) < (n : Int) := by omega
                        have kn' : k < n := by omega
                        by_cases h3 : x ≤ u
                        · have d3 : decide (x ≤ u) = true := decide_eq_true h3
                          have en := Lib.hid (modes_bad (k := k + 1) (by rw [← HL.out]; exact hlt) (step_3 HX.out HU.out h3))
                          go_wp2_with (go_at_call 93; refine (Arith.l00In _ _ _ _).mono ?_; rintro e w' ⟨rfl, rfl⟩)
                          refine wp_region_onh (by kernel_rfl) (by kernel_rfl) ?_
                          repeat (refine rest_step (fun K hK => ?_); go_simp; first | (refine hK _ ?_; clear hK K) | (apply Exists.intro; refine ⟨fun v1 hv1 => ?_, hK _ ?_⟩; (first | with_reducible exact rfl | with_reducible exact ⟨rfl, rfl⟩ | (obtain ⟨hc, hf⟩ := bcell hv1; go_simp; first | with_reducible exact rfl | with_reducible exact ⟨rfl, rfl⟩ | exact rfl | exact ⟨rfl, rfl⟩)); clear hK K))
                          refine rest_nil ?_
                          intro w5 h5
                          have HO5 := Lib.hid (HO.out.trans (On.trans (by repeat (first | with_reducible exact On.refl _ | apply On.alloc)) h5))
                          clear h5
                          go_wp2_with fail
                          go_ret
                          exact ⟨ret_bool (en.out.symm.trans EQ.out.symm), HO5.out⟩
                        · have d3 : decide (x ≤ u) = false := decide_eq_false h3
                          by_cases h4 : y ≤ v
                          · have d4 : decide (y ≤ v) = true := decide_eq_true h4
                            have en := Lib.hid (modes_bad (k := k + 1) (by rw [← HL.out]; exact hlt) (step_4 HY.out HV.out h4))
                            go_wp2_with (go_at_call 93; refine (Arith.l00In _ _ _ _).mono ?_; rintro e w' ⟨rfl, rfl⟩)
                            refine wp_region_onh (by kernel_rfl) (by kernel_rfl) ?_
                            repeat (refine rest_step (fun K hK => ?_); go_simp; first | (refine hK _ ?_; clear hK K) | (apply Exists.intro; refine ⟨fun v1 hv1 => ?_, hK _ ?_⟩; (first | with_reducible exact rfl | with_reducible exact ⟨rfl, rfl⟩ | (obtain ⟨hc, hf⟩ := bcell hv1; go_simp; first | with_reducible exact rfl | with_reducible exact ⟨rfl, rfl⟩ | exact rfl | exact ⟨rfl, rfl⟩)); clear hK K))
                            refine rest_nil ?_
                            intro w5 h5
                            have HO5 := Lib.hid (HO.out.trans (On.trans (by repeat (first | with_reducible exact On.refl _ | apply On.alloc)) h5))
                            clear h5
                            go_wp2_with fail
                            go_ret
                            exact ⟨ret_bool (en.out.symm.trans EQ.out.symm), HO5.out⟩
                          · have d4 : decide (y ≤ v) = false := decide_eq_false h4
                            have HS := Lib.hid (upto_succ HA.out (step_5 HX.out HU.out HY.out HV.out hin hin2 h3 h4))
                            go_wp2_with (go_at_call 93; refine (Arith.l00In _ _ _ _).mono ?_; rintro e w' ⟨rfl, rfl⟩)
                            refine wp_region_onh (by kernel_rfl) (by kernel_rfl) ?_
                            repeat (refine rest_step (fun K hK => ?_); go_simp; first | (refine hK _ ?_; clear hK K) | (apply Exists.intro; refine ⟨fun v1 hv1 => ?_, hK _ ?_⟩; (first | with_reducible exact rfl | with_reducible exact ⟨rfl, rfl⟩ | (obtain ⟨hc, hf⟩ := bcell hv1; go_simp; first | with_reducible exact rfl | with_reducible exact ⟨rfl, rfl⟩ | exact rfl | exact ⟨rfl, rfl⟩)); clear hK K))
                            refine rest_nil ?_
                            intro w5 h5
                            have HO5 := Lib.hid (HO.out.trans (On.trans (by repeat (first | with_reducible exact On.refl _ | apply On.alloc)) h5))
                            clear h5
                            go_wp2_with fail
                            go_roundw
                            case rel => exact ⟨k + 2, by omega, by go_num, HS.out, HO5.out⟩
                            case measure => simp [intOf]; omega
                · obtain rfl : k = n := by omega
                  have en := Lib.hid (modes_all (by rw [← HL.out]; exact HA.out))
                  have en2 := Lib.hid (decide_eq_true (p := 1 ≤ z5.length ∧ z5.length ≤ 8) (by rw [← HL.out]; exact ⟨n1, n8⟩))
                  go_wp2_with fail
                  go_ret
                  exact ⟨ret_bool (by rw [EQ.out, en.out, en2.out]), HO.out⟩
            · have en := Lib.hid (modes_len hl)
              obtain ⟨n, hn⟩ : ∃ n, n = z5.length := ⟨_, rfl⟩
              rw [← hn] at hl k5 q5
              clear h5' KP hn
              by_cases n1 : (n : Int) < 1
              · go_enter Tryz.func145, Tryz.ntmps145
                go_wp2_with (first | (go_at_call 107; refine (HN.out _).mono ?_; rintro e w' ⟨rfl, rfl⟩) | (go_at_call 93; refine (Arith.l00In _ _ _ _).mono ?_; rintro e w' ⟨rfl, rfl⟩))
                go_ret
                exact ⟨ret_bool (en.out.symm.trans EQ.out.symm), On.refl _⟩
              · have n8 : (8 : Int) < (n : Int) := by omega
                go_enter Tryz.func145, Tryz.ntmps145
                go_wp2_with (first | (go_at_call 107; refine (HN.out _).mono ?_; rintro e w' ⟨rfl, rfl⟩) | (go_at_call 93; refine (Arith.l00In _ _ _ _).mono ?_; rintro e w' ⟨rfl, rfl⟩))
                go_ret
                exact ⟨ret_bool (en.out.symm.trans EQ.out.symm), On.refl _⟩
end Go.Proofs.YtpnmodmaabhldaaGreat.Rad
namespace Go.Proofs.YtpnmodmaabhldaaGreat.Rads
open Go.RowKit
def ok (z : Z) : Bool := Rad.okR z.x0 z.x1 z.x2 z.x3 z.x4 z.x5
def nm (z : Z) : ByteArray := z.x0
theorem spec_ok (g o : Nat) (z : Z) (w : World) (hs : Small 1048576 z) (h : El w g o z) :
    Calls Tryz.prog 145 #[.pointer (some ⟨g, o, none⟩)] w fun e w' => e = .returned (.bool (ok z)) ∧ On w w' := by
  obtain ⟨a5, cap5, c5, _, i5⟩ := h.c5
  exact Rad.spec_okO g o _ _ _ _ _ _ z.x5 w hs.1 hs.2 ⟨h.c0, h.c1, h.c2, h.c3, h.c4, c5⟩ i5
theorem impl_ok (z : Z) (a5 : Option Addr) (cap5 : Nat) (w : World) (hs : Small 1048576 z) (h5 : Modes.Pairs w (.slice a5 z.x5.length cap5) z.x5) :
    Calls Tryz.prog 116 #[.agg #[.string z.x0, .int .i64 z.x1, .int .i64 z.x2, .int .i64 z.x3, .int .i64 z.x4, .slice a5 z.x5.length cap5]] w fun e w' => e = .returned (.bool (ok z)) ∧ On w w' :=
  Rad.impl_valid _ _ _ _ _ _ z.x5 w hs.1 hs.2 h5
end Go.Proofs.YtpnmodmaabhldaaGreat.Rads
