
/-
  When a terrain is valid, whole, in the model and in the program. Condition: at most 1048576 heights and classes.
-/
import Derived.Test.YtmpeogmlnajliaaTerr1
namespace Go.Proofs.Ytmpeogmlnajliaa.Terr
open Go.RowKit
open Plain
open Ints (Ints Own)

/-- The block g holds a terrain. -/
def TIn (w : World) (g : Nat) (s x y : Int) (v u : Value) : Prop := w.cell? ⟨g, 0, none⟩ = some (.int .i64 s) ∧ w.cell? ⟨g, 1, none⟩ = some (.int .i64 x) ∧ w.cell? ⟨g, 2, none⟩ = some (.int .i64 y) ∧ w.cell? ⟨g, 3, none⟩ = some v ∧ w.cell? ⟨g, 4, none⟩ = some u
theorem TIn.on {w w' : World} {g : Nat} {s x y : Int} {v u : Value} (h : TIn w g s x y v u) (ho : On w w') : TIn w' g s x y v u :=
  ⟨(ho.cell (World.block_lt_of_cell? w _ h.1)).trans h.1, (ho.cell (World.block_lt_of_cell? w _ h.2.1)).trans h.2.1, (ho.cell (World.block_lt_of_cell? w _ h.2.2.1)).trans h.2.2.1, (ho.cell (World.block_lt_of_cell? w _ h.2.2.2.1)).trans h.2.2.2.1, (ho.cell (World.block_lt_of_cell? w _ h.2.2.2.2)).trans h.2.2.2.2⟩
theorem slice_of {w : World} {a : Option Addr} {n cap : Nat} {zs : List Int} (h : Ints w (.slice a n cap) zs) (hl : zs.length = n) (h0 : 0 < n) : ∃ b off, a = some ⟨b, off, none⟩ ∧ b < w.heap.size ∧ ∀ i, i < n → w.cell? ⟨b, off + i, none⟩ = some (.int .i64 (zs.getD i 0)) := by
  obtain ⟨a', cap', he, hc⟩ := h
  injection he with h1 h2 h3
  subst h1
  rw [hl] at hc
  exact hc h0
set_option maxHeartbeats 2000000 in
theorem spec_okT (g n cap m dap : Nat) (s x y : Int) (a b : Option Addr) (zs cs : List Int) (w : World) (hzn : zs.length = n) (hcm : cs.length = m) (hn : n ≤ 1048576) (hm : m ≤ 1048576) (hp : TIn w g s x y (.slice a n cap) (.slice b m dap)) (h : Ints w (.slice a n cap) zs) (k : Ints w (.slice b m dap) cs) :
    Calls Try.prog 32 #[.pointer (some ⟨g, 0, none⟩)] w fun e w' => e = .returned (.bool (okT s x y zs cs)) ∧ On w w' := by
  obtain ⟨k0, k1, k2, k3, k4⟩ := hp
  have hg := World.block_lt_of_cell? w _ k0
  have HP := Lib.hid (show TIn w g s x y (.slice a n cap) (.slice b m dap) from ⟨k0, k1, k2, k3, k4⟩)
  have HS := Lib.hid (fun w => spec_size s x y w)
  cases hs : sizeB s x y with
  | false =>
    have en := Lib.hid (okT_size (zs := zs) (cs := cs) hs)
    clear h k hzn hcm
    go_enter Try.func32, Try.ntmps32
    go_wp2_with fail
    refine wp_region_onh (by kernel_rfl) (by kernel_rfl) ?_
    repeat (refine rest_step (fun K hK => ?_); go_simp; first | (refine hK _ ?_; clear hK K) | (apply Exists.intro; refine ⟨fun v1 hv1 => ?_, hK _ ?_⟩; (first | with_reducible exact rfl | with_reducible exact ⟨rfl, rfl⟩ | with_reducible exact Calls.on_same hv1 (HS.out _) | (obtain ⟨hc, hf⟩ := bcell hv1; go_simp; first | with_reducible exact rfl | with_reducible exact ⟨rfl, rfl⟩)); clear hK K))
    refine rest_nil ?_
    intro w1 h1
    go_wp2_with fail
    go_ret
    exact ⟨ret_bool en.out.symm, h1⟩
  | true =>
    obtain ⟨⟨s0, s1⟩, ⟨x0, x1⟩, ⟨y0, y1⟩, -, -⟩ := of_size hs
    obtain ⟨p0, p1⟩ := prod_n x0 x1 y0 y1
    have e1 : IntKind.i64.wrap (x * y) = x * y := IntWalk.i64_in _ (by omega)
    by_cases hl : (n : Int) = x * y
    · have b1 : ((n : Int) == x * y) = true := beq_iff_eq.2 hl
      have b1' : ((n : Int) != x * y) = false := by rw [bne, b1]; rfl
      by_cases hl2 : m = n
      · have n0 : 0 < n := by omega
        have n1 : n ≤ 576 := by omega
        subst hl2
        obtain ⟨bz, oz, rfl, hbz, hcz⟩ := slice_of h hzn n0
        obtain ⟨bc, oc, rfl, hbc, hcc⟩ := slice_of k hcm n0
        have HZ := Lib.hid hcz
        have HC := Lib.hid hcc
        have HL := Lib.hid hzn
        have HM := Lib.hid hcm
        have HE := Lib.hid hl
        have HB := Lib.hid hs
        clear h k hcz hcc hzn hcm hl
        go_enter Try.func32, Try.ntmps32
        go_wp2_with fail
        refine wp_region_onh (by kernel_rfl) (by kernel_rfl) ?_
        repeat (refine rest_step (fun K hK => ?_); go_simp; first | (refine hK _ ?_; clear hK K) | (apply Exists.intro; refine ⟨fun v1 hv1 => ?_, hK _ ?_⟩; (first | with_reducible exact rfl | with_reducible exact ⟨rfl, rfl⟩ | with_reducible exact Calls.on_same hv1 (HS.out _) | (obtain ⟨hc, hf⟩ := bcell hv1; go_simp; first | with_reducible exact rfl | with_reducible exact ⟨rfl, rfl⟩)); clear hK K))
        refine rest_nil ?_
        intro w1 h1
        obtain ⟨q0, q1, q2, q3, q4⟩ := HP.out.on h1
        have HO := Lib.hid h1
        clear h1
        go_wp2_with fail
        go_loop [3] (fun i => ∃ j : Nat, j ≤ m ∧ i = .int .i64 j ∧ GTo zs cs j) (fun i => m - (intOf i).toNat)
        case atStart => exact ⟨0, Nat.zero_le _, rfl, gTo_zero _ _⟩
        case round =>
          obtain ⟨j, hj, rfl, hall⟩ := hrel
          have HA := Lib.hid hall
          clear hall
          by_cases hlt : j < m
          · have hlti : (j : Int) < (m : Int) := by omega
            obtain ⟨z, hz⟩ : ∃ z, z = zs.getD j 0 := ⟨_, rfl⟩
            obtain ⟨c, hc⟩ : ∃ c, c = cs.getD j 0 := ⟨_, rfl⟩
            have c1 : w1.cell? ⟨bz, oz + j, none⟩ = some (.int .i64 z) := by rw [hz]; exact (HO.out.cell (by exact hbz)).trans (HZ.out j hlt)
            have c2 : w1.cell? ⟨bc, oc + j, none⟩ = some (.int .i64 c) := by rw [hc]; exact (HO.out.cell (by exact hbc)).trans (HC.out j hlt)
            have HG := Lib.hid (show gB (zs.getD j 0) (cs.getD j 0) = gB z c by rw [hz, hc])
            clear hz hc
            cases g1 : inB z 0 90000 with
            | false =>
              have en := Lib.hid (okT_all (s := s) (x := x) (y := y) (allG_bad (by rw [HL.out]; exact hlt) (HG.out.trans (gB_1 g1))))
              go_wp2_with (go_at_call 47; refine (Arith.l00In _ _ _ _).mono ?_; rintro e w' ⟨rfl, rfl⟩)
              go_ret
              exact ⟨ret_bool en.out.symm, HO.out⟩
            | true =>
              cases g2 : inB c 0 7 with
              | false =>
                have en := Lib.hid (okT_all (s := s) (x := x) (y := y) (allG_bad (by rw [HL.out]; exact hlt) (HG.out.trans ((gB_2 g1).trans g2))))
                go_wp2_with (go_at_call 47; refine (Arith.l00In _ _ _ _).mono ?_; rintro e w' ⟨rfl, rfl⟩)
                go_ret
                exact ⟨ret_bool en.out.symm, HO.out⟩
              | true =>
                have HT := Lib.hid (gTo_succ HA.out (HG.out.trans ((gB_2 g1).trans g2)))
                go_wp2_with (go_at_call 47; refine (Arith.l00In _ _ _ _).mono ?_; rintro e w' ⟨rfl, rfl⟩)
                go_round
                case rel => exact ⟨j + 1, by omega, by go_num, HT.out⟩
                case measure => simp [intOf]; omega
          · obtain rfl : j = m := by omega
            have en := Lib.hid (okT_yes HB.out (by rw [HL.out]; exact HE.out) (HM.out.trans HL.out.symm) (allG_all (by rw [HL.out]; exact HA.out)))
            go_wp2
            go_ret
            exact ⟨ret_bool en.out.symm, HO.out⟩
      · have b2 : ((m : Int) == (n : Int)) = false := beq_eq_false_iff_ne.2 (by omega)
        have b2' : ((m : Int) != (n : Int)) = true := by rw [bne, b2]; rfl
        have b3 : (m == n) = false := beq_eq_false_iff_ne.2 hl2
        have en := Lib.hid (okT_len2 (s := s) (x := x) (y := y) (zs := zs) (cs := cs) (by rw [hzn, hcm]; exact hl2))
        clear h k hzn hcm hl hl2
        go_enter Try.func32, Try.ntmps32
        go_wp2_with fail
        refine wp_region_onh (by kernel_rfl) (by kernel_rfl) ?_
        repeat (refine rest_step (fun K hK => ?_); go_simp; first | (refine hK _ ?_; clear hK K) | (apply Exists.intro; refine ⟨fun v1 hv1 => ?_, hK _ ?_⟩; (first | with_reducible exact rfl | with_reducible exact ⟨rfl, rfl⟩ | with_reducible exact Calls.on_same hv1 (HS.out _) | (obtain ⟨hc, hf⟩ := bcell hv1; go_simp; first | with_reducible exact rfl | with_reducible exact ⟨rfl, rfl⟩)); clear hK K))
        refine rest_nil ?_
        intro w1 h1
        go_wp2_with fail
        go_ret
        exact ⟨ret_bool en.out.symm, h1⟩
    · have b1 : ((n : Int) == x * y) = false := beq_eq_false_iff_ne.2 hl
      have b1' : ((n : Int) != x * y) = true := by rw [bne, b1]; rfl
      have en := Lib.hid (okT_len (s := s) (x := x) (y := y) (zs := zs) (cs := cs) (by rw [hzn]; exact hl))
      clear h k hzn hcm hl
      go_enter Try.func32, Try.ntmps32
      go_wp2_with fail
      refine wp_region_onh (by kernel_rfl) (by kernel_rfl) ?_
      repeat (refine rest_step (fun K hK => ?_); go_simp; first | (refine hK _ ?_; clear hK K) | (apply Exists.intro; refine ⟨fun v1 hv1 => ?_, hK _ ?_⟩; (first | with_reducible exact rfl | with_reducible exact ⟨rfl, rfl⟩ | with_reducible exact Calls.on_same hv1 (HS.out _) | (obtain ⟨hc, hf⟩ := bcell hv1; go_simp; first | with_reducible exact rfl | with_reducible exact ⟨rfl, rfl⟩)); clear hK K))
      refine rest_nil ?_
      intro w1 h1
      go_wp2_with fail
      go_ret
      exact ⟨ret_bool en.out.symm, h1⟩
end Go.Proofs.Ytmpeogmlnajliaa.Terr
