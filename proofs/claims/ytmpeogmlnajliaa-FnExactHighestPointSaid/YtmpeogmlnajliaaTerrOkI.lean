
/-
  When a terrain is valid, whole, in the program. Condition: at most 1048576 heights and classes.
-/
import Derived.Test.YtmpeogmlnajliaaTerrOk
namespace Go.Proofs.Ytmpeogmlnajliaa.Terr
open Go.RowKit
open Plain
open Ints (Ints Own)

set_option maxHeartbeats 2000000 in
theorem impl_validT (s x y : Int) (a b : Option Addr) (n cap m dap : Nat) (zs cs : List Int) (w : World) (hzn : zs.length = n) (hcm : cs.length = m) (hn : n ≤ 1048576) (hm : m ≤ 1048576) (h : Ints w (.slice a n cap) zs) (k : Ints w (.slice b m dap) cs) :
    Calls Try.prog 33 #[.agg #[.int .i64 s, .int .i64 x, .int .i64 y, .slice a n cap, .slice b m dap]] w fun e w' => e = .returned (.bool (okT s x y zs cs)) ∧ On w w' := by
  have HG := Lib.hid (fun w => impl_grid s x y a b n cap m dap w)
  have HV := Lib.hid (fun w => impl_gridValid s x y w)
  cases hs : sizeB s x y with
  | false =>
    have en := Lib.hid (okT_size (zs := zs) (cs := cs) hs)
    clear h k hzn hcm
    go_enter Try.func33, Try.ntmps33
    go_wp2_with fail
    refine (HG.out _).mono ?_
    rintro e w1 ⟨rfl, h1⟩
    obtain ⟨hc1, hf1⟩ := bcell h1
    have z1 : w.heap.size < w1.heap.size := by have := h1.size; simp at this; omega
    have z1' : w.heap.size ≠ w1.heap.size := by omega
    have O1 : On w w1 := On.trans (On.alloc (On.refl w) _) h1
    have T1 : TIn w1 w.heap.size s x y (.slice a n cap) (.slice b m dap) := TIn.on ⟨by simp [go_sem], by simp [go_sem], by simp [go_sem], by simp [go_sem], by simp [go_sem]⟩ h1
    have HT1 := Lib.hid T1
    clear T1 h1
    go_wp2_with fail
    refine (HV.out _).mono ?_
    rintro e w2 ⟨rfl, h2⟩
    have O12 : On w1 w2 := by refine On.trans ?_ h2; repeat (first | with_reducible exact On.refl _ | apply On.alloc | refine On.setCell ?_ (by (try simp) <;> omega) _)
    obtain ⟨q0, q1, q2, q3, q4⟩ := HT1.out.on O12
    have g2 : w1.heap.size < w2.heap.size := by have := h2.size; simp at this; omega
    have r0 : w2.cell? ⟨w1.heap.size, 0, none⟩ = some (.int .i64 s) := (h2.cell (by simp)).trans (by simp [go_sem])
    have r1 : w2.cell? ⟨w1.heap.size, 1, none⟩ = some (.int .i64 x) := (h2.cell (by simp)).trans (by simp [go_sem])
    have r2 : w2.cell? ⟨w1.heap.size, 2, none⟩ = some (.int .i64 y) := (h2.cell (by simp)).trans (by simp [go_sem])
    have HO := Lib.hid (O1.trans O12)
    clear O1 O12 h2 hc1 hf1 HT1
    go_wp2_with fail
    go_ret
    exact ⟨ret_bool en.out.symm, HO.out⟩
  | true =>
    obtain ⟨⟨s0, s1⟩, ⟨x0, x1⟩, ⟨y0, y1⟩, -, -⟩ := of_size hs
    obtain ⟨p0, p1⟩ := prod_n x0 x1 y0 y1
    have e1 : IntKind.i64.wrap (x * y) = x * y := IntWalk.i64_in _ (by omega)
    by_cases hl : (n : Int) = x * y
    · have b1 : ((n : Int) == x * y) = true := beq_iff_eq.2 hl
      have b1' : ((n : Int) != x * y) = false := by rw [bne, b1]; rfl
      by_cases hl2 : m = n
      · have n0 : 0 < n := by omega
        have n1 : n ≤ 576 := by omega
        subst hl2
        obtain ⟨bz, oz, rfl, hbz, hcz⟩ := slice_of h hzn n0
        obtain ⟨bc, oc, rfl, hbc, hcc⟩ := slice_of k hcm n0
        have HZ := Lib.hid hcz
        have HC := Lib.hid hcc
        have HL := Lib.hid hzn
        have HM := Lib.hid hcm
        have HE := Lib.hid hl
        have HB := Lib.hid hs
        clear h k hcz hcc hzn hcm hl
        go_enter Try.func33, Try.ntmps33
        go_wp2_with fail
        refine (HG.out _).mono ?_
        rintro e w1 ⟨rfl, h1⟩
        obtain ⟨hc1, hf1⟩ := bcell h1
        have z1 : w.heap.size < w1.heap.size := by have := h1.size; simp at this; omega
        have z1' : w.heap.size ≠ w1.heap.size := by omega
        have O1 : On w w1 := On.trans (On.alloc (On.refl w) _) h1
        have T1 : TIn w1 w.heap.size s x y (.slice (some ⟨bz, oz, none⟩) m cap) (.slice (some ⟨bc, oc, none⟩) m dap) := TIn.on ⟨by simp [go_sem], by simp [go_sem], by simp [go_sem], by simp [go_sem], by simp [go_sem]⟩ h1
        have HT1 := Lib.hid T1
        clear T1 h1
        go_wp2_with fail
        refine (HV.out _).mono ?_
        rintro e w2 ⟨rfl, h2⟩
        have O12 : On w1 w2 := by refine On.trans ?_ h2; repeat (first | with_reducible exact On.refl _ | apply On.alloc | refine On.setCell ?_ (by (try simp) <;> omega) _)
        obtain ⟨q0, q1, q2, q3, q4⟩ := HT1.out.on O12
        have g2 : w1.heap.size < w2.heap.size := by have := h2.size; simp at this; omega
        have r0 : w2.cell? ⟨w1.heap.size, 0, none⟩ = some (.int .i64 s) := (h2.cell (by simp)).trans (by simp [go_sem])
        have r1 : w2.cell? ⟨w1.heap.size, 1, none⟩ = some (.int .i64 x) := (h2.cell (by simp)).trans (by simp [go_sem])
        have r2 : w2.cell? ⟨w1.heap.size, 2, none⟩ = some (.int .i64 y) := (h2.cell (by simp)).trans (by simp [go_sem])
        have HO := Lib.hid (O1.trans O12)
        clear O1 O12 h2 hc1 hf1 HT1
        go_wp2_with fail
        go_loop [34] (fun i => ∃ j : Nat, j ≤ m ∧ i = .int .i64 j ∧ GTo zs cs j) (fun i => m - (intOf i).toNat)
        case atStart => exact ⟨0, Nat.zero_le _, rfl, gTo_zero _ _⟩
        case round =>
          obtain ⟨j, hj, rfl, hall⟩ := hrel
          have HA := Lib.hid hall
          clear hall
          by_cases hlt : j < m
          · have hlti : (j : Int) < (m : Int) := by omega
            obtain ⟨z, hz⟩ : ∃ z, z = zs.getD j 0 := ⟨_, rfl⟩
            obtain ⟨c, hc⟩ : ∃ c, c = cs.getD j 0 := ⟨_, rfl⟩
            have c1 : w2.cell? ⟨bz, oz + j, none⟩ = some (.int .i64 z) := by rw [hz]; exact (HO.out.cell (by exact hbz)).trans (HZ.out j hlt)
            have c2 : w2.cell? ⟨bc, oc + j, none⟩ = some (.int .i64 c) := by rw [hc]; exact (HO.out.cell (by exact hbc)).trans (HC.out j hlt)
            have HGr := Lib.hid (show gB (zs.getD j 0) (cs.getD j 0) = gB z c by rw [hz, hc])
            clear hz hc
            cases g1 : gB z c with
            | false =>
              have en := Lib.hid (okT_all (s := s) (x := x) (y := y) (allG_bad (by rw [HL.out]; exact hlt) (HGr.out.trans g1)))
              go_wp2_with (go_at_call 49; refine (impl_ground _ _ _).mono ?_; rintro e w' ⟨rfl, rfl⟩)
              go_ret
              exact ⟨ret_bool en.out.symm, HO.out⟩
            | true =>
              have HT := Lib.hid (gTo_succ HA.out (HGr.out.trans g1))
              go_wp2_with (go_at_call 49; refine (impl_ground _ _ _).mono ?_; rintro e w' ⟨rfl, rfl⟩)
              go_round
              case rel => exact ⟨j + 1, by omega, by go_num, HT.out⟩
              case measure => simp [intOf]; omega
          · obtain rfl : j = m := by omega
            have en := Lib.hid (okT_yes HB.out (by rw [HL.out]; exact HE.out) (HM.out.trans HL.out.symm) (allG_all (by rw [HL.out]; exact HA.out)))
            go_wp2
            go_ret
            exact ⟨ret_bool en.out.symm, HO.out⟩
      · have b2 : ((m : Int) == (n : Int)) = false := beq_eq_false_iff_ne.2 (by omega)
        have b2' : ((m : Int) != (n : Int)) = true := by rw [bne, b2]; rfl
        have b3 : (m == n) = false := beq_eq_false_iff_ne.2 hl2
        have en := Lib.hid (okT_len2 (s := s) (x := x) (y := y) (zs := zs) (cs := cs) (by rw [hzn, hcm]; exact hl2))
        clear h k hzn hcm hl hl2
        go_enter Try.func33, Try.ntmps33
        go_wp2_with fail
        refine (HG.out _).mono ?_
        rintro e w1 ⟨rfl, h1⟩
        obtain ⟨hc1, hf1⟩ := bcell h1
        have z1 : w.heap.size < w1.heap.size := by have := h1.size; simp at this; omega
        have z1' : w.heap.size ≠ w1.heap.size := by omega
        have O1 : On w w1 := On.trans (On.alloc (On.refl w) _) h1
        have T1 : TIn w1 w.heap.size s x y (.slice a n cap) (.slice b m dap) := TIn.on ⟨by simp [go_sem], by simp [go_sem], by simp [go_sem], by simp [go_sem], by simp [go_sem]⟩ h1
        have HT1 := Lib.hid T1
        clear T1 h1
        go_wp2_with fail
        refine (HV.out _).mono ?_
        rintro e w2 ⟨rfl, h2⟩
        have O12 : On w1 w2 := by refine On.trans ?_ h2; repeat (first | with_reducible exact On.refl _ | apply On.alloc | refine On.setCell ?_ (by (try simp) <;> omega) _)
        obtain ⟨q0, q1, q2, q3, q4⟩ := HT1.out.on O12
        have g2 : w1.heap.size < w2.heap.size := by have := h2.size; simp at this; omega
        have r0 : w2.cell? ⟨w1.heap.size, 0, none⟩ = some (.int .i64 s) := (h2.cell (by simp)).trans (by simp [go_sem])
        have r1 : w2.cell? ⟨w1.heap.size, 1, none⟩ = some (.int .i64 x) := (h2.cell (by simp)).trans (by simp [go_sem])
        have r2 : w2.cell? ⟨w1.heap.size, 2, none⟩ = some (.int .i64 y) := (h2.cell (by simp)).trans (by simp [go_sem])
        have HO := Lib.hid (O1.trans O12)
        clear O1 O12 h2 hc1 hf1 HT1
        go_wp2_with fail
        go_ret
        exact ⟨ret_bool en.out.symm, HO.out⟩
    · have b1 : ((n : Int) == x * y) = false := beq_eq_false_iff_ne.2 hl
      have b1' : ((n : Int) != x * y) = true := by rw [bne, b1]; rfl
      have en := Lib.hid (okT_len (s := s) (x := x) (y := y) (zs := zs) (cs := cs) (by rw [hzn]; exact hl))
      clear h k hzn hcm hl
      go_enter Try.func33, Try.ntmps33
      go_wp2_with fail
      refine (HG.out _).mono ?_
      rintro e w1 ⟨rfl, h1⟩
      obtain ⟨hc1, hf1⟩ := bcell h1
      have z1 : w.heap.size < w1.heap.size := by have := h1.size; simp at this; omega
      have z1' : w.heap.size ≠ w1.heap.size := by omega
      have O1 : On w w1 := On.trans (On.alloc (On.refl w) _) h1
      have T1 : TIn w1 w.heap.size s x y (.slice a n cap) (.slice b m dap) := TIn.on ⟨by simp [go_sem], by simp [go_sem], by simp [go_sem], by simp [go_sem], by simp [go_sem]⟩ h1
      have HT1 := Lib.hid T1
      clear T1 h1
      go_wp2_with fail
      refine (HV.out _).mono ?_
      rintro e w2 ⟨rfl, h2⟩
      have O12 : On w1 w2 := by refine On.trans ?_ h2; repeat (first | with_reducible exact On.refl _ | apply On.alloc | refine On.setCell ?_ (by (try simp) <;> omega) _)
      obtain ⟨q0, q1, q2, q3, q4⟩ := HT1.out.on O12
      have g2 : w1.heap.size < w2.heap.size := by have := h2.size; simp at this; omega
      have r0 : w2.cell? ⟨w1.heap.size, 0, none⟩ = some (.int .i64 s) := (h2.cell (by simp)).trans (by simp [go_sem])
      have r1 : w2.cell? ⟨w1.heap.size, 1, none⟩ = some (.int .i64 x) := (h2.cell (by simp)).trans (by simp [go_sem])
      have r2 : w2.cell? ⟨w1.heap.size, 2, none⟩ = some (.int .i64 y) := (h2.cell (by simp)).trans (by simp [go_sem])
      have HO := Lib.hid (O1.trans O12)
      clear O1 O12 h2 hc1 hf1 HT1
      go_wp2_with fail
      go_ret
      exact ⟨ret_bool en.out.symm, HO.out⟩
end Go.Proofs.Ytmpeogmlnajliaa.Terr
