
/-
  The places between two points, in the program, where all is as stated. Condition: valid points, 2 to 65 places.
-/
import Derived.Test.YtadoaenmmemjdaaPlcI
namespace Go.Proofs.Ytadoaenmmemjdaa.Plc
open Go.RowKit
open Plain
open Pts (OwnP Pairs flat flat_even flat_odd)
open Point (okB)

theorem impl_before (ax ay bx bv : Int) (w : World) :
    Calls Try.prog 28 #[.agg #[.int .i64 ax, .int .i64 ay], .agg #[.int .i64 bx, .int .i64 bv]] w fun e w' => e = .returned (.bool (bef ax ay bx bv)) ∧ On w w' := by
  by_cases h1 : ax < bx
  · have en := Lib.hid (bef_lt (ay := ay) (bv := bv) h1)
    go_enter Try.func28, Try.ntmps28
    go_wp2_with fail
    go_ret
    exact ⟨ret_bool en.out.symm, by repeat (first | with_reducible exact On.refl _ | apply On.alloc)⟩
  · by_cases h2 : ax = bx
    · subst h2
      by_cases h3 : ay ≤ bv
      · have en := Lib.hid (bef_le (ax := ax) rfl h3)
        go_enter Try.func28, Try.ntmps28
        go_wp2_with fail
        go_ret
        exact ⟨ret_bool en.out.symm, by repeat (first | with_reducible exact On.refl _ | apply On.alloc)⟩
      · have en := Lib.hid (bef_ge (ax := ax) (ay := ay) (bv := bv) rfl (by omega))
        go_enter Try.func28, Try.ntmps28
        go_wp2_with fail
        go_ret
        exact ⟨ret_bool en.out.symm, by repeat (first | with_reducible exact On.refl _ | apply On.alloc)⟩
    · have en := Lib.hid (bef_gt (ay := ay) (bv := bv) (show bx < ax by omega))
      have hb : (ax == bx) = false := beq_eq_false_iff_ne.2 h2
      go_enter Try.func28, Try.ntmps28
      go_wp2_with fail
      go_ret
      exact ⟨ret_bool en.out.symm, by repeat (first | with_reducible exact On.refl _ | apply On.alloc)⟩
theorem ret_si {a b : Value} {c d : Int} (h1 : a = b) (h2 : c = d) : Ending.returned (.tuple #[a, .int .i64 c]) = .returned (.tuple #[b, .int .i64 d]) := by rw [h1, h2]
set_option maxRecDepth 100000 in
set_option maxHeartbeats 4000000 in
theorem impl_places (ax ay bx bv : Int) (n : Nat) (w : World) (ha : okB ax ay = true) (hb : okB bx bv = true) (hn : 2 ≤ n) (hn2 : n ≤ 65) :
    Calls Try.prog 8 #[.agg #[.int .i64 ax, .int .i64 ay], .agg #[.int .i64 bx, .int .i64 bv], .int .i64 n] w fun e w' => ∃ a cap, e = .returned (.tuple #[.slice a n cap, .int .i64 0]) ∧ OwnP w.heap.size w' (.slice a n cap) (plcs ax ay bx bv n) ∧ On w w' := by
  obtain ⟨a0, a1, a2, a3⟩ := Point.of_okB ha
  obtain ⟨b0, b1, b2, b3⟩ := Point.of_okB hb
  have HA := Lib.hid (fun w => Point.impl_ok ax ay w)
  have HB := Lib.hid (fun w => Point.impl_ok bx bv w)
  rw [ha] at HA
  rw [hb] at HB
  have HBF := Lib.hid (fun w => impl_before ax ay bx bv w)
  have HIN := Lib.hid (fun w => Arith.within (n : Int) 2 65 w)
  rw [inB_yes (show (2 : Int) ≤ (n : Int) by omega) (show (n : Int) ≤ 65 by omega)] at HIN
  cases hf : bef ax ay bx bv with
  | true =>
    have HF := Lib.hid (fun w => impl_from ax ay bx bv n w ⟨a0, a1⟩ ⟨a2, a3⟩ ⟨b0, b1⟩ ⟨b2, b3⟩ hn hn2)
    rw [plcs_fwd n hf]
    rw [hf] at HBF
    clear ha hb hf
    go_enter Try.func8, Try.ntmps8
    go_wp2_with fail
    refine (HA.out _).mono ?_
    rintro e w1 ⟨rfl, h1⟩
    have O1 := Lib.hid (show On w w1 by refine On.trans ?_ h1; repeat (first | with_reducible exact On.refl _ | apply On.alloc))
    have c0 : w1.cell? ⟨w.heap.size, 0, none⟩ = some (.int .i64 ax) := (h1.cell (by simp; try omega)).trans (by simp [go_sem])
    have c1 : w1.cell? ⟨w.heap.size, 1, none⟩ = some (.int .i64 ay) := (h1.cell (by simp; try omega)).trans (by simp [go_sem])
    have c2 : w1.cell? ⟨w.heap.size + 1, 0, none⟩ = some (.int .i64 bx) := (h1.cell (by simp)).trans (by simp [go_sem])
    have c3 : w1.cell? ⟨w.heap.size + 1, 1, none⟩ = some (.int .i64 bv) := (h1.cell (by simp)).trans (by simp [go_sem])
    have K1 := Lib.hid (And.intro c0 (And.intro c1 (And.intro c2 c3)))
    clear h1
    go_wp2_with fail
    refine (HB.out _).mono ?_
    rintro e w2 ⟨rfl, h2⟩
    have O2 := Lib.hid (On.trans O1.out h2)
    obtain ⟨d0, d1⟩ := heldP K1.out.1 K1.out.2.1 h2
    obtain ⟨d2, d3⟩ := heldP K1.out.2.2.1 K1.out.2.2.2 h2
    have K2 := Lib.hid (And.intro d0 (And.intro d1 (And.intro d2 d3)))
    clear h2 c0 c1 c2 c3
    go_wp2_with fail
    refine (HIN.out _).mono ?_
    rintro e w2' ⟨rfl, rfl⟩
    go_wp2_with fail
    refine (HBF.out _).mono ?_
    rintro e w3 ⟨rfl, h3⟩
    have O3 := Lib.hid (On.trans O2.out h3)
    obtain ⟨e0, e1⟩ := heldP K2.out.1 K2.out.2.1 h3
    obtain ⟨e2, e3⟩ := heldP K2.out.2.2.1 K2.out.2.2.2 h3
    clear h3 d0 d1 d2 d3
    go_wp2_with fail
    refine (HF.out _).mono ?_
    rintro e w4 ⟨pa, pc, rfl, how, h4⟩
    have O4 := Lib.hid (On.trans O3.out h4)
    have HW := Lib.hid (how.mono O3.out.size)
    clear h4 how
    go_wp2_with fail
    go_ret2
    exact ⟨_, _, rfl, HW.out, O4.out⟩
  | false =>
    have HF := Lib.hid (fun w => impl_from bx bv ax ay n w ⟨b0, b1⟩ ⟨b2, b3⟩ ⟨a0, a1⟩ ⟨a2, a3⟩ hn hn2)
    rw [plcs_back n hf]
    rw [hf] at HBF
    have hpl := pts_len bx bv ax ay n
    obtain ⟨zs, hzs⟩ : ∃ zs, zs = pts bx bv ax ay n := ⟨_, rfl⟩
    rw [← hzs] at hpl HF ⊢
    clear ha hb hf hzs
    go_enter Try.func8, Try.ntmps8
    go_wp2_with fail
    refine (HA.out _).mono ?_
    rintro e w1 ⟨rfl, h1⟩
    have O1 := Lib.hid (show On w w1 by refine On.trans ?_ h1; repeat (first | with_reducible exact On.refl _ | apply On.alloc))
    have c0 : w1.cell? ⟨w.heap.size, 0, none⟩ = some (.int .i64 ax) := (h1.cell (by simp; try omega)).trans (by simp [go_sem])
    have c1 : w1.cell? ⟨w.heap.size, 1, none⟩ = some (.int .i64 ay) := (h1.cell (by simp; try omega)).trans (by simp [go_sem])
    have c2 : w1.cell? ⟨w.heap.size + 1, 0, none⟩ = some (.int .i64 bx) := (h1.cell (by simp)).trans (by simp [go_sem])
    have c3 : w1.cell? ⟨w.heap.size + 1, 1, none⟩ = some (.int .i64 bv) := (h1.cell (by simp)).trans (by simp [go_sem])
    have K1 := Lib.hid (And.intro c0 (And.intro c1 (And.intro c2 c3)))
    clear h1
    go_wp2_with fail
    refine (HB.out _).mono ?_
    rintro e w2 ⟨rfl, h2⟩
    have O2 := Lib.hid (On.trans O1.out h2)
    obtain ⟨d0, d1⟩ := heldP K1.out.1 K1.out.2.1 h2
    obtain ⟨d2, d3⟩ := heldP K1.out.2.2.1 K1.out.2.2.2 h2
    have K2 := Lib.hid (And.intro d0 (And.intro d1 (And.intro d2 d3)))
    clear h2 c0 c1 c2 c3
    go_wp2_with fail
    refine (HIN.out _).mono ?_
    rintro e w2' ⟨rfl, rfl⟩
    go_wp2_with fail
    refine (HBF.out _).mono ?_
    rintro e w3 ⟨rfl, h3⟩
    have O3 := Lib.hid (On.trans O2.out h3)
    obtain ⟨e0, e1⟩ := heldP K2.out.1 K2.out.2.1 h3
    obtain ⟨e2, e3⟩ := heldP K2.out.2.2.1 K2.out.2.2.2 h3
    clear h3 d0 d1 d2 d3
    go_wp2_with fail
    refine (HF.out _).mono ?_
    rintro e w4 ⟨pa, pc, rfl, how, h4⟩
    have O4 := Lib.hid (On.trans O3.out h4)
    have HW := Lib.hid (how.mono O3.out.size)
    clear h4 how
    have hw := HW.out
    obtain ⟨a', cap', he, hc⟩ := hw
    obtain ⟨q, off, hq, hB, hlt, hfz, hcl⟩ := hc (by omega)
    injection he with e1 e2 e3
    subst e1
    subst hq
    have HR := Lib.hid (rev_pts q off pc zs w4 (by omega) (by omega) hfz (fun i hi => ⟨by rw [hcl (i * 2) (by omega), flat_even], by rw [show off + i * 2 + 1 = off + (i * 2 + 1) from rfl, hcl (i * 2 + 1) (by omega), flat_odd]⟩))
    rw [hpl] at HR hfz
    have HFZ := Lib.hid hfz
    clear hc hfz hcl e2 e3
    go_wp2_with fail
    refine HR.out.mono ?_
    rintro e w5 ⟨rfl, hb5, hf5, hc5⟩
    have HB5 := Lib.hid hb5
    have HF5 := Lib.hid hf5
    have HC5 := Lib.hid hc5
    clear hb5 hf5 hc5
    go_wp2_with fail
    go_ret2
    refine ⟨_, _, rfl, ⟨_, pc, by rw [List.length_reverse, hpl], fun _ => ⟨q, off, rfl, hB, Nat.lt_of_lt_of_le hlt HB5.out.size, fun j hj => (HF5.out _).trans (HFZ.out j (by rw [List.length_reverse, hpl] at hj; exact hj)), fun j hj => ?_⟩⟩, ?_⟩
    · rw [List.length_reverse, hpl] at hj
      obtain ⟨g1, g2⟩ := HC5.out (j / 2) (by omega)
      unfold flat
      by_cases hm : j % 2 = 0
      · rw [if_pos hm, ← g1, show off + j / 2 * 2 = off + j by omega]
      · rw [if_neg hm, ← g2, show off + j / 2 * 2 + 1 = off + j by omega]
    · exact Below.trans O4.out (Below.mono HB5.out hB)
end Go.Proofs.Ytadoaenmmemjdaa.Plc
