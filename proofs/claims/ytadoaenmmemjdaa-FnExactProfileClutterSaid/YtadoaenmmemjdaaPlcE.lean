
/-
  The whole of ProfilePlaces, in the model and in the program, with what they return for arguments that are not valid. No condition.
-/
import Derived.Test.YtadoaenmmemjdaaPlcS
import Derived.Test.YtadoaenmmemjdaaPlcP
namespace Go.Proofs.Ytadoaenmmemjdaa.Plc
open Go.RowKit
open Plain
open Pts (OwnP Pairs)
open Point (okB)

def plC (ax ay bx bv n : Int) : Int := if okB ax ay = false ∨ okB bx bv = false then 1 else if inB n 2 65 = false then 2 else 0
def plL (ax ay bx bv n : Int) : List (Int × Int) := if plC ax ay bx bv n = 0 then plcs ax ay bx bv n.toNat else []
theorem plC_1 {ax ay bx bv n : Int} (h : okB ax ay = false) : plC ax ay bx bv n = 1 := by unfold plC; rw [if_pos (.inl h)]
theorem plC_2 {ax ay bx bv n : Int} (h : okB bx bv = false) : plC ax ay bx bv n = 1 := by unfold plC; rw [if_pos (.inr h)]
theorem plC_3 {ax ay bx bv n : Int} (h1 : okB ax ay = true) (h2 : okB bx bv = true) (h : inB n 2 65 = false) : plC ax ay bx bv n = 2 := by unfold plC; rw [if_neg (by rw [h1, h2]; simp), if_pos h]
theorem plC_4 {ax ay bx bv n : Int} (h1 : okB ax ay = true) (h2 : okB bx bv = true) (h : inB n 2 65 = true) : plC ax ay bx bv n = 0 := by unfold plC; rw [if_neg (by rw [h1, h2]; simp), if_neg (by rw [h]; simp)]
theorem plL_no {ax ay bx bv n c : Int} (h : plC ax ay bx bv n = c) (hc : c ≠ 0) : plL ax ay bx bv n = [] := by unfold plL; rw [if_neg (by rw [h]; exact hc)]
theorem plL_yes {ax ay bx bv : Int} {n : Nat} (h : plC ax ay bx bv n = 0) : plL ax ay bx bv n = plcs ax ay bx bv n := by unfold plL; rw [if_pos h]; rfl
theorem plL_len (ax ay bx bv n : Int) : (plL ax ay bx bv n).length ≤ 65 := by
  cases h1 : okB ax ay with
  | false => rw [plL_no (plC_1 h1) (by omega)]; exact Nat.zero_le _
  | true =>
    cases h2 : okB bx bv with
    | false => rw [plL_no (plC_2 h2) (by omega)]; exact Nat.zero_le _
    | true =>
      cases h3 : inB n 2 65 with
      | false => rw [plL_no (plC_3 h1 h2 h3) (by omega)]; exact Nat.zero_le _
      | true =>
        obtain ⟨n0, n1⟩ := of_inB h3
        have : n = ((n.toNat : Nat) : Int) := by omega
        rw [this, plL_yes (by rw [← this]; exact plC_4 h1 h2 h3), plcs_len]; omega
theorem held_on {W w' : World} {b c : Nat} {x0 x1 x2 x3 : Value} (h : W.cell? ⟨b, 0, none⟩ = some x0 ∧ W.cell? ⟨b, 1, none⟩ = some x1 ∧ W.cell? ⟨c, 0, none⟩ = some x2 ∧ W.cell? ⟨c, 1, none⟩ = some x3) (hk : On W w') : On W w' ∧ w'.cell? ⟨b, 0, none⟩ = some x0 ∧ w'.cell? ⟨b, 1, none⟩ = some x1 ∧ w'.cell? ⟨c, 0, none⟩ = some x2 ∧ w'.cell? ⟨c, 1, none⟩ = some x3 :=
  held_four h (World.block_lt_of_cell? W _ h.1) (World.block_lt_of_cell? W _ h.2.2.1) hk
theorem pairs_nil (w : World) (a : Option Addr) (cap : Nat) : Pairs w (.slice a 0 cap) [] := ⟨a, cap, rfl, fun h => by simp at h⟩
set_option maxRecDepth 100000 in
set_option maxHeartbeats 4000000 in
theorem spec_P (ax ay bx bv n : Int) (w : World) :
    Calls Try.prog 6 #[.agg #[.int .i64 ax, .int .i64 ay], .agg #[.int .i64 bx, .int .i64 bv], .int .i64 n] w fun e w' => ∃ v, e = .returned (.tuple #[v, .int .i64 (plC ax ay bx bv n)]) ∧ Pairs w' v (plL ax ay bx bv n) ∧ On w w' := by
  have HA := Lib.hid (fun w => Point.spec_validPoint ax ay w)
  have HB := Lib.hid (fun w => Point.spec_validPoint bx bv w)
  have HIN := Lib.hid (fun w => Arith.l00In n 2 65 w)
  cases ha : okB ax ay with
  | false =>
    have hc := plC_1 (bx := bx) (bv := bv) (n := n) ha
    rw [plL_no hc (by omega), hc]
    rw [ha] at HA
    clear ha hc
    go_enter Try.func6, Try.ntmps6
    go_wp2_with fail
    refine (HA.out _).mono ?_
    rintro e w1 ⟨rfl, h1⟩
    have O1 := Lib.hid (show On w w1 by refine On.trans ?_ h1; repeat (first | with_reducible exact On.refl _ | apply On.alloc))
    have c0 : w1.cell? ⟨w.heap.size, 0, none⟩ = some (.int .i64 ax) := (h1.cell (by simp; try omega)).trans (by simp [go_sem])
    have c1 : w1.cell? ⟨w.heap.size, 1, none⟩ = some (.int .i64 ay) := (h1.cell (by simp; try omega)).trans (by simp [go_sem])
    have c2 : w1.cell? ⟨w.heap.size + 1, 0, none⟩ = some (.int .i64 bx) := (h1.cell (by simp)).trans (by simp [go_sem])
    have c3 : w1.cell? ⟨w.heap.size + 1, 1, none⟩ = some (.int .i64 bv) := (h1.cell (by simp)).trans (by simp [go_sem])
    have K1 := Lib.hid (And.intro c0 (And.intro c1 (And.intro c2 c3)))
    clear h1
    go_wp2_with fail
    go_ret2
    exact ⟨_, rfl, pairs_nil _ _ _, O1.out⟩
  | true =>
    cases hb : okB bx bv with
    | false =>
      have hc := plC_2 (ax := ax) (ay := ay) (n := n) hb
      rw [plL_no hc (by omega), hc]
      rw [ha] at HA
      rw [hb] at HB
      clear ha hb hc
      go_enter Try.func6, Try.ntmps6
      go_wp2_with fail
      refine (HA.out _).mono ?_
      rintro e w1 ⟨rfl, h1⟩
      have O1 := Lib.hid (show On w w1 by refine On.trans ?_ h1; repeat (first | with_reducible exact On.refl _ | apply On.alloc))
      have c0 : w1.cell? ⟨w.heap.size, 0, none⟩ = some (.int .i64 ax) := (h1.cell (by simp; try omega)).trans (by simp [go_sem])
      have c1 : w1.cell? ⟨w.heap.size, 1, none⟩ = some (.int .i64 ay) := (h1.cell (by simp; try omega)).trans (by simp [go_sem])
      have c2 : w1.cell? ⟨w.heap.size + 1, 0, none⟩ = some (.int .i64 bx) := (h1.cell (by simp)).trans (by simp [go_sem])
      have c3 : w1.cell? ⟨w.heap.size + 1, 1, none⟩ = some (.int .i64 bv) := (h1.cell (by simp)).trans (by simp [go_sem])
      have K1 := Lib.hid (And.intro c0 (And.intro c1 (And.intro c2 c3)))
      clear h1
      go_wp2_with fail
      refine (HB.out _).mono ?_
      rintro e w2 ⟨rfl, h2⟩
      have O2 := Lib.hid (On.trans O1.out h2)
      obtain ⟨d0, d1⟩ := heldP K1.out.1 K1.out.2.1 h2
      obtain ⟨d2, d3⟩ := heldP K1.out.2.2.1 K1.out.2.2.2 h2
      clear h2 c0 c1 c2 c3
      go_wp2_with fail
      go_ret2
      exact ⟨_, rfl, pairs_nil _ _ _, O2.out⟩
    | true =>
      cases hi : inB n 2 65 with
      | false =>
        have hc := plC_3 ha hb hi
        rw [plL_no hc (by omega), hc]
        rw [ha] at HA
        rw [hb] at HB
        rw [hi] at HIN
        clear ha hb hc hi
        go_enter Try.func6, Try.ntmps6
        go_wp2_with fail
        refine (HA.out _).mono ?_
        rintro e w1 ⟨rfl, h1⟩
        have O1 := Lib.hid (show On w w1 by refine On.trans ?_ h1; repeat (first | with_reducible exact On.refl _ | apply On.alloc))
        have c0 : w1.cell? ⟨w.heap.size, 0, none⟩ = some (.int .i64 ax) := (h1.cell (by simp; try omega)).trans (by simp [go_sem])
        have c1 : w1.cell? ⟨w.heap.size, 1, none⟩ = some (.int .i64 ay) := (h1.cell (by simp; try omega)).trans (by simp [go_sem])
        have c2 : w1.cell? ⟨w.heap.size + 1, 0, none⟩ = some (.int .i64 bx) := (h1.cell (by simp)).trans (by simp [go_sem])
        have c3 : w1.cell? ⟨w.heap.size + 1, 1, none⟩ = some (.int .i64 bv) := (h1.cell (by simp)).trans (by simp [go_sem])
        have K1 := Lib.hid (And.intro c0 (And.intro c1 (And.intro c2 c3)))
        clear h1
        go_wp2_with fail
        refine (HB.out _).mono ?_
        rintro e w2 ⟨rfl, h2⟩
        have O2 := Lib.hid (On.trans O1.out h2)
        obtain ⟨d0, d1⟩ := heldP K1.out.1 K1.out.2.1 h2
        obtain ⟨d2, d3⟩ := heldP K1.out.2.2.1 K1.out.2.2.2 h2
        clear h2 c0 c1 c2 c3
        go_wp2_with fail
        refine (HIN.out _).mono ?_
        rintro e w2' ⟨rfl, rfl⟩
        go_wp2_with fail
        go_ret2
        exact ⟨_, rfl, pairs_nil _ _ _, O2.out⟩
      | true =>
        obtain ⟨n0, n1⟩ := of_inB hi
        obtain ⟨m, rfl⟩ : ∃ m : Nat, n = (m : Int) := ⟨n.toNat, by omega⟩
        have hc := plC_4 ha hb hi
        rw [plL_yes hc, hc]
        obtain ⟨a0, a1, a2, a3⟩ := Point.of_okB ha
        obtain ⟨b0, b1, b2, b3⟩ := Point.of_okB hb
        have HS := Lib.hid (fun w => spec_places ax ay bx bv m w ⟨a0, a1⟩ ⟨a2, a3⟩ ⟨b0, b1⟩ ⟨b2, b3⟩ (by omega) (by omega))
        rw [ha] at HA
        rw [hb] at HB
        rw [hi] at HIN
        clear ha hb hc hi a0 a1 a2 a3 b0 b1 b2 b3
        go_enter Try.func6, Try.ntmps6
        go_wp2_with fail
        refine (HA.out _).mono ?_
        rintro e w1 ⟨rfl, h1⟩
        have O1 := Lib.hid (show On w w1 by refine On.trans ?_ h1; repeat (first | with_reducible exact On.refl _ | apply On.alloc))
        have c0 : w1.cell? ⟨w.heap.size, 0, none⟩ = some (.int .i64 ax) := (h1.cell (by simp; try omega)).trans (by simp [go_sem])
        have c1 : w1.cell? ⟨w.heap.size, 1, none⟩ = some (.int .i64 ay) := (h1.cell (by simp; try omega)).trans (by simp [go_sem])
        have c2 : w1.cell? ⟨w.heap.size + 1, 0, none⟩ = some (.int .i64 bx) := (h1.cell (by simp)).trans (by simp [go_sem])
        have c3 : w1.cell? ⟨w.heap.size + 1, 1, none⟩ = some (.int .i64 bv) := (h1.cell (by simp)).trans (by simp [go_sem])
        have K1 := Lib.hid (And.intro c0 (And.intro c1 (And.intro c2 c3)))
        clear h1
        go_wp2_with fail
        refine (HB.out _).mono ?_
        rintro e w2 ⟨rfl, h2⟩
        have O2 := Lib.hid (On.trans O1.out h2)
        obtain ⟨d0, d1⟩ := heldP K1.out.1 K1.out.2.1 h2
        obtain ⟨d2, d3⟩ := heldP K1.out.2.2.1 K1.out.2.2.2 h2
        clear h2 c0 c1 c2 c3
        go_wp2_with fail
        refine (HIN.out _).mono ?_
        rintro e w2' ⟨rfl, rfl⟩
        go_wp2_with fail
        refine (HS.out _).mono ?_
        rintro e w4 ⟨v4, rfl, hp4, h4⟩
        have O4 := Lib.hid (On.trans O2.out h4)
        clear h4
        go_wp2_with fail
        go_ret2
        exact ⟨_, rfl, hp4, O4.out⟩
set_option maxRecDepth 100000 in
set_option maxHeartbeats 4000000 in
theorem impl_P (ax ay bx bv n : Int) (w : World) :
    Calls Try.prog 8 #[.agg #[.int .i64 ax, .int .i64 ay], .agg #[.int .i64 bx, .int .i64 bv], .int .i64 n] w fun e w' => ∃ v, e = .returned (.tuple #[v, .int .i64 (plC ax ay bx bv n)]) ∧ OwnP w.heap.size w' v (plL ax ay bx bv n) ∧ On w w' := by
  have HA := Lib.hid (fun w => Point.impl_ok ax ay w)
  have HB := Lib.hid (fun w => Point.impl_ok bx bv w)
  have HIN := Lib.hid (fun w => Arith.within n 2 65 w)
  cases ha : okB ax ay with
  | false =>
    have hc := plC_1 (bx := bx) (bv := bv) (n := n) ha
    rw [plL_no hc (by omega), hc]
    rw [ha] at HA
    clear ha hc
    go_enter Try.func8, Try.ntmps8
    go_wp2_with fail
    refine (HA.out _).mono ?_
    rintro e w1 ⟨rfl, h1⟩
    have O1 := Lib.hid (show On w w1 by refine On.trans ?_ h1; repeat (first | with_reducible exact On.refl _ | apply On.alloc))
    have c0 : w1.cell? ⟨w.heap.size, 0, none⟩ = some (.int .i64 ax) := (h1.cell (by simp; try omega)).trans (by simp [go_sem])
    have c1 : w1.cell? ⟨w.heap.size, 1, none⟩ = some (.int .i64 ay) := (h1.cell (by simp; try omega)).trans (by simp [go_sem])
    have c2 : w1.cell? ⟨w.heap.size + 1, 0, none⟩ = some (.int .i64 bx) := (h1.cell (by simp)).trans (by simp [go_sem])
    have c3 : w1.cell? ⟨w.heap.size + 1, 1, none⟩ = some (.int .i64 bv) := (h1.cell (by simp)).trans (by simp [go_sem])
    have K1 := Lib.hid (And.intro c0 (And.intro c1 (And.intro c2 c3)))
    clear h1
    go_wp2_with fail
    go_ret2
    exact ⟨_, rfl, OwnP.empty _ _ _ _, O1.out⟩
  | true =>
    cases hb : okB bx bv with
    | false =>
      have hc := plC_2 (ax := ax) (ay := ay) (n := n) hb
      rw [plL_no hc (by omega), hc]
      rw [ha] at HA
      rw [hb] at HB
      clear ha hb hc
      go_enter Try.func8, Try.ntmps8
      go_wp2_with fail
      refine (HA.out _).mono ?_
      rintro e w1 ⟨rfl, h1⟩
      have O1 := Lib.hid (show On w w1 by refine On.trans ?_ h1; repeat (first | with_reducible exact On.refl _ | apply On.alloc))
      have c0 : w1.cell? ⟨w.heap.size, 0, none⟩ = some (.int .i64 ax) := (h1.cell (by simp; try omega)).trans (by simp [go_sem])
      have c1 : w1.cell? ⟨w.heap.size, 1, none⟩ = some (.int .i64 ay) := (h1.cell (by simp; try omega)).trans (by simp [go_sem])
      have c2 : w1.cell? ⟨w.heap.size + 1, 0, none⟩ = some (.int .i64 bx) := (h1.cell (by simp)).trans (by simp [go_sem])
      have c3 : w1.cell? ⟨w.heap.size + 1, 1, none⟩ = some (.int .i64 bv) := (h1.cell (by simp)).trans (by simp [go_sem])
      have K1 := Lib.hid (And.intro c0 (And.intro c1 (And.intro c2 c3)))
      clear h1
      go_wp2_with fail
      refine (HB.out _).mono ?_
      rintro e w2 ⟨rfl, h2⟩
      have O2 := Lib.hid (On.trans O1.out h2)
      obtain ⟨d0, d1⟩ := heldP K1.out.1 K1.out.2.1 h2
      obtain ⟨d2, d3⟩ := heldP K1.out.2.2.1 K1.out.2.2.2 h2
      clear h2 c0 c1 c2 c3
      go_wp2_with fail
      go_ret2
      exact ⟨_, rfl, OwnP.empty _ _ _ _, O2.out⟩
    | true =>
      cases hi : inB n 2 65 with
      | false =>
        have hc := plC_3 ha hb hi
        rw [plL_no hc (by omega), hc]
        rw [ha] at HA
        rw [hb] at HB
        rw [hi] at HIN
        clear ha hb hc hi
        go_enter Try.func8, Try.ntmps8
        go_wp2_with fail
        refine (HA.out _).mono ?_
        rintro e w1 ⟨rfl, h1⟩
        have O1 := Lib.hid (show On w w1 by refine On.trans ?_ h1; repeat (first | with_reducible exact On.refl _ | apply On.alloc))
        have c0 : w1.cell? ⟨w.heap.size, 0, none⟩ = some (.int .i64 ax) := (h1.cell (by simp; try omega)).trans (by simp [go_sem])
        have c1 : w1.cell? ⟨w.heap.size, 1, none⟩ = some (.int .i64 ay) := (h1.cell (by simp; try omega)).trans (by simp [go_sem])
        have c2 : w1.cell? ⟨w.heap.size + 1, 0, none⟩ = some (.int .i64 bx) := (h1.cell (by simp)).trans (by simp [go_sem])
        have c3 : w1.cell? ⟨w.heap.size + 1, 1, none⟩ = some (.int .i64 bv) := (h1.cell (by simp)).trans (by simp [go_sem])
        have K1 := Lib.hid (And.intro c0 (And.intro c1 (And.intro c2 c3)))
        clear h1
        go_wp2_with fail
        refine (HB.out _).mono ?_
        rintro e w2 ⟨rfl, h2⟩
        have O2 := Lib.hid (On.trans O1.out h2)
        obtain ⟨d0, d1⟩ := heldP K1.out.1 K1.out.2.1 h2
        obtain ⟨d2, d3⟩ := heldP K1.out.2.2.1 K1.out.2.2.2 h2
        clear h2 c0 c1 c2 c3
        go_wp2_with fail
        refine (HIN.out _).mono ?_
        rintro e w2' ⟨rfl, rfl⟩
        go_wp2_with fail
        go_ret2
        exact ⟨_, rfl, OwnP.empty _ _ _ _, O2.out⟩
      | true =>
        obtain ⟨n0, n1⟩ := of_inB hi
        obtain ⟨m, rfl⟩ : ∃ m : Nat, n = (m : Int) := ⟨n.toNat, by omega⟩
        have hc := plC_4 ha hb hi
        rw [plL_yes hc, hc]
        refine (impl_places ax ay bx bv m w ha hb (by omega) (by omega)).mono ?_
        rintro e w' ⟨a, cap, rfl, ho, h⟩
        exact ⟨_, rfl, ho, h⟩
end Go.Proofs.Ytadoaenmmemjdaa.Plc
