
/-
  The laws' marking of a network: it writes into the network's own memory alone. Condition: at most 1048576 elements in each list, and numbers in each of these.
-/
import Derived.Test.YtpnmodmaabhldaaGreatMrk0
import Derived.Test.YtpnmodmaabhldaaGreatNet
namespace Go.Proofs.YtpnmodmaabhldaaGreat
open Go.RowKit
open Mrk (Kd Nst)
theorem Mrk.Kd.intE {B E : Nat} {w w' : World} (h : Kd B E w w') {p : Addr} (hp : ∃ x, w.cell? p = some (.int .i64 x)) : ∃ x, w'.cell? p = some (.int .i64 x) := by
  obtain ⟨x, hx⟩ := hp
  exact h.int p x hx
theorem Mrk.Kd.strE {B E : Nat} {w w' : World} (h : Kd B E w w') {p : Addr} (hp : ∃ x, w.cell? p = some (.string x)) : ∃ x, w'.cell? p = some (.string x) := by
  obtain ⟨x, hx⟩ := hp
  exact h.str p x hx
theorem Mrk.nst_own {B : Nat} {w : World} {a : Option Addr} {cap : Nat} {zs : List Int} (h : Ints.Own B w (.slice a zs.length cap) zs) : Nst B w.heap.size 1 w zs.length (.slice a zs.length cap) := by
  obtain ⟨a', cap', hv, hc⟩ := h
  refine ⟨a', cap', hv, fun h0 => ?_⟩
  obtain ⟨b, off, ha, hB, hlt, hf, hcell⟩ := hc h0
  exact ⟨b, off, ha, hB, hlt, fun i hi => ⟨hf i (by omega), _, hcell i (by omega)⟩⟩
theorem Mrk.nst_ownP {B : Nat} {w : World} {a : Option Addr} {cap : Nat} {zs : List (Int × Int)} (h : Modes.OwnP B w (.slice a zs.length cap) zs) : Nst B w.heap.size 2 w zs.length (.slice a zs.length cap) := by
  obtain ⟨a', cap', hv, hc⟩ := h
  refine ⟨a', cap', hv, fun h0 => ?_⟩
  obtain ⟨b, off, ha, hB, hlt, hf, hcell⟩ := hc h0
  exact ⟨b, off, ha, hB, hlt, fun i hi => ⟨hf i hi, _, hcell i hi⟩⟩

namespace Sites
/-- A record's cells by their kinds; its lists hold numbers, in the blocks from B to E. -/
structure Shp (B E : Nat) (w : World) (b o : Nat) : Prop where
  c0 : ∃ x, w.cell? ⟨b, o, none⟩ = some (.string x)
  c1 : ∃ x, w.cell? ⟨b, o + 1, none⟩ = some (.string x)
  c2 : ∃ x, w.cell? ⟨b, o + 2, none⟩ = some (.int .i64 x)
  c3 : ∃ x, w.cell? ⟨b, o + 3, none⟩ = some (.int .i64 x)
theorem Shp.kd {B E : Nat} {w w' : World} {b o : Nat} (h : Shp B E w b o) (k : Kd B E w w') : Shp B E w' b o where
  c0 := k.strE h.c0
  c1 := k.strE h.c1
  c2 := k.intE h.c2
  c3 := k.intE h.c3
def ShpS (B E : Nat) (w : World) (n : Nat) (v : Value) : Prop := ∃ a cap, v = .slice a n cap ∧ (0 < n → ∃ b off, a = some ⟨b, off, none⟩ ∧ B ≤ b ∧ b < E ∧ b < w.heap.size ∧ (∀ i, w.frozen? ⟨b, i, none⟩ = false) ∧ ∀ k, k < n → Shp B E w b (off + k * 4))
theorem ShpS.kd {B E : Nat} {w w' : World} {n : Nat} {v : Value} (h : ShpS B E w n v) (k : Kd B E w w') : ShpS B E w' n v := by
  obtain ⟨a, cap, hv, hc⟩ := h
  refine ⟨a, cap, hv, fun h0 => ?_⟩
  obtain ⟨b, off, ha, hB, hE, hlt, hz, hcell⟩ := hc h0
  exact ⟨b, off, ha, hB, hE, Nat.lt_of_lt_of_le hlt k.size, fun i => (k.frozen ⟨b, i, none⟩ hlt).trans (hz i), fun i hi => (hcell i hi).kd k⟩
theorem ShpS.of_rows {B : Nat} {w : World} {v : Value} {zs : List Z} (h : RowsO B w v zs) : ShpS B w.heap.size w zs.length v := by
  obtain ⟨a, cap, hv, _, hc⟩ := h
  refine ⟨a, cap, hv, fun h0 => ?_⟩
  obtain ⟨b, off, ha, hB, hlt, hz, hcell⟩ := hc h0
  refine ⟨b, off, ha, hB, hlt, hlt, hz, fun k hk => ?_⟩
  have e := hcell k hk
  have e0 := e.c0
  have e1 := e.c1
  have e2 := e.c2
  have e3 := e.c3
  exact ⟨⟨_, e0⟩, ⟨_, e1⟩, ⟨_, e2⟩, ⟨_, e3⟩⟩
set_option maxHeartbeats 4000000 in
theorem mark (B E k n : Nat) (v : Value) (w : World) (hn : n ≤ 1048576) (hk : k ≤ 288230376151711744) (hB : B ≤ w.heap.size) (h : ShpS B E w n v) :
    Calls Tryz.prog 59 #[v, .int .i64 k] w fun e w' => ∃ r : Nat, e = .returned (.int .i64 r) ∧ r ≤ k + n * 4 ∧ Kd B E w w' := by
  obtain ⟨a, cap, rfl, hc⟩ := h
  by_cases h0 : 0 < n
  · obtain ⟨b, off, rfl, hb1, hb2, hblt, hfz, hcell⟩ := hc h0
    have HC := Lib.hid hcell
    have HF := Lib.hid hfz
    clear hcell hc hfz
    go_enter Tryz.func59, Tryz.ntmps59
    go_wp2_with fail
    go_loopw [1, 5] (fun m i wr => ∃ j t : Nat, j ≤ n ∧ i = .int .i64 j ∧ m = .int .i64 t ∧ t ≤ k + j * 4 ∧ Kd B E w wr) (fun _ i _ => n - (intOf i).toNat)
    case atStart => exact ⟨0, k, Nat.zero_le _, rfl, rfl, by omega, Kd.refl hB⟩
    case round =>
      obtain ⟨j, t, hj, rfl, rfl, ht, hkd⟩ := hrel
      have HB := Lib.hid hkd
      clear hkd
      by_cases hlt2 : j < n
      · have hlti : (j : Int) < (n : Int) := by omega
        have e := (HC.out j hlt2).kd HB.out
        have I0 := Lib.hid e.c0
        have I1 := Lib.hid e.c1
        have I2 := Lib.hid e.c2
        have I3 := Lib.hid e.c3
        have FZ := Lib.hid (fun i => (HB.out.frozen ⟨b, i, none⟩ hblt).trans (HF.out i))
        have hbr : b < wr.heap.size := Nat.lt_of_lt_of_le hblt HB.out.size
        have hBr : B ≤ wr.heap.size := Nat.le_trans hB HB.out.size
        clear e
        have K := Lib.hid (Kd.refl (B := B) (E := E) hBr)
        obtain ⟨x0, c0⟩ := K.out.strE I0.out
        have f0 := (K.out.frozen _ hbr).trans (FZ.out (off + j * 4))
        obtain ⟨x1, c1⟩ := K.out.strE I1.out
        have f1 := (K.out.frozen _ hbr).trans (FZ.out (off + j * 4 + 1))
        obtain ⟨x2, c2⟩ := K.out.intE I2.out
        have f2 := (K.out.frozen _ hbr).trans (FZ.out (off + j * 4 + 2))
        obtain ⟨x3, c3⟩ := K.out.intE I3.out
        have f3 := (K.out.frozen _ hbr).trans (FZ.out (off + j * 4 + 3))
        have hbw := Nat.lt_of_lt_of_le hbr K.out.size
        go_wp2_with fail
        refine (Mrk.markTextI _ _ (by omega) (by omega)).mono ?_
        rintro e w0 ⟨s0, rfl, hon⟩
        have K := Lib.hid (show Kd B E wr w0 by repeat (first | with_reducible exact Kd.refl hBr | with_reducible exact K.out | refine Kd.on ?_ hon | (refine Kd.setStr ?_ (by first | exact I0.out | exact I1.out) (by exact hb1) (by exact hb2) _) | (refine Kd.setInt ?_ (by first | exact I2.out | exact I3.out) (by exact hb1) (by exact hb2) _)))
        clear hon c0 f0 c1 f1 c2 f2 c3 f3 hbw
        obtain ⟨x0, c0⟩ := K.out.strE I0.out
        have f0 := (K.out.frozen _ hbr).trans (FZ.out (off + j * 4))
        obtain ⟨x1, c1⟩ := K.out.strE I1.out
        have f1 := (K.out.frozen _ hbr).trans (FZ.out (off + j * 4 + 1))
        obtain ⟨x2, c2⟩ := K.out.intE I2.out
        have f2 := (K.out.frozen _ hbr).trans (FZ.out (off + j * 4 + 2))
        obtain ⟨x3, c3⟩ := K.out.intE I3.out
        have f3 := (K.out.frozen _ hbr).trans (FZ.out (off + j * 4 + 3))
        have hbw := Nat.lt_of_lt_of_le hbr K.out.size
        go_wp2_with fail
        refine (Mrk.markTextI _ _ (by omega) (by omega)).mono ?_
        rintro e w1 ⟨s1, rfl, hon⟩
        have K := Lib.hid (show Kd B E wr w1 by repeat (first | with_reducible exact Kd.refl hBr | with_reducible exact K.out | refine Kd.on ?_ hon | (refine Kd.setStr ?_ (by first | exact I0.out | exact I1.out) (by exact hb1) (by exact hb2) _) | (refine Kd.setInt ?_ (by first | exact I2.out | exact I3.out) (by exact hb1) (by exact hb2) _)))
        clear hon c0 f0 c1 f1 c2 f2 c3 f3 hbw
        obtain ⟨x0, c0⟩ := K.out.strE I0.out
        have f0 := (K.out.frozen _ hbr).trans (FZ.out (off + j * 4))
        obtain ⟨x1, c1⟩ := K.out.strE I1.out
        have f1 := (K.out.frozen _ hbr).trans (FZ.out (off + j * 4 + 1))
        obtain ⟨x2, c2⟩ := K.out.intE I2.out
        have f2 := (K.out.frozen _ hbr).trans (FZ.out (off + j * 4 + 2))
        obtain ⟨x3, c3⟩ := K.out.intE I3.out
        have f3 := (K.out.frozen _ hbr).trans (FZ.out (off + j * 4 + 3))
        have hbw := Nat.lt_of_lt_of_le hbr K.out.size
        go_wp2_with fail
        go_roundw
        case rel => exact ⟨j + 1, t + 4, by omega, by go_num, by go_num, by omega, Kd.trans HB.out (show Kd B E wr _ by repeat (first | with_reducible exact Kd.refl hBr | with_reducible exact K.out | refine Kd.on ?_ hon | (refine Kd.setStr ?_ (by first | exact I0.out | exact I1.out) (by exact hb1) (by exact hb2) _) | (refine Kd.setInt ?_ (by first | exact I2.out | exact I3.out) (by exact hb1) (by exact hb2) _)))⟩
        case measure => simp [intOf]; omega
      · obtain rfl : j = n := by omega
        go_wp2
        go_ret
        exact ⟨t, rfl, ht, HB.out⟩
  · obtain rfl : n = 0 := by omega
    clear hc h0
    go_enter Tryz.func59, Tryz.ntmps59
    go_wp2
    refine wp_loop_rounds 1 ?_
    rw [rounds_succ]
    go_wp2
    go_ret
    exact ⟨k, rfl, by omega, Kd.refl hB⟩
end Sites
namespace Secs
/-- A record's cells by their kinds; its lists hold numbers, in the blocks from B to E. -/
structure Shp (B E : Nat) (w : World) (b o : Nat) : Prop where
  c0 : ∃ x, w.cell? ⟨b, o, none⟩ = some (.string x)
  c1 : ∃ x, w.cell? ⟨b, o + 1, none⟩ = some (.string x)
  c2 : ∃ x, w.cell? ⟨b, o + 2, none⟩ = some (.string x)
  c3 : ∃ x, w.cell? ⟨b, o + 3, none⟩ = some (.string x)
  c4 : ∃ x, w.cell? ⟨b, o + 4, none⟩ = some (.string x)
  c5 : ∃ x, w.cell? ⟨b, o + 5, none⟩ = some (.int .i64 x)
  c6 : ∃ x, w.cell? ⟨b, o + 6, none⟩ = some (.int .i64 x)
  c7 : ∃ x, w.cell? ⟨b, o + 7, none⟩ = some (.int .i64 x)
  c8 : ∃ x, w.cell? ⟨b, o + 8, none⟩ = some (.int .i64 x)
theorem Shp.kd {B E : Nat} {w w' : World} {b o : Nat} (h : Shp B E w b o) (k : Kd B E w w') : Shp B E w' b o where
  c0 := k.strE h.c0
  c1 := k.strE h.c1
  c2 := k.strE h.c2
  c3 := k.strE h.c3
  c4 := k.strE h.c4
  c5 := k.intE h.c5
  c6 := k.intE h.c6
  c7 := k.intE h.c7
  c8 := k.intE h.c8
def ShpS (B E : Nat) (w : World) (n : Nat) (v : Value) : Prop := ∃ a cap, v = .slice a n cap ∧ (0 < n → ∃ b off, a = some ⟨b, off, none⟩ ∧ B ≤ b ∧ b < E ∧ b < w.heap.size ∧ (∀ i, w.frozen? ⟨b, i, none⟩ = false) ∧ ∀ k, k < n → Shp B E w b (off + k * 9))
theorem ShpS.kd {B E : Nat} {w w' : World} {n : Nat} {v : Value} (h : ShpS B E w n v) (k : Kd B E w w') : ShpS B E w' n v := by
  obtain ⟨a, cap, hv, hc⟩ := h
  refine ⟨a, cap, hv, fun h0 => ?_⟩
  obtain ⟨b, off, ha, hB, hE, hlt, hz, hcell⟩ := hc h0
  exact ⟨b, off, ha, hB, hE, Nat.lt_of_lt_of_le hlt k.size, fun i => (k.frozen ⟨b, i, none⟩ hlt).trans (hz i), fun i hi => (hcell i hi).kd k⟩
theorem ShpS.of_rows {B : Nat} {w : World} {v : Value} {zs : List Z} (h : RowsO B w v zs) : ShpS B w.heap.size w zs.length v := by
  obtain ⟨a, cap, hv, _, hc⟩ := h
  refine ⟨a, cap, hv, fun h0 => ?_⟩
  obtain ⟨b, off, ha, hB, hlt, hz, hcell⟩ := hc h0
  refine ⟨b, off, ha, hB, hlt, hlt, hz, fun k hk => ?_⟩
  have e := hcell k hk
  have e0 := e.c0
  have e1 := e.c1
  have e2 := e.c2
  have e3 := e.c3
  have e4 := e.c4
  have e5 := e.c5
  have e6 := e.c6
  have e7 := e.c7
  have e8 := e.c8
  exact ⟨⟨_, e0⟩, ⟨_, e1⟩, ⟨_, e2⟩, ⟨_, e3⟩, ⟨_, e4⟩, ⟨_, e5⟩, ⟨_, e6⟩, ⟨_, e7⟩, ⟨_, e8⟩⟩
set_option maxHeartbeats 4000000 in
theorem mark (B E k n : Nat) (v : Value) (w : World) (hn : n ≤ 1048576) (hk : k ≤ 288230376151711744) (hB : B ≤ w.heap.size) (h : ShpS B E w n v) :
    Calls Tryz.prog 60 #[v, .int .i64 k] w fun e w' => ∃ r : Nat, e = .returned (.int .i64 r) ∧ r ≤ k + n * 9 ∧ Kd B E w w' := by
  obtain ⟨a, cap, rfl, hc⟩ := h
  by_cases h0 : 0 < n
  · obtain ⟨b, off, rfl, hb1, hb2, hblt, hfz, hcell⟩ := hc h0
    have HC := Lib.hid hcell
    have HF := Lib.hid hfz
    clear hcell hc hfz
    go_enter Tryz.func60, Tryz.ntmps60
    go_wp2_with fail
    go_loopw [1, 5] (fun m i wr => ∃ j t : Nat, j ≤ n ∧ i = .int .i64 j ∧ m = .int .i64 t ∧ t ≤ k + j * 9 ∧ Kd B E w wr) (fun _ i _ => n - (intOf i).toNat)
    case atStart => exact ⟨0, k, Nat.zero_le _, rfl, rfl, by omega, Kd.refl hB⟩
    case round =>
      obtain ⟨j, t, hj, rfl, rfl, ht, hkd⟩ := hrel
      have HB := Lib.hid hkd
      clear hkd
      by_cases hlt2 : j < n
      · have hlti : (j : Int) < (n : Int) := by omega
        have e := (HC.out j hlt2).kd HB.out
        have I0 := Lib.hid e.c0
        have I1 := Lib.hid e.c1
        have I2 := Lib.hid e.c2
        have I3 := Lib.hid e.c3
        have I4 := Lib.hid e.c4
        have I5 := Lib.hid e.c5
        have I6 := Lib.hid e.c6
        have I7 := Lib.hid e.c7
        have I8 := Lib.hid e.c8
        have FZ := Lib.hid (fun i => (HB.out.frozen ⟨b, i, none⟩ hblt).trans (HF.out i))
        have hbr : b < wr.heap.size := Nat.lt_of_lt_of_le hblt HB.out.size
        have hBr : B ≤ wr.heap.size := Nat.le_trans hB HB.out.size
        clear e
        have K := Lib.hid (Kd.refl (B := B) (E := E) hBr)
        obtain ⟨x0, c0⟩ := K.out.strE I0.out
        have f0 := (K.out.frozen _ hbr).trans (FZ.out (off + j * 9))
        obtain ⟨x1, c1⟩ := K.out.strE I1.out
        have f1 := (K.out.frozen _ hbr).trans (FZ.out (off + j * 9 + 1))
        obtain ⟨x2, c2⟩ := K.out.strE I2.out
        have f2 := (K.out.frozen _ hbr).trans (FZ.out (off + j * 9 + 2))
        obtain ⟨x3, c3⟩ := K.out.strE I3.out
        have f3 := (K.out.frozen _ hbr).trans (FZ.out (off + j * 9 + 3))
        obtain ⟨x4, c4⟩ := K.out.strE I4.out
        have f4 := (K.out.frozen _ hbr).trans (FZ.out (off + j * 9 + 4))
        obtain ⟨x5, c5⟩ := K.out.intE I5.out
        have f5 := (K.out.frozen _ hbr).trans (FZ.out (off + j * 9 + 5))
        obtain ⟨x6, c6⟩ := K.out.intE I6.out
        have f6 := (K.out.frozen _ hbr).trans (FZ.out (off + j * 9 + 6))
        obtain ⟨x7, c7⟩ := K.out.intE I7.out
        have f7 := (K.out.frozen _ hbr).trans (FZ.out (off + j * 9 + 7))
        obtain ⟨x8, c8⟩ := K.out.intE I8.out
        have f8 := (K.out.frozen _ hbr).trans (FZ.out (off + j * 9 + 8))
        have hbw := Nat.lt_of_lt_of_le hbr K.out.size
        go_wp2_with fail
        refine (Mrk.markTextI _ _ (by omega) (by omega)).mono ?_
        rintro e w0 ⟨s0, rfl, hon⟩
        have K := Lib.hid (show Kd B E wr w0 by repeat (first | with_reducible exact Kd.refl hBr | with_reducible exact K.out | refine Kd.on ?_ hon | (refine Kd.setStr ?_ (by first | exact I0.out | exact I1.out | exact I2.out | exact I3.out | exact I4.out) (by exact hb1) (by exact hb2) _) | (refine Kd.setInt ?_ (by first | exact I5.out | exact I6.out | exact I7.out | exact I8.out) (by exact hb1) (by exact hb2) _)))
        clear hon c0 f0 c1 f1 c2 f2 c3 f3 c4 f4 c5 f5 c6 f6 c7 f7 c8 f8 hbw
        obtain ⟨x0, c0⟩ := K.out.strE I0.out
        have f0 := (K.out.frozen _ hbr).trans (FZ.out (off + j * 9))
        obtain ⟨x1, c1⟩ := K.out.strE I1.out
        have f1 := (K.out.frozen _ hbr).trans (FZ.out (off + j * 9 + 1))
        obtain ⟨x2, c2⟩ := K.out.strE I2.out
        have f2 := (K.out.frozen _ hbr).trans (FZ.out (off + j * 9 + 2))
        obtain ⟨x3, c3⟩ := K.out.strE I3.out
        have f3 := (K.out.frozen _ hbr).trans (FZ.out (off + j * 9 + 3))
        obtain ⟨x4, c4⟩ := K.out.strE I4.out
        have f4 := (K.out.frozen _ hbr).trans (FZ.out (off + j * 9 + 4))
        obtain ⟨x5, c5⟩ := K.out.intE I5.out
        have f5 := (K.out.frozen _ hbr).trans (FZ.out (off + j * 9 + 5))
        obtain ⟨x6, c6⟩ := K.out.intE I6.out
        have f6 := (K.out.frozen _ hbr).trans (FZ.out (off + j * 9 + 6))
        obtain ⟨x7, c7⟩ := K.out.intE I7.out
        have f7 := (K.out.frozen _ hbr).trans (FZ.out (off + j * 9 + 7))
        obtain ⟨x8, c8⟩ := K.out.intE I8.out
        have f8 := (K.out.frozen _ hbr).trans (FZ.out (off + j * 9 + 8))
        have hbw := Nat.lt_of_lt_of_le hbr K.out.size
        go_wp2_with fail
        refine (Mrk.markTextI _ _ (by omega) (by omega)).mono ?_
        rintro e w1 ⟨s1, rfl, hon⟩
        have K := Lib.hid (show Kd B E wr w1 by repeat (first | with_reducible exact Kd.refl hBr | with_reducible exact K.out | refine Kd.on ?_ hon | (refine Kd.setStr ?_ (by first | exact I0.out | exact I1.out | exact I2.out | exact I3.out | exact I4.out) (by exact hb1) (by exact hb2) _) | (refine Kd.setInt ?_ (by first | exact I5.out | exact I6.out | exact I7.out | exact I8.out) (by exact hb1) (by exact hb2) _)))
        clear hon c0 f0 c1 f1 c2 f2 c3 f3 c4 f4 c5 f5 c6 f6 c7 f7 c8 f8 hbw
        obtain ⟨x0, c0⟩ := K.out.strE I0.out
        have f0 := (K.out.frozen _ hbr).trans (FZ.out (off + j * 9))
        obtain ⟨x1, c1⟩ := K.out.strE I1.out
        have f1 := (K.out.frozen _ hbr).trans (FZ.out (off + j * 9 + 1))
        obtain ⟨x2, c2⟩ := K.out.strE I2.out
        have f2 := (K.out.frozen _ hbr).trans (FZ.out (off + j * 9 + 2))
        obtain ⟨x3, c3⟩ := K.out.strE I3.out
        have f3 := (K.out.frozen _ hbr).trans (FZ.out (off + j * 9 + 3))
        obtain ⟨x4, c4⟩ := K.out.strE I4.out
        have f4 := (K.out.frozen _ hbr).trans (FZ.out (off + j * 9 + 4))
        obtain ⟨x5, c5⟩ := K.out.intE I5.out
        have f5 := (K.out.frozen _ hbr).trans (FZ.out (off + j * 9 + 5))
        obtain ⟨x6, c6⟩ := K.out.intE I6.out
        have f6 := (K.out.frozen _ hbr).trans (FZ.out (off + j * 9 + 6))
        obtain ⟨x7, c7⟩ := K.out.intE I7.out
        have f7 := (K.out.frozen _ hbr).trans (FZ.out (off + j * 9 + 7))
        obtain ⟨x8, c8⟩ := K.out.intE I8.out
        have f8 := (K.out.frozen _ hbr).trans (FZ.out (off + j * 9 + 8))
        have hbw := Nat.lt_of_lt_of_le hbr K.out.size
        go_wp2_with fail
        refine (Mrk.markTextI _ _ (by omega) (by omega)).mono ?_
        rintro e w2 ⟨s2, rfl, hon⟩
        have K := Lib.hid (show Kd B E wr w2 by repeat (first | with_reducible exact Kd.refl hBr | with_reducible exact K.out | refine Kd.on ?_ hon | (refine Kd.setStr ?_ (by first | exact I0.out | exact I1.out | exact I2.out | exact I3.out | exact I4.out) (by exact hb1) (by exact hb2) _) | (refine Kd.setInt ?_ (by first | exact I5.out | exact I6.out | exact I7.out | exact I8.out) (by exact hb1) (by exact hb2) _)))
        clear hon c0 f0 c1 f1 c2 f2 c3 f3 c4 f4 c5 f5 c6 f6 c7 f7 c8 f8 hbw
        obtain ⟨x0, c0⟩ := K.out.strE I0.out
        have f0 := (K.out.frozen _ hbr).trans (FZ.out (off + j * 9))
        obtain ⟨x1, c1⟩ := K.out.strE I1.out
        have f1 := (K.out.frozen _ hbr).trans (FZ.out (off + j * 9 + 1))
        obtain ⟨x2, c2⟩ := K.out.strE I2.out
        have f2 := (K.out.frozen _ hbr).trans (FZ.out (off + j * 9 + 2))
        obtain ⟨x3, c3⟩ := K.out.strE I3.out
        have f3 := (K.out.frozen _ hbr).trans (FZ.out (off + j * 9 + 3))
        obtain ⟨x4, c4⟩ := K.out.strE I4.out
        have f4 := (K.out.frozen _ hbr).trans (FZ.out (off + j * 9 + 4))
        obtain ⟨x5, c5⟩ := K.out.intE I5.out
        have f5 := (K.out.frozen _ hbr).trans (FZ.out (off + j * 9 + 5))
        obtain ⟨x6, c6⟩ := K.out.intE I6.out
        have f6 := (K.out.frozen _ hbr).trans (FZ.out (off + j * 9 + 6))
        obtain ⟨x7, c7⟩ := K.out.intE I7.out
        have f7 := (K.out.frozen _ hbr).trans (FZ.out (off + j * 9 + 7))
        obtain ⟨x8, c8⟩ := K.out.intE I8.out
        have f8 := (K.out.frozen _ hbr).trans (FZ.out (off + j * 9 + 8))
        have hbw := Nat.lt_of_lt_of_le hbr K.out.size
        go_wp2_with fail
        refine (Mrk.markTextI _ _ (by omega) (by omega)).mono ?_
        rintro e w3 ⟨s3, rfl, hon⟩
        have K := Lib.hid (show Kd B E wr w3 by repeat (first | with_reducible exact Kd.refl hBr | with_reducible exact K.out | refine Kd.on ?_ hon | (refine Kd.setStr ?_ (by first | exact I0.out | exact I1.out | exact I2.out | exact I3.out | exact I4.out) (by exact hb1) (by exact hb2) _) | (refine Kd.setInt ?_ (by first | exact I5.out | exact I6.out | exact I7.out | exact I8.out) (by exact hb1) (by exact hb2) _)))
        clear hon c0 f0 c1 f1 c2 f2 c3 f3 c4 f4 c5 f5 c6 f6 c7 f7 c8 f8 hbw
        obtain ⟨x0, c0⟩ := K.out.strE I0.out
        have f0 := (K.out.frozen _ hbr).trans (FZ.out (off + j * 9))
        obtain ⟨x1, c1⟩ := K.out.strE I1.out
        have f1 := (K.out.frozen _ hbr).trans (FZ.out (off + j * 9 + 1))
        obtain ⟨x2, c2⟩ := K.out.strE I2.out
        have f2 := (K.out.frozen _ hbr).trans (FZ.out (off + j * 9 + 2))
        obtain ⟨x3, c3⟩ := K.out.strE I3.out
        have f3 := (K.out.frozen _ hbr).trans (FZ.out (off + j * 9 + 3))
        obtain ⟨x4, c4⟩ := K.out.strE I4.out
        have f4 := (K.out.frozen _ hbr).trans (FZ.out (off + j * 9 + 4))
        obtain ⟨x5, c5⟩ := K.out.intE I5.out
        have f5 := (K.out.frozen _ hbr).trans (FZ.out (off + j * 9 + 5))
        obtain ⟨x6, c6⟩ := K.out.intE I6.out
        have f6 := (K.out.frozen _ hbr).trans (FZ.out (off + j * 9 + 6))
        obtain ⟨x7, c7⟩ := K.out.intE I7.out
        have f7 := (K.out.frozen _ hbr).trans (FZ.out (off + j * 9 + 7))
        obtain ⟨x8, c8⟩ := K.out.intE I8.out
        have f8 := (K.out.frozen _ hbr).trans (FZ.out (off + j * 9 + 8))
        have hbw := Nat.lt_of_lt_of_le hbr K.out.size
        go_wp2_with fail
        refine (Mrk.markTextI _ _ (by omega) (by omega)).mono ?_
        rintro e w4 ⟨s4, rfl, hon⟩
        have K := Lib.hid (show Kd B E wr w4 by repeat (first | with_reducible exact Kd.refl hBr | with_reducible exact K.out | refine Kd.on ?_ hon | (refine Kd.setStr ?_ (by first | exact I0.out | exact I1.out | exact I2.out | exact I3.out | exact I4.out) (by exact hb1) (by exact hb2) _) | (refine Kd.setInt ?_ (by first | exact I5.out | exact I6.out | exact I7.out | exact I8.out) (by exact hb1) (by exact hb2) _)))
        clear hon c0 f0 c1 f1 c2 f2 c3 f3 c4 f4 c5 f5 c6 f6 c7 f7 c8 f8 hbw
        obtain ⟨x0, c0⟩ := K.out.strE I0.out
        have f0 := (K.out.frozen _ hbr).trans (FZ.out (off + j * 9))
        obtain ⟨x1, c1⟩ := K.out.strE I1.out
        have f1 := (K.out.frozen _ hbr).trans (FZ.out (off + j * 9 + 1))
        obtain ⟨x2, c2⟩ := K.out.strE I2.out
        have f2 := (K.out.frozen _ hbr).trans (FZ.out (off + j * 9 + 2))
        obtain ⟨x3, c3⟩ := K.out.strE I3.out
        have f3 := (K.out.frozen _ hbr).trans (FZ.out (off + j * 9 + 3))
        obtain ⟨x4, c4⟩ := K.out.strE I4.out
        have f4 := (K.out.frozen _ hbr).trans (FZ.out (off + j * 9 + 4))
        obtain ⟨x5, c5⟩ := K.out.intE I5.out
        have f5 := (K.out.frozen _ hbr).trans (FZ.out (off + j * 9 + 5))
        obtain ⟨x6, c6⟩ := K.out.intE I6.out
        have f6 := (K.out.frozen _ hbr).trans (FZ.out (off + j * 9 + 6))
        obtain ⟨x7, c7⟩ := K.out.intE I7.out
        have f7 := (K.out.frozen _ hbr).trans (FZ.out (off + j * 9 + 7))
        obtain ⟨x8, c8⟩ := K.out.intE I8.out
        have f8 := (K.out.frozen _ hbr).trans (FZ.out (off + j * 9 + 8))
        have hbw := Nat.lt_of_lt_of_le hbr K.out.size
        go_wp2_with fail
        go_roundw
        case rel => exact ⟨j + 1, t + 9, by omega, by go_num, by go_num, by omega, Kd.trans HB.out (show Kd B E wr _ by repeat (first | with_reducible exact Kd.refl hBr | with_reducible exact K.out | refine Kd.on ?_ hon | (refine Kd.setStr ?_ (by first | exact I0.out | exact I1.out | exact I2.out | exact I3.out | exact I4.out) (by exact hb1) (by exact hb2) _) | (refine Kd.setInt ?_ (by first | exact I5.out | exact I6.out | exact I7.out | exact I8.out) (by exact hb1) (by exact hb2) _)))⟩
        case measure => simp [intOf]; omega
      · obtain rfl : j = n := by omega
        go_wp2
        go_ret
        exact ⟨t, rfl, ht, HB.out⟩
  · obtain rfl : n = 0 := by omega
    clear hc h0
    go_enter Tryz.func60, Tryz.ntmps60
    go_wp2
    refine wp_loop_rounds 1 ?_
    rw [rounds_succ]
    go_wp2
    go_ret
    exact ⟨k, rfl, by omega, Kd.refl hB⟩
end Secs
namespace Ants
/-- A record's cells by their kinds; its lists hold numbers, in the blocks from B to E. -/
structure Shp (B E : Nat) (w : World) (b o : Nat) : Prop where
  c0 : ∃ x, w.cell? ⟨b, o, none⟩ = some (.string x)
  c1 : ∃ x, w.cell? ⟨b, o + 1, none⟩ = some (.int .i64 x)
  c2 : ∃ a n cap, n ≤ 1048576 ∧ w.cell? ⟨b, o + 2, none⟩ = some (.slice a n cap) ∧ Nst B E 1 w n (.slice a n cap)
  c3 : ∃ a n cap, n ≤ 1048576 ∧ w.cell? ⟨b, o + 3, none⟩ = some (.slice a n cap) ∧ Nst B E 1 w n (.slice a n cap)
theorem Shp.kd {B E : Nat} {w w' : World} {b o : Nat} (h : Shp B E w b o) (k : Kd B E w w') : Shp B E w' b o where
  c0 := k.strE h.c0
  c1 := k.intE h.c1
  c2 := by obtain ⟨a, n, cap, hn, hc, hi⟩ := h.c2; exact ⟨a, n, cap, hn, k.slc _ a n cap hc, hi.kd k⟩
  c3 := by obtain ⟨a, n, cap, hn, hc, hi⟩ := h.c3; exact ⟨a, n, cap, hn, k.slc _ a n cap hc, hi.kd k⟩
def ShpS (B E : Nat) (w : World) (n : Nat) (v : Value) : Prop := ∃ a cap, v = .slice a n cap ∧ (0 < n → ∃ b off, a = some ⟨b, off, none⟩ ∧ B ≤ b ∧ b < E ∧ b < w.heap.size ∧ (∀ i, w.frozen? ⟨b, i, none⟩ = false) ∧ ∀ k, k < n → Shp B E w b (off + k * 4))
theorem ShpS.kd {B E : Nat} {w w' : World} {n : Nat} {v : Value} (h : ShpS B E w n v) (k : Kd B E w w') : ShpS B E w' n v := by
  obtain ⟨a, cap, hv, hc⟩ := h
  refine ⟨a, cap, hv, fun h0 => ?_⟩
  obtain ⟨b, off, ha, hB, hE, hlt, hz, hcell⟩ := hc h0
  exact ⟨b, off, ha, hB, hE, Nat.lt_of_lt_of_le hlt k.size, fun i => (k.frozen ⟨b, i, none⟩ hlt).trans (hz i), fun i hi => (hcell i hi).kd k⟩
theorem ShpS.of_rows {B : Nat} {w : World} {v : Value} {zs : List Z} (h : RowsO B w v zs) (hs : ∀ k, k < zs.length → Small 1048576 (zs.getD k d0)) : ShpS B w.heap.size w zs.length v := by
  obtain ⟨a, cap, hv, _, hc⟩ := h
  refine ⟨a, cap, hv, fun h0 => ?_⟩
  obtain ⟨b, off, ha, hB, hlt, hz, hcell⟩ := hc h0
  refine ⟨b, off, ha, hB, hlt, hlt, hz, fun k hk => ?_⟩
  have e := hcell k hk
  have e0 := e.c0
  have e1 := e.c1
  obtain ⟨a2, cap2, e2, _, i2⟩ := e.c2
  obtain ⟨a3, cap3, e3, _, i3⟩ := e.c3
  exact ⟨⟨_, e0⟩, ⟨_, e1⟩, ⟨_, _, _, (hs k hk).2.1, e2, Mrk.nst_own i2⟩, ⟨_, _, _, (hs k hk).2.2, e3, Mrk.nst_own i3⟩⟩
set_option maxHeartbeats 4000000 in
theorem mark (B E k n : Nat) (v : Value) (w : World) (hn : n ≤ 1048576) (hk : k ≤ 288230376151711744) (hB : B ≤ w.heap.size) (h : ShpS B E w n v) :
    Calls Tryz.prog 61 #[v, .int .i64 k] w fun e w' => ∃ r : Nat, e = .returned (.int .i64 r) ∧ r ≤ k + n * 2097154 ∧ Kd B E w w' := by
  obtain ⟨a, cap, rfl, hc⟩ := h
  by_cases h0 : 0 < n
  · obtain ⟨b, off, rfl, hb1, hb2, hblt, hfz, hcell⟩ := hc h0
    have HC := Lib.hid hcell
    have HF := Lib.hid hfz
    clear hcell hc hfz
    go_enter Tryz.func61, Tryz.ntmps61
    go_wp2_with fail
    go_loopw [1, 5] (fun m i wr => ∃ j t : Nat, j ≤ n ∧ i = .int .i64 j ∧ m = .int .i64 t ∧ t ≤ k + j * 2097154 ∧ Kd B E w wr) (fun _ i _ => n - (intOf i).toNat)
    case atStart => exact ⟨0, k, Nat.zero_le _, rfl, rfl, by omega, Kd.refl hB⟩
    case round =>
      obtain ⟨j, t, hj, rfl, rfl, ht, hkd⟩ := hrel
      have HB := Lib.hid hkd
      clear hkd
      by_cases hlt2 : j < n
      · have hlti : (j : Int) < (n : Int) := by omega
        have e := (HC.out j hlt2).kd HB.out
        have I0 := Lib.hid e.c0
        have I1 := Lib.hid e.c1
        obtain ⟨a2, n2, cap2, m2, j2, i2⟩ := e.c2
        have J2 := Lib.hid j2
        have N2 := Lib.hid i2
        obtain ⟨a3, n3, cap3, m3, j3, i3⟩ := e.c3
        have J3 := Lib.hid j3
        have N3 := Lib.hid i3
        have FZ := Lib.hid (fun i => (HB.out.frozen ⟨b, i, none⟩ hblt).trans (HF.out i))
        have hbr : b < wr.heap.size := Nat.lt_of_lt_of_le hblt HB.out.size
        have hBr : B ≤ wr.heap.size := Nat.le_trans hB HB.out.size
        clear e j2 i2 j3 i3
        have K := Lib.hid (Kd.refl (B := B) (E := E) hBr)
        obtain ⟨x0, c0⟩ := K.out.strE I0.out
        have f0 := (K.out.frozen _ hbr).trans (FZ.out (off + j * 4))
        obtain ⟨x1, c1⟩ := K.out.intE I1.out
        have f1 := (K.out.frozen _ hbr).trans (FZ.out (off + j * 4 + 1))
        have c2 := K.out.slc _ _ _ _ J2.out
        have c3 := K.out.slc _ _ _ _ J3.out
        have hbw := Nat.lt_of_lt_of_le hbr K.out.size
        go_wp2_with fail
        refine (Mrk.markTextI _ _ (by omega) (by omega)).mono ?_
        rintro e w0 ⟨s0, rfl, hon⟩
        have K := Lib.hid (show Kd B E wr w0 by repeat (first | with_reducible exact Kd.refl hBr | with_reducible exact K.out | refine Kd.on ?_ hon | (refine Kd.setStr ?_ (by first | exact I0.out) (by exact hb1) (by exact hb2) _) | (refine Kd.setInt ?_ (by first | exact I1.out) (by exact hb1) (by exact hb2) _)))
        clear hon c0 f0 c1 f1 c2 c3 hbw
        obtain ⟨x0, c0⟩ := K.out.strE I0.out
        have f0 := (K.out.frozen _ hbr).trans (FZ.out (off + j * 4))
        obtain ⟨x1, c1⟩ := K.out.intE I1.out
        have f1 := (K.out.frozen _ hbr).trans (FZ.out (off + j * 4 + 1))
        have c2 := K.out.slc _ _ _ _ J2.out
        have c3 := K.out.slc _ _ _ _ J3.out
        have hbw := Nat.lt_of_lt_of_le hbr K.out.size
        go_wp2_with fail
        refine (Mrk.markIntsI B E n2 _ _ _ (by omega) m2 (by omega) (by first | exact Nat.le_trans hBr K.out.size | (simp only [World.size_setCell]; exact Nat.le_trans hBr K.out.size)) (N2.out.kd (show Kd B E wr _ by repeat (first | with_reducible exact Kd.refl hBr | with_reducible exact K.out | refine Kd.on ?_ hon | (refine Kd.setStr ?_ (by first | exact I0.out) (by exact hb1) (by exact hb2) _) | (refine Kd.setInt ?_ (by first | exact I1.out) (by exact hb1) (by exact hb2) _))))).mono ?_
        rintro e w2 ⟨rfl, hk2⟩
        have K := Lib.hid (Kd.trans (show Kd B E wr _ by repeat (first | with_reducible exact Kd.refl hBr | with_reducible exact K.out | refine Kd.on ?_ hon | (refine Kd.setStr ?_ (by first | exact I0.out) (by exact hb1) (by exact hb2) _) | (refine Kd.setInt ?_ (by first | exact I1.out) (by exact hb1) (by exact hb2) _))) hk2)
        clear hk2 c0 f0 c1 f1 c2 c3 hbw
        obtain ⟨x0, c0⟩ := K.out.strE I0.out
        have f0 := (K.out.frozen _ hbr).trans (FZ.out (off + j * 4))
        obtain ⟨x1, c1⟩ := K.out.intE I1.out
        have f1 := (K.out.frozen _ hbr).trans (FZ.out (off + j * 4 + 1))
        have c2 := K.out.slc _ _ _ _ J2.out
        have c3 := K.out.slc _ _ _ _ J3.out
        have hbw := Nat.lt_of_lt_of_le hbr K.out.size
        go_wp2_with fail
        refine (Mrk.markIntsI B E n3 _ _ _ (by omega) m3 (by omega) (by first | exact Nat.le_trans hBr K.out.size | (simp only [World.size_setCell]; exact Nat.le_trans hBr K.out.size)) (N3.out.kd (show Kd B E wr _ by repeat (first | with_reducible exact Kd.refl hBr | with_reducible exact K.out | refine Kd.on ?_ hon | (refine Kd.setStr ?_ (by first | exact I0.out) (by exact hb1) (by exact hb2) _) | (refine Kd.setInt ?_ (by first | exact I1.out) (by exact hb1) (by exact hb2) _))))).mono ?_
        rintro e w3 ⟨rfl, hk3⟩
        have K := Lib.hid (Kd.trans (show Kd B E wr _ by repeat (first | with_reducible exact Kd.refl hBr | with_reducible exact K.out | refine Kd.on ?_ hon | (refine Kd.setStr ?_ (by first | exact I0.out) (by exact hb1) (by exact hb2) _) | (refine Kd.setInt ?_ (by first | exact I1.out) (by exact hb1) (by exact hb2) _))) hk3)
        clear hk3 c0 f0 c1 f1 c2 c3 hbw
        obtain ⟨x0, c0⟩ := K.out.strE I0.out
        have f0 := (K.out.frozen _ hbr).trans (FZ.out (off + j * 4))
        obtain ⟨x1, c1⟩ := K.out.intE I1.out
        have f1 := (K.out.frozen _ hbr).trans (FZ.out (off + j * 4 + 1))
        have c2 := K.out.slc _ _ _ _ J2.out
        have c3 := K.out.slc _ _ _ _ J3.out
        have hbw := Nat.lt_of_lt_of_le hbr K.out.size
        go_wp2_with fail
        go_roundw
        case rel => exact ⟨j + 1, t + 2 + n2 + n3, by omega, by go_num, by go_num, by omega, Kd.trans HB.out (show Kd B E wr _ by repeat (first | with_reducible exact Kd.refl hBr | with_reducible exact K.out | refine Kd.on ?_ hon | (refine Kd.setStr ?_ (by first | exact I0.out) (by exact hb1) (by exact hb2) _) | (refine Kd.setInt ?_ (by first | exact I1.out) (by exact hb1) (by exact hb2) _)))⟩
        case measure => simp [intOf]; omega
      · obtain rfl : j = n := by omega
        go_wp2
        go_ret
        exact ⟨t, rfl, ht, HB.out⟩
  · obtain rfl : n = 0 := by omega
    clear hc h0
    go_enter Tryz.func61, Tryz.ntmps61
    go_wp2
    refine wp_loop_rounds 1 ?_
    rw [rounds_succ]
    go_wp2
    go_ret
    exact ⟨k, rfl, by omega, Kd.refl hB⟩
end Ants
namespace Rads
/-- A record's cells by their kinds; its lists hold numbers, in the blocks from B to E. -/
structure Shp (B E : Nat) (w : World) (b o : Nat) : Prop where
  c0 : ∃ x, w.cell? ⟨b, o, none⟩ = some (.string x)
  c1 : ∃ x, w.cell? ⟨b, o + 1, none⟩ = some (.int .i64 x)
  c2 : ∃ x, w.cell? ⟨b, o + 2, none⟩ = some (.int .i64 x)
  c3 : ∃ x, w.cell? ⟨b, o + 3, none⟩ = some (.int .i64 x)
  c4 : ∃ x, w.cell? ⟨b, o + 4, none⟩ = some (.int .i64 x)
  c5 : ∃ a n cap, n ≤ 1048576 ∧ w.cell? ⟨b, o + 5, none⟩ = some (.slice a n cap) ∧ Nst B E 2 w n (.slice a n cap)
theorem Shp.kd {B E : Nat} {w w' : World} {b o : Nat} (h : Shp B E w b o) (k : Kd B E w w') : Shp B E w' b o where
  c0 := k.strE h.c0
  c1 := k.intE h.c1
  c2 := k.intE h.c2
  c3 := k.intE h.c3
  c4 := k.intE h.c4
  c5 := by obtain ⟨a, n, cap, hn, hc, hi⟩ := h.c5; exact ⟨a, n, cap, hn, k.slc _ a n cap hc, hi.kd k⟩
def ShpS (B E : Nat) (w : World) (n : Nat) (v : Value) : Prop := ∃ a cap, v = .slice a n cap ∧ (0 < n → ∃ b off, a = some ⟨b, off, none⟩ ∧ B ≤ b ∧ b < E ∧ b < w.heap.size ∧ (∀ i, w.frozen? ⟨b, i, none⟩ = false) ∧ ∀ k, k < n → Shp B E w b (off + k * 6))
theorem ShpS.kd {B E : Nat} {w w' : World} {n : Nat} {v : Value} (h : ShpS B E w n v) (k : Kd B E w w') : ShpS B E w' n v := by
  obtain ⟨a, cap, hv, hc⟩ := h
  refine ⟨a, cap, hv, fun h0 => ?_⟩
  obtain ⟨b, off, ha, hB, hE, hlt, hz, hcell⟩ := hc h0
  exact ⟨b, off, ha, hB, hE, Nat.lt_of_lt_of_le hlt k.size, fun i => (k.frozen ⟨b, i, none⟩ hlt).trans (hz i), fun i hi => (hcell i hi).kd k⟩
theorem ShpS.of_rows {B : Nat} {w : World} {v : Value} {zs : List Z} (h : RowsO B w v zs) (hs : ∀ k, k < zs.length → Small 1048576 (zs.getD k d0)) : ShpS B w.heap.size w zs.length v := by
  obtain ⟨a, cap, hv, _, hc⟩ := h
  refine ⟨a, cap, hv, fun h0 => ?_⟩
  obtain ⟨b, off, ha, hB, hlt, hz, hcell⟩ := hc h0
  refine ⟨b, off, ha, hB, hlt, hlt, hz, fun k hk => ?_⟩
  have e := hcell k hk
  have e0 := e.c0
  have e1 := e.c1
  have e2 := e.c2
  have e3 := e.c3
  have e4 := e.c4
  obtain ⟨a5, cap5, e5, _, i5⟩ := e.c5
  exact ⟨⟨_, e0⟩, ⟨_, e1⟩, ⟨_, e2⟩, ⟨_, e3⟩, ⟨_, e4⟩, ⟨_, _, _, (hs k hk).2, e5, Mrk.nst_ownP i5⟩⟩
set_option maxHeartbeats 4000000 in
theorem mark (B E k n : Nat) (v : Value) (w : World) (hn : n ≤ 1048576) (hk : k ≤ 288230376151711744) (hB : B ≤ w.heap.size) (h : ShpS B E w n v) :
    Calls Tryz.prog 62 #[v, .int .i64 k] w fun e w' => ∃ r : Nat, e = .returned (.int .i64 r) ∧ r ≤ k + n * 2097157 ∧ Kd B E w w' := by
  obtain ⟨a, cap, rfl, hc⟩ := h
  by_cases h0 : 0 < n
  · obtain ⟨b, off, rfl, hb1, hb2, hblt, hfz, hcell⟩ := hc h0
    have HC := Lib.hid hcell
    have HF := Lib.hid hfz
    clear hcell hc hfz
    go_enter Tryz.func62, Tryz.ntmps62
    go_wp2_with fail
    go_loopw [1, 5] (fun m i wr => ∃ j t : Nat, j ≤ n ∧ i = .int .i64 j ∧ m = .int .i64 t ∧ t ≤ k + j * 2097157 ∧ Kd B E w wr) (fun _ i _ => n - (intOf i).toNat)
    case atStart => exact ⟨0, k, Nat.zero_le _, rfl, rfl, by omega, Kd.refl hB⟩
    case round =>
      obtain ⟨j, t, hj, rfl, rfl, ht, hkd⟩ := hrel
      have HB := Lib.hid hkd
      clear hkd
      by_cases hlt2 : j < n
      · have hlti : (j : Int) < (n : Int) := by omega
        have e := (HC.out j hlt2).kd HB.out
        have I0 := Lib.hid e.c0
        have I1 := Lib.hid e.c1
        have I2 := Lib.hid e.c2
        have I3 := Lib.hid e.c3
        have I4 := Lib.hid e.c4
        obtain ⟨a5, n5, cap5, m5, j5, i5⟩ := e.c5
        have J5 := Lib.hid j5
        have N5 := Lib.hid i5
        have FZ := Lib.hid (fun i => (HB.out.frozen ⟨b, i, none⟩ hblt).trans (HF.out i))
        have hbr : b < wr.heap.size := Nat.lt_of_lt_of_le hblt HB.out.size
        have hBr : B ≤ wr.heap.size := Nat.le_trans hB HB.out.size
        clear e j5 i5
        have K := Lib.hid (Kd.refl (B := B) (E := E) hBr)
        obtain ⟨x0, c0⟩ := K.out.strE I0.out
        have f0 := (K.out.frozen _ hbr).trans (FZ.out (off + j * 6))
        obtain ⟨x1, c1⟩ := K.out.intE I1.out
        have f1 := (K.out.frozen _ hbr).trans (FZ.out (off + j * 6 + 1))
        obtain ⟨x2, c2⟩ := K.out.intE I2.out
        have f2 := (K.out.frozen _ hbr).trans (FZ.out (off + j * 6 + 2))
        obtain ⟨x3, c3⟩ := K.out.intE I3.out
        have f3 := (K.out.frozen _ hbr).trans (FZ.out (off + j * 6 + 3))
        obtain ⟨x4, c4⟩ := K.out.intE I4.out
        have f4 := (K.out.frozen _ hbr).trans (FZ.out (off + j * 6 + 4))
        have c5 := K.out.slc _ _ _ _ J5.out
        have hbw := Nat.lt_of_lt_of_le hbr K.out.size
        go_wp2_with fail
        refine (Mrk.markTextI _ _ (by omega) (by omega)).mono ?_
        rintro e w0 ⟨s0, rfl, hon⟩
        have K := Lib.hid (show Kd B E wr w0 by repeat (first | with_reducible exact Kd.refl hBr | with_reducible exact K.out | refine Kd.on ?_ hon | (refine Kd.setStr ?_ (by first | exact I0.out) (by exact hb1) (by exact hb2) _) | (refine Kd.setInt ?_ (by first | exact I1.out | exact I2.out | exact I3.out | exact I4.out) (by exact hb1) (by exact hb2) _)))
        clear hon c0 f0 c1 f1 c2 f2 c3 f3 c4 f4 c5 hbw
        obtain ⟨x0, c0⟩ := K.out.strE I0.out
        have f0 := (K.out.frozen _ hbr).trans (FZ.out (off + j * 6))
        obtain ⟨x1, c1⟩ := K.out.intE I1.out
        have f1 := (K.out.frozen _ hbr).trans (FZ.out (off + j * 6 + 1))
        obtain ⟨x2, c2⟩ := K.out.intE I2.out
        have f2 := (K.out.frozen _ hbr).trans (FZ.out (off + j * 6 + 2))
        obtain ⟨x3, c3⟩ := K.out.intE I3.out
        have f3 := (K.out.frozen _ hbr).trans (FZ.out (off + j * 6 + 3))
        obtain ⟨x4, c4⟩ := K.out.intE I4.out
        have f4 := (K.out.frozen _ hbr).trans (FZ.out (off + j * 6 + 4))
        have c5 := K.out.slc _ _ _ _ J5.out
        have hbw := Nat.lt_of_lt_of_le hbr K.out.size
        go_wp2_with fail
        refine (Mrk.markModesI B E n5 _ _ _ (by omega) m5 (by omega) (by first | exact Nat.le_trans hBr K.out.size | (simp only [World.size_setCell]; exact Nat.le_trans hBr K.out.size)) (N5.out.kd (show Kd B E wr _ by repeat (first | with_reducible exact Kd.refl hBr | with_reducible exact K.out | refine Kd.on ?_ hon | (refine Kd.setStr ?_ (by first | exact I0.out) (by exact hb1) (by exact hb2) _) | (refine Kd.setInt ?_ (by first | exact I1.out | exact I2.out | exact I3.out | exact I4.out) (by exact hb1) (by exact hb2) _))))).mono ?_
        rintro e w5 ⟨rfl, hk5⟩
        have K := Lib.hid (Kd.trans (show Kd B E wr _ by repeat (first | with_reducible exact Kd.refl hBr | with_reducible exact K.out | refine Kd.on ?_ hon | (refine Kd.setStr ?_ (by first | exact I0.out) (by exact hb1) (by exact hb2) _) | (refine Kd.setInt ?_ (by first | exact I1.out | exact I2.out | exact I3.out | exact I4.out) (by exact hb1) (by exact hb2) _))) hk5)
        clear hk5 c0 f0 c1 f1 c2 f2 c3 f3 c4 f4 c5 hbw
        obtain ⟨x0, c0⟩ := K.out.strE I0.out
        have f0 := (K.out.frozen _ hbr).trans (FZ.out (off + j * 6))
        obtain ⟨x1, c1⟩ := K.out.intE I1.out
        have f1 := (K.out.frozen _ hbr).trans (FZ.out (off + j * 6 + 1))
        obtain ⟨x2, c2⟩ := K.out.intE I2.out
        have f2 := (K.out.frozen _ hbr).trans (FZ.out (off + j * 6 + 2))
        obtain ⟨x3, c3⟩ := K.out.intE I3.out
        have f3 := (K.out.frozen _ hbr).trans (FZ.out (off + j * 6 + 3))
        obtain ⟨x4, c4⟩ := K.out.intE I4.out
        have f4 := (K.out.frozen _ hbr).trans (FZ.out (off + j * 6 + 4))
        have c5 := K.out.slc _ _ _ _ J5.out
        have hbw := Nat.lt_of_lt_of_le hbr K.out.size
        go_wp2_with fail
        go_roundw
        case rel => exact ⟨j + 1, t + 5 + n5 * 2, by omega, by go_num, by go_num, by omega, Kd.trans HB.out (show Kd B E wr _ by repeat (first | with_reducible exact Kd.refl hBr | with_reducible exact K.out | refine Kd.on ?_ hon | (refine Kd.setStr ?_ (by first | exact I0.out) (by exact hb1) (by exact hb2) _) | (refine Kd.setInt ?_ (by first | exact I1.out | exact I2.out | exact I3.out | exact I4.out) (by exact hb1) (by exact hb2) _)))⟩
        case measure => simp [intOf]; omega
      · obtain rfl : j = n := by omega
        go_wp2
        go_ret
        exact ⟨t, rfl, ht, HB.out⟩
  · obtain rfl : n = 0 := by omega
    clear hc h0
    go_enter Tryz.func62, Tryz.ntmps62
    go_wp2
    refine wp_loop_rounds 1 ?_
    rw [rounds_succ]
    go_wp2
    go_ret
    exact ⟨k, rfl, by omega, Kd.refl hB⟩
end Rads
end Go.Proofs.YtpnmodmaabhldaaGreat
