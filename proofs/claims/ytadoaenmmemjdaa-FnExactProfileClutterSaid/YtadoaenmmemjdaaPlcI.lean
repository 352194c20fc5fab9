
/-
  The places of a profile, in the program. Condition: valid points, 2 to 65 places.
-/
import Derived.Test.YtadoaenmmemjdaaPlc0
import Derived.Test.YtadoaenmmemjdaaPts
import Derived.Test.YtadoaenmmemjdaaWay
import Derived.Test.YtadoaenmmemjdaaPoint
namespace Go.Proofs.Ytadoaenmmemjdaa.Plc
open Go.RowKit
open Plain
open Pts (OwnP Pairs flat flat_even flat_odd run_make_pairs made_row)
open Point (okB)

theorem heldP {W w' : World} {g : Nat} {x y : Int} (h0 : W.cell? ⟨g, 0, none⟩ = some (.int .i64 x)) (h1 : W.cell? ⟨g, 1, none⟩ = some (.int .i64 y)) (h : On W w') : w'.cell? ⟨g, 0, none⟩ = some (.int .i64 x) ∧ w'.cell? ⟨g, 1, none⟩ = some (.int .i64 y) :=
  have hb := World.block_lt_of_cell? W _ h0
  ⟨(h.cell (by exact hb)).trans h0, (h.cell (by exact hb)).trans h1⟩
set_option maxRecDepth 100000 in
set_option maxHeartbeats 4000000 in
theorem impl_from (ax ay bx bv : Int) (n : Nat) (w : World) (a0 : 0 ≤ ax ∧ ax ≤ 200000) (a1 : 0 ≤ ay ∧ ay ≤ 200000) (b0 : 0 ≤ bx ∧ bx ≤ 200000) (b1 : 0 ≤ bv ∧ bv ≤ 200000) (hn : 2 ≤ n) (hn2 : n ≤ 65) :
    Calls Try.prog 29 #[.agg #[.int .i64 ax, .int .i64 ay], .agg #[.int .i64 bx, .int .i64 bv], .int .i64 n] w fun e w' => ∃ a cap, e = .returned (.slice a n cap) ∧ OwnP w.heap.size w' (.slice a n cap) (pts ax ay bx bv n) ∧ On w w' := by
  have hmk := fun w => run_make_pairs n (by omega) w
  obtain ⟨zs, hzs⟩ : ∃ zs, zs = pts ax ay bx bv n := ⟨_, rfl⟩
  have hlen : zs.length = n := by rw [hzs]; exact pts_len ..
  have HZ := Lib.hid (fun k (hk : k < n) => show zs.getD k (0, 0) = pt ax ay bx bv n k by rw [hzs]; exact pts_at ax ay bx bv hk)
  rw [← hzs]
  have HL := Lib.hid hlen
  have HW := Lib.hid (fun w => Way.impl_wayTo ax ay bx bv w (by omega) (by omega) (by omega) (by omega))
  clear hzs hlen
  have wn : IntKind.i64.wrap ((n : Int) - 1) = (n : Int) - 1 := IntWalk.i64_in _ (by omega)
  go_enter Try.func29, Try.ntmps29
  go_wp2_with fail
  clear hmk
  obtain ⟨G, hG⟩ : ∃ G, G = w.heap.size + 1 + 1 := ⟨_, rfl⟩
  obtain ⟨W2, hW2⟩ : ∃ W2, W2 = (w.alloc (.cells #[.int .i64 ax, .int .i64 ay] 27)).alloc (.cells #[.int .i64 bx, .int .i64 bv] 27) := ⟨_, rfl⟩
  have hG2 : W2.heap.size = G := by rw [hW2, hG]; simp
  have q0 := Lib.hid (show W2.cell? ⟨w.heap.size, 0, none⟩ = some (.int .i64 ax) by rw [hW2]; simp [go_sem])
  have q1 := Lib.hid (show W2.cell? ⟨w.heap.size, 1, none⟩ = some (.int .i64 ay) by rw [hW2]; simp [go_sem])
  have q2 := Lib.hid (show W2.cell? ⟨w.heap.size + 1, 0, none⟩ = some (.int .i64 bx) by rw [hW2]; simp [go_sem])
  have q3 := Lib.hid (show W2.cell? ⟨w.heap.size + 1, 1, none⟩ = some (.int .i64 bv) by rw [hW2]; simp [go_sem])
  have HO2 := Lib.hid (show On w W2 by rw [hW2]; exact On.alloc (On.alloc (On.refl _) _) _)
  have HG2 := Lib.hid hG2
  have HMR := Lib.hid (show (W2.alloc (.cells (madeCells #[.int .i64 0, .int .i64 0] (n * 2)) 27)).rowIs G 27 (n * 2) (fun _ => .int .i64 0) by rw [← hG2]; exact made_row W2 n _)
  rw [← hG, ← hW2]
  have hGg : w.heap.size < G ∧ w.heap.size + 1 < G := by omega
  obtain ⟨hGa, hGb⟩ := hGg
  clear hG hW2 hG2
  go_loopw [12] (fun i wr => ∃ k : Nat, k ≤ n ∧ i = .int .i64 k ∧ wr.rowIs G 27 (n * 2) (fun j => if j < k * 2 then .int .i64 (flat zs j) else .int .i64 0) ∧ On W2 wr) (fun i _ => n - (intOf i).toNat)
  case atStart =>
    refine ⟨0, Nat.zero_le _, rfl, ?_, On.alloc (On.refl _) _⟩
    exact HMR.out.congr fun i _ => by simp
  case round =>
    obtain ⟨k, hk, rfl, hrow, hb⟩ := hrel
    have HR := Lib.hid hrow
    have HB := Lib.hid hb
    have hlt := hrow.lt
    obtain ⟨c0, c1⟩ := heldP q0.out q1.out hb
    obtain ⟨c2, c3⟩ := heldP q2.out q3.out hb
    clear hrow hb
    by_cases hlt2 : k < n
    · have hlti : (k : Int) < (n : Int) := by omega
      have hlts : k < n := hlt2
      have hz := HZ.out k hlt2
      have HX := Lib.hid (show (zs.getD k (0, 0)).1 = mid ax bx n k by rw [hz]; rfl)
      have HY := Lib.hid (show (zs.getD k (0, 0)).2 = mid ay bv n k by rw [hz]; rfl)
      have m1 := mid_bd (x := ax) (u := bx) (lo := 0) (hi := 200000) hn hlt2 a0.1 a0.2 b0.1 b0.2
      have m2 := mid_bd (x := ay) (u := bv) (lo := 0) (hi := 200000) hn hlt2 a1.1 a1.2 b1.1 b1.2
      unfold mid at m1 m2 HX HY
      have p1 := prod_in (d := bx - ax) (k := (k : Int)) (by omega) (by omega) (by omega) (by omega)
      have p2 := prod_in (d := bv - ay) (k := (k : Int)) (by omega) (by omega) (by omega) (by omega)
      have HS := Lib.hid (fun w => Way.impl_scaled (bx - ax) (bv - ay) (k : Int) ((n : Int) - 1) w (by omega) (by omega) (by omega) (by omega) (by omega) (by omega) (by omega))
      have HM := Lib.hid (fun w => Way.impl_moved ax ay (near ((bx - ax) * (k : Int)) ((n : Int) - 1)) (near ((bv - ay) * (k : Int)) ((n : Int) - 1)) w (by omega) (by omega) (by omega) (by omega))
      have z0 := World.block_lt_of_cell? wr _ c0
      have z1 := World.block_lt_of_cell? wr _ c2
      clear hz m1 m2 p1 p2
      go_wp2_with fail
      refine wp_region_on_tail 12 (by kernel_rfl) (by kernel_rfl) ?_
      simp only [List.take_succ_cons, List.take_zero, List.drop_succ_cons, List.drop_zero]
      repeat (refine wpQuiet_step (fun K hK => ?_); go_simp; first | (refine hK _ ?_; clear hK K) | (apply Exists.intro; refine ⟨fun v1 hv1 => ?_, hK _ ?_⟩; (first | with_reducible exact rfl | with_reducible exact ⟨rfl, rfl⟩ | with_reducible exact Calls.on hv1 (HW.out _) | with_reducible exact Calls.on hv1 (HS.out _) | with_reducible exact Calls.on hv1 (HM.out _) | (obtain ⟨hc, hf⟩ := bcell hv1; go_simp; first | exact rfl | exact ⟨rfl, rfl⟩)); clear hK K))
      refine wpQuiet_nil ?_
      intro w1 h1
      have hR1 : w1.rowIs G 27 (n * 2) (fun j => if j < k * 2 then .int .i64 (flat zs j) else .int .i64 0) := HR.out.of_block (h1.block _ HR.out.lt)
      have HR1 := Lib.hid hR1
      have HO1 := Lib.hid (HB.out.trans h1)
      have d1 : w1.cell? ⟨G, k * 2, none⟩ = some (.int .i64 0) := by have := hR1.cell (i := k * 2) (by omega); rw [if_neg (by omega)] at this; exact this
      have d2 : w1.cell? ⟨G, k * 2 + 1, none⟩ = some (.int .i64 0) := by have := hR1.cell (i := k * 2 + 1) (by omega); rw [if_neg (by omega)] at this; exact this
      have f1 : w1.frozen? ⟨G, k * 2, none⟩ = false := hR1.frozen _
      have f2 : w1.frozen? ⟨G, k * 2 + 1, none⟩ = false := hR1.frozen _
      have hGW : W2.heap.size ≤ G := by rw [HG2.out]; exact Nat.le_refl _
      clear h1 hR1
      go_wp2_with fail
      go_roundw
      case rel =>
        refine ⟨k + 1, by omega, by go_num, ((HR1.out.set (k * 2) _).set (k * 2 + 1) _).congr fun j hj => ?_, (HO1.out.setCell (by exact hGW) _).setCell (by exact hGW) _⟩
        by_cases h1 : j = k * 2 + 1
        · subst h1; rw [if_pos rfl, if_pos (by omega), flat_odd, HY.out]
        · rw [if_neg h1]
          by_cases h2 : j = k * 2
          · subst h2; rw [if_pos rfl, if_pos (by omega), flat_even, HX.out]
          · rw [if_neg h2]
            by_cases h3 : j < k * 2
            · rw [if_pos h3, if_pos (by omega)]
            · rw [if_neg h3, if_neg (by omega)]
      case measure => simp [intOf]; omega
    · have hfin := Lib.hid ((HR.out.congr fun i hi => by rw [if_pos (by omega)]) : wr.rowIs G _ (n * 2) (fun j => .int .i64 (flat zs j)))
      have hGs := HG2.out
      have hsz2 := HO2.out.size
      go_wp2
      go_ret
      refine ⟨_, _, rfl, ?_, On.trans HO2.out HB.out⟩
      have h9 := hfin.out
      rw [← HL.out] at h9
      have := OwnP.of_row (cap := n) h9 (show w.heap.size ≤ G by omega)
      rw [HL.out] at this
      exact this
/-! The library's turning of a slice of points. -/
/-- What lies at p when k pairs have been exchanged. -/
def valAt (zs : List (Int × Int)) (k p : Nat) : Int × Int := if p < k ∨ zs.length < p + 1 + k then zs.getD (zs.length - 1 - p) (0, 0) else zs.getD p (0, 0)
theorem valAt_zero {zs : List (Int × Int)} {p : Nat} (hp : p < zs.length) : valAt zs 0 p = zs.getD p (0, 0) := by unfold valAt; rw [if_neg (by omega)]
theorem valAt_in {zs : List (Int × Int)} {k p : Nat} (h1 : k ≤ p) (h2 : p + 1 + k ≤ zs.length) : valAt zs k p = zs.getD p (0, 0) := by unfold valAt; rw [if_neg (by omega)]
theorem valAt_end {zs : List (Int × Int)} {k p : Nat} (hk : zs.length ≤ 2 * k + 1) (hp : p < zs.length) : valAt zs k p = zs.reverse.getD p (0, 0) := by
  have e : zs.reverse.getD p (0, 0) = zs.getD (zs.length - 1 - p) (0, 0) := by
    rw [List.getD_eq_getElem?_getD, List.getD_eq_getElem?_getD, List.getElem?_reverse hp]
  unfold valAt
  by_cases h : p < k ∨ zs.length < p + 1 + k
  · rw [if_pos h, e]
  · rw [if_neg h, e, show zs.length - 1 - p = p by omega]
theorem valAt_lo {zs : List (Int × Int)} {k : Nat} (_h2 : 2 * k + 1 < zs.length) : valAt zs (k + 1) k = zs.getD (zs.length - 1 - k) (0, 0) := by unfold valAt; rw [if_pos (by omega)]
theorem valAt_hi {zs : List (Int × Int)} {k j : Nat} (h2 : 2 * k + 1 < zs.length) (hj : j = zs.length - 1 - k) : valAt zs (k + 1) j = zs.getD k (0, 0) := by unfold valAt; rw [if_pos (by omega), show zs.length - 1 - j = k by omega]
theorem valAt_oth {zs : List (Int × Int)} {k p : Nat} (h1 : p ≠ k) (h2 : p + 1 + k ≠ zs.length) : valAt zs (k + 1) p = valAt zs k p := by
  unfold valAt
  by_cases h : p < k ∨ zs.length < p + 1 + k
  · rw [if_pos h, if_pos (by omega)]
  · rw [if_neg h, if_neg (by omega)]
/-- The two numbers of the k-th element of a row. -/
def At (w : World) (b off : Nat) (k : Nat) (p : Int × Int) : Prop := w.cell? ⟨b, off + k * 2, none⟩ = some (.int .i64 p.1) ∧ w.cell? ⟨b, off + k * 2 + 1, none⟩ = some (.int .i64 p.2)
set_option maxRecDepth 100000 in
set_option maxHeartbeats 4000000 in
theorem rev_pts (b off cap : Nat) (zs : List (Int × Int)) (w : World) (h0 : 0 < zs.length) (hn : zs.length ≤ 1048576)
    (hf : ∀ i, i < zs.length * 2 → w.frozen? ⟨b, off + i, none⟩ = false) (hcell : ∀ i, i < zs.length → At w b off i (zs.getD i (0, 0))) :
    Calls Try.prog 30 #[.slice (some ⟨b, off, none⟩) zs.length cap] w fun e w' => e = .returned (.tuple #[]) ∧ Below b w w' ∧ (∀ a, w'.frozen? a = w.frozen? a) ∧ (∀ i, i < zs.length → At w' b off i (zs.reverse.getD i (0, 0))) := by
  obtain ⟨n, hn'⟩ : ∃ n, n = zs.length := ⟨_, rfl⟩
  have HN := Lib.hid hn'
  have HF := Lib.hid hf
  have HC := Lib.hid hcell
  have w1 : IntKind.i64.wrap ((n : Int) - 1) = (n : Int) - 1 := IntWalk.i64_in _ (by omega)
  rw [← hn'] at hn h0 ⊢
  rw [← hn'] at HF HC
  clear hf hcell hn'
  go_enter Try.func30, Try.ntmps30
  go_wp2_with fail
  go_loopw [2, 3] (fun i j wr => ∃ k : Nat, 2 * k ≤ n ∧ i = .int .i64 k ∧ j = .int .i64 ((n : Int) - 1 - k) ∧ Below b w wr ∧ (∀ a, wr.frozen? a = w.frozen? a) ∧ (∀ i, i < n → At wr b off i (valAt zs k i))) (fun i _ _ => n - (intOf i).toNat)
  case atStart => exact ⟨0, by omega, rfl, by go_num, Below.refl _ _, fun _ => rfl, fun i hi => by rw [valAt_zero (by rw [← HN.out]; exact hi)]; exact HC.out i hi⟩
  case round =>
    obtain ⟨k, hk, rfl, rfl, hb, hfz, hcl⟩ := hrel
    have HB := Lib.hid hb
    have HZ := Lib.hid hfz
    have HL := Lib.hid hcl
    clear hb hfz hcl
    by_cases hlt2 : 2 * k + 1 < n
    · obtain ⟨j, hj⟩ : ∃ j : Nat, j = n - 1 - k := ⟨_, rfl⟩
      have hji : (n : Int) - 1 - k = (j : Int) := by omega
      have hjn : (j : Int) < (n : Int) := by omega
      have hkn : (k : Int) < (n : Int) := by omega
      have hkj : (k : Int) < (j : Int) := by omega
      obtain ⟨x0, hx0⟩ : ∃ x, x = (zs.getD k (0, 0)).1 := ⟨_, rfl⟩
      obtain ⟨x1, hx1⟩ : ∃ x, x = (zs.getD k (0, 0)).2 := ⟨_, rfl⟩
      obtain ⟨y0, hy0⟩ : ∃ y, y = (zs.getD j (0, 0)).1 := ⟨_, rfl⟩
      obtain ⟨y1, hy1⟩ : ∃ y, y = (zs.getD j (0, 0)).2 := ⟨_, rfl⟩
      have hk1 := HL.out k (by omega)
      have hj1 := HL.out j (by omega)
      rw [valAt_in (k := k) (Nat.le_refl _) (by rw [← HN.out]; omega)] at hk1
      rw [valAt_in (k := k) (by omega) (by rw [← HN.out]; omega)] at hj1
      obtain ⟨c0, c1⟩ := hk1
      obtain ⟨c2, c3⟩ := hj1
      rw [← hx0] at c0
      rw [← hx1] at c1
      rw [← hy0] at c2
      rw [← hy1] at c3
      have f0 : wr.frozen? ⟨b, off + k * 2, none⟩ = false := (HZ.out _).trans (HF.out (k * 2) (by omega))
      have f1 : wr.frozen? ⟨b, off + k * 2 + 1, none⟩ = false := (HZ.out _).trans (HF.out (k * 2 + 1) (by omega))
      have f2 : wr.frozen? ⟨b, off + j * 2, none⟩ = false := (HZ.out _).trans (HF.out (j * 2) (by omega))
      have f3 : wr.frozen? ⟨b, off + j * 2 + 1, none⟩ = false := (HZ.out _).trans (HF.out (j * 2 + 1) (by omega))
      have wK : IntKind.i64.wrap ((k : Int) + 1) = (k : Int) + 1 := IntWalk.i64_in _ (by omega)
      have wJ : IntKind.i64.wrap ((j : Int) - 1) = (j : Int) - 1 := IntWalk.i64_in _ (by omega)
      have n1 : off + k * 2 ≠ off + j * 2 := by omega
      have n2 : off + k * 2 ≠ off + j * 2 + 1 := by omega
      have n3 : off + k * 2 + 1 ≠ off + j * 2 := by omega
      have n4 : off + k * 2 + 1 ≠ off + j * 2 + 1 := by omega
      have HX := Lib.hid (And.intro hx0 hx1)
      have HY := Lib.hid (And.intro hy0 hy1)
      have HJ := Lib.hid hj
      clear hx0 hx1 hy0 hy1 hj
      rw [hji]
      go_wp2_with fail
      go_region
      go_wp2_with fail
      go_roundw
      case rel =>
        obtain ⟨W4, hW4⟩ : ∃ W4, W4 = (((wr.setCell ⟨b, off + k * 2, none⟩ (.int .i64 y0)).setCell ⟨b, off + k * 2 + 1, none⟩ (.int .i64 y1)).setCell ⟨b, off + j * 2, none⟩ (.int .i64 x0)).setCell ⟨b, off + j * 2 + 1, none⟩ (.int .i64 x1) := ⟨_, rfl⟩
        have hB4 : Below b w W4 := by rw [hW4]; exact (((HB.out.setCell (by exact Nat.le_refl _) _).setCell (by exact Nat.le_refl _) _).setCell (by exact Nat.le_refl _) _).setCell (by exact Nat.le_refl _) _
        have hF4 : ∀ a, W4.frozen? a = w.frozen? a := fun a => by rw [hW4, World.frozen?_setCell, World.frozen?_setCell, World.frozen?_setCell, World.frozen?_setCell]; exact HZ.out a
        have e0 : W4.cell? ⟨b, off + k * 2, none⟩ = some (.int .i64 y0) := by rw [hW4]; simp [go_sem, c0]
        have e1 : W4.cell? ⟨b, off + k * 2 + 1, none⟩ = some (.int .i64 y1) := by rw [hW4]; simp [go_sem, c1]
        have e2 : W4.cell? ⟨b, off + j * 2, none⟩ = some (.int .i64 x0) := by rw [hW4]; simp [go_sem, c2]
        have e3 : W4.cell? ⟨b, off + j * 2 + 1, none⟩ = some (.int .i64 x1) := by rw [hW4]; simp [go_sem, c3]
        have hO4 : ∀ o, o ≠ off + k * 2 → o ≠ off + k * 2 + 1 → o ≠ off + j * 2 → o ≠ off + j * 2 + 1 → W4.cell? ⟨b, o, none⟩ = wr.cell? ⟨b, o, none⟩ := fun o g1 g2 g3 g4 => by
          rw [hW4]
          exact (World.cell?_setCell_other (h := fun hc => by injection hc with _ h3 _; omega) ..).trans ((World.cell?_setCell_other (h := fun hc => by injection hc with _ h3 _; omega) ..).trans ((World.cell?_setCell_other (h := fun hc => by injection hc with _ h3 _; omega) ..).trans (World.cell?_setCell_other (h := fun hc => by injection hc with _ h3 _; omega) ..)))
        have hk2 : 2 * k + 1 < zs.length := by rw [← HN.out]; exact hlt2
        have hj2 : j = zs.length - 1 - k := by rw [← HN.out]; exact HJ.out
        rw [← hW4]
        clear hW4
        refine ⟨k + 1, by omega, by go_num, by have := HJ.out; go_num, hB4.drew, hF4, fun i hi => ?_⟩
        show At W4 b off i _
        by_cases h1 : i = j
        · subst h1
          rw [valAt_hi hk2 hj2]
          exact ⟨by rw [← HX.out.1]; exact e2, by rw [← HX.out.2]; exact e3⟩
        · by_cases h2 : i = k
          · subst h2
            rw [valAt_lo hk2, ← hj2]
            exact ⟨by rw [← HY.out.1]; exact e0, by rw [← HY.out.2]; exact e1⟩
          · rw [valAt_oth h2 (by omega)]
            obtain ⟨g1, g2⟩ := HL.out i hi
            exact ⟨(hO4 _ (by omega) (by omega) (by omega) (by omega)).trans g1, (hO4 _ (by omega) (by omega) (by omega) (by omega)).trans g2⟩
      case measure => simp [intOf]; omega
    · have hno : ¬ (k : Int) < (n : Int) - 1 - k := by omega
      have HE := Lib.hid (fun i (hi : i < n) => valAt_end (zs := zs) (k := k) (p := i) (by rw [← HN.out]; omega) (by rw [← HN.out]; exact hi))
      go_wp2_with fail
      go_end0
      exact ⟨rfl, HB.out, HZ.out, fun i hi => by have := HL.out i hi; rw [HE.out i hi] at this; simpa using this⟩
end Go.Proofs.Ytadoaenmmemjdaa.Plc
