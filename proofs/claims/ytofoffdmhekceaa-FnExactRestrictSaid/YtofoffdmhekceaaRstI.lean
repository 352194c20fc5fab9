
/-
  A problem with fewer channels of an item, in the program. Condition: at most 1048576 lists of at most 1048576 numbers.
-/
import Derived.Test.YtofoffdmhekceaaRstS
namespace Go.Proofs.Ytofoffdmhekceaa.Rst
open Go.RowKit
open Plain
open Ints (Ints Own)
open Prb (T)
open Con
open Asg (hasB of_dom)
open Del (kept Bt)
open Mats (OwnX Lay Val block_lt)
open Cpy (RowsK)

/-- A problem in memory of its own, in blocks from B to E. -/
def OwnP (B E : Nat) (w : World) (v : Value) (R : T) : Prop := ∃ v0 v1 M, v = .agg #[v0, v1] ∧ OwnX B M w v0 R.f0 ∧ OwnX M E w v1 R.f1 ∧ M ≤ E ∧ B ≤ M
theorem clo (gp : Nat) (v : Value) (ch : List Int) (x : Int) (w : World) (hz : ch.length ≤ 1048576) (hb : w.cell? ⟨gp, 0, none⟩ = some v) (h : Ints w v ch) :
    Calls Try.prog 57 #[.int .i64 x, .pointer (some ⟨gp, 0, none⟩)] w fun e w2 => e = .returned (.bool (!hasB ch x)) ∧ w = w2 := by
  have HH := Lib.hid (Asg.lib_has v ch x w hz h)
  obtain ⟨a, cap, rfl, -⟩ := h
  generalize ch.length = n at *
  generalize hasB ch x = q at *
  go_enter Try.func57, Try.ntmps57
  go_wp2_with fail
  refine HH.out.mono ?_
  rintro e w1 ⟨rfl, rfl⟩
  go_wp2_with fail
  go_ret
  exact ⟨rfl, rfl⟩
theorem lay_copy {w w' : World} {n : Nat} {zss : List (List Int)} {us : List Value} {f o ee : Nat → Nat} (hrk : RowsK (w.heap.size + 1) zss us f o ee n w') (hrow : w'.rowIs w.heap.size 32 n (fun j => us.getD j (.slice none 0 0))) :
    Lay w.heap.size w'.heap.size w.heap.size 0 n (fun i => (zss.getD i []).length) f o ee (fun i => some ⟨f i, o i, none⟩) w' := by
  have h1 : RowsK w.heap.size zss us f o ee n w' := ⟨hrk.len, hrk.val, fun j hj => ⟨by have := (hrk.rng j hj).1; omega, (hrk.rng j hj).2⟩, hrk.inc, hrk.unf, hrk.row, hrk.fit⟩
  refine h1.lay hrow.lt (Nat.le_refl _) (fun j hj => by have := (hrk.rng j hj).1; omega) fun i hi => ?_
  rw [hrow.cell hi, hrk.val i hi, List.getD_eq_getElem?_getD, hrk.val i hi]; rfl
theorem own_empty (B E : Nat) (w : World) (h : B ≤ E) : OwnP B E w (.agg #[.slice none 0 0, .slice none 0 0]) ⟨[], []⟩ :=
  ⟨_, _, B, rfl, OwnX.empty _ _ _ _ _, OwnX.empty _ _ _ _ _, h, Nat.le_refl _⟩
set_option maxRecDepth 1000000 in
set_option maxHeartbeats 16000000 in
theorem impl_Restrict (u : Value) (N : T) (x : Int) (v : Value) (ch : List Int) (w : World) (hs : N.Small 1048576) (hz : ch.length ≤ 1048576) (h : Prb.Is w u N) (hl : Ints w v ch) :
    Calls Try.prog 31 #[u, .int .i64 x, v] w fun e w' => ∃ a0 c0 a1 c1, e = .returned (.tuple #[.agg #[.slice a0 (rstV N x ch).f0.length c0, .slice a1 (rstV N x ch).f1.length c1], .int .i64 (rstC N x ch)]) ∧
      OwnP w.heap.size w'.heap.size w' (.agg #[.slice a0 (rstV N x ch).f0.length c0, .slice a1 (rstV N x ch).f1.length c1]) (rstV N x ch) ∧ On w w' := by
  have HV := Lib.hid (fun w1 (h1 : On w w1) => impl_ValidProblem u N w1 hs (h.on h1))
  have HT := Lib.hid (fun w1 (h1 : On w w1) => impl_item u N x w1 hs.1.1 (h.on h1))
  obtain ⟨a0, a1, c0, c1, rfl, r0, r1⟩ := Is.shape h
  obtain ⟨n0, hn0⟩ : ∃ n, n = N.f0.length := ⟨_, rfl⟩
  obtain ⟨n1, hn1⟩ : ∃ n, n = N.f1.length := ⟨_, rfl⟩
  have HR0 := Lib.hid r0
  have HR1 := Lib.hid r1
  have HN0 := Lib.hid hn0
  have HN1 := Lib.hid hn1
  have HZ := Lib.hid hz
  have HLS := Lib.hid hl
  obtain ⟨ac, cc, hv, -⟩ := hl
  obtain ⟨nc, hnc⟩ : ∃ n, n = ch.length := ⟨_, rfl⟩
  have HNC := Lib.hid hnc
  rw [← hnc] at hv
  subst hv
  obtain ⟨w0, hW0⟩ : ∃ W, W = ((w.alloc (.cells #[.slice a0 n0 c0, .slice a1 n1 c1] 27)).alloc (.cells #[.slice ac nc cc] 32)).alloc (.cells #[.slice none 0 0, .slice none 0 0] 27) := ⟨_, rfl⟩
  have HO := Lib.hid (show On w w0 by rw [hW0]; exact On.alloc (On.alloc (On.alloc (On.refl w) _) _) _)
  have HE := Lib.hid (show Ent w.heap.size (w.heap.size + 2) (.slice a0 n0 c0) (.slice a1 n1 c1) w0 by rw [hW0]; constructor <;> simp [go_sem] <;> omega)
  have HBX := Lib.hid (show w0.cell? ⟨w.heap.size + 1, 0, none⟩ = some (.slice ac nc cc) ∧ w.heap.size + 1 < w0.heap.size by rw [hW0]; exact ⟨by simp [go_sem], by simp⟩)
  rw [← hn0, ← hn1] at HV HT ⊢
  have HW := Lib.hid hW0
  clear r0 r1 h hn0 hn1 hz hnc hW0 hs
  cases hok : okB N with
  | false =>
    rw [hok] at HV
    have en := Lib.hid (rst_ok (x := x) (ch := ch) hok)
    clear hok
    go_enter Try.func31, Try.ntmps31
    go_wp2_with fail
    rw [← HW.out]
    refine (HV.out _ HO.out).mono ?_
    rintro e w1 ⟨rfl, g1⟩
    obtain ⟨l1, l2, k1, k2, k3, k4, k5, k6⟩ := HE.out.on g1
    have HG := Lib.hid g1
    clear g1
    go_wp2_with fail
    refine bodyPost_ret (v := .tuple #[.agg #[.slice none 0 0, .slice none 0 0], .int .i64 1]) (by simp [results, Try.results31, go_sem, k3, k4]) rfl ⟨none, 0, none, 0, ret_rst (by rw [en.out.1]; rfl) (by rw [en.out.1]; rfl) en.out.2.symm, by rw [en.out.1]; exact own_empty _ _ _ (by have := (HO.out.trans HG.out).size; simpa using this), ?_⟩
    exact On.setCell (On.setCell (HO.out.trans HG.out) (by simp <;> omega) _) (by simp <;> omega) _
  | true =>
    rw [hok] at HV
    have HK := Lib.hid (ok_of hok)
    cases hit : itemB N x with
    | false =>
      rw [hit] at HT
      have en := Lib.hid (rst_item (ch := ch) hok hit)
      clear hok hit
      go_enter Try.func31, Try.ntmps31
      go_wp2_with fail
      rw [← HW.out]
      refine (HV.out _ HO.out).mono ?_
      rintro e w1 ⟨rfl, g1⟩
      obtain ⟨l1, l2, k1, k2, k3, k4, k5, k6⟩ := HE.out.on g1
      have HG := Lib.hid g1
      clear g1
      go_wp2_with fail
      refine (HT.out _ (HO.out.trans HG.out)).mono ?_
      rintro e w2 ⟨rfl, g2⟩
      have HG2 := Lib.hid (HG.out.trans g2)
      clear l1 l2 k1 k2 k3 k4 k5 k6 g2
      obtain ⟨l1, l2, k1, k2, k3, k4, k5, k6⟩ := HE.out.on HG2.out
      go_wp2_with fail
      refine bodyPost_ret (v := .tuple #[.agg #[.slice none 0 0, .slice none 0 0], .int .i64 2]) (by simp [results, Try.results31, go_sem, k3, k4]) rfl ⟨none, 0, none, 0, ret_rst (by rw [en.out.1]; rfl) (by rw [en.out.1]; rfl) en.out.2.symm, by rw [en.out.1]; exact own_empty _ _ _ (by have := (HO.out.trans HG2.out).size; simpa using this), ?_⟩
      exact On.setCell (On.setCell (HO.out.trans HG2.out) (by simp <;> omega) _) (by simp <;> omega) _
    | true =>
      rw [hit] at HT
      have HIT := Lib.hid hit
      have HOK := Lib.hid hok
      obtain ⟨i, hxi, hlt⟩ := of_item hit
      subst hxi
      have h24 := HK.out.n2
      have h21 := HK.out.n1
      have hin : i < n0 := by rw [HN0.out]; exact hlt
      have hii : (i : Int) < (n0 : Int) := by omega
      have HI := Lib.hid hlt
      have HB := Lib.hid (row_bd HK.out)
      obtain ⟨z, hz⟩ : ∃ z, z = N.f0.getD i [] := ⟨_, rfl⟩
      have HZZ := Lib.hid hz
      obtain ⟨l, hll⟩ : ∃ l, l = z.length := ⟨_, rfl⟩
      have HLL := Lib.hid hll
      have hd1 : 1 ≤ l ∧ l ≤ 32 := by rw [hll, hz]; exact (of_dom (HK.out.dom i hlt)).1
      have n24 : n0 ≤ 24 := by rw [HN0.out]; exact h24
      have HC0 := Lib.hid (fun w1 (h1 : On w w1) => Cpy.impl_copyOf (.slice a0 n0 c0) N.f0 w1 (by omega) (by omega) HB.out.1 (by have := HR0.out.below h1; rw [← HN0.out] at this; exact this))
      have HC1 := Lib.hid (fun w1 (h1 : On w w1) => Cpy.impl_copyOf (.slice a1 n1 c1) N.f1 w1 (by have := HK.out.len; omega) (by have := HK.out.len; omega) HB.out.2 (by have := HR1.out.below h1; rw [← HN1.out] at this; exact this))
      rw [← HN0.out] at HC0
      rw [← HN1.out] at HC1
      clear hok hit hlt hz h24 h21 hll
      go_enter Try.func31, Try.ntmps31
      go_wp2_with fail
      rw [← HW.out]
      refine (HV.out _ HO.out).mono ?_
      rintro e w1 ⟨rfl, g1⟩
      obtain ⟨l1, l2, k1, k2, k3, k4, k5, k6⟩ := HE.out.on g1
      have HG := Lib.hid g1
      clear g1
      go_wp2_with fail
      refine (HT.out _ (HO.out.trans HG.out)).mono ?_
      rintro e w2 ⟨rfl, g2⟩
      have HG2 := Lib.hid (HG.out.trans g2)
      clear l1 l2 k1 k2 k3 k4 k5 k6 g2
      obtain ⟨l1, l2, k1, k2, k3, k4, k5, k6⟩ := HE.out.on HG2.out
      go_wp2_with fail
      refine (HC0.out _ (HO.out.trans HG2.out)).mono ?_
      rintro e w3 ⟨rfl, g3, us, f, o, ee, hrk, hrow⟩
      have HG3 := Lib.hid (HG2.out.trans g3)
      clear l1 l2 k1 k2 k3 k4 k5 k6 g3
      have HLY := Lib.hid (lay_copy hrk hrow)
      have HRW := Lib.hid hrow
      have hlay := HLY.out
      have hi2 : i < N.f0.length := HI.out
      have q1 : w3.cell? ⟨w2.heap.size, i, none⟩ = some (.slice (some ⟨f i, o i, none⟩) l (ee i)) := by have := hlay.out i hin; rw [Nat.zero_add] at this; rw [HLL.out, HZZ.out]; exact this
      obtain ⟨-, hf1, hf2, hf3, hf4⟩ := hlay.adr i hin (by rw [← HZZ.out, ← HLL.out]; omega)
      have s1 := hlay.lt
      have hfit : l ≤ ee i := by rw [HLL.out, HZZ.out]; exact hrk.fit i hin
      have hw2 := (HO.out.trans HG2.out).size
      have hb1 := HBX.out.2
      have hfi : w.heap.size + 2 < f i := by have := (hrk.rng i hin).1; have := HG2.out.size; have := HE.out.lr; omega
      have HD := Lib.hid (Del.lib_delete (w.heap.size + 1) (hasB ch) (f i) (o i) l (ee i) z w3 (by omega) hfit (by omega) (fun q hq => by have := hrk.row i hin q (by rw [← HZZ.out, ← HLL.out]; exact hq); rw [← HZZ.out] at this; exact this) (fun q hq => hrk.unf i hin q (by rw [← HZZ.out, ← HLL.out]; exact hq))
        (fun w4 bt y => clo (w.heap.size + 1) (.slice ac nc cc) ch y w4 HZ.out ((bt.cell _ (by show w.heap.size + 1 ≠ f i; omega)).trans ((HG3.out.cell (by exact HBX.out.2)).trans HBX.out.1)) (ints_on HLS.out (show On w w4 from Below.trans (HO.out.trans HG3.out) (Below.mono bt.below (by omega))))))
      have HRK := Lib.hid hrk
      clear hlay hrk hrow
      go_wp2_with fail
      refine HD.out.mono ?_
      rintro e w4 ⟨rfl, bt, hcell⟩
      obtain ⟨m, hm⟩ : ∃ m, m = (kept (hasB ch) z l).length := ⟨_, rfl⟩
      have EL := Lib.hid (show kept (hasB ch) z l = left N i ch by unfold left; rw [← HZZ.out, ← HLL.out])
      have HM := Lib.hid hm
      have HCL := Lib.hid hcell
      have BT := Lib.hid bt
      have q2 : w4.cell? ⟨w2.heap.size, i, none⟩ = some (.slice (some ⟨f i, o i, none⟩) l (ee i)) := (bt.cell _ (by exact fun e => hf4 e.symm)).trans q1
      have q3 : w4.frozen? ⟨w2.heap.size, i, none⟩ = false := (bt.frz _).trans (HRW.out.frozen i)
      have s4 : w2.heap.size < w4.heap.size := by rw [bt.size]; exact s1
      have On4 := Lib.hid (show On w w4 from Below.trans (HO.out.trans HG3.out) (Below.mono bt.below (by omega)))
      have On4' := Lib.hid (show On w0 w4 from Below.trans HG3.out (Below.mono bt.below (by have := HE.out.lr; have := HG2.out.size; have := (HRK.out.rng i hin).1; omega)))
      rw [← hm]
      clear hcell hm bt
      obtain ⟨l1, l2, k1, k2, k3, k4, k5, k6⟩ := HE.out.on On4'.out
      have hw02 : w.heap.size + 2 < w2.heap.size := by have := HE.out.lr; have := HG2.out.size; omega
      have hne1 : ¬ w.heap.size = w2.heap.size := by omega
      have hne2 : ¬ w.heap.size + 1 + 1 = w2.heap.size := by omega
      have hne3 : ¬ w2.heap.size = w.heap.size + 1 + 1 := by omega
      have HLN := Lib.hid (Del.kept_len (hasB ch) z l)
      by_cases hm0 : m = 0
      · have en := Lib.hid (rst_none HOK.out HIT.out (show left N i ch = [] by rw [← EL.out]; exact List.eq_nil_of_length_eq_zero (by rw [← HM.out]; exact hm0)))
        subst hm0
        go_wp2_with fail
        refine bodyPost_ret (v := .tuple #[.agg #[.slice none 0 0, .slice none 0 0], .int .i64 6]) (by simp [results, Try.results31, go_sem, k3, k4]) rfl ⟨none, 0, none, 0, ret_rst (by rw [en.out.1]; rfl) (by rw [en.out.1]; rfl) en.out.2.symm, by rw [en.out.1]; exact own_empty _ _ _ (by have := On4.out.size; simpa using this), ?_⟩
        exact On.setCell (On.setCell (On.setCell On4.out (by show w.heap.size ≤ w2.heap.size; omega) _) (by simp <;> omega) _) (by simp <;> omega) _
      · have en := Lib.hid (rst_yes HOK.out HIT.out (show left N i ch ≠ [] by rw [← EL.out]; intro h; rw [h] at HM; exact hm0 HM.out))
        have z1 : ((m : Int) == 0) = false := beq_eq_false_iff_ne.2 (by omega)
        have z2 : (m == 0) = false := beq_eq_false_iff_ne.2 hm0
        go_wp2_with fail
        have On5 := Lib.hid (show On w (w4.setCell ⟨w2.heap.size, i, none⟩ (.slice (some ⟨f i, o i, none⟩) m (ee i))) from On.setCell On4.out (by show w.heap.size ≤ w2.heap.size; omega) _)
        have E5 := Lib.hid ((HE.out.on On4'.out).off (p := ⟨w2.heap.size, i, none⟩) (by exact fun e => hne1 e.symm) (by exact fun e => hne3 e) (.slice (some ⟨f i, o i, none⟩) m (ee i)))
        have HP := Lib.hid (own_put (B := w2.heap.size) (E := w3.heap.size) (c := n0) (ei := ee i) (z := kept (hasB ch) z l) (fi := f i) (oi := o i) (E' := w4.heap.size) (w := w4) (i := i) (zss := N.f0)
          (by
            have hl := HLY.out
            rw [HN0.out] at hl
            exact hl.move (by rw [BT.out.size]; exact Nat.le_refl _) (fun p _ => BT.out.frz p) (fun j _ => BT.out.cell _ (by exact fun e => hf4 e.symm)))
          (fun j hj hji q hq => (BT.out.cell ⟨f j, o j + q, none⟩ (by
            show f j ≠ f i
            rcases Nat.lt_or_ge j i with g | g
            · have := HRK.out.inc j i g hin; omega
            · have := HRK.out.inc i j (by omega) (by rw [HN0.out]; exact hj); omega)).trans (HRK.out.row j (by rw [HN0.out]; exact hj) q hq))
          HI.out (by rw [BT.out.size]; exact Nat.le_refl _) hf1 (by rw [BT.out.size]; omega) (by rw [BT.out.size]; omega) hf4
          (fun j hj hji h0 => by
            rcases Nat.lt_or_ge j i with g | g
            · have := HRK.out.inc j i g hin; omega
            · have := HRK.out.inc i j (by omega) (by rw [HN0.out]; exact hj); omega)
          (fun q hq => (BT.out.frz _).trans (HRK.out.unf i hin q (by rw [← HZZ.out, ← HLL.out]; have := HLN.out; omega))) (fun q hq => HCL.out q hq))
        rw [← HM.out, ← HN0.out, EL.out, Nat.zero_add] at HP
        refine (HC1.out _ On5.out).mono ?_
        rintro e w6 ⟨rfl, g6, us6, f6, o6, ee6, hrk6, hrow6⟩
        have HL6 := Lib.hid (lay_copy hrk6 hrow6)
        have HR6 := Lib.hid hrk6
        have HG6 := Lib.hid g6
        clear l1 l2 k1 k2 k3 k4 k5 k6 g6 hrk6 hrow6
        obtain ⟨l1, l2, k1, k2, k3, k4, k5, k6⟩ := E5.out.on HG6.out
        have hs5 : (w4.setCell ⟨w2.heap.size, i, none⟩ (.slice (some ⟨f i, o i, none⟩) m (ee i))).heap.size = w4.heap.size := by simp
        have HS5 := Lib.hid hs5
        clear hs5
        go_wp2_with fail
        have HO6 := Lib.hid (show OwnX w4.heap.size w6.heap.size w6 (.slice (some ⟨w4.heap.size, 0, none⟩) n1 n1) N.f1 from ⟨_, n1, by rw [HN1.out], fun _ => ⟨w4.heap.size, 0, f6, o6, ee6, fun j => some ⟨f6 j, o6 j, none⟩, rfl, by have := HL6.out; rw [HS5.out, HN1.out] at this; exact this, fun j hj => HR6.out.row j (by rw [HN1.out]; exact hj)⟩⟩)
        have hs6 := HG6.out.size
        rw [HS5.out] at hs6
        have hw24 : w2.heap.size ≤ w4.heap.size := by omega
        refine bodyPost_ret (v := .tuple #[.agg #[.slice (some ⟨w2.heap.size, 0, none⟩) n0 n0, .slice (some ⟨w4.heap.size, 0, none⟩) n1 n1], .int .i64 0]) (by simp [results, Try.results31, go_sem, k3, k4]) rfl ⟨_, _, _, _, ret_rst (by rw [en.out.1, HN0.out]; simp) (by rw [en.out.1, HN1.out]) en.out.2.symm, ?_, ?_⟩
        · rw [en.out.1]
          have e0 : (N.f0.set i (left N i ch)).length = n0 := by rw [List.length_set, HN0.out]
          have e1 : N.f1.length = n1 := HN1.out.symm
          show OwnP _ _ _ (.agg #[.slice _ (N.f0.set i (left N i ch)).length _, .slice _ N.f1.length _]) _
          rw [e0, e1]
          refine ⟨_, _, w4.heap.size, rfl, (own_off (own_off (HP.out.below HG6.out) (.inl (by show w.heap.size + 1 + 1 < w2.heap.size; omega)) _) (.inl (by show w.heap.size + 1 + 1 < w2.heap.size; omega)) _).mono (by omega) (Nat.le_refl _), (own_off (own_off HO6.out (.inl (by show w.heap.size + 1 + 1 < w4.heap.size; omega)) _) (.inl (by show w.heap.size + 1 + 1 < w4.heap.size; omega)) _).mono (Nat.le_refl _) (by simp), by simpa using hs6, by omega⟩
        · exact On.setCell (On.setCell (On5.out.trans HG6.out) (by show w.heap.size ≤ w.heap.size + 1 + 1; omega) _) (by show w.heap.size ≤ w.heap.size + 1 + 1; omega) _
end Go.Proofs.Ytofoffdmhekceaa.Rst
