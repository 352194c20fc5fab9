
/-
  The loss over the worst point of a part of a profile, in the model and in the program. Conditions: each theorem's own.
-/
import Derived.Test.YtmmhekakihimfaaPartW
import Derived.Test.YtmmhekakihimfaaWEdge
namespace Go.Proofs.Ytmmhekakihimfaa.Nu
open Go.RowKit Go.Shelf
open Plain
open Ints (Ints Own)
open Prof (PIn clr off_bd off slice_of okP of_okP ret_ii)

/-- The loss over the worst point. -/
def sideL (d f l n fr : Int) (zs : List Int) (m : Nat) : Int := if m = 0 then 0 else Go.Proofs.Ytmmhekakihimfaa.Edge.edge (sel gtr (nuAt d f l n fr zs) m).2
theorem side_impl (d f l n fr : Int) (zs : List Int) (m : Nat) : Go.Proofs.Ytmmhekakihimfaa.Edge.edgeLoss (weN (nuAt d f l n fr zs) m) = sideL d f l n fr zs m := by
  unfold weN sideL
  by_cases h : m = 0
  · rw [if_pos h, if_pos h]; rfl
  · obtain ⟨h0, h1⟩ := sel_nu_bd d f l n fr zs m
    rw [if_neg h, if_neg h, Go.Proofs.Ytmmhekakihimfaa.Edge.loss_in (inB_yes h0 h1)]
set_option maxHeartbeats 2000000 in
theorem impl_dey0 (n cap b off : Nat) (d f l fr : Int) (zs : List Int) (w : World) (hb : b < w.heap.size) (hz : ∀ k, k ≤ n → w.cell? ⟨b, off + k, none⟩ = some (.int .i64 (zs.getD k 0))) (hzb : ∀ k, k ≤ n → 0 ≤ zs.getD k 0 ∧ zs.getD k 0 ≤ 90000)
    (d0 : 1 ≤ d) (d1 : d ≤ 283000) (f0 : 0 ≤ f) (f1 : f ≤ 180000) (l0 : 0 ≤ l) (l1 : l ≤ 180000) (n0 : 1 ≤ n) (n1 : n ≤ 64) (fr0 : 1 ≤ fr) (fr1 : fr ≤ 100000000) :
    Calls Try.prog 65 #[.agg #[.int .i64 d, .int .i64 f, .int .i64 l, .slice (some ⟨b, off, none⟩) (n + 1) cap, .int .i64 fr], .int .i64 0] w fun e w' => e = .returned (.int .i64 (sideL d f l n fr zs (n - 1))) ∧ On w w' := by
  have HW := Lib.hid (fun w' (hw : On w w') => impl_worstEdge n cap b off d f l fr zs w' (hw.lts _ hb) (fun k hk => (hw.cell (p := ⟨b, off + k, none⟩) (by exact hb)).trans (hz k (by omega))) hzb d0 d1 f0 f1 l0 l1 n0 n1 fr0 fr1)
  have hE := fun w => Go.Proofs.Ytmmhekakihimfaa.Edge.impl_EdgeLoss (weN (nuAt d f l n fr zs) (n - 1)) w
  rw [side_impl] at hE
  have HE := Lib.hid hE
  generalize weI (nuAt d f l n fr zs) (n - 1) = wi at *
  generalize weN (nuAt d f l n fr zs) (n - 1) = wn at *
  generalize sideL d f l n fr zs (n - 1) = s at *
  clear hE hz hzb
  by_cases h0 : s = 0
  · have hb0 : (s == 0) = true := beq_iff_eq.2 h0
    have H0 := Lib.hid h0
    clear h0
    go_enter Try.func65, Try.ntmps65
    go_wp2_with fail
    refine (HW.out _ (by repeat (first | with_reducible exact On.refl _ | apply On.alloc))).mono ?_
    rintro e w1 ⟨rfl, h1⟩
    have HO1 := Lib.hid (show On w w1 by refine On.trans ?_ h1; repeat (first | with_reducible exact On.refl _ | apply On.alloc))
    have c1 : w1.cell? ⟨w.heap.size + 1, 0, none⟩ = some (.int .i64 0) := (h1.cell (by simp)).trans (by simp [go_sem])
    have g1 := World.block_lt_of_cell? w1 _ c1
    clear h1
    go_wp2_with fail
    refine (HE.out _).mono ?_
    rintro e w2 ⟨rfl, h2⟩
    have HO2 := Lib.hid (HO1.out.trans h2)
    have c2 := (h2.cell (p := ⟨w.heap.size + 1, 0, none⟩) (by exact g1)).trans c1
    have g2 := World.block_lt_of_cell? w2 _ c2
    clear h2
    go_wp2_with fail
    go_ret
    exact ⟨rfl, HO2.out⟩
  · have hb0 : (s == 0) = false := beq_eq_false_iff_ne.2 h0
    have H0 := Lib.hid h0
    clear h0
    go_enter Try.func65, Try.ntmps65
    go_wp2_with fail
    refine (HW.out _ (by repeat (first | with_reducible exact On.refl _ | apply On.alloc))).mono ?_
    rintro e w1 ⟨rfl, h1⟩
    have HO1 := Lib.hid (show On w w1 by refine On.trans ?_ h1; repeat (first | with_reducible exact On.refl _ | apply On.alloc))
    have c1 : w1.cell? ⟨w.heap.size + 1, 0, none⟩ = some (.int .i64 0) := (h1.cell (by simp)).trans (by simp [go_sem])
    have g1 := World.block_lt_of_cell? w1 _ c1
    clear h1
    go_wp2_with fail
    refine (HE.out _).mono ?_
    rintro e w2 ⟨rfl, h2⟩
    have HO2 := Lib.hid (HO1.out.trans h2)
    have c2 := (h2.cell (p := ⟨w.heap.size + 1, 0, none⟩) (by exact g1)).trans c1
    have g2 := World.block_lt_of_cell? w2 _ c2
    clear h2
    go_wp2_with fail
    go_ret
    exact ⟨rfl, HO2.out⟩
/-- The loss over the worst point of a part. -/
def sideP (d f l fr : Int) (zs : List Int) (i k : Int) : Int := if okP (ptD d zs i k) (ptE f l zs i) (ptE f l zs k) (ptZ zs i k) = true then sideL (ptD d zs i k) (ptE f l zs i) (ptE f l zs k) ((ptZ zs i k).length - 1 : Nat) fr (ptZ zs i k) ((ptZ zs i k).length - 2) else 0
theorem sideP_no {d f l fr i k : Int} {zs : List Int} (h : okP (ptD d zs i k) (ptE f l zs i) (ptE f l zs k) (ptZ zs i k) = false) : sideP d f l fr zs i k = 0 := by unfold sideP; rw [h]; rfl
theorem sideP_yes {d f l fr i k : Int} {zs : List Int} {n : Nat} (h : okP (ptD d zs i k) (ptE f l zs i) (ptE f l zs k) (ptZ zs i k) = true) (hl : (ptZ zs i k).length = n + 1) : sideP d f l fr zs i k = sideL (ptD d zs i k) (ptE f l zs i) (ptE f l zs k) n fr (ptZ zs i k) (n - 1) := by
  unfold sideP; rw [if_pos h, hl, Nat.add_sub_cancel, show n + 1 - 2 = n - 1 by omega]
set_option maxHeartbeats 2000000 in
theorem spec_side (g n cap b off i k : Nat) (d f l fr : Int) (zs : List Int) (w : World) (hp : PIn w g d f l (.slice (some ⟨b, off, none⟩) (n + 1) cap)) (hb : b < w.heap.size) (hz : ∀ j, j ≤ n → w.cell? ⟨b, off + j, none⟩ = some (.int .i64 (zs.getD j 0))) (hzn : zs.length = n + 1)
    (d0 : 1 ≤ d) (d1 : d ≤ 283000) (hik : i < k) (hkn : k ≤ n) (n1 : n ≤ 64) (hcap : zs.length ≤ cap) (fr0 : 1 ≤ fr) (fr1 : fr ≤ 100000000) :
    Calls Try.prog 87 #[.pointer (some ⟨g, 0, none⟩), .int .i64 fr, .int .i64 i, .int .i64 k] w fun e w' => e = .returned (.int .i64 (sideP d f l fr zs i k)) ∧ On w w' := by
  have HLP := Lib.hid (fun w' (hw : On w w') => spec_l10Part g n cap b off i k d f l zs w' (hp.on hw) (hw.lts _ hb) (fun j hj => (hw.cell (p := ⟨b, off + j, none⟩) (by exact hb)).trans (hz j hj)) hzn d0 d1 hik hkn n1 hcap)
  have hcl : (ptZ zs i k).length = k - i + 1 := by unfold ptZ; rw [Int.toNat_natCast, Int.toNat_natCast, cut_len (by omega)]; omega
  have no := sideP_no (d := d) (f := f) (l := l) (fr := fr) (i := i) (k := k) (zs := zs)
  have yes := fun h => sideP_yes (d := d) (f := f) (l := l) (fr := fr) (i := i) (k := k) (zs := zs) h hcl
  obtain ⟨m, hm⟩ : ∃ m, m = k - i := ⟨_, rfl⟩
  rw [← hm] at hcl yes
  have hm64 : m ≤ 64 := by omega
  generalize ptD d zs i k = pd at *
  generalize ptE f l zs i = pe at *
  generalize ptE f l zs k = pk at *
  generalize ptZ zs i k = zz at *
  have HCL := Lib.hid hcl
  have hlp := HLP.out
  simp only [hcl] at hlp
  have HLP := Lib.hid hlp
  clear hz hp hm hlp
  cases hq : okP pd pe pk zz with
  | false =>
    have en := Lib.hid (no hq)
    have HQ := Lib.hid hq
    clear no yes hq hcl
    go_enter Try.func87, Try.ntmps87
    go_wp2_with fail
    refine (HLP.out _ (by repeat (first | with_reducible exact On.refl _ | apply On.alloc))).mono ?_
    rintro e w1 ⟨a', c', rfl, ho, h1⟩
    have HK := Lib.hid (fun w' (h3 : On w1 w') (hp : PIn w' w1.heap.size pd pe pk (.slice a' (m + 1) c')) => Prof.spec_ok w1.heap.size pd pe pk a' c' zz w' (by have := HCL.out; omega) (by rw [HCL.out]; exact hp) (by rw [HCL.out]; exact ho.ints.below h3))
    have HO1 := Lib.hid (show On w w1 by refine On.trans ?_ h1; repeat (first | with_reducible exact On.refl _ | apply On.alloc))
    clear h1 ho
    have hK := HK.out
    rw [HQ.out] at hK
    have HK2 := Lib.hid hK
    clear hK
    go_wp2_with fail
    refine (HK2.out _ (by repeat (first | with_reducible exact On.refl _ | apply On.alloc)) ⟨by simp [go_sem], by simp [go_sem], by simp [go_sem], by simp [go_sem]⟩).mono ?_
    rintro e w3 ⟨rfl, q3, rfl⟩
    go_wp2_with fail
    go_ret
    exact ⟨ret_int en.out.symm, by repeat (first | with_reducible exact HO1.out | apply On.drewN | apply On.alloc)⟩
  | true =>
    have en := yes hq
    obtain ⟨n', hzn', m0, m1, hzb, ⟨e0, e1⟩, ⟨f0, f1⟩, ⟨l0, l1⟩, -, -⟩ := see_at (see_ok (fr := fr) hq (inB_yes fr0 fr1))
    obtain rfl : n' = m := by omega
    have HQ := Lib.hid hq
    have HZB := Lib.hid hzb
    by_cases g0 : n' - 1 = 0
    · have en := Lib.hid (en.trans (show sideL pd pe pk n' fr zz (n' - 1) = 0 by unfold sideL; rw [if_pos g0]))
      have G0 := Lib.hid g0
      clear no yes hq hcl hzn' g0 hzb
      go_enter Try.func87, Try.ntmps87
      go_wp2_with fail
      refine (HLP.out _ (by repeat (first | with_reducible exact On.refl _ | apply On.alloc))).mono ?_
      rintro e w1 ⟨a', c', rfl, ho, h1⟩
      have hi1 := ho.ints
      have hi2 : Ints w1 (.slice a' zz.length c') zz := by rw [HCL.out]; exact hi1
      obtain ⟨b2, o2, rfl, hb2, hc2⟩ := slice_of hi2 (by have := HCL.out; omega)
      have HK := Lib.hid (fun w' (h3 : On w1 w') (hp : PIn w' w1.heap.size pd pe pk (.slice (some ⟨b2, o2, none⟩) (n' + 1) c')) => Prof.spec_ok w1.heap.size pd pe pk (some ⟨b2, o2, none⟩) c' zz w' (by have := HCL.out; omega) (by rw [HCL.out]; exact hp) (hi2.below h3))
      have HO1 := Lib.hid (show On w w1 by refine On.trans ?_ h1; repeat (first | with_reducible exact On.refl _ | apply On.alloc))
      have hw := fun w' (h3 : On w1 w') (hp : PIn w' w1.heap.size pd pe pk (.slice (some ⟨b2, o2, none⟩) (n' + 1) c')) => spec_l10Worst w1.heap.size n' c' b2 o2 pd pe pk fr zz w' hp (h3.lts _ hb2) (fun k hk => (h3.cell (p := ⟨b2, o2 + k, none⟩) (by exact hb2)).trans (hc2 k (by have := HCL.out; omega))) HZB.out e0 e1 f0 f1 l0 l1 m0 m1 fr0 fr1
      have hK := HK.out
      rw [HQ.out] at hK
      have HK2 := Lib.hid hK
      rw [G0.out, selI_zero] at hw
      have HWo := Lib.hid hw
      clear h1 ho hi1 hi2 hc2 hw hK
      go_wp2_with fail
      refine (HK2.out _ (by repeat (first | with_reducible exact On.refl _ | apply On.alloc)) ⟨by simp [go_sem], by simp [go_sem], by simp [go_sem], by simp [go_sem]⟩).mono ?_
      rintro e w3 ⟨rfl, q3, hq3⟩
      have H3 := Lib.hid (show On w1 w3 by rw [hq3]; repeat (first | with_reducible exact On.refl _ | apply On.drewN | apply On.alloc))
      have HI3 := Lib.hid (show PIn w3 w1.heap.size pd pe pk (.slice (some ⟨b2, o2, none⟩) (n' + 1) c') by rw [hq3]; exact ⟨by simp [go_sem], by simp [go_sem], by simp [go_sem], by simp [go_sem]⟩)
      clear hq3
      go_wp2_with fail
      refine (HWo.out _ H3.out HI3.out).mono ?_
      rintro e w4 ⟨rfl, h4⟩
      have HO4 := Lib.hid ((HO1.out.trans H3.out).trans h4)
      clear h4
      go_wp2_with fail
      go_ret
      exact ⟨ret_int en.out.symm, HO4.out⟩
    · have en := Lib.hid (en.trans (show sideL pd pe pk n' fr zz (n' - 1) = Go.Proofs.Ytmmhekakihimfaa.Edge.edge (sel gtr (nuAt pd pe pk n' fr zz) (n' - 1)).2 by unfold sideL; rw [if_neg g0]))
      have G0 := Lib.hid g0
      clear no yes hq hcl hzn' g0 hzb
      go_enter Try.func87, Try.ntmps87
      go_wp2_with fail
      refine (HLP.out _ (by repeat (first | with_reducible exact On.refl _ | apply On.alloc))).mono ?_
      rintro e w1 ⟨a', c', rfl, ho, h1⟩
      have hi1 := ho.ints
      have hi2 : Ints w1 (.slice a' zz.length c') zz := by rw [HCL.out]; exact hi1
      obtain ⟨b2, o2, rfl, hb2, hc2⟩ := slice_of hi2 (by have := HCL.out; omega)
      have HK := Lib.hid (fun w' (h3 : On w1 w') (hp : PIn w' w1.heap.size pd pe pk (.slice (some ⟨b2, o2, none⟩) (n' + 1) c')) => Prof.spec_ok w1.heap.size pd pe pk (some ⟨b2, o2, none⟩) c' zz w' (by have := HCL.out; omega) (by rw [HCL.out]; exact hp) (hi2.below h3))
      have HO1 := Lib.hid (show On w w1 by refine On.trans ?_ h1; repeat (first | with_reducible exact On.refl _ | apply On.alloc))
      have hw := fun w' (h3 : On w1 w') (hp : PIn w' w1.heap.size pd pe pk (.slice (some ⟨b2, o2, none⟩) (n' + 1) c')) => spec_l10Worst w1.heap.size n' c' b2 o2 pd pe pk fr zz w' hp (h3.lts _ hb2) (fun k hk => (h3.cell (p := ⟨b2, o2 + k, none⟩) (by exact hb2)).trans (hc2 k (by have := HCL.out; omega))) HZB.out e0 e1 f0 f1 l0 l1 m0 m1 fr0 fr1
      have hK := HK.out
      rw [HQ.out] at hK
      have HK2 := Lib.hid hK
      rw [selI_pos G0.out] at hw
      have hbd := sel_nu_bd pd pe pk n' fr zz (n' - 1)
      have hs0 := (sel_pos (b := gtr) (val := nuAt pd pe pk n' fr zz) G0.out).1
      have en1 := en.out
      generalize (sel gtr (nuAt pd pe pk n' fr zz) (n' - 1)).1 = s1 at *
      generalize (sel gtr (nuAt pd pe pk n' fr zz) (n' - 1)).2 = s2 at *
      have HWo := Lib.hid hw
      have EN := Lib.hid en1
      have HE := Lib.hid (fun w => Go.Proofs.Ytmmhekakihimfaa.Edge.spec_edge s2 w hbd.1 hbd.2)
      have hnn : ¬ ((s1 : Int) < 0) := by omega
      clear en1
      clear h1 ho hi1 hi2 hc2 hw hK
      go_wp2_with fail
      refine (HK2.out _ (by repeat (first | with_reducible exact On.refl _ | apply On.alloc)) ⟨by simp [go_sem], by simp [go_sem], by simp [go_sem], by simp [go_sem]⟩).mono ?_
      rintro e w3 ⟨rfl, q3, hq3⟩
      have H3 := Lib.hid (show On w1 w3 by rw [hq3]; repeat (first | with_reducible exact On.refl _ | apply On.drewN | apply On.alloc))
      have HI3 := Lib.hid (show PIn w3 w1.heap.size pd pe pk (.slice (some ⟨b2, o2, none⟩) (n' + 1) c') by rw [hq3]; exact ⟨by simp [go_sem], by simp [go_sem], by simp [go_sem], by simp [go_sem]⟩)
      clear hq3
      go_wp2_with fail
      refine (HWo.out _ H3.out HI3.out).mono ?_
      rintro e w4 ⟨rfl, h4⟩
      have HO4 := Lib.hid ((HO1.out.trans H3.out).trans h4)
      clear h4
      go_wp2_with fail
      refine (HE.out _).mono ?_
      rintro e w5 ⟨rfl, rfl⟩
      go_wp2_with fail
      go_ret
      exact ⟨ret_int EN.out.symm, HO4.out⟩
end Go.Proofs.Ytmmhekakihimfaa.Nu
