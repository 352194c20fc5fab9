
/-
  The loss over three edges, in the model and in the program. Conditions: each theorem's own.
-/
import Derived.Test.YtmmhekakihimfaaDeyB
namespace Go.Proofs.Ytmmhekakihimfaa.Nu
open Go.RowKit Go.Shelf
open Plain
open Ints (Ints Own)
open Prof (PIn clr off_bd off slice_of okP of_okP ret_ii)

theorem sideL_bd (d f l n fr : Int) (zs : List Int) (m : Nat) : 0 ≤ sideL d f l n fr zs m ∧ sideL d f l n fr zs m ≤ 1000000 := by
  unfold sideL
  split
  · omega
  · exact Go.Proofs.Ytmmhekakihimfaa.Edge.edge_bd (sel_nu_bd d f l n fr zs m).2
theorem sideP_bd (d f l fr : Int) (zs : List Int) (i k : Int) : 0 ≤ sideP d f l fr zs i k ∧ sideP d f l fr zs i k ≤ 1000000 := by
  unfold sideP
  split
  · exact sideL_bd _ _ _ _ _ _ _
  · omega
/-- The loss over three edges. -/
def deyV (d f l fr : Int) (n : Nat) (zs : List Int) : Int := if sideL d f l n fr zs (n - 1) = 0 then 0 else sideL d f l n fr zs (n - 1) + sideP d f l fr zs 0 ((sel gtr (nuAt d f l n fr zs) (n - 1)).1 : Nat) + sideP d f l fr zs ((sel gtr (nuAt d f l n fr zs) (n - 1)).1 : Nat) n
theorem dey_no {d f l fr : Int} {n : Nat} {zs : List Int} (h : sideL d f l n fr zs (n - 1) = 0) : deyV d f l fr n zs = 0 := if_pos h
theorem dey_yes {d f l fr : Int} {n : Nat} {zs : List Int} (h : sideL d f l n fr zs (n - 1) ≠ 0) : deyV d f l fr n zs = sideL d f l n fr zs (n - 1) + sideP d f l fr zs 0 ((sel gtr (nuAt d f l n fr zs) (n - 1)).1 : Nat) + sideP d f l fr zs ((sel gtr (nuAt d f l n fr zs) (n - 1)).1 : Nat) n := if_neg h
theorem side_at {d f l fr : Int} {n : Nat} {zs : List Int} (h : sideL d f l n fr zs (n - 1) ≠ 0) : n - 1 ≠ 0 := fun g => h (if_pos g)
set_option maxHeartbeats 4000000 in
theorem impl_dey1 (n cap b off : Nat) (d f l fr : Int) (zs : List Int) (w : World) (hb : b < w.heap.size) (hz : ∀ k, k ≤ n → w.cell? ⟨b, off + k, none⟩ = some (.int .i64 (zs.getD k 0))) (hzb : ∀ k, k ≤ n → 0 ≤ zs.getD k 0 ∧ zs.getD k 0 ≤ 90000)
    (hi : Ints w (.slice (some ⟨b, off, none⟩) (n + 1 : Nat) cap) zs) (hzn : zs.length = n + 1) (hok : okP d f l zs = true) (hcap : zs.length ≤ cap)
    (d0 : 1 ≤ d) (d1 : d ≤ 283000) (f0 : 0 ≤ f) (f1 : f ≤ 180000) (l0 : 0 ≤ l) (l1 : l ≤ 180000) (n0 : 1 ≤ n) (n1 : n ≤ 64) (fr0 : 1 ≤ fr) (fr1 : fr ≤ 100000000) :
    Calls Try.prog 65 #[.agg #[.int .i64 d, .int .i64 f, .int .i64 l, .slice (some ⟨b, off, none⟩) (n + 1) cap, .int .i64 fr], .int .i64 1] w fun e w' => e = .returned (.int .i64 (deyV d f l fr n zs)) ∧ On w w' := by
  have hW := fun w' (hw : On w w') => impl_worstEdge n cap b off d f l fr zs w' (hw.lts _ hb) (fun k hk => (hw.cell (p := ⟨b, off + k, none⟩) (by exact hb)).trans (hz k (by omega))) hzb d0 d1 f0 f1 l0 l1 n0 n1 fr0 fr1
  have hE := fun w => Go.Proofs.Ytmmhekakihimfaa.Edge.impl_EdgeLoss (weN (nuAt d f l n fr zs) (n - 1)) w
  rw [side_impl] at hE
  have HE := Lib.hid hE
  obtain ⟨v0, v1⟩ := sideL_bd d f l n fr zs (n - 1)
  by_cases h0 : sideL d f l n fr zs (n - 1) = 0
  · have en := Lib.hid (dey_no h0)
    have HW := Lib.hid hW
    generalize weI (nuAt d f l n fr zs) (n - 1) = wi at *
    generalize weN (nuAt d f l n fr zs) (n - 1) = wn at *
    generalize sideL d f l n fr zs (n - 1) = s at *
    have hb0 : (s == 0) = true := beq_iff_eq.2 h0
    have H0 := Lib.hid h0
    clear hE hz hzb hW h0 hi hzn hok
    go_enter Try.func65, Try.ntmps65
    go_wp2_with fail
    refine (HW.out _ (by repeat (first | with_reducible exact On.refl _ | apply On.alloc))).mono ?_
    rintro e w1 ⟨rfl, h1⟩
    have HO1 := Lib.hid (show On w w1 by refine On.trans ?_ h1; repeat (first | with_reducible exact On.refl _ | apply On.alloc))
    clear h1
    go_wp2_with fail
    refine (HE.out _).mono ?_
    rintro e w2 ⟨rfl, h2⟩
    have HO2 := Lib.hid (HO1.out.trans h2)
    clear h2
    go_wp2_with fail
    go_ret
    exact ⟨ret_int (H0.out.trans en.out.symm), HO2.out⟩
  · have g0 := side_at h0
    have en := dey_yes h0
    have e1 : weI (nuAt d f l n fr zs) (n - 1) = ((sel gtr (nuAt d f l n fr zs) (n - 1)).1 : Nat) := if_neg g0
    obtain ⟨a0, a1, -⟩ := sel_pos (b := gtr) (val := nuAt d f l n fr zs) g0
    rw [e1] at hW
    have HW := Lib.hid hW
    generalize (sel gtr (nuAt d f l n fr zs) (n - 1)).1 = s1 at *
    have hB1 := fun w' (hw : On w w') hs hd => impl_beside w.heap.size (w.heap.size + 1) n cap b off 0 s1 d f l fr zs w' hs hd (hi.below hw) hzn hok (by omega) (by omega) n1 hcap fr0 fr1
    have hB2 := fun w' (hw : On w w') hs hd => impl_beside w.heap.size (w.heap.size + 1) n cap b off s1 n d f l fr zs w' hs hd (hi.below hw) hzn hok (by omega) (by omega) n1 hcap fr0 fr1
    simp only [Int.natCast_zero] at hB1
    obtain ⟨p0, p1⟩ := sideP_bd d f l fr zs 0 s1
    obtain ⟨p2, p3⟩ := sideP_bd d f l fr zs s1 n
    generalize sideP d f l fr zs 0 s1 = x1 at *
    generalize sideP d f l fr zs s1 n = x2 at *
    have HB1 := Lib.hid hB1
    have HB2 := Lib.hid hB2
    have hst := fun w => Prof.steps d f l (some ⟨b, off, none⟩) (n + 1) cap w (by omega)
    rw [show ((((n + 1 : Nat)) : Int) - 1) = n from by omega] at hst
    have HST := Lib.hid hst
    have EN := Lib.hid en
    generalize weN (nuAt d f l n fr zs) (n - 1) = wn at *
    generalize sideL d f l n fr zs (n - 1) = s at *
    have w1' : IntKind.i64.wrap (s + x1) = s + x1 := IntWalk.i64_in _ (by omega)
    have w2' : IntKind.i64.wrap (s + x1 + x2) = s + x1 + x2 := IntWalk.i64_in _ (by omega)
    have hb0 : (s == 0) = false := beq_eq_false_iff_ne.2 h0
    have hmf : ∀ (fn : Fn) (first cap : Array Value) (w : World), (Instr.makeFunc fn first cap).run Try.prog w = .ok (.func fn first cap) w := fun _ _ _ _ => rfl
    clear hE hz hzb hW h0 hi hzn hok hB1 hB2 en e1 hst
    go_enter Try.func65, Try.ntmps65
    go_wp2_with fail
    refine (HW.out _ (by repeat (first | with_reducible exact On.refl _ | apply On.alloc))).mono ?_
    rintro e w1 ⟨rfl, h1⟩
    have HO1 := Lib.hid (show On w w1 by refine On.trans ?_ h1; repeat (first | with_reducible exact On.refl _ | apply On.alloc))
    have c1 : w1.cell? ⟨w.heap.size + 1, 0, none⟩ = some (.int .i64 1) := (h1.cell (by simp)).trans (by simp [go_sem])
    have g1 := World.block_lt_of_cell? w1 _ c1
    have HS1 := Lib.hid (show SIn w1 w.heap.size d f l (.slice (some ⟨b, off, none⟩) (n + 1) cap) fr from SIn.on ⟨⟨by simp [go_sem], by simp [go_sem], by simp [go_sem], by simp [go_sem]⟩, by simp [go_sem]⟩ h1)
    clear h1
    go_wp2_with fail
    refine (HE.out _).mono ?_
    rintro e w2 ⟨rfl, h2⟩
    have HO2 := Lib.hid (HO1.out.trans h2)
    have c2 := (h2.cell (p := ⟨w.heap.size + 1, 0, none⟩) (by exact g1)).trans c1
    have g2 := World.block_lt_of_cell? w2 _ c2
    have HS2 := Lib.hid (HS1.out.on h2)
    obtain ⟨⟨s0, s1', s2, s3⟩, s4⟩ := HS2.out
    have hg2 := World.block_lt_of_cell? w2 _ s0
    have HC2 := Lib.hid c2
    have HX1 := Lib.hid (fun w' (h : On w2 w') => HB1.out w' (HO2.out.trans h) (HS2.out.on h) ((h.cell (p := ⟨w.heap.size + 1, 0, none⟩) (by exact g2)).trans HC2.out))
    have HX2 := Lib.hid (fun w' (h : On w2 w') => HB2.out w' (HO2.out.trans h) (HS2.out.on h) ((h.cell (p := ⟨w.heap.size + 1, 0, none⟩) (by exact g2)).trans HC2.out))
    clear h2
    go_wp2_with fail
    refine wp_region_onh (by kernel_rfl) (by kernel_rfl) ?_
    repeat (refine rest_step (fun K hK => ?_); go_simp; first | (refine hK _ ?_; clear hK K) | (apply Exists.intro; refine ⟨fun v1 hv1 => ?_, hK _ ?_⟩; (first | with_reducible exact rfl | with_reducible exact ⟨rfl, rfl⟩ | with_reducible exact Calls.on hv1 (HX1.out _ hv1) | with_reducible exact Calls.on hv1 (HX2.out _ hv1) | with_reducible exact Calls.on hv1 (HST.out _) | (obtain ⟨hc, hf⟩ := bcell hv1; go_simp; first | with_reducible exact rfl | with_reducible exact ⟨rfl, rfl⟩ | exact rfl | exact ⟨rfl, rfl⟩)); clear hK K))
    refine rest_nil ?_
    intro w3 h3
    go_wp2_with fail
    go_ret
    exact ⟨ret_int EN.out.symm, HO2.out.trans h3⟩
set_option maxHeartbeats 4000000 in
theorem spec_deygout (g n cap b off : Nat) (d f l fr : Int) (zs : List Int) (w : World) (hp : PIn w g d f l (.slice (some ⟨b, off, none⟩) (n + 1) cap)) (hb : b < w.heap.size) (hz : ∀ k, k ≤ n → w.cell? ⟨b, off + k, none⟩ = some (.int .i64 (zs.getD k 0))) (hzb : ∀ k, k ≤ n → 0 ≤ zs.getD k 0 ∧ zs.getD k 0 ≤ 90000) (hzn : zs.length = n + 1) (hcap : zs.length ≤ cap)
    (d0 : 1 ≤ d) (d1 : d ≤ 283000) (f0 : 0 ≤ f) (f1 : f ≤ 180000) (l0 : 0 ≤ l) (l1 : l ≤ 180000) (n0 : 1 ≤ n) (n1 : n ≤ 64) (fr0 : 1 ≤ fr) (fr1 : fr ≤ 100000000) :
    Calls Try.prog 64 #[.pointer (some ⟨g, 0, none⟩), .int .i64 fr] w fun e w' => e = .returned (.int .i64 (deyV d f l fr n zs)) ∧ On w w' := by
  have hW := fun w' (hw : On w w') => spec_l10Worst g n cap b off d f l fr zs w' (hp.on hw) (hw.lts _ hb) (fun k hk => (hw.cell (p := ⟨b, off + k, none⟩) (by exact hb)).trans (hz k (by omega))) hzb d0 d1 f0 f1 l0 l1 n0 n1 fr0 fr1
  have HP := Lib.hid hp
  by_cases g0 : n - 1 = 0
  · have en := Lib.hid (dey_no (d := d) (f := f) (l := l) (fr := fr) (zs := zs) (n := n) (by unfold sideL; rw [if_pos g0]))
    rw [g0, selI_zero] at hW
    have HW := Lib.hid hW
    clear hz hzb hW g0 hp hzn
    go_enter Try.func64, Try.ntmps64
    go_wp2_with fail
    refine (HW.out _ (by repeat (first | with_reducible exact On.refl _ | apply On.alloc))).mono ?_
    rintro e w1 ⟨rfl, h1⟩
    have HO1 := Lib.hid (show On w w1 by refine On.trans ?_ h1; repeat (first | with_reducible exact On.refl _ | apply On.alloc))
    clear h1
    go_wp2_with fail
    go_ret
    exact ⟨ret_int en.out.symm, HO1.out⟩
  · have hs : sideL d f l n fr zs (n - 1) = Go.Proofs.Ytmmhekakihimfaa.Edge.edge (sel gtr (nuAt d f l n fr zs) (n - 1)).2 := if_neg g0
    have hbd := sel_nu_bd d f l n fr zs (n - 1)
    obtain ⟨a0, a1, -⟩ := sel_pos (b := gtr) (val := nuAt d f l n fr zs) g0
    have no := fun h => dey_no (d := d) (f := f) (l := l) (fr := fr) (zs := zs) (n := n) h
    have yes := fun h => dey_yes (d := d) (f := f) (l := l) (fr := fr) (zs := zs) (n := n) h
    obtain ⟨v0, v1⟩ := sideL_bd d f l n fr zs (n - 1)
    rw [selI_pos g0] at hW
    have hE := fun w => Go.Proofs.Ytmmhekakihimfaa.Edge.spec_edge (sel gtr (nuAt d f l n fr zs) (n - 1)).2 w hbd.1 hbd.2
    rw [← hs] at hE
    have HE := Lib.hid hE
    generalize (sel gtr (nuAt d f l n fr zs) (n - 1)).1 = s1 at *
    generalize (sel gtr (nuAt d f l n fr zs) (n - 1)).2 = s2 at *
    generalize sideL d f l n fr zs (n - 1) = s at *
    have hB1 := fun w' (hw : On w w') => spec_side g n cap b off 0 s1 d f l fr zs w' (hp.on hw) (hw.lts _ hb) (fun j hj => (hw.cell (p := ⟨b, off + j, none⟩) (by exact hb)).trans (hz j hj)) hzn d0 d1 (by omega) (by omega) n1 hcap fr0 fr1
    have hB2 := fun w' (hw : On w w') => spec_side g n cap b off s1 n d f l fr zs w' (hp.on hw) (hw.lts _ hb) (fun j hj => (hw.cell (p := ⟨b, off + j, none⟩) (by exact hb)).trans (hz j hj)) hzn d0 d1 (by omega) (by omega) n1 hcap fr0 fr1
    simp only [Int.natCast_zero] at hB1
    obtain ⟨p0, p1⟩ := sideP_bd d f l fr zs 0 s1
    obtain ⟨p2, p3⟩ := sideP_bd d f l fr zs s1 n
    generalize sideP d f l fr zs 0 s1 = x1 at *
    generalize sideP d f l fr zs s1 n = x2 at *
    have HB1 := Lib.hid hB1
    have HB2 := Lib.hid hB2
    have HW := Lib.hid hW
    have hnn : ¬ ((s1 : Int) < 0) := by omega
    have w1' : IntKind.i64.wrap (s + x1) = s + x1 := IntWalk.i64_in _ (by omega)
    have w2' : IntKind.i64.wrap (s + x1 + x2) = s + x1 + x2 := IntWalk.i64_in _ (by omega)
    have w3' : IntKind.i64.wrap (n : Int) = n := IntWalk.i64_in _ (by omega)
    clear hz hzb hW g0 hp hzn hs hE hB1 hB2 hbd
    by_cases h0 : s = 0
    · have en := Lib.hid (no h0)
      have hb0 : (s == 0) = true := beq_iff_eq.2 h0
      clear no yes h0
      go_enter Try.func64, Try.ntmps64
      go_wp2_with fail
      refine (HW.out _ (by repeat (first | with_reducible exact On.refl _ | apply On.alloc))).mono ?_
      rintro e w1 ⟨rfl, h1⟩
      have HO1 := Lib.hid (show On w w1 by refine On.trans ?_ h1; repeat (first | with_reducible exact On.refl _ | apply On.alloc))
      clear h1
      go_wp2_with fail
      refine (HE.out _).mono ?_
      rintro e w2 ⟨rfl, rfl⟩
      go_wp2_with fail
      go_ret
      exact ⟨ret_int en.out.symm, HO1.out⟩
    · have en := Lib.hid (yes h0)
      have hb0 : (s == 0) = false := beq_eq_false_iff_ne.2 h0
      clear no yes h0
      go_enter Try.func64, Try.ntmps64
      go_wp2_with fail
      refine (HW.out _ (by repeat (first | with_reducible exact On.refl _ | apply On.alloc))).mono ?_
      rintro e w1 ⟨rfl, h1⟩
      have HO1 := Lib.hid (show On w w1 by refine On.trans ?_ h1; repeat (first | with_reducible exact On.refl _ | apply On.alloc))
      obtain ⟨q0, q1, q2, q3⟩ := HP.out.on HO1.out
      have hg1 := World.block_lt_of_cell? w1 _ q0
      clear h1
      go_wp2_with fail
      refine (HE.out _).mono ?_
      rintro e w2 ⟨rfl, rfl⟩
      go_wp2_with fail
      refine wp_region_onh (by kernel_rfl) (by kernel_rfl) ?_
      repeat (refine rest_step (fun K hK => ?_); go_simp; first | (refine hK _ ?_; clear hK K) | (apply Exists.intro; refine ⟨fun v1 hv1 => ?_, hK _ ?_⟩; (first | with_reducible exact rfl | with_reducible exact ⟨rfl, rfl⟩ | with_reducible exact Calls.on_same hv1 (HE.out _) | with_reducible exact Calls.on hv1 (HB1.out _ (On.trans HO1.out hv1)) | with_reducible exact Calls.on hv1 (HB2.out _ (On.trans HO1.out hv1)) | (obtain ⟨hc, hf⟩ := bcell hv1; go_simp; first | with_reducible exact rfl | with_reducible exact ⟨rfl, rfl⟩ | exact rfl | exact ⟨rfl, rfl⟩)); clear hK K))
      refine rest_nil ?_
      intro w3 h3
      go_wp2_with fail
      go_ret
      exact ⟨ret_int en.out.symm, HO1.out.trans h3⟩
end Go.Proofs.Ytmmhekakihimfaa.Nu
