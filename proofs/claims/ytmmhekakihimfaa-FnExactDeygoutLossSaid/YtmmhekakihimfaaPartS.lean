
/-
  A part of a profile, in the model. Condition: at most 65 heights.
-/
import Derived.Test.YtmmhekakihimfaaPartP
import Derived.Test.YtmmhekakihimfaaRaiseS
namespace Go.Proofs.Ytmmhekakihimfaa.Nu
open Go.RowKit
open Plain
open Ints (Ints Own)
open Prof (PIn okP of_okP slice_of off off_bd)

theorem own_put {B n c : Nat} {w : World} {a : Option Addr} {zs : List Int} {p : Addr} (u : Value) (h : Own B w (.slice a n c) zs) (hne : ∀ q, a = some q → q.block ≠ p.block) : Own B (w.setCell p u) (.slice a n c) zs := by
  obtain ⟨a2, c2, he, hh⟩ := h
  refine ⟨a2, c2, he, fun h0 => ?_⟩
  obtain ⟨b, o, h5, h1, h2, h3, h4⟩ := hh h0
  have e : a = a2 := by injection he
  have := hne _ (e.trans h5)
  exact ⟨b, o, h5, h1, by simpa using h2, fun i hi => by rw [World.frozen?_setCell]; exact h3 i hi, fun i hi => (World.cell?_setCell_other (h := fun hc => this (by rw [hc])) ..).trans (h4 i hi)⟩
theorem held_six {W w' : World} {g : Nat} {x0 x1 x2 : Int} {v3 v4 v5 : Value} {q1 q2 : Addr} (P : PRec.In W g x0 x1 x2 v3) (c1 : W.cell? q1 = some v4) (c2 : W.cell? q2 = some v5) (h : On W w') :
    On W w' ∧ w'.cell? ⟨g, 0, none⟩ = some (.int .i64 x0) ∧ w'.cell? ⟨g, 1, none⟩ = some (.int .i64 x1) ∧ w'.cell? ⟨g, 2, none⟩ = some (.int .i64 x2) ∧ w'.cell? ⟨g, 3, none⟩ = some v3 ∧ w'.cell? q1 = some v4 ∧ w'.cell? q2 = some v5 := by
  obtain ⟨a0, a1, a2, a3⟩ := P.on h
  exact ⟨h, a0, a1, a2, a3, (h.cell (World.block_lt_of_cell? _ _ c1)).trans c1, (h.cell (World.block_lt_of_cell? _ _ c2)).trans c2⟩
set_option maxRecDepth 100000 in
set_option maxHeartbeats 4000000 in
theorem spec_l10Part (g n cap b off i k : Nat) (d f l : Int) (zs : List Int) (w : World) (hp : PIn w g d f l (.slice (some ⟨b, off, none⟩) (n + 1) cap)) (hb : b < w.heap.size) (hz : ∀ j, j ≤ n → w.cell? ⟨b, off + j, none⟩ = some (.int .i64 (zs.getD j 0))) (hzn : zs.length = n + 1)
    (d0 : 1 ≤ d) (d1 : d ≤ 283000) (hik : i < k) (hkn : k ≤ n) (n1 : n ≤ 64) (hcap : zs.length ≤ cap) :
    Calls Try.prog 58 #[.pointer (some ⟨g, 0, none⟩), .int .i64 i, .int .i64 k] w fun e w' => ∃ a c, e = .returned (.agg #[.int .i64 (ptD d zs i k), .int .i64 (ptE f l zs i), .int .i64 (ptE f l zs k), .slice a (ptZ zs i k).length c]) ∧ Own w.heap.size w' (.slice a (ptZ zs i k).length c) (ptZ zs i k) ∧ On w w' := by
  have hnn : ((zs.length : Int) - 1) = n := by omega
  have hcl : (ptZ zs i k).length = k + 1 - i := by unfold ptZ; rw [Int.toNat_natCast, Int.toNat_natCast, cut_len (by omega)]
  have hcc := fun j (hj : j < k + 1 - i) => show (ptZ zs i k).getD j 0 = zs.getD (i + j) 0 by unfold ptZ; rw [Int.toNat_natCast, Int.toNat_natCast, cut_at hj]
  have hE1 : ptE f l zs i = endV f l n i (zs.getD i 0) := by unfold ptE; rw [Int.toNat_natCast, hzn]; rfl
  have hE2 : ptE f l zs k = endV f l n k (zs.getD k 0) := by unfold ptE; rw [Int.toNat_natCast, hzn]; rfl
  have hof : ptD d zs i k = Prof.off d n k - Prof.off d n i := by unfold ptD; rw [hnn]
  have hO1 := fun w' (hw : On w w') => Prof.spec_offset g n cap d f l i (some ⟨b, off, none⟩) w' (hp.on hw) d0 d1 (by omega) (by omega) (by omega) (by omega)
  have hO2 := fun w' (hw : On w w') => Prof.spec_offset g n cap d f l k (some ⟨b, off, none⟩) w' (hp.on hw) d0 d1 (by omega) (by omega) (by omega) (by omega)
  obtain ⟨o0, o1⟩ := off_bd (d := d) (n := n) (i := i) (by omega) (by omega) (by omega) (by omega)
  obtain ⟨o2, o3⟩ := off_bd (d := d) (n := n) (i := k) (by omega) (by omega) (by omega) (by omega)
  have hCL := fun w' (hw : On w w') => Clone.spec_own b (off + i) (cap - i) (ptZ zs i k) w' (by omega) (by omega) (hw.lts _ hb) (fun j hj => by rw [hcc j (by omega), Nat.add_assoc]; exact (hw.cell (p := ⟨b, off + (i + j), none⟩) (by exact hb)).trans (hz _ (by omega)))
  rw [hcl] at hCL ⊢
  rw [hE1, hE2, hof]
  have HO1 := Lib.hid hO1
  have HO2 := Lib.hid hO2
  have HCL := Lib.hid hCL
  generalize Prof.off d n i = oi at *
  generalize Prof.off d n k = ok at *
  have eo : IntKind.i64.wrap (ok - oi) = ok - oi := IntWalk.i64_in _ (by omega)
  have hl1 : (i : Int) ≤ (k : Int) + 1 := by omega
  have hl2 : (k : Int) + 1 ≤ (cap : Int) := by omega
  have hl0 : (0 : Int) ≤ (i : Int) := by omega
  have hci : ¬ cap = i := by omega
  have ek : IntKind.i64.wrap ((k : Int) + 1) = (k : Int) + 1 := IntWalk.i64_in _ (by omega)
  have hi1 : (i : Int) < (n : Int) + 1 := by omega
  have hi2 : i < n + 1 := by omega
  have hk1 : (k : Int) < (n : Int) + 1 := by omega
  have hk2 : k < n + 1 := by omega
  have en1 : IntKind.i64.wrap (n : Int) = n := IntWalk.i64_in _ (by omega)
  obtain ⟨zi, hzi⟩ : ∃ zi, zi = zs.getD i 0 := ⟨_, rfl⟩
  obtain ⟨zk, hzk⟩ : ∃ zk, zk = zs.getD k 0 := ⟨_, rfl⟩
  have ci := hz i (by omega)
  have ck := hz k (by omega)
  rw [← hzi] at ci ⊢
  rw [← hzk] at ck ⊢
  obtain ⟨zz, hzz⟩ : ∃ zz, zz = ptZ zs i k := ⟨_, rfl⟩
  rw [← hzz] at HCL hcl ⊢
  have HZL := Lib.hid hcl
  obtain ⟨W, hW⟩ : ∃ W, W = w.alloc (.cells #[.int .i64 0, .int .i64 0, .int .i64 0, .slice none 0 0] 30) := ⟨_, rfl⟩
  have HO := Lib.hid (show On w W by rw [hW]; exact (On.refl w).alloc _)
  have HR := Lib.hid (show PRec.In W w.heap.size 0 0 0 (.slice none 0 0) by rw [hW]; exact ⟨by simp [go_sem], by simp [go_sem], by simp [go_sem], by simp [go_sem]⟩)
  have HF := Lib.hid (show ∀ i, W.frozen? ⟨w.heap.size, i, none⟩ = false by rw [hW]; intro i; simp [go_sem])
  have HP := Lib.hid (show PRec.In W g d f l (.slice (some ⟨b, off, none⟩) (n + 1) cap) from hp.on HO.out)
  have CI := Lib.hid ((HO.out.cell (World.block_lt_of_cell? _ _ ci)).trans ci)
  have CK := Lib.hid ((HO.out.cell (World.block_lt_of_cell? _ _ ck)).trans ck)
  have HW := Lib.hid hW
  clear hz hp hzi hzk hzz hcl hcc hE1 hE2 hof hO1 hO2 hCL hnn hW ci ck
  go_enter Try.func58, Try.ntmps58
  go_upto_region 1 with fail
  rw [← HW.out]
  go_cut [7] (fun sa wx => ∃ g2 a' c', sa = .pointer (some ⟨g2, 0, none⟩) ∧ W.heap.size ≤ g2 ∧ PRec.In wx g2 (ok - oi) zi zk (.slice a' (k + 1 - i) c') ∧ Own W.heap.size wx (.slice a' (k + 1 - i) c') zz ∧ (∀ q, a' = some q → q.block ≠ g2) ∧ (∀ i, wx.frozen? ⟨g2, i, none⟩ = false) ∧ On W wx)
  case first =>
    go_region_held3 (fun w' => On W w' ∧ w'.cell? ⟨g, 0, none⟩ = some (.int .i64 d) ∧ w'.cell? ⟨g, 1, none⟩ = some (.int .i64 f) ∧ w'.cell? ⟨g, 2, none⟩ = some (.int .i64 l) ∧ w'.cell? ⟨g, 3, none⟩ = some (.slice (some ⟨b, off, none⟩) (n + 1) cap) ∧ w'.cell? ⟨b, off + i, none⟩ = some (.int .i64 zi) ∧ w'.cell? ⟨b, off + k, none⟩ = some (.int .i64 zk))
      ((refine held_six HP.out CI.out CK.out ?_; repeat (first | with_reducible exact On.refl _ | with_reducible assumption | apply On.alloc | apply On.drew | (obtain ⟨hOW, _⟩ := ‹On W _ ∧ _›; exact hOW) | (refine On.setCell ?_ (by (try simp) <;> omega) _))))
      (first
        | (go_at_call 78; (first | with_reducible refine (HO1.out _ (On.trans HO.out (by repeat (first | with_reducible exact On.refl _ | with_reducible assumption | apply On.alloc | apply On.drew | (refine On.setCell ?_ (by (try simp) <;> omega) _))))).mono ?_ | with_reducible refine (HO2.out _ (On.trans HO.out (by repeat (first | with_reducible exact On.refl _ | with_reducible assumption | apply On.alloc | apply On.drew | (refine On.setCell ?_ (by (try simp) <;> omega) _))))).mono ?_); rintro e w' ⟨rfl, hcall⟩; (have hx : On W w' := by refine On.trans ?_ hcall; repeat (first | with_reducible exact On.refl _ | with_reducible assumption | apply On.alloc | apply On.drew | (refine On.setCell ?_ (by (try simp) <;> omega) _))); (have hsx := hx.size); (try (with_reducible replace hcall := PRec.On.undrew hcall)); obtain ⟨hc, hf⟩ := bcell hcall; have hgr := hcall.lts; (try (have hl1 := hgr _ (by assumption))); (try (have hl0 := PRec.On.last hcall)))
        | (go_at_call 72; refine (HCL.out _ (On.trans HO.out (by repeat (first | with_reducible exact On.refl _ | with_reducible assumption | apply On.alloc | apply On.drew | (refine On.setCell ?_ (by (try simp) <;> omega) _))))).mono ?_; rintro e w' ⟨a', c', rfl, hown, hcall⟩; (have hx : On W w' := by refine On.trans ?_ hcall; repeat (first | with_reducible exact On.refl _ | with_reducible assumption | apply On.alloc | apply On.drew | (refine On.setCell ?_ (by (try simp) <;> omega) _))); (have hown2 := hown.mono (B' := W.heap.size) (by refine Below.size (B := W.heap.size) (w := W) (show On W _ from ?_); repeat (first | with_reducible exact On.refl _ | with_reducible assumption | apply On.alloc | apply On.drew | (refine On.setCell ?_ (by (try simp) <;> omega) _)))); (have hsx := hx.size); (try (with_reducible replace hcall := PRec.On.undrew hcall)); obtain ⟨hc, hf⟩ := bcell hcall; have hgr := hcall.lts; (try (have hl1 := hgr _ (by assumption))); (try (have hl0 := PRec.On.last hcall)); have hsz := hcall.size; (try simp at hsz)))
    all_goals
      go_wp2_with fail
      go_meet
      have hown' := hown
      rw [← HZL.out] at hown'
      have hz0 : 0 < zz.length := by rw [HZL.out]; omega
      refine ⟨_, a', c', rfl, ?_, ?_, ?_, ?_, ?_, ?_⟩
      · (try simp) <;> omega
      · refine ⟨?_, ?_, ?_, ?_⟩ <;> first | (simp [go_sem]; done) | (go_simp; done) | simp [go_sem, hc]
      · first | exact (hown2.below (On.alloc (On.refl _) _)) | exact ((((hown.setCell (by (try simp) <;> omega) _).setCell (by (try simp) <;> omega) _).setCell (by (try simp) <;> omega) _).setCell (by (try simp) <;> omega) _).mono (by (try simp) <;> omega)
      · intro q hq
        have e1 := PRec.own_block rfl hown' hz0 q hq
        have e2 := PRec.own_ge rfl hown' hz0 q hq
        simp at e1 e2 ⊢
        omega
      · intro j
        first | (simp [go_sem]; done) | (go_simp; done) | (simp only [World.frozen?_setCell]; go_simp; done)
      · obtain ⟨hOW, _⟩ := ‹On W _ ∧ _›
        exact hOW
  case rest =>
    obtain ⟨g2, a', c', rfl, hgw, hI, ho, hne, hfz, hOx⟩ := hcut
    have HOx := Lib.hid hOx
    have HI := Lib.hid hI
    have HW2 := Lib.hid ho
    have HNE := Lib.hid hne
    have hgl := World.block_lt_of_cell? _ _ hI.1
    have hWw : w.heap.size < W.heap.size := World.block_lt_of_cell? _ _ HR.out.1
    have hgW : g < W.heap.size := World.block_lt_of_cell? _ _ HP.out.1
    obtain ⟨i0, i1, i2, i3⟩ := HI.out
    obtain ⟨p0, p1, p2, p3⟩ := HP.out.on hOx
    obtain ⟨r0, r1, r2, r3⟩ := HR.out.on hOx
    have hgp := World.block_lt_of_cell? wc _ p0
    have hgr := World.block_lt_of_cell? wc _ r0
    have k0 := (hOx.frozen (p := ⟨w.heap.size, 0, none⟩) (by exact hWw)).trans (HF.out 0)
    have k1 := (hOx.frozen (p := ⟨w.heap.size, 1, none⟩) (by exact hWw)).trans (HF.out 1)
    have k2 := (hOx.frozen (p := ⟨w.heap.size, 2, none⟩) (by exact hWw)).trans (HF.out 2)
    have k3 := (hOx.frozen (p := ⟨w.heap.size, 3, none⟩) (by exact hWw)).trans (HF.out 3)
    have q1 := hfz 1
    have q2 := hfz 2
    have hne1 : g2 ≠ w.heap.size := by omega
    have hne2 : g2 ≠ g := by omega
    clear hI ho hne hfz hOx
    by_cases h0 : i = 0
    · by_cases h1 : k = n
      · have E1 := Lib.hid (show endV f l n i zi = f by unfold endV; rw [if_pos h0])
        have E2 := Lib.hid (show endV f l n k zk = l by unfold endV; rw [if_neg (by omega), if_pos h1])
        have hb0 : ((i : Int) == 0) = true := beq_iff_eq.2 (by omega)
        have hb1 : ((k : Int) == (n : Int)) = true := beq_iff_eq.2 (by omega)
        clear h0 h1
        go_wp2_with fail
        rw [E1.out, E2.out]
        refine bodyPost_ret (v := .agg #[.int .i64 (ok - oi), .int .i64 f, .int .i64 l, .slice a' (k + 1 - i) c']) (by simp [results, Try.results58, go_sem, r0, r1, r2, r3]) rfl ⟨a', c', rfl, ?_, ?_⟩
        · refine Own.mono (B := W.heap.size) ?_ (by omega)
          refine Own.setCell (Own.setCell (Own.setCell (Own.setCell ?_ (by (try simp) <;> omega) _) (by (try simp) <;> omega) _) (by (try simp) <;> omega) _) (by (try simp) <;> omega) _
          repeat (first | with_reducible exact HW2.out | refine own_put _ ?_ HNE.out)
        · repeat (first | with_reducible exact HO.out.trans HOx.out | refine On.setCell ?_ (by (try simp) <;> omega) _)
      · have E1 := Lib.hid (show endV f l n i zi = f by unfold endV; rw [if_pos h0])
        have E2 := Lib.hid (show endV f l n k zk = zk by unfold endV; rw [if_neg (by omega), if_neg h1])
        have hb0 : ((i : Int) == 0) = true := beq_iff_eq.2 (by omega)
        have hb1 : ((k : Int) == (n : Int)) = false := beq_eq_false_iff_ne.2 (by omega)
        clear h0 h1
        go_wp2_with fail
        rw [E1.out, E2.out]
        refine bodyPost_ret (v := .agg #[.int .i64 (ok - oi), .int .i64 f, .int .i64 zk, .slice a' (k + 1 - i) c']) (by simp [results, Try.results58, go_sem, r0, r1, r2, r3]) rfl ⟨a', c', rfl, ?_, ?_⟩
        · refine Own.mono (B := W.heap.size) ?_ (by omega)
          refine Own.setCell (Own.setCell (Own.setCell (Own.setCell ?_ (by (try simp) <;> omega) _) (by (try simp) <;> omega) _) (by (try simp) <;> omega) _) (by (try simp) <;> omega) _
          repeat (first | with_reducible exact HW2.out | refine own_put _ ?_ HNE.out)
        · repeat (first | with_reducible exact HO.out.trans HOx.out | refine On.setCell ?_ (by (try simp) <;> omega) _)
    · by_cases h1 : k = n
      · have E1 := Lib.hid (show endV f l n i zi = zi by unfold endV; rw [if_neg h0, if_neg (by omega)])
        have E2 := Lib.hid (show endV f l n k zk = l by unfold endV; rw [if_neg (by omega), if_pos h1])
        have hb0 : ((i : Int) == 0) = false := beq_eq_false_iff_ne.2 (by omega)
        have hb1 : ((k : Int) == (n : Int)) = true := beq_iff_eq.2 (by omega)
        clear h0 h1
        go_wp2_with fail
        rw [E1.out, E2.out]
        refine bodyPost_ret (v := .agg #[.int .i64 (ok - oi), .int .i64 zi, .int .i64 l, .slice a' (k + 1 - i) c']) (by simp [results, Try.results58, go_sem, r0, r1, r2, r3]) rfl ⟨a', c', rfl, ?_, ?_⟩
        · refine Own.mono (B := W.heap.size) ?_ (by omega)
          refine Own.setCell (Own.setCell (Own.setCell (Own.setCell ?_ (by (try simp) <;> omega) _) (by (try simp) <;> omega) _) (by (try simp) <;> omega) _) (by (try simp) <;> omega) _
          repeat (first | with_reducible exact HW2.out | refine own_put _ ?_ HNE.out)
        · repeat (first | with_reducible exact HO.out.trans HOx.out | refine On.setCell ?_ (by (try simp) <;> omega) _)
      · have E1 := Lib.hid (show endV f l n i zi = zi by unfold endV; rw [if_neg h0, if_neg (by omega)])
        have E2 := Lib.hid (show endV f l n k zk = zk by unfold endV; rw [if_neg (by omega), if_neg h1])
        have hb0 : ((i : Int) == 0) = false := beq_eq_false_iff_ne.2 (by omega)
        have hb1 : ((k : Int) == (n : Int)) = false := beq_eq_false_iff_ne.2 (by omega)
        clear h0 h1
        go_wp2_with fail
        rw [E1.out, E2.out]
        refine bodyPost_ret (v := .agg #[.int .i64 (ok - oi), .int .i64 zi, .int .i64 zk, .slice a' (k + 1 - i) c']) (by simp [results, Try.results58, go_sem, r0, r1, r2, r3]) rfl ⟨a', c', rfl, ?_, ?_⟩
        · refine Own.mono (B := W.heap.size) ?_ (by omega)
          refine Own.setCell (Own.setCell (Own.setCell (Own.setCell ?_ (by (try simp) <;> omega) _) (by (try simp) <;> omega) _) (by (try simp) <;> omega) _) (by (try simp) <;> omega) _
          repeat (first | with_reducible exact HW2.out | refine own_put _ ?_ HNE.out)
        · repeat (first | with_reducible exact HO.out.trans HOx.out | refine On.setCell ?_ (by (try simp) <;> omega) _)
end Go.Proofs.Ytmmhekakihimfaa.Nu
