
/-
  Whether a list of channels solves a problem, and its violations, in the model and in the program. Condition: at most 1048576 lists of at most 1048576 numbers.
-/
import Derived.Test.YtofoffdmhekceaaBrk
namespace Go.Proofs.Ytofoffdmhekceaa.Asg
open Go.RowKit
open Plain
open Ints (Ints)
open Prb (T)
open Con
open Mats (OwnX)

theorem ret_sl {a : Option Addr} {n c : Nat} {x y : Int} (h : x = y) : Ending.returned (.tuple #[.slice a n c, .int .i64 x]) = .returned (.tuple #[.slice a n c, .int .i64 y]) := by rw [h]
def asgB (N : T) (zs : List Int) : Bool := okB N && (fitsB N zs && decide ((brk N zs).length = 0))
theorem asg_ok {N : T} {zs : List Int} (h : okB N = false) : asgB N zs = false := by unfold asgB; rw [h]; rfl
theorem asg_fit {N : T} {zs : List Int} (h : fitsB N zs = false) : asgB N zs = false := by unfold asgB; rw [h, Bool.false_and, Bool.and_false]
theorem asg_yes {N : T} {zs : List Int} (h : okB N = true) (k : fitsB N zs = true) : asgB N zs = decide ((brk N zs).length = 0) := by unfold asgB; rw [h, k]; rfl
def vioV (N : T) (zs : List Int) : List (List Int) := if okB N = true ∧ fitsB N zs = true then brk N zs else []
def vioC (N : T) (zs : List Int) : Int := if okB N = true then (if fitsB N zs = true then 0 else 6) else 1
theorem vio_ok {N : T} {zs : List Int} (h : okB N = false) : vioV N zs = [] ∧ vioC N zs = 1 := ⟨if_neg (by rw [h]; rintro ⟨h, -⟩; cases h), if_neg (by rw [h]; intro h; cases h)⟩
theorem vio_fit {N : T} {zs : List Int} (h : okB N = true) (k : fitsB N zs = false) : vioV N zs = [] ∧ vioC N zs = 6 := ⟨if_neg (by rw [k]; rintro ⟨-, h⟩; cases h), by unfold vioC; rw [if_pos h, if_neg (by rw [k]; intro h; cases h)]⟩
theorem vio_yes {N : T} {zs : List Int} (h : okB N = true) (k : fitsB N zs = true) : vioV N zs = brk N zs ∧ vioC N zs = 0 := ⟨if_pos ⟨h, k⟩, by unfold vioC; rw [if_pos h, if_pos k]⟩
theorem vio_tot (N : T) (zs : List Int) : (vioV N zs).length ≤ 576 ∧ Mats.tot (vioV N zs) ≤ 1152 ∧ ∀ i, i < (vioV N zs).length → ((vioV N zs).getD i []).length ≤ 1048576 := by
  by_cases h : okB N = true ∧ fitsB N zs = true
  · have hn : zs.length ≤ 24 := by rw [(fits_bd (ok_of h.1) h.2).1]; exact (ok_of h.1).n2
    rw [show vioV N zs = brk N zs from if_pos h]
    exact ⟨brk_len hn, brk_tot hn, fun i hi => by rw [brk_row i hi]; decide⟩
  · rw [show vioV N zs = [] from if_neg h]
    exact ⟨by simp, by simp [Mats.tot, Mats.pre], fun i hi => by simp at hi⟩
set_option maxHeartbeats 4000000 in
theorem spec_ValidAssignment (u : Value) (N : T) (v : Value) (zs : List Int) (w : World) (hs : N.Small 1048576) (hz : zs.length ≤ 1048576) (h : Prb.Is w u N) (hl : Ints w v zs) :
    Calls Try.prog 17 #[u, v] w fun e w' => e = .returned (.bool (asgB N zs)) ∧ On w w' := by
  obtain ⟨a0, a1, c0, c1, rfl, r0, r1⟩ := Is.shape h
  have HO := Lib.hid (On.alloc (On.refl w) (.cells #[.slice a0 N.f0.length c0, .slice a1 N.f1.length c1] 27 (0, 0)))
  have HA := Lib.hid (show At (w.alloc (.cells #[.slice a0 N.f0.length c0, .slice a1 N.f1.length c1] 27 (0, 0))) w.heap.size N a0 a1 c0 c1 from ⟨by simp, by simp [go_sem], by simp [go_sem], r0.below HO.out, r1.below HO.out⟩)
  have HL := Lib.hid (hl.below HO.out)
  have H1 := Lib.hid (spec_ok w.heap.size N a0 a1 c0 c1 _ hs HA.out)
  have H2 := Lib.hid (fun w1 (h1 : On _ w1) => spec_fits w.heap.size N a0 a1 c0 c1 v zs w1 hs hz (HA.out.on h1) (HL.out.below h1))
  have H3 := Lib.hid (fun w1 (h1 : On _ w1) (q : okB N = true ∧ fitsB N zs = true) => spec_broken w.heap.size N a0 a1 c0 c1 v zs w1 (ok_of q.1) (fits_bd (ok_of q.1) q.2).1 (fits_bd (ok_of q.1) q.2).2 (HA.out.on h1) (HL.out.below h1))
  have HZ := Lib.hid hz
  obtain ⟨a, cap, rfl, -⟩ := hl
  obtain ⟨m, hm⟩ : ∃ m, m = zs.length := ⟨_, rfl⟩
  have HM := Lib.hid hm
  rw [← hm] at H2 H3 ⊢
  clear h hm hs hz
  clear r0 r1
  cases hok : okB N with
  | false =>
    rw [hok] at H1
    have en := Lib.hid (asg_ok (zs := zs) hok)
    clear hok
    go_enter Try.func17, Try.ntmps17
    go_wp2_with fail
    refine (H1.out).mono ?_
    rintro e w1 ⟨rfl, g1⟩
    have HG := Lib.hid g1
    clear g1
    go_wp2_with fail
    go_ret
    exact ⟨ret_bool en.out.symm, (HO.out.trans HG.out)⟩
  | true =>
    rw [hok] at H1
    cases hfit : fitsB N zs with
    | false =>
      rw [hfit] at H2
      have en := Lib.hid (asg_fit (N := N) hfit)
      clear hok hfit
      go_enter Try.func17, Try.ntmps17
      go_wp2_with fail
      refine (H1.out).mono ?_
      rintro e w1 ⟨rfl, g1⟩
      have HG := Lib.hid g1
      clear g1
      go_wp2_with fail
      refine (H2.out _ HG.out).mono ?_
      rintro e w2 ⟨rfl, g2⟩
      have HG2 := Lib.hid (HG.out.trans g2)
      clear g2
      go_wp2_with fail
      go_ret
      exact ⟨ret_bool en.out.symm, (HO.out.trans HG2.out)⟩
    | true =>
      rw [hfit] at H2
      have en := Lib.hid (asg_yes hok hfit)
      have H4 := Lib.hid (fun w1 (h1 : On _ w1) => H3.out w1 h1 ⟨hok, hfit⟩)
      clear hok hfit H3
      go_enter Try.func17, Try.ntmps17
      go_wp2_with fail
      refine (H1.out).mono ?_
      rintro e w1 ⟨rfl, g1⟩
      have HG := Lib.hid g1
      clear g1
      go_wp2_with fail
      refine (H2.out _ HG.out).mono ?_
      rintro e w2 ⟨rfl, g2⟩
      have HG2 := Lib.hid (HG.out.trans g2)
      clear g2
      go_wp2_with fail
      refine (H4.out _ HG2.out).mono ?_
      rintro e w3 ⟨a3, c3, rfl, hx, g3⟩
      have HG3 := Lib.hid (HG2.out.trans g3)
      have HX := Lib.hid hx
      clear g3 hx
      obtain ⟨l, hl⟩ : ∃ l, l = (brk N zs).length := ⟨_, rfl⟩
      have EN := Lib.hid (show asgB N zs = decide (l = 0) by rw [hl]; exact en.out)
      rw [← hl]
      clear hl HX
      by_cases h0 : l = 0
      · subst h0
        go_wp2_with fail
        go_ret
        exact ⟨ret_bool (EN.out.trans (by simp)).symm, (HO.out.trans HG3.out)⟩
      · have z1 : ((l : Int) == 0) = false := beq_eq_false_iff_ne.2 (by omega)
        have z2 : (l == 0) = false := beq_eq_false_iff_ne.2 h0
        go_wp2_with fail
        go_ret
        exact ⟨ret_bool (EN.out.trans (decide_eq_false h0)).symm, (HO.out.trans HG3.out)⟩
set_option maxHeartbeats 4000000 in
theorem impl_ValidAssignment (u : Value) (N : T) (v : Value) (zs : List Int) (w : World) (hs : N.Small 1048576) (hz : zs.length ≤ 1048576) (h : Prb.Is w u N) (hl : Ints w v zs) :
    Calls Try.prog 19 #[u, v] w fun e w' => e = .returned (.bool (asgB N zs)) ∧ On w w' := by
  have H1 := Lib.hid (fun w1 (h1 : On w w1) => impl_ValidProblem u N w1 hs (h.on h1))
  have H2 := Lib.hid (fun w1 (h1 : On w w1) => impl_fits u N v zs w1 hs hz (h.on h1) (hl.below h1))
  have H3 := Lib.hid (fun w1 (h1 : On w w1) (q : okB N = true ∧ fitsB N zs = true) => impl_violations u N v zs w1 (ok_of q.1) (fits_bd (ok_of q.1) q.2).1 (fits_bd (ok_of q.1) q.2).2 (h.on h1) (hl.below h1))
  obtain ⟨a0, a1, c0, c1, rfl, -, -⟩ := Is.shape h
  have HZ := Lib.hid hz
  obtain ⟨a, cap, rfl, -⟩ := hl
  obtain ⟨m, hm⟩ : ∃ m, m = zs.length := ⟨_, rfl⟩
  have HM := Lib.hid hm
  rw [← hm] at H2 H3 ⊢
  clear h hm hs hz
  obtain ⟨n0, hn0⟩ : ∃ n, n = N.f0.length := ⟨_, rfl⟩
  obtain ⟨n1, hn1⟩ : ∃ n, n = N.f1.length := ⟨_, rfl⟩
  rw [← hn0, ← hn1] at H1 H2 H3 ⊢
  clear hn0 hn1
  cases hok : okB N with
  | false =>
    rw [hok] at H1
    have en := Lib.hid (asg_ok (zs := zs) hok)
    clear hok
    go_enter Try.func19, Try.ntmps19
    go_wp2_with fail
    refine (H1.out _ (by repeat (first | with_reducible exact On.refl _ | with_reducible apply On.alloc))).mono ?_
    rintro e w1 ⟨rfl, g1⟩
    have HG := Lib.hid (show On w w1 by refine On.trans ?_ g1; repeat (first | with_reducible exact On.refl _ | with_reducible apply On.alloc))
    obtain ⟨hcc, hff⟩ := bcell g1
    have s0 : w.heap.size < w1.heap.size := by have := g1.size; simp at this; omega
    clear g1
    go_wp2_with fail
    go_ret
    exact ⟨ret_bool en.out.symm, HG.out⟩
  | true =>
    rw [hok] at H1
    cases hfit : fitsB N zs with
    | false =>
      rw [hfit] at H2
      have en := Lib.hid (asg_fit (N := N) hfit)
      clear hok hfit
      go_enter Try.func19, Try.ntmps19
      go_wp2_with fail
      refine (H1.out _ (by repeat (first | with_reducible exact On.refl _ | with_reducible apply On.alloc))).mono ?_
      rintro e w1 ⟨rfl, g1⟩
      have HG := Lib.hid (show On w w1 by refine On.trans ?_ g1; repeat (first | with_reducible exact On.refl _ | with_reducible apply On.alloc))
      obtain ⟨hcc, hff⟩ := bcell g1
      have s0 : w.heap.size < w1.heap.size := by have := g1.size; simp at this; omega
      clear g1
      go_wp2_with fail
      refine (H2.out _ HG.out).mono ?_
      rintro e w2 ⟨rfl, g2⟩
      have HG2 := Lib.hid (HG.out.trans g2)
      clear g2
      go_wp2_with fail
      go_ret
      exact ⟨ret_bool en.out.symm, HG2.out⟩
    | true =>
      rw [hfit] at H2
      have en := Lib.hid (asg_yes hok hfit)
      have H4 := Lib.hid (fun w1 (h1 : On _ w1) => H3.out w1 h1 ⟨hok, hfit⟩)
      clear hok hfit H3
      go_enter Try.func19, Try.ntmps19
      go_wp2_with fail
      refine (H1.out _ (by repeat (first | with_reducible exact On.refl _ | with_reducible apply On.alloc))).mono ?_
      rintro e w1 ⟨rfl, g1⟩
      have HG := Lib.hid (show On w w1 by refine On.trans ?_ g1; repeat (first | with_reducible exact On.refl _ | with_reducible apply On.alloc))
      obtain ⟨hcc, hff⟩ := bcell g1
      have s0 : w.heap.size < w1.heap.size := by have := g1.size; simp at this; omega
      clear g1
      go_wp2_with fail
      refine (H2.out _ HG.out).mono ?_
      rintro e w2 ⟨rfl, g2⟩
      have HG2 := Lib.hid (HG.out.trans g2)
      obtain ⟨hcc2, hff2⟩ := bcell g2
      have s2 : w.heap.size < w2.heap.size := by have := g2.size; omega
      clear g2
      go_wp2_with fail
      refine (H4.out _ HG2.out).mono ?_
      rintro e w3 ⟨a3, c3, rfl, hx, g3⟩
      have HG3 := Lib.hid (HG2.out.trans g3)
      have HX := Lib.hid hx
      clear g3 hx
      obtain ⟨l, hl⟩ : ∃ l, l = (brk N zs).length := ⟨_, rfl⟩
      have EN := Lib.hid (show asgB N zs = decide (l = 0) by rw [hl]; exact en.out)
      rw [← hl]
      clear hl HX
      by_cases h0 : l = 0
      · subst h0
        go_wp2_with fail
        go_ret
        exact ⟨ret_bool (EN.out.trans (by simp)).symm, HG3.out⟩
      · have z1 : ((l : Int) == 0) = false := beq_eq_false_iff_ne.2 (by omega)
        have z2 : (l == 0) = false := beq_eq_false_iff_ne.2 h0
        go_wp2_with fail
        go_ret
        exact ⟨ret_bool (EN.out.trans (decide_eq_false h0)).symm, HG3.out⟩
set_option maxHeartbeats 4000000 in
theorem spec_Violations (u : Value) (N : T) (v : Value) (zs : List Int) (w : World) (hs : N.Small 1048576) (hz : zs.length ≤ 1048576) (h : Prb.Is w u N) (hl : Ints w v zs) :
    Calls Try.prog 21 #[u, v] w fun e w' => ∃ a c, e = .returned (.tuple #[.slice a (vioV N zs).length c, .int .i64 (vioC N zs)]) ∧ OwnX w.heap.size w'.heap.size w' (.slice a (vioV N zs).length c) (vioV N zs) ∧ On w w' := by
  obtain ⟨a0, a1, c0, c1, rfl, r0, r1⟩ := Is.shape h
  have HO := Lib.hid (On.alloc (On.refl w) (.cells #[.slice a0 N.f0.length c0, .slice a1 N.f1.length c1] 27 (0, 0)))
  have HA := Lib.hid (show At (w.alloc (.cells #[.slice a0 N.f0.length c0, .slice a1 N.f1.length c1] 27 (0, 0))) w.heap.size N a0 a1 c0 c1 from ⟨by simp, by simp [go_sem], by simp [go_sem], r0.below HO.out, r1.below HO.out⟩)
  have HL := Lib.hid (hl.below HO.out)
  have H1 := Lib.hid (spec_ok w.heap.size N a0 a1 c0 c1 _ hs HA.out)
  have H2 := Lib.hid (fun w1 (h1 : On _ w1) => spec_fits w.heap.size N a0 a1 c0 c1 v zs w1 hs hz (HA.out.on h1) (HL.out.below h1))
  have H3 := Lib.hid (fun w1 (h1 : On _ w1) (q : okB N = true ∧ fitsB N zs = true) => spec_broken w.heap.size N a0 a1 c0 c1 v zs w1 (ok_of q.1) (fits_bd (ok_of q.1) q.2).1 (fits_bd (ok_of q.1) q.2).2 (HA.out.on h1) (HL.out.below h1))
  have HZ := Lib.hid hz
  obtain ⟨a, cap, rfl, -⟩ := hl
  obtain ⟨m, hm⟩ : ∃ m, m = zs.length := ⟨_, rfl⟩
  have HM := Lib.hid hm
  rw [← hm] at H2 H3 ⊢
  clear h hm hs hz
  clear r0 r1
  cases hok : okB N with
  | false =>
    rw [hok] at H1
    have en := Lib.hid (vio_ok (zs := zs) hok)
    clear hok
    go_enter Try.func21, Try.ntmps21
    go_wp2_with fail
    refine (H1.out).mono ?_
    rintro e w1 ⟨rfl, g1⟩
    have HG := Lib.hid g1
    clear g1
    go_wp2_with fail
    go_ret2
    exact ⟨none, 0, by rw [en.out.1, en.out.2]; rfl, by rw [en.out.1]; exact OwnX.empty _ _ _ _ _, (HO.out.trans HG.out)⟩
  | true =>
    rw [hok] at H1
    cases hfit : fitsB N zs with
    | false =>
      rw [hfit] at H2
      have en := Lib.hid (vio_fit hok hfit)
      clear hok hfit
      go_enter Try.func21, Try.ntmps21
      go_wp2_with fail
      refine (H1.out).mono ?_
      rintro e w1 ⟨rfl, g1⟩
      have HG := Lib.hid g1
      clear g1
      go_wp2_with fail
      refine (H2.out _ HG.out).mono ?_
      rintro e w2 ⟨rfl, g2⟩
      have HG2 := Lib.hid (HG.out.trans g2)
      clear g2
      go_wp2_with fail
      go_ret2
      exact ⟨none, 0, by rw [en.out.1, en.out.2]; rfl, by rw [en.out.1]; exact OwnX.empty _ _ _ _ _, (HO.out.trans HG2.out)⟩
    | true =>
      rw [hfit] at H2
      have en := Lib.hid (vio_yes hok hfit)
      have H4 := Lib.hid (fun w1 (h1 : On _ w1) => H3.out w1 h1 ⟨hok, hfit⟩)
      clear hok hfit H3
      go_enter Try.func21, Try.ntmps21
      go_wp2_with fail
      refine (H1.out).mono ?_
      rintro e w1 ⟨rfl, g1⟩
      have HG := Lib.hid g1
      clear g1
      go_wp2_with fail
      refine (H2.out _ HG.out).mono ?_
      rintro e w2 ⟨rfl, g2⟩
      have HG2 := Lib.hid (HG.out.trans g2)
      clear g2
      go_wp2_with fail
      refine (H4.out _ HG2.out).mono ?_
      rintro e w3 ⟨a3, c3, rfl, hx, g3⟩
      have HG3 := Lib.hid (HG2.out.trans g3)
      have HX := Lib.hid hx
      clear g3 hx
      go_wp2_with fail
      go_ret2
      exact ⟨_, _, by rw [en.out.1, en.out.2]; rfl, by rw [en.out.1]; exact HX.out.mono (Nat.le_trans HO.out.size HG2.out.size) (Nat.le_refl _), (HO.out.trans HG3.out)⟩
set_option maxHeartbeats 4000000 in
theorem impl_Violations (u : Value) (N : T) (v : Value) (zs : List Int) (w : World) (hs : N.Small 1048576) (hz : zs.length ≤ 1048576) (h : Prb.Is w u N) (hl : Ints w v zs) :
    Calls Try.prog 22 #[u, v] w fun e w' => ∃ a c, e = .returned (.tuple #[.slice a (vioV N zs).length c, .int .i64 (vioC N zs)]) ∧ OwnX w.heap.size w'.heap.size w' (.slice a (vioV N zs).length c) (vioV N zs) ∧ On w w' := by
  have H1 := Lib.hid (fun w1 (h1 : On w w1) => impl_ValidProblem u N w1 hs (h.on h1))
  have H2 := Lib.hid (fun w1 (h1 : On w w1) => impl_fits u N v zs w1 hs hz (h.on h1) (hl.below h1))
  have H3 := Lib.hid (fun w1 (h1 : On w w1) (q : okB N = true ∧ fitsB N zs = true) => impl_violations u N v zs w1 (ok_of q.1) (fits_bd (ok_of q.1) q.2).1 (fits_bd (ok_of q.1) q.2).2 (h.on h1) (hl.below h1))
  obtain ⟨a0, a1, c0, c1, rfl, -, -⟩ := Is.shape h
  have HZ := Lib.hid hz
  obtain ⟨a, cap, rfl, -⟩ := hl
  obtain ⟨m, hm⟩ : ∃ m, m = zs.length := ⟨_, rfl⟩
  have HM := Lib.hid hm
  rw [← hm] at H2 H3 ⊢
  clear h hm hs hz
  obtain ⟨n0, hn0⟩ : ∃ n, n = N.f0.length := ⟨_, rfl⟩
  obtain ⟨n1, hn1⟩ : ∃ n, n = N.f1.length := ⟨_, rfl⟩
  rw [← hn0, ← hn1] at H1 H2 H3 ⊢
  clear hn0 hn1
  cases hok : okB N with
  | false =>
    rw [hok] at H1
    have en := Lib.hid (vio_ok (zs := zs) hok)
    clear hok
    go_enter Try.func22, Try.ntmps22
    go_wp2_with fail
    refine (H1.out _ (by repeat (first | with_reducible exact On.refl _ | with_reducible apply On.alloc))).mono ?_
    rintro e w1 ⟨rfl, g1⟩
    have HG := Lib.hid (show On w w1 by refine On.trans ?_ g1; repeat (first | with_reducible exact On.refl _ | with_reducible apply On.alloc))
    obtain ⟨hcc, hff⟩ := bcell g1
    have s0 : w.heap.size < w1.heap.size := by have := g1.size; simp at this; omega
    clear g1
    go_wp2_with fail
    go_ret2
    exact ⟨none, 0, by rw [en.out.1, en.out.2]; rfl, by rw [en.out.1]; exact OwnX.empty _ _ _ _ _, HG.out⟩
  | true =>
    rw [hok] at H1
    cases hfit : fitsB N zs with
    | false =>
      rw [hfit] at H2
      have en := Lib.hid (vio_fit hok hfit)
      clear hok hfit
      go_enter Try.func22, Try.ntmps22
      go_wp2_with fail
      refine (H1.out _ (by repeat (first | with_reducible exact On.refl _ | with_reducible apply On.alloc))).mono ?_
      rintro e w1 ⟨rfl, g1⟩
      have HG := Lib.hid (show On w w1 by refine On.trans ?_ g1; repeat (first | with_reducible exact On.refl _ | with_reducible apply On.alloc))
      obtain ⟨hcc, hff⟩ := bcell g1
      have s0 : w.heap.size < w1.heap.size := by have := g1.size; simp at this; omega
      clear g1
      go_wp2_with fail
      refine (H2.out _ HG.out).mono ?_
      rintro e w2 ⟨rfl, g2⟩
      have HG2 := Lib.hid (HG.out.trans g2)
      clear g2
      go_wp2_with fail
      go_ret2
      exact ⟨none, 0, by rw [en.out.1, en.out.2]; rfl, by rw [en.out.1]; exact OwnX.empty _ _ _ _ _, HG2.out⟩
    | true =>
      rw [hfit] at H2
      have en := Lib.hid (vio_yes hok hfit)
      have H4 := Lib.hid (fun w1 (h1 : On _ w1) => H3.out w1 h1 ⟨hok, hfit⟩)
      clear hok hfit H3
      go_enter Try.func22, Try.ntmps22
      go_wp2_with fail
      refine (H1.out _ (by repeat (first | with_reducible exact On.refl _ | with_reducible apply On.alloc))).mono ?_
      rintro e w1 ⟨rfl, g1⟩
      have HG := Lib.hid (show On w w1 by refine On.trans ?_ g1; repeat (first | with_reducible exact On.refl _ | with_reducible apply On.alloc))
      obtain ⟨hcc, hff⟩ := bcell g1
      have s0 : w.heap.size < w1.heap.size := by have := g1.size; simp at this; omega
      clear g1
      go_wp2_with fail
      refine (H2.out _ HG.out).mono ?_
      rintro e w2 ⟨rfl, g2⟩
      have HG2 := Lib.hid (HG.out.trans g2)
      obtain ⟨hcc2, hff2⟩ := bcell g2
      have s2 : w.heap.size < w2.heap.size := by have := g2.size; omega
      clear g2
      go_wp2_with fail
      refine (H4.out _ HG2.out).mono ?_
      rintro e w3 ⟨a3, c3, rfl, hx, g3⟩
      have HG3 := Lib.hid (HG2.out.trans g3)
      have HX := Lib.hid hx
      clear g3 hx
      go_wp2_with fail
      go_ret2
      exact ⟨_, _, by rw [en.out.1, en.out.2]; rfl, by rw [en.out.1]; exact HX.out.mono HG2.out.size (Nat.le_refl _), HG3.out⟩
end Go.Proofs.Ytofoffdmhekceaa.Asg
