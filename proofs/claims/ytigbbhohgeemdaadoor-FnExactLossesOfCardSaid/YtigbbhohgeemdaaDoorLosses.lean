
/-
  The losses of a path, in the model and in the program. Condition: at most 1048576 classes and heights; the program's variables of spans and of surroundings hold what their texts lay.
-/
import Derived.Test.YtigbbhohgeemdaaDoorLossX
import Derived.Test.YtigbbhohgeemdaaDoorTail
namespace Go.Proofs.YtigbbhohgeemdaaDoor.Losses
open Go.RowKit
open Plain
open Span (SpanG)
open Surr (SurrG)
open Ints (Ints)

def classB (c : Int) : Bool := inB c 0 7
def aboveB (c : Int) : Bool := inB c 0 90000
def okL (f d r : Int) (cs hs : List Int) : Bool := inB f 1 100000000 && (inB d 1 283000 && (inB r 0 200 && (cs.all classB && hs.all aboveB)))
def codeL (f d r : Int) (cs hs : List Int) : Int := if cs.length = 2 ∧ hs.length = 2 then (if okL f d r cs hs = true then 0 else 2) else 6
def clutL (f : Int) (cs hs : List Int) : Int := clutV (cs.getD 0 0).toNat f (hs.getD 0 0) + clutV (cs.getD 1 0).toNat f (hs.getD 1 0)
noncomputable def pathL (f d r : Int) (cs hs : List Int) (k : Nat) : Int :=
  if codeL f d r cs hs = 0 then (match k with | 0 => freeV f d | 1 => gasL f d | 2 => rainL f r d | 3 => clutL f cs hs | _ => freeV f d + gasL f d + rainL f r d + clutL f cs hs) else 0
/-- What LossesOf returns. -/
noncomputable def resL (f d r : Int) (cs hs : List Int) : Value := .tuple #[.agg #[.int .i64 (pathL f d r cs hs 0), .int .i64 (pathL f d r cs hs 1), .int .i64 (pathL f d r cs hs 2), .int .i64 (pathL f d r cs hs 3), .int .i64 (pathL f d r cs hs 4)], .int .i64 (codeL f d r cs hs)]
theorem res_bad {f d r c : Int} {cs hs : List Int} (h : codeL f d r cs hs = c) (hc : c ≠ 0) : resL f d r cs hs = .tuple #[.agg #[.int .i64 0, .int .i64 0, .int .i64 0, .int .i64 0, .int .i64 0], .int .i64 c] := by
  unfold resL pathL
  rw [h]
  simp only [if_neg hc]
theorem code_len {f d r : Int} {cs hs : List Int} (h : ¬ (cs.length = 2 ∧ hs.length = 2)) : codeL f d r cs hs = 6 := if_neg h
theorem code_bad {f d r : Int} {cs hs : List Int} (h : cs.length = 2 ∧ hs.length = 2) (g : okL f d r cs hs = false) : codeL f d r cs hs = 2 := by unfold codeL; rw [if_pos h, g]; rfl
theorem code_ok {f d r : Int} {cs hs : List Int} (h : cs.length = 2 ∧ hs.length = 2) (g : okL f d r cs hs = true) : codeL f d r cs hs = 0 := by unfold codeL; rw [if_pos h, g]; rfl
theorem okL_f {f d r : Int} {cs hs : List Int} (h : inB f 1 100000000 = false) : okL f d r cs hs = false := by unfold okL; rw [h]; rfl
theorem okL_d {f d r : Int} {cs hs : List Int} (h : inB d 1 283000 = false) : okL f d r cs hs = false := by unfold okL; rw [h]; simp
theorem okL_r {f d r : Int} {cs hs : List Int} (h : inB r 0 200 = false) : okL f d r cs hs = false := by unfold okL; rw [h]; simp
theorem okL_c {f d r : Int} {cs hs : List Int} (h : cs.all classB = false) : okL f d r cs hs = false := by unfold okL; rw [h]; simp
theorem okL_a {f d r : Int} {cs hs : List Int} (h : hs.all aboveB = false) : okL f d r cs hs = false := by unfold okL; rw [h]; simp
theorem okL_yes {f d r : Int} {cs hs : List Int} (h0 : inB f 1 100000000 = true) (h1 : inB d 1 283000 = true) (h2 : inB r 0 200 = true) (h3 : cs.all classB = true) (h4 : hs.all aboveB = true) : okL f d r cs hs = true := by unfold okL; rw [h0, h1, h2, h3, h4]; rfl
theorem two_of {zs : List Int} (h : zs.length = 2) : ∃ x y, zs = [x, y] := by
  match zs, h with
  | [x, y], _ => exact ⟨x, y, rfl⟩
theorem ret_v {a b : Value} (h : a = b) : Ending.returned a = .returned b := by rw [h]
theorem slice_of {w : World} {a : Option Addr} {n cap : Nat} {zs : List Int} (h : Ints w (.slice a n cap) zs) (hl : zs.length = n) (h0 : 0 < n) : ∃ b off, a = some ⟨b, off, none⟩ ∧ b < w.heap.size ∧ ∀ i, i < n → w.cell? ⟨b, off + i, none⟩ = some (.int .i64 (zs.getD i 0)) := by
  obtain ⟨a', cap', he, hc⟩ := h
  injection he with h1 h2 h3
  subst h1
  obtain ⟨b, off, ha, hb, hcell⟩ := hc (by omega)
  exact ⟨b, off, ha, hb, fun i hi => hcell i (by omega)⟩
theorem ne_two {n : Nat} (h : n ≠ 2) : (((n : Nat) : Int) == 2) = false ∧ (((n : Nat) : Int) != 2) = true := by
  have : ((n : Nat) : Int) ≠ 2 := by omega
  exact ⟨beq_eq_false_iff_ne.2 this, by simp [bne, beq_eq_false_iff_ne.2 this]⟩
set_option maxRecDepth 100000 in
set_option maxHeartbeats 8000000 in
theorem spec_losses (f d r : Int) (v0 v1 : Value) (zs hs : List Int) (w : World) (h0 : Ints w v0 zs) (h1 : Ints w v1 hs) :
    Calls Tryd.prog 28 #[.int .i64 f, .int .i64 d, .int .i64 r, v0, v1] w fun e w' => e = .returned (resL f d r zs hs) ∧ On w w' := by
  by_cases hl : zs.length = 2 ∧ hs.length = 2
  · obtain ⟨c0, c1, rfl⟩ := two_of hl.1
    obtain ⟨a0, a1, rfl⟩ := two_of hl.2
    have h0' := h0
    have h1' := h1
    obtain ⟨p0, cap0, rfl, -⟩ := h0
    obtain ⟨p1, cap1, rfl, -⟩ := h1
    obtain ⟨b0, o0, rfl, hb0, hc0⟩ := slice_of h0' rfl (by simp)
    obtain ⟨b1, o1, rfl, hb1, hc1⟩ := slice_of h1' rfl (by simp)
    have x0 : w.cell? ⟨b0, o0, none⟩ = some (.int .i64 c0) := hc0 0 (by simp)
    have x1 : w.cell? ⟨b0, o0 + 1, none⟩ = some (.int .i64 c1) := hc0 1 (by simp)
    have y0 : w.cell? ⟨b1, o1, none⟩ = some (.int .i64 a0) := hc1 0 (by simp)
    have y1 : w.cell? ⟨b1, o1 + 1, none⟩ = some (.int .i64 a1) := hc1 1 (by simp)
    have X0 := Lib.hid x0
    have X1 := Lib.hid x1
    have Y0 := Lib.hid y0
    have Y1 := Lib.hid y1
    have V0 := Lib.hid h0'
    have V1 := Lib.hid h1'
    simp only [List.length_cons, List.length_nil, Nat.zero_add, Nat.reduceAdd] at *
    clear hc0 hc1 hl h0' h1'
    cases g0 : inB f 1 100000000 with
    | false =>
      have en := Lib.hid (res_bad (code_bad (f := f) (d := d) (r := r) (cs := [c0, c1]) (hs := [a0, a1]) ⟨rfl, rfl⟩ (okL_f g0)) (by decide))
      go_enter Tryd.func28, Tryd.ntmps28
      go_wp2_with (first | (go_at_call 37; refine (Free.spec_l09Frequency _ _).mono ?_; rintro e w' ⟨rfl, rfl⟩) | (go_at_call 44; refine (Free.spec_l09Distance _ _).mono ?_; rintro e w' ⟨rfl, rfl⟩) | (go_at_call 41; refine (Loss.spec_l11Rate _ _).mono ?_; rintro e w' ⟨rfl, rfl⟩) | (go_at_call 33; refine (Loss.spec_l11Class _ _).mono ?_; rintro e w' ⟨rfl, rfl⟩) | (go_at_call 38; refine (Arith.l00In _ _ _ _).mono ?_; rintro e w' ⟨rfl, rfl⟩))
      refine bodyPost_ret (v := .tuple #[.agg #[.int .i64 0, .int .i64 0, .int .i64 0, .int .i64 0, .int .i64 0], .int .i64 2]) (by simp [results, Tryd.results28, go_sem ]) rfl ⟨ret_v en.out.symm, ?_⟩
      exact On.alloc (On.refl _) _
    | true =>
      cases g1 : inB d 1 283000 with
      | false =>
        have en := Lib.hid (res_bad (code_bad (f := f) (d := d) (r := r) (cs := [c0, c1]) (hs := [a0, a1]) ⟨rfl, rfl⟩ (okL_d g1)) (by decide))
        go_enter Tryd.func28, Tryd.ntmps28
        go_wp2_with (first | (go_at_call 37; refine (Free.spec_l09Frequency _ _).mono ?_; rintro e w' ⟨rfl, rfl⟩) | (go_at_call 44; refine (Free.spec_l09Distance _ _).mono ?_; rintro e w' ⟨rfl, rfl⟩) | (go_at_call 41; refine (Loss.spec_l11Rate _ _).mono ?_; rintro e w' ⟨rfl, rfl⟩) | (go_at_call 33; refine (Loss.spec_l11Class _ _).mono ?_; rintro e w' ⟨rfl, rfl⟩) | (go_at_call 38; refine (Arith.l00In _ _ _ _).mono ?_; rintro e w' ⟨rfl, rfl⟩))
        refine bodyPost_ret (v := .tuple #[.agg #[.int .i64 0, .int .i64 0, .int .i64 0, .int .i64 0, .int .i64 0], .int .i64 2]) (by simp [results, Tryd.results28, go_sem ]) rfl ⟨ret_v en.out.symm, ?_⟩
        exact On.alloc (On.refl _) _
      | true =>
        cases g2 : inB r 0 200 with
        | false =>
          have en := Lib.hid (res_bad (code_bad (f := f) (d := d) (r := r) (cs := [c0, c1]) (hs := [a0, a1]) ⟨rfl, rfl⟩ (okL_r g2)) (by decide))
          go_enter Tryd.func28, Tryd.ntmps28
          go_wp2_with (first | (go_at_call 37; refine (Free.spec_l09Frequency _ _).mono ?_; rintro e w' ⟨rfl, rfl⟩) | (go_at_call 44; refine (Free.spec_l09Distance _ _).mono ?_; rintro e w' ⟨rfl, rfl⟩) | (go_at_call 41; refine (Loss.spec_l11Rate _ _).mono ?_; rintro e w' ⟨rfl, rfl⟩) | (go_at_call 33; refine (Loss.spec_l11Class _ _).mono ?_; rintro e w' ⟨rfl, rfl⟩) | (go_at_call 38; refine (Arith.l00In _ _ _ _).mono ?_; rintro e w' ⟨rfl, rfl⟩))
          refine bodyPost_ret (v := .tuple #[.agg #[.int .i64 0, .int .i64 0, .int .i64 0, .int .i64 0, .int .i64 0], .int .i64 2]) (by simp [results, Tryd.results28, go_sem ]) rfl ⟨ret_v en.out.symm, ?_⟩
          exact On.alloc (On.refl _) _
        | true =>
          obtain ⟨f0, f1⟩ := of_inB g0
          obtain ⟨d0, d1⟩ := of_inB g1
          obtain ⟨r0, r1⟩ := of_inB g2
          have HF := Lib.hid (fun w => Free.spec_loss f d w (by omega) (by omega) (by omega) (by omega))
          have HG := Lib.hid (fun w => Rain.spec_gas f w (by omega) f1)
          obtain ⟨q0, q1⟩ := gas_prod (f := f) d0 d1
          have HD := Lib.hid (fun w => show Calls Tryd.prog 50 #[.int .i64 (gasS f * d), .int .i64 1000] w fun e w' => e = .returned (.int .i64 (gasL f d)) ∧ w = w' from Arith.l01Div (gasS f * d) 1000 w (by omega) (by omega) (by omega) (by omega) (by omega))
          have HW := Lib.hid (fun w => Rain.spec_wet f r d w (by omega) f1 r0 r1 d0 d1)
          obtain ⟨u0, u1⟩ := freeV_bd (f := f) (d := d) (by omega) (by omega)
          obtain ⟨u2, u3⟩ := gasL_bd (f := f) d0 d1
          obtain ⟨u4, u5⟩ := rainL_bd (f := f) r0 r1 d0 d1
          have HZ := Lib.hid (fun (c : Int) (a : Int) (w : World) (hc : inB c 0 7 = true) (ha : inB a 0 90000 = true) => show Calls Tryd.prog 39 #[.int .i64 c, .int .i64 f, .int .i64 a] w fun e w' => e = .returned (.int .i64 (clutV c.toNat f a)) ∧ On w w' from by
            have q := of_inB hc
            have := Clut.spec_clutter c.toNat f a w (by omega) (of_inB ha).1 (of_inB ha).2
            rw [Int.toNat_of_nonneg q.1] at this; exact this)
          have hbd : ∀ c a : Int, inB c 0 7 = true → inB a 0 90000 = true → 0 ≤ clutV c.toNat f a ∧ clutV c.toNat f a ≤ 720000000 := fun c a hc ha => clut_bd (by have := of_inB hc; omega) (of_inB ha).1
          cases g3 : inB c0 0 7 with
          | false =>
            have en := Lib.hid (res_bad (code_bad (f := f) (d := d) (r := r) (cs := [c0, c1]) (hs := [a0, a1]) ⟨rfl, rfl⟩ (okL_c (by simp [classB, g3]))) (by decide))
            clear hbd HZ
            go_enter Tryd.func28, Tryd.ntmps28
            go_wp2_with (first | (go_at_call 37; refine (Free.spec_l09Frequency _ _).mono ?_; rintro e w' ⟨rfl, rfl⟩) | (go_at_call 44; refine (Free.spec_l09Distance _ _).mono ?_; rintro e w' ⟨rfl, rfl⟩) | (go_at_call 41; refine (Loss.spec_l11Rate _ _).mono ?_; rintro e w' ⟨rfl, rfl⟩) | (go_at_call 33; refine (Loss.spec_l11Class _ _).mono ?_; rintro e w' ⟨rfl, rfl⟩) | (go_at_call 38; refine (Arith.l00In _ _ _ _).mono ?_; rintro e w' ⟨rfl, rfl⟩))
            refine (HF.out _).mono ?_
            rintro e w' ⟨rfl, rfl⟩
            go_wp2_with fail
            refine (HG.out _).mono ?_
            rintro e w1 ⟨rfl, k1⟩
            obtain ⟨hc1, hf1⟩ := bcell k1
            have z1 : w.heap.size < w1.heap.size := by have := k1.size; (try simp at this); omega
            go_wp2_with fail
            refine (HD.out _).mono ?_
            rintro e w' ⟨rfl, rfl⟩
            go_wp2_with fail
            refine (HW.out _).mono ?_
            rintro e w2 ⟨rfl, k2⟩
            obtain ⟨hc2, hf2⟩ := bcell k2
            have z2 : w.heap.size < w2.heap.size := by have := k2.size; omega
            have O2 : On w w2 := On.trans (by refine On.trans ?_ k1; repeat (first | with_reducible exact On.refl _ | with_reducible assumption | apply On.drewN | apply On.drew | apply On.alloc | refine On.setCell ?_ (by (try simp) <;> omega) _)) k2
            have e0 := O2.lts _ hb0
            have e1 := O2.lts _ hb1
            have x0 := (O2.cell (by exact hb0)).trans X0.out
            have x1 := (O2.cell (by exact hb0)).trans X1.out
            have y0 := (O2.cell (by exact hb1)).trans Y0.out
            have y1 := (O2.cell (by exact hb1)).trans Y1.out
            have gz : ∀ j, j < 5 → w2.cell? ⟨w.heap.size, j, none⟩ = some (.int .i64 0) := fun j hj => by
              rw [hc2 _ _ z1, hc1 _ _ (by simp)]
              match j, hj with
              | 0, _ => simp [go_sem]
              | 1, _ => simp [go_sem]
              | 2, _ => simp [go_sem]
              | 3, _ => simp [go_sem]
              | 4, _ => simp [go_sem]
            have gf : ∀ j, w2.frozen? ⟨w.heap.size, j, none⟩ = false := fun j => by
              rw [hf2 _ _ z1, hf1 _ _ (by simp)]
              simp [go_sem]
            have OO2 := Lib.hid O2
            clear k1 k2 hc1 hf1 hc2 hf2 z1 O2
            have t0 := gz 0 (by decide)
            have t1 := gz 1 (by decide)
            have t2 := gz 2 (by decide)
            have t3 := gz 3 (by decide)
            have t4 := gz 4 (by decide)
            have hb0n : b0 ≠ w2.heap.size := Nat.ne_of_lt e0
            have hb1n : b1 ≠ w2.heap.size := Nat.ne_of_lt e1
            have hgn : w.heap.size ≠ w2.heap.size := Nat.ne_of_lt z2
            clear gz
            go_wp2_with fail
            refine wp_loop_rounds 3 ?_
            rw [rounds_succ]
            go_wp2_with (first | (go_at_call 37; refine (Free.spec_l09Frequency _ _).mono ?_; rintro e w' ⟨rfl, rfl⟩) | (go_at_call 44; refine (Free.spec_l09Distance _ _).mono ?_; rintro e w' ⟨rfl, rfl⟩) | (go_at_call 41; refine (Loss.spec_l11Rate _ _).mono ?_; rintro e w' ⟨rfl, rfl⟩) | (go_at_call 33; refine (Loss.spec_l11Class _ _).mono ?_; rintro e w' ⟨rfl, rfl⟩) | (go_at_call 38; refine (Arith.l00In _ _ _ _).mono ?_; rintro e w' ⟨rfl, rfl⟩))
            refine bodyPost_ret (v := .tuple #[.agg #[.int .i64 0, .int .i64 0, .int .i64 0, .int .i64 0, .int .i64 0], .int .i64 2]) (by simp [results, Tryd.results28, go_sem , t0, t1, t2, t3, t4, z2]) rfl ⟨ret_v en.out.symm, ?_⟩
            refine On.alloc ?_ _
            refine On.setCell ?_ (Nat.le_refl _) _
            refine On.setCell ?_ (Nat.le_refl _) _
            refine On.setCell ?_ (Nat.le_refl _) _
            refine On.setCell ?_ (Nat.le_refl _) _
            refine On.setCell ?_ (Nat.le_refl _) _
            exact OO2.out
          | true =>
            cases g4 : inB a0 0 90000 with
            | false =>
              have en := Lib.hid (res_bad (code_bad (f := f) (d := d) (r := r) (cs := [c0, c1]) (hs := [a0, a1]) ⟨rfl, rfl⟩ (okL_a (by simp [aboveB, g4]))) (by decide))
              clear hbd HZ
              go_enter Tryd.func28, Tryd.ntmps28
              go_wp2_with (first | (go_at_call 37; refine (Free.spec_l09Frequency _ _).mono ?_; rintro e w' ⟨rfl, rfl⟩) | (go_at_call 44; refine (Free.spec_l09Distance _ _).mono ?_; rintro e w' ⟨rfl, rfl⟩) | (go_at_call 41; refine (Loss.spec_l11Rate _ _).mono ?_; rintro e w' ⟨rfl, rfl⟩) | (go_at_call 33; refine (Loss.spec_l11Class _ _).mono ?_; rintro e w' ⟨rfl, rfl⟩) | (go_at_call 38; refine (Arith.l00In _ _ _ _).mono ?_; rintro e w' ⟨rfl, rfl⟩))
              refine (HF.out _).mono ?_
              rintro e w' ⟨rfl, rfl⟩
              go_wp2_with fail
              refine (HG.out _).mono ?_
              rintro e w1 ⟨rfl, k1⟩
              obtain ⟨hc1, hf1⟩ := bcell k1
              have z1 : w.heap.size < w1.heap.size := by have := k1.size; (try simp at this); omega
              go_wp2_with fail
              refine (HD.out _).mono ?_
              rintro e w' ⟨rfl, rfl⟩
              go_wp2_with fail
              refine (HW.out _).mono ?_
              rintro e w2 ⟨rfl, k2⟩
              obtain ⟨hc2, hf2⟩ := bcell k2
              have z2 : w.heap.size < w2.heap.size := by have := k2.size; omega
              have O2 : On w w2 := On.trans (by refine On.trans ?_ k1; repeat (first | with_reducible exact On.refl _ | with_reducible assumption | apply On.drewN | apply On.drew | apply On.alloc | refine On.setCell ?_ (by (try simp) <;> omega) _)) k2
              have e0 := O2.lts _ hb0
              have e1 := O2.lts _ hb1
              have x0 := (O2.cell (by exact hb0)).trans X0.out
              have x1 := (O2.cell (by exact hb0)).trans X1.out
              have y0 := (O2.cell (by exact hb1)).trans Y0.out
              have y1 := (O2.cell (by exact hb1)).trans Y1.out
              have gz : ∀ j, j < 5 → w2.cell? ⟨w.heap.size, j, none⟩ = some (.int .i64 0) := fun j hj => by
                rw [hc2 _ _ z1, hc1 _ _ (by simp)]
                match j, hj with
                | 0, _ => simp [go_sem]
                | 1, _ => simp [go_sem]
                | 2, _ => simp [go_sem]
                | 3, _ => simp [go_sem]
                | 4, _ => simp [go_sem]
              have gf : ∀ j, w2.frozen? ⟨w.heap.size, j, none⟩ = false := fun j => by
                rw [hf2 _ _ z1, hf1 _ _ (by simp)]
                simp [go_sem]
              have OO2 := Lib.hid O2
              clear k1 k2 hc1 hf1 hc2 hf2 z1 O2
              have t0 := gz 0 (by decide)
              have t1 := gz 1 (by decide)
              have t2 := gz 2 (by decide)
              have t3 := gz 3 (by decide)
              have t4 := gz 4 (by decide)
              have hb0n : b0 ≠ w2.heap.size := Nat.ne_of_lt e0
              have hb1n : b1 ≠ w2.heap.size := Nat.ne_of_lt e1
              have hgn : w.heap.size ≠ w2.heap.size := Nat.ne_of_lt z2
              clear gz
              go_wp2_with fail
              refine wp_loop_rounds 3 ?_
              rw [rounds_succ]
              go_wp2_with (first | (go_at_call 37; refine (Free.spec_l09Frequency _ _).mono ?_; rintro e w' ⟨rfl, rfl⟩) | (go_at_call 44; refine (Free.spec_l09Distance _ _).mono ?_; rintro e w' ⟨rfl, rfl⟩) | (go_at_call 41; refine (Loss.spec_l11Rate _ _).mono ?_; rintro e w' ⟨rfl, rfl⟩) | (go_at_call 33; refine (Loss.spec_l11Class _ _).mono ?_; rintro e w' ⟨rfl, rfl⟩) | (go_at_call 38; refine (Arith.l00In _ _ _ _).mono ?_; rintro e w' ⟨rfl, rfl⟩))
              refine bodyPost_ret (v := .tuple #[.agg #[.int .i64 0, .int .i64 0, .int .i64 0, .int .i64 0, .int .i64 0], .int .i64 2]) (by simp [results, Tryd.results28, go_sem , t0, t1, t2, t3, t4, z2]) rfl ⟨ret_v en.out.symm, ?_⟩
              refine On.alloc ?_ _
              refine On.setCell ?_ (Nat.le_refl _) _
              refine On.setCell ?_ (Nat.le_refl _) _
              refine On.setCell ?_ (Nat.le_refl _) _
              refine On.setCell ?_ (Nat.le_refl _) _
              refine On.setCell ?_ (Nat.le_refl _) _
              exact OO2.out
            | true =>
              cases g5 : inB c1 0 7 with
              | false =>
                have en := Lib.hid (res_bad (code_bad (f := f) (d := d) (r := r) (cs := [c0, c1]) (hs := [a0, a1]) ⟨rfl, rfl⟩ (okL_c (by simp [classB, g5]))) (by decide))
                obtain ⟨m0, m1⟩ := hbd c0 a0 g3 g4
                have HZ0 := Lib.hid (fun w => HZ.out c0 a0 w g3 g4)
                generalize clutV c0.toNat f a0 = K0 at *
                have wk0 : IntKind.i64.wrap K0 = K0 := IntWalk.i64_in _ (by omega)
                clear hbd HZ
                go_enter Tryd.func28, Tryd.ntmps28
                go_wp2_with (first | (go_at_call 37; refine (Free.spec_l09Frequency _ _).mono ?_; rintro e w' ⟨rfl, rfl⟩) | (go_at_call 44; refine (Free.spec_l09Distance _ _).mono ?_; rintro e w' ⟨rfl, rfl⟩) | (go_at_call 41; refine (Loss.spec_l11Rate _ _).mono ?_; rintro e w' ⟨rfl, rfl⟩) | (go_at_call 33; refine (Loss.spec_l11Class _ _).mono ?_; rintro e w' ⟨rfl, rfl⟩) | (go_at_call 38; refine (Arith.l00In _ _ _ _).mono ?_; rintro e w' ⟨rfl, rfl⟩))
                refine (HF.out _).mono ?_
                rintro e w' ⟨rfl, rfl⟩
                go_wp2_with fail
                refine (HG.out _).mono ?_
                rintro e w1 ⟨rfl, k1⟩
                obtain ⟨hc1, hf1⟩ := bcell k1
                have z1 : w.heap.size < w1.heap.size := by have := k1.size; (try simp at this); omega
                go_wp2_with fail
                refine (HD.out _).mono ?_
                rintro e w' ⟨rfl, rfl⟩
                go_wp2_with fail
                refine (HW.out _).mono ?_
                rintro e w2 ⟨rfl, k2⟩
                obtain ⟨hc2, hf2⟩ := bcell k2
                have z2 : w.heap.size < w2.heap.size := by have := k2.size; omega
                have O2 : On w w2 := On.trans (by refine On.trans ?_ k1; repeat (first | with_reducible exact On.refl _ | with_reducible assumption | apply On.drewN | apply On.drew | apply On.alloc | refine On.setCell ?_ (by (try simp) <;> omega) _)) k2
                have e0 := O2.lts _ hb0
                have e1 := O2.lts _ hb1
                have x0 := (O2.cell (by exact hb0)).trans X0.out
                have x1 := (O2.cell (by exact hb0)).trans X1.out
                have y0 := (O2.cell (by exact hb1)).trans Y0.out
                have y1 := (O2.cell (by exact hb1)).trans Y1.out
                have gz : ∀ j, j < 5 → w2.cell? ⟨w.heap.size, j, none⟩ = some (.int .i64 0) := fun j hj => by
                  rw [hc2 _ _ z1, hc1 _ _ (by simp)]
                  match j, hj with
                  | 0, _ => simp [go_sem]
                  | 1, _ => simp [go_sem]
                  | 2, _ => simp [go_sem]
                  | 3, _ => simp [go_sem]
                  | 4, _ => simp [go_sem]
                have gf : ∀ j, w2.frozen? ⟨w.heap.size, j, none⟩ = false := fun j => by
                  rw [hf2 _ _ z1, hf1 _ _ (by simp)]
                  simp [go_sem]
                have OO2 := Lib.hid O2
                clear k1 k2 hc1 hf1 hc2 hf2 z1 O2
                have t0 := gz 0 (by decide)
                have t1 := gz 1 (by decide)
                have t2 := gz 2 (by decide)
                have t3 := gz 3 (by decide)
                have t4 := gz 4 (by decide)
                have hb0n : b0 ≠ w2.heap.size := Nat.ne_of_lt e0
                have hb1n : b1 ≠ w2.heap.size := Nat.ne_of_lt e1
                have hgn : w.heap.size ≠ w2.heap.size := Nat.ne_of_lt z2
                clear gz
                go_wp2_with fail
                refine wp_loop_rounds 3 ?_
                rw [rounds_succ]
                go_wp2_with (first | (go_at_call 37; refine (Free.spec_l09Frequency _ _).mono ?_; rintro e w' ⟨rfl, rfl⟩) | (go_at_call 44; refine (Free.spec_l09Distance _ _).mono ?_; rintro e w' ⟨rfl, rfl⟩) | (go_at_call 41; refine (Loss.spec_l11Rate _ _).mono ?_; rintro e w' ⟨rfl, rfl⟩) | (go_at_call 33; refine (Loss.spec_l11Class _ _).mono ?_; rintro e w' ⟨rfl, rfl⟩) | (go_at_call 38; refine (Arith.l00In _ _ _ _).mono ?_; rintro e w' ⟨rfl, rfl⟩))
                refine wp_region_on_tail 14 (by kernel_rfl) (by kernel_rfl) ?_
                simp only [List.take_succ_cons, List.take_zero, List.drop_succ_cons, List.drop_zero]
                repeat (refine wpQuiet_step (fun K hK => ?_); go_simp; first | (refine hK _ ?_; clear hK K) | (apply Exists.intro; refine ⟨fun v1 hv1 => ?_, hK _ ?_⟩; (first | with_reducible exact rfl | with_reducible exact ⟨rfl, rfl⟩ | with_reducible exact Calls.on hv1 (HZ0.out _) | (obtain ⟨hc, hf⟩ := bcell hv1; go_simp; first | with_reducible exact rfl | with_reducible exact ⟨rfl, rfl⟩ | exact rfl | exact ⟨rfl, rfl⟩)); clear hK K))
                refine wpQuiet_nil ?_
                intro w3 k3
                obtain ⟨hc3, hf3⟩ := bcell k3
                have s3 : w2.heap.size < w3.heap.size := by have := k3.size; (try simp at this); omega
                have z3 : w.heap.size < w3.heap.size := by omega
                have e30 : b0 < w3.heap.size := by omega
                have e31 : b1 < w3.heap.size := by omega
                have j0 : w3.cell? ⟨w2.heap.size, 0, none⟩ = some (.int .i64 (freeV f d)) := (hc3 _ _ (by simp <;> omega)).trans (by simp [go_sem])
                have j1 : w3.cell? ⟨w2.heap.size, 1, none⟩ = some (.int .i64 (gasL f d)) := (hc3 _ _ (by simp <;> omega)).trans (by simp [go_sem])
                have j2 : w3.cell? ⟨w2.heap.size, 2, none⟩ = some (.int .i64 (rainL f r d)) := (hc3 _ _ (by simp <;> omega)).trans (by simp [go_sem])
                have j3 : w3.cell? ⟨w2.heap.size, 3, none⟩ = some (.int .i64 0) := (hc3 _ _ (by simp <;> omega)).trans (by simp [go_sem])
                have j4 : w3.cell? ⟨w2.heap.size, 4, none⟩ = some (.int .i64 0) := (hc3 _ _ (by simp <;> omega)).trans (by simp [go_sem])
                have jr0 : w3.cell? ⟨w.heap.size, 0, none⟩ = some (.int .i64 0) := (hc3 _ _ (by simp <;> omega)).trans (by simp [go_sem, z2, t0])
                have jr1 : w3.cell? ⟨w.heap.size, 1, none⟩ = some (.int .i64 0) := (hc3 _ _ (by simp <;> omega)).trans (by simp [go_sem, z2, t1])
                have jr2 : w3.cell? ⟨w.heap.size, 2, none⟩ = some (.int .i64 0) := (hc3 _ _ (by simp <;> omega)).trans (by simp [go_sem, z2, t2])
                have jr3 : w3.cell? ⟨w.heap.size, 3, none⟩ = some (.int .i64 0) := (hc3 _ _ (by simp <;> omega)).trans (by simp [go_sem, z2, t3])
                have jr4 : w3.cell? ⟨w.heap.size, 4, none⟩ = some (.int .i64 0) := (hc3 _ _ (by simp <;> omega)).trans (by simp [go_sem, z2, t4])
                have jf : ∀ i, w3.frozen? ⟨w2.heap.size, i, none⟩ = false := fun i => (hf3 _ _ (by simp <;> omega)).trans (by simp [go_sem])
                have jg : ∀ i, w3.frozen? ⟨w.heap.size, i, none⟩ = false := fun i => (hf3 _ _ (by simp <;> omega)).trans (by simp [go_sem, gf, z2])
                have x30 : w3.cell? ⟨b0, o0, none⟩ = some (.int .i64 c0) := (hc3 _ _ (by simp <;> omega)).trans (by simp [go_sem, x0, e0])
                have x31 : w3.cell? ⟨b0, o0 + 1, none⟩ = some (.int .i64 c1) := (hc3 _ _ (by simp <;> omega)).trans (by simp [go_sem, x1, e0])
                have y30 : w3.cell? ⟨b1, o1, none⟩ = some (.int .i64 a0) := (hc3 _ _ (by simp <;> omega)).trans (by simp [go_sem, y0, e1])
                have y31 : w3.cell? ⟨b1, o1 + 1, none⟩ = some (.int .i64 a1) := (hc3 _ _ (by simp <;> omega)).trans (by simp [go_sem, y1, e1])
                have K3h := Lib.hid k3
                clear k3 hc3 hf3
                go_wp2_with fail
                rw [rounds_succ]
                go_wp2_with (first | (go_at_call 37; refine (Free.spec_l09Frequency _ _).mono ?_; rintro e w' ⟨rfl, rfl⟩) | (go_at_call 44; refine (Free.spec_l09Distance _ _).mono ?_; rintro e w' ⟨rfl, rfl⟩) | (go_at_call 41; refine (Loss.spec_l11Rate _ _).mono ?_; rintro e w' ⟨rfl, rfl⟩) | (go_at_call 33; refine (Loss.spec_l11Class _ _).mono ?_; rintro e w' ⟨rfl, rfl⟩) | (go_at_call 38; refine (Arith.l00In _ _ _ _).mono ?_; rintro e w' ⟨rfl, rfl⟩))
                refine bodyPost_ret (v := .tuple #[.agg #[.int .i64 0, .int .i64 0, .int .i64 0, .int .i64 0, .int .i64 0], .int .i64 2]) (by simp [results, Tryd.results28, go_sem , jr0, jr1, jr2, jr3, jr4]) rfl ⟨ret_v en.out.symm, ?_⟩
                refine On.setCell ?_ (Nat.le_refl _) _
                refine On.setCell ?_ (Nat.le_refl _) _
                refine On.setCell ?_ (Nat.le_refl _) _
                refine On.setCell ?_ (Nat.le_refl _) _
                refine On.setCell ?_ (Nat.le_refl _) _
                refine On.setCell ?_ (Nat.le_of_lt z2) _
                refine On.trans ?_ K3h.out
                exact On.alloc OO2.out _
              | true =>
                cases g6 : inB a1 0 90000 with
                | false =>
                  have en := Lib.hid (res_bad (code_bad (f := f) (d := d) (r := r) (cs := [c0, c1]) (hs := [a0, a1]) ⟨rfl, rfl⟩ (okL_a (by simp [aboveB, g6]))) (by decide))
                  obtain ⟨m0, m1⟩ := hbd c0 a0 g3 g4
                  have HZ0 := Lib.hid (fun w => HZ.out c0 a0 w g3 g4)
                  generalize clutV c0.toNat f a0 = K0 at *
                  have wk0 : IntKind.i64.wrap K0 = K0 := IntWalk.i64_in _ (by omega)
                  clear hbd HZ
                  go_enter Tryd.func28, Tryd.ntmps28
                  go_wp2_with (first | (go_at_call 37; refine (Free.spec_l09Frequency _ _).mono ?_; rintro e w' ⟨rfl, rfl⟩) | (go_at_call 44; refine (Free.spec_l09Distance _ _).mono ?_; rintro e w' ⟨rfl, rfl⟩) | (go_at_call 41; refine (Loss.spec_l11Rate _ _).mono ?_; rintro e w' ⟨rfl, rfl⟩) | (go_at_call 33; refine (Loss.spec_l11Class _ _).mono ?_; rintro e w' ⟨rfl, rfl⟩) | (go_at_call 38; refine (Arith.l00In _ _ _ _).mono ?_; rintro e w' ⟨rfl, rfl⟩))
                  refine (HF.out _).mono ?_
                  rintro e w' ⟨rfl, rfl⟩
                  go_wp2_with fail
                  refine (HG.out _).mono ?_
                  rintro e w1 ⟨rfl, k1⟩
                  obtain ⟨hc1, hf1⟩ := bcell k1
                  have z1 : w.heap.size < w1.heap.size := by have := k1.size; (try simp at this); omega
                  go_wp2_with fail
                  refine (HD.out _).mono ?_
                  rintro e w' ⟨rfl, rfl⟩
                  go_wp2_with fail
                  refine (HW.out _).mono ?_
                  rintro e w2 ⟨rfl, k2⟩
                  obtain ⟨hc2, hf2⟩ := bcell k2
                  have z2 : w.heap.size < w2.heap.size := by have := k2.size; omega
                  have O2 : On w w2 := On.trans (by refine On.trans ?_ k1; repeat (first | with_reducible exact On.refl _ | with_reducible assumption | apply On.drewN | apply On.drew | apply On.alloc | refine On.setCell ?_ (by (try simp) <;> omega) _)) k2
                  have e0 := O2.lts _ hb0
                  have e1 := O2.lts _ hb1
                  have x0 := (O2.cell (by exact hb0)).trans X0.out
                  have x1 := (O2.cell (by exact hb0)).trans X1.out
                  have y0 := (O2.cell (by exact hb1)).trans Y0.out
                  have y1 := (O2.cell (by exact hb1)).trans Y1.out
                  have gz : ∀ j, j < 5 → w2.cell? ⟨w.heap.size, j, none⟩ = some (.int .i64 0) := fun j hj => by
                    rw [hc2 _ _ z1, hc1 _ _ (by simp)]
                    match j, hj with
                    | 0, _ => simp [go_sem]
                    | 1, _ => simp [go_sem]
                    | 2, _ => simp [go_sem]
                    | 3, _ => simp [go_sem]
                    | 4, _ => simp [go_sem]
                  have gf : ∀ j, w2.frozen? ⟨w.heap.size, j, none⟩ = false := fun j => by
                    rw [hf2 _ _ z1, hf1 _ _ (by simp)]
                    simp [go_sem]
                  have OO2 := Lib.hid O2
                  clear k1 k2 hc1 hf1 hc2 hf2 z1 O2
                  have t0 := gz 0 (by decide)
                  have t1 := gz 1 (by decide)
                  have t2 := gz 2 (by decide)
                  have t3 := gz 3 (by decide)
                  have t4 := gz 4 (by decide)
                  have hb0n : b0 ≠ w2.heap.size := Nat.ne_of_lt e0
                  have hb1n : b1 ≠ w2.heap.size := Nat.ne_of_lt e1
                  have hgn : w.heap.size ≠ w2.heap.size := Nat.ne_of_lt z2
                  clear gz
                  go_wp2_with fail
                  refine wp_loop_rounds 3 ?_
                  rw [rounds_succ]
                  go_wp2_with (first | (go_at_call 37; refine (Free.spec_l09Frequency _ _).mono ?_; rintro e w' ⟨rfl, rfl⟩) | (go_at_call 44; refine (Free.spec_l09Distance _ _).mono ?_; rintro e w' ⟨rfl, rfl⟩) | (go_at_call 41; refine (Loss.spec_l11Rate _ _).mono ?_; rintro e w' ⟨rfl, rfl⟩) | (go_at_call 33; refine (Loss.spec_l11Class _ _).mono ?_; rintro e w' ⟨rfl, rfl⟩) | (go_at_call 38; refine (Arith.l00In _ _ _ _).mono ?_; rintro e w' ⟨rfl, rfl⟩))
                  refine wp_region_on_tail 14 (by kernel_rfl) (by kernel_rfl) ?_
                  simp only [List.take_succ_cons, List.take_zero, List.drop_succ_cons, List.drop_zero]
                  repeat (refine wpQuiet_step (fun K hK => ?_); go_simp; first | (refine hK _ ?_; clear hK K) | (apply Exists.intro; refine ⟨fun v1 hv1 => ?_, hK _ ?_⟩; (first | with_reducible exact rfl | with_reducible exact ⟨rfl, rfl⟩ | with_reducible exact Calls.on hv1 (HZ0.out _) | (obtain ⟨hc, hf⟩ := bcell hv1; go_simp; first | with_reducible exact rfl | with_reducible exact ⟨rfl, rfl⟩ | exact rfl | exact ⟨rfl, rfl⟩)); clear hK K))
                  refine wpQuiet_nil ?_
                  intro w3 k3
                  obtain ⟨hc3, hf3⟩ := bcell k3
                  have s3 : w2.heap.size < w3.heap.size := by have := k3.size; (try simp at this); omega
                  have z3 : w.heap.size < w3.heap.size := by omega
                  have e30 : b0 < w3.heap.size := by omega
                  have e31 : b1 < w3.heap.size := by omega
                  have j0 : w3.cell? ⟨w2.heap.size, 0, none⟩ = some (.int .i64 (freeV f d)) := (hc3 _ _ (by simp <;> omega)).trans (by simp [go_sem])
                  have j1 : w3.cell? ⟨w2.heap.size, 1, none⟩ = some (.int .i64 (gasL f d)) := (hc3 _ _ (by simp <;> omega)).trans (by simp [go_sem])
                  have j2 : w3.cell? ⟨w2.heap.size, 2, none⟩ = some (.int .i64 (rainL f r d)) := (hc3 _ _ (by simp <;> omega)).trans (by simp [go_sem])
                  have j3 : w3.cell? ⟨w2.heap.size, 3, none⟩ = some (.int .i64 0) := (hc3 _ _ (by simp <;> omega)).trans (by simp [go_sem])
                  have j4 : w3.cell? ⟨w2.heap.size, 4, none⟩ = some (.int .i64 0) := (hc3 _ _ (by simp <;> omega)).trans (by simp [go_sem])
                  have jr0 : w3.cell? ⟨w.heap.size, 0, none⟩ = some (.int .i64 0) := (hc3 _ _ (by simp <;> omega)).trans (by simp [go_sem, z2, t0])
                  have jr1 : w3.cell? ⟨w.heap.size, 1, none⟩ = some (.int .i64 0) := (hc3 _ _ (by simp <;> omega)).trans (by simp [go_sem, z2, t1])
                  have jr2 : w3.cell? ⟨w.heap.size, 2, none⟩ = some (.int .i64 0) := (hc3 _ _ (by simp <;> omega)).trans (by simp [go_sem, z2, t2])
                  have jr3 : w3.cell? ⟨w.heap.size, 3, none⟩ = some (.int .i64 0) := (hc3 _ _ (by simp <;> omega)).trans (by simp [go_sem, z2, t3])
                  have jr4 : w3.cell? ⟨w.heap.size, 4, none⟩ = some (.int .i64 0) := (hc3 _ _ (by simp <;> omega)).trans (by simp [go_sem, z2, t4])
                  have jf : ∀ i, w3.frozen? ⟨w2.heap.size, i, none⟩ = false := fun i => (hf3 _ _ (by simp <;> omega)).trans (by simp [go_sem])
                  have jg : ∀ i, w3.frozen? ⟨w.heap.size, i, none⟩ = false := fun i => (hf3 _ _ (by simp <;> omega)).trans (by simp [go_sem, gf, z2])
                  have x30 : w3.cell? ⟨b0, o0, none⟩ = some (.int .i64 c0) := (hc3 _ _ (by simp <;> omega)).trans (by simp [go_sem, x0, e0])
                  have x31 : w3.cell? ⟨b0, o0 + 1, none⟩ = some (.int .i64 c1) := (hc3 _ _ (by simp <;> omega)).trans (by simp [go_sem, x1, e0])
                  have y30 : w3.cell? ⟨b1, o1, none⟩ = some (.int .i64 a0) := (hc3 _ _ (by simp <;> omega)).trans (by simp [go_sem, y0, e1])
                  have y31 : w3.cell? ⟨b1, o1 + 1, none⟩ = some (.int .i64 a1) := (hc3 _ _ (by simp <;> omega)).trans (by simp [go_sem, y1, e1])
                  have K3h := Lib.hid k3
                  clear k3 hc3 hf3
                  go_wp2_with fail
                  rw [rounds_succ]
                  go_wp2_with (first | (go_at_call 37; refine (Free.spec_l09Frequency _ _).mono ?_; rintro e w' ⟨rfl, rfl⟩) | (go_at_call 44; refine (Free.spec_l09Distance _ _).mono ?_; rintro e w' ⟨rfl, rfl⟩) | (go_at_call 41; refine (Loss.spec_l11Rate _ _).mono ?_; rintro e w' ⟨rfl, rfl⟩) | (go_at_call 33; refine (Loss.spec_l11Class _ _).mono ?_; rintro e w' ⟨rfl, rfl⟩) | (go_at_call 38; refine (Arith.l00In _ _ _ _).mono ?_; rintro e w' ⟨rfl, rfl⟩))
                  refine bodyPost_ret (v := .tuple #[.agg #[.int .i64 0, .int .i64 0, .int .i64 0, .int .i64 0, .int .i64 0], .int .i64 2]) (by simp [results, Tryd.results28, go_sem , jr0, jr1, jr2, jr3, jr4]) rfl ⟨ret_v en.out.symm, ?_⟩
                  refine On.setCell ?_ (Nat.le_refl _) _
                  refine On.setCell ?_ (Nat.le_refl _) _
                  refine On.setCell ?_ (Nat.le_refl _) _
                  refine On.setCell ?_ (Nat.le_refl _) _
                  refine On.setCell ?_ (Nat.le_refl _) _
                  refine On.setCell ?_ (Nat.le_of_lt z2) _
                  refine On.trans ?_ K3h.out
                  exact On.alloc OO2.out _
                | true =>
                  obtain ⟨m0, m1⟩ := hbd c0 a0 g3 g4
                  obtain ⟨m2, m3⟩ := hbd c1 a1 g5 g6
                  have HZ0 := Lib.hid (fun w => HZ.out c0 a0 w g3 g4)
                  have HZ1 := Lib.hid (fun w => HZ.out c1 a1 w g5 g6)
                  have hok := code_ok (f := f) (d := d) (r := r) (cs := [c0, c1]) (hs := [a0, a1]) ⟨rfl, rfl⟩ (okL_yes g0 g1 g2 (by simp [classB, g3, g5]) (by simp [aboveB, g4, g6]))
                  have en := Lib.hid (show resL f d r [c0, c1] [a0, a1] = .tuple #[.agg #[.int .i64 (freeV f d), .int .i64 (gasL f d), .int .i64 (rainL f r d), .int .i64 (clutV c0.toNat f a0 + clutV c1.toNat f a1), .int .i64 (freeV f d + gasL f d + rainL f r d + (clutV c0.toNat f a0 + clutV c1.toNat f a1))], .int .i64 0] from by
                    unfold resL pathL clutL
                    rw [hok]
                    rfl)
                  clear hok hbd HZ
                  generalize clutV c0.toNat f a0 = K0 at *
                  generalize clutV c1.toNat f a1 = K1 at *
                  generalize freeV f d = FV at *
                  generalize gasL f d = GV at *
                  generalize rainL f r d = RV at *
                  have wk0 : IntKind.i64.wrap K0 = K0 := IntWalk.i64_in _ (by omega)
                  have wk1 : IntKind.i64.wrap (K0 + K1) = K0 + K1 := IntWalk.i64_in _ (by omega)
                  have wk2 : IntKind.i64.wrap (FV + GV) = FV + GV := IntWalk.i64_in _ (by omega)
                  have wk3 : IntKind.i64.wrap (FV + GV + RV) = FV + GV + RV := IntWalk.i64_in _ (by omega)
                  have wk4 : IntKind.i64.wrap (FV + GV + RV + (K0 + K1)) = FV + GV + RV + (K0 + K1) := IntWalk.i64_in _ (by omega)
                  go_enter Tryd.func28, Tryd.ntmps28
                  go_wp2_with (first | (go_at_call 37; refine (Free.spec_l09Frequency _ _).mono ?_; rintro e w' ⟨rfl, rfl⟩) | (go_at_call 44; refine (Free.spec_l09Distance _ _).mono ?_; rintro e w' ⟨rfl, rfl⟩) | (go_at_call 41; refine (Loss.spec_l11Rate _ _).mono ?_; rintro e w' ⟨rfl, rfl⟩) | (go_at_call 33; refine (Loss.spec_l11Class _ _).mono ?_; rintro e w' ⟨rfl, rfl⟩) | (go_at_call 38; refine (Arith.l00In _ _ _ _).mono ?_; rintro e w' ⟨rfl, rfl⟩))
                  refine (HF.out _).mono ?_
                  rintro e w' ⟨rfl, rfl⟩
                  go_wp2_with fail
                  refine (HG.out _).mono ?_
                  rintro e w1 ⟨rfl, k1⟩
                  obtain ⟨hc1, hf1⟩ := bcell k1
                  have z1 : w.heap.size < w1.heap.size := by have := k1.size; (try simp at this); omega
                  go_wp2_with fail
                  refine (HD.out _).mono ?_
                  rintro e w' ⟨rfl, rfl⟩
                  go_wp2_with fail
                  refine (HW.out _).mono ?_
                  rintro e w2 ⟨rfl, k2⟩
                  obtain ⟨hc2, hf2⟩ := bcell k2
                  have z2 : w.heap.size < w2.heap.size := by have := k2.size; omega
                  have O2 : On w w2 := On.trans (by refine On.trans ?_ k1; repeat (first | with_reducible exact On.refl _ | with_reducible assumption | apply On.drewN | apply On.drew | apply On.alloc | refine On.setCell ?_ (by (try simp) <;> omega) _)) k2
                  have e0 := O2.lts _ hb0
                  have e1 := O2.lts _ hb1
                  have x0 := (O2.cell (by exact hb0)).trans X0.out
                  have x1 := (O2.cell (by exact hb0)).trans X1.out
                  have y0 := (O2.cell (by exact hb1)).trans Y0.out
                  have y1 := (O2.cell (by exact hb1)).trans Y1.out
                  have gz : ∀ j, j < 5 → w2.cell? ⟨w.heap.size, j, none⟩ = some (.int .i64 0) := fun j hj => by
                    rw [hc2 _ _ z1, hc1 _ _ (by simp)]
                    match j, hj with
                    | 0, _ => simp [go_sem]
                    | 1, _ => simp [go_sem]
                    | 2, _ => simp [go_sem]
                    | 3, _ => simp [go_sem]
                    | 4, _ => simp [go_sem]
                  have gf : ∀ j, w2.frozen? ⟨w.heap.size, j, none⟩ = false := fun j => by
                    rw [hf2 _ _ z1, hf1 _ _ (by simp)]
                    simp [go_sem]
                  have OO2 := Lib.hid O2
                  clear k1 k2 hc1 hf1 hc2 hf2 z1 O2
                  have t0 := gz 0 (by decide)
                  have t1 := gz 1 (by decide)
                  have t2 := gz 2 (by decide)
                  have t3 := gz 3 (by decide)
                  have t4 := gz 4 (by decide)
                  have hb0n : b0 ≠ w2.heap.size := Nat.ne_of_lt e0
                  have hb1n : b1 ≠ w2.heap.size := Nat.ne_of_lt e1
                  have hgn : w.heap.size ≠ w2.heap.size := Nat.ne_of_lt z2
                  clear gz
                  go_wp2_with fail
                  refine wp_loop_rounds 3 ?_
                  rw [rounds_succ]
                  go_wp2_with (first | (go_at_call 37; refine (Free.spec_l09Frequency _ _).mono ?_; rintro e w' ⟨rfl, rfl⟩) | (go_at_call 44; refine (Free.spec_l09Distance _ _).mono ?_; rintro e w' ⟨rfl, rfl⟩) | (go_at_call 41; refine (Loss.spec_l11Rate _ _).mono ?_; rintro e w' ⟨rfl, rfl⟩) | (go_at_call 33; refine (Loss.spec_l11Class _ _).mono ?_; rintro e w' ⟨rfl, rfl⟩) | (go_at_call 38; refine (Arith.l00In _ _ _ _).mono ?_; rintro e w' ⟨rfl, rfl⟩))
                  refine wp_region_on_tail 14 (by kernel_rfl) (by kernel_rfl) ?_
                  simp only [List.take_succ_cons, List.take_zero, List.drop_succ_cons, List.drop_zero]
                  repeat (refine wpQuiet_step (fun K hK => ?_); go_simp; first | (refine hK _ ?_; clear hK K) | (apply Exists.intro; refine ⟨fun v1 hv1 => ?_, hK _ ?_⟩; (first | with_reducible exact rfl | with_reducible exact ⟨rfl, rfl⟩ | with_reducible exact Calls.on hv1 (HZ0.out _) | (obtain ⟨hc, hf⟩ := bcell hv1; go_simp; first | with_reducible exact rfl | with_reducible exact ⟨rfl, rfl⟩ | exact rfl | exact ⟨rfl, rfl⟩)); clear hK K))
                  refine wpQuiet_nil ?_
                  intro w3 k3
                  obtain ⟨hc3, hf3⟩ := bcell k3
                  have s3 : w2.heap.size < w3.heap.size := by have := k3.size; (try simp at this); omega
                  have z3 : w.heap.size < w3.heap.size := by omega
                  have e30 : b0 < w3.heap.size := by omega
                  have e31 : b1 < w3.heap.size := by omega
                  have j0 : w3.cell? ⟨w2.heap.size, 0, none⟩ = some (.int .i64 FV) := (hc3 _ _ (by simp <;> omega)).trans (by simp [go_sem])
                  have j1 : w3.cell? ⟨w2.heap.size, 1, none⟩ = some (.int .i64 GV) := (hc3 _ _ (by simp <;> omega)).trans (by simp [go_sem])
                  have j2 : w3.cell? ⟨w2.heap.size, 2, none⟩ = some (.int .i64 RV) := (hc3 _ _ (by simp <;> omega)).trans (by simp [go_sem])
                  have j3 : w3.cell? ⟨w2.heap.size, 3, none⟩ = some (.int .i64 0) := (hc3 _ _ (by simp <;> omega)).trans (by simp [go_sem])
                  have j4 : w3.cell? ⟨w2.heap.size, 4, none⟩ = some (.int .i64 0) := (hc3 _ _ (by simp <;> omega)).trans (by simp [go_sem])
                  have jr0 : w3.cell? ⟨w.heap.size, 0, none⟩ = some (.int .i64 0) := (hc3 _ _ (by simp <;> omega)).trans (by simp [go_sem, z2, t0])
                  have jr1 : w3.cell? ⟨w.heap.size, 1, none⟩ = some (.int .i64 0) := (hc3 _ _ (by simp <;> omega)).trans (by simp [go_sem, z2, t1])
                  have jr2 : w3.cell? ⟨w.heap.size, 2, none⟩ = some (.int .i64 0) := (hc3 _ _ (by simp <;> omega)).trans (by simp [go_sem, z2, t2])
                  have jr3 : w3.cell? ⟨w.heap.size, 3, none⟩ = some (.int .i64 0) := (hc3 _ _ (by simp <;> omega)).trans (by simp [go_sem, z2, t3])
                  have jr4 : w3.cell? ⟨w.heap.size, 4, none⟩ = some (.int .i64 0) := (hc3 _ _ (by simp <;> omega)).trans (by simp [go_sem, z2, t4])
                  have jf : ∀ i, w3.frozen? ⟨w2.heap.size, i, none⟩ = false := fun i => (hf3 _ _ (by simp <;> omega)).trans (by simp [go_sem])
                  have jg : ∀ i, w3.frozen? ⟨w.heap.size, i, none⟩ = false := fun i => (hf3 _ _ (by simp <;> omega)).trans (by simp [go_sem, gf, z2])
                  have x30 : w3.cell? ⟨b0, o0, none⟩ = some (.int .i64 c0) := (hc3 _ _ (by simp <;> omega)).trans (by simp [go_sem, x0, e0])
                  have x31 : w3.cell? ⟨b0, o0 + 1, none⟩ = some (.int .i64 c1) := (hc3 _ _ (by simp <;> omega)).trans (by simp [go_sem, x1, e0])
                  have y30 : w3.cell? ⟨b1, o1, none⟩ = some (.int .i64 a0) := (hc3 _ _ (by simp <;> omega)).trans (by simp [go_sem, y0, e1])
                  have y31 : w3.cell? ⟨b1, o1 + 1, none⟩ = some (.int .i64 a1) := (hc3 _ _ (by simp <;> omega)).trans (by simp [go_sem, y1, e1])
                  have K3h := Lib.hid k3
                  clear k3 hc3 hf3
                  go_wp2_with fail
                  rw [rounds_succ]
                  go_wp2_with (first | (go_at_call 37; refine (Free.spec_l09Frequency _ _).mono ?_; rintro e w' ⟨rfl, rfl⟩) | (go_at_call 44; refine (Free.spec_l09Distance _ _).mono ?_; rintro e w' ⟨rfl, rfl⟩) | (go_at_call 41; refine (Loss.spec_l11Rate _ _).mono ?_; rintro e w' ⟨rfl, rfl⟩) | (go_at_call 33; refine (Loss.spec_l11Class _ _).mono ?_; rintro e w' ⟨rfl, rfl⟩) | (go_at_call 38; refine (Arith.l00In _ _ _ _).mono ?_; rintro e w' ⟨rfl, rfl⟩))
                  refine wp_region_on_tail 14 (by kernel_rfl) (by kernel_rfl) ?_
                  simp only [List.take_succ_cons, List.take_zero, List.drop_succ_cons, List.drop_zero]
                  repeat (refine wpQuiet_step (fun K hK => ?_); go_simp; first | (refine hK _ ?_; clear hK K) | (apply Exists.intro; refine ⟨fun v1 hv1 => ?_, hK _ ?_⟩; (first | with_reducible exact rfl | with_reducible exact ⟨rfl, rfl⟩ | with_reducible exact Calls.on hv1 (HZ1.out _) | (obtain ⟨hc, hf⟩ := bcell hv1; go_simp; first | with_reducible exact rfl | with_reducible exact ⟨rfl, rfl⟩ | exact rfl | exact ⟨rfl, rfl⟩)); clear hK K))
                  refine wpQuiet_nil ?_
                  intro w4 k4
                  obtain ⟨hc4, hf4⟩ := bcell k4
                  have s4 : w2.heap.size < w4.heap.size := by have := k4.size; (try simp at this); omega
                  have z4 : w.heap.size < w4.heap.size := by omega
                  have e40 : b0 < w4.heap.size := by omega
                  have e41 : b1 < w4.heap.size := by omega
                  have l0 : w4.cell? ⟨w2.heap.size, 0, none⟩ = some (.int .i64 FV) := (hc4 _ _ (by simp <;> omega)).trans (by simp [go_sem, j0])
                  have l1 : w4.cell? ⟨w2.heap.size, 1, none⟩ = some (.int .i64 GV) := (hc4 _ _ (by simp <;> omega)).trans (by simp [go_sem, j1])
                  have l2 : w4.cell? ⟨w2.heap.size, 2, none⟩ = some (.int .i64 RV) := (hc4 _ _ (by simp <;> omega)).trans (by simp [go_sem, j2])
                  have l3 : w4.cell? ⟨w2.heap.size, 3, none⟩ = some (.int .i64 K0) := (hc4 _ _ (by simp <;> omega)).trans (by simp [go_sem, j3])
                  have l4 : w4.cell? ⟨w2.heap.size, 4, none⟩ = some (.int .i64 0) := (hc4 _ _ (by simp <;> omega)).trans (by simp [go_sem, j4])
                  have lr0 : w4.cell? ⟨w.heap.size, 0, none⟩ = some (.int .i64 0) := (hc4 _ _ (by simp <;> omega)).trans (by simp [go_sem, jr0])
                  have lr1 : w4.cell? ⟨w.heap.size, 1, none⟩ = some (.int .i64 0) := (hc4 _ _ (by simp <;> omega)).trans (by simp [go_sem, jr1])
                  have lr2 : w4.cell? ⟨w.heap.size, 2, none⟩ = some (.int .i64 0) := (hc4 _ _ (by simp <;> omega)).trans (by simp [go_sem, jr2])
                  have lr3 : w4.cell? ⟨w.heap.size, 3, none⟩ = some (.int .i64 0) := (hc4 _ _ (by simp <;> omega)).trans (by simp [go_sem, jr3])
                  have lr4 : w4.cell? ⟨w.heap.size, 4, none⟩ = some (.int .i64 0) := (hc4 _ _ (by simp <;> omega)).trans (by simp [go_sem, jr4])
                  have lf : ∀ i, w4.frozen? ⟨w2.heap.size, i, none⟩ = false := fun i => (hf4 _ _ (by simp <;> omega)).trans (by simp [go_sem, jf])
                  have lg : ∀ i, w4.frozen? ⟨w.heap.size, i, none⟩ = false := fun i => (hf4 _ _ (by simp <;> omega)).trans (by simp [go_sem, jg])
                  have K4h := Lib.hid k4
                  clear k4 hc4 hf4
                  go_wp2_with fail
                  rw [rounds_succ]
                  go_wp2_with fail
                  refine bodyPost_ret (v := .tuple #[.agg #[.int .i64 FV, .int .i64 GV, .int .i64 RV, .int .i64 (K0 + K1), .int .i64 (FV + GV + RV + (K0 + K1))], .int .i64 0]) (by simp [results, Tryd.results28, go_sem, lr0, lr1, lr2, lr3, lr4]) rfl ⟨ret_v en.out.symm, ?_⟩
                  refine On.setCell ?_ (Nat.le_refl _) _
                  refine On.setCell ?_ (Nat.le_refl _) _
                  refine On.setCell ?_ (Nat.le_refl _) _
                  refine On.setCell ?_ (Nat.le_refl _) _
                  refine On.setCell ?_ (Nat.le_refl _) _
                  refine On.setCell ?_ (Nat.le_of_lt z2) _
                  refine On.setCell ?_ (Nat.le_of_lt z2) _
                  refine On.trans ?_ K4h.out
                  refine On.setCell ?_ (Nat.le_of_lt z2) _
                  refine On.trans ?_ K3h.out
                  exact On.alloc OO2.out _
  · have en := Lib.hid (res_bad (code_len (f := f) (d := d) (r := r) hl) (by decide))
    obtain ⟨p0, cap0, rfl, -⟩ := h0
    obtain ⟨p1, cap1, rfl, -⟩ := h1
    by_cases hl0 : zs.length = 2
    · have hl1 : ¬ hs.length = 2 := fun q => hl ⟨hl0, q⟩
      obtain ⟨m0, m1⟩ := ne_two hl1
      rw [hl0]
      clear hl
      go_enter Tryd.func28, Tryd.ntmps28
      go_wp2_with fail
      refine bodyPost_ret (v := .tuple #[.agg #[.int .i64 0, .int .i64 0, .int .i64 0, .int .i64 0, .int .i64 0], .int .i64 6]) (by simp [results, Tryd.results28, go_sem]) rfl ⟨ret_v en.out.symm, ?_⟩
      exact On.alloc (On.refl _) _
    · obtain ⟨m0, m1⟩ := ne_two hl0
      clear hl
      go_enter Tryd.func28, Tryd.ntmps28
      go_wp2_with fail
      refine bodyPost_ret (v := .tuple #[.agg #[.int .i64 0, .int .i64 0, .int .i64 0, .int .i64 0, .int .i64 0], .int .i64 6]) (by simp [results, Tryd.results28, go_sem]) rfl ⟨ret_v en.out.symm, ?_⟩
      exact On.alloc (On.refl _) _
end Go.Proofs.YtigbbhohgeemdaaDoor.Losses
