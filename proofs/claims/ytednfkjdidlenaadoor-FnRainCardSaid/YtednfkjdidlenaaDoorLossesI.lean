
/-
  The losses of a path, in the program. Condition: at most 1048576 classes and heights; the program's variables of spans and of surroundings hold what their texts lay.
-/
import Derived.Test.YtednfkjdidlenaaDoorLosses
namespace Go.Proofs.YtednfkjdidlenaaDoor.Losses
open Go.RowKit
open Plain
open Span (SpanG)
open Surr (SurrG)
open Ints (Ints)

set_option maxRecDepth 100000 in
set_option maxHeartbeats 8000000 in
theorem impl_losses (f d r : Int) (v0 v1 : Value) (zs hs : List Int) (w : World) (h0 : Ints w v0 zs) (h1 : Ints w v1 hs) (hg : SpanG w) (hsr : SurrG w) :
    Calls Tryd.prog 6 #[.int .i64 f, .int .i64 d, .int .i64 r, v0, v1] w fun e w' => e = .returned (resL f d r zs hs) ∧ On w w' := by
  have HG := Lib.hid hg
  have HS := Lib.hid hsr
  clear hg hsr
  by_cases hl : zs.length = 2 ∧ hs.length = 2
  · obtain ⟨c0, c1, rfl⟩ := two_of hl.1
    obtain ⟨a0, a1, rfl⟩ := two_of hl.2
    have h0' := h0
    have h1' := h1
    obtain ⟨p0, cap0, rfl, -⟩ := h0
    obtain ⟨p1, cap1, rfl, -⟩ := h1
    obtain ⟨b0, o0, rfl, hb0, hc0⟩ := slice_of h0' rfl (by simp)
    obtain ⟨b1, o1, rfl, hb1, hc1⟩ := slice_of h1' rfl (by simp)
    have x0 : w.cell? ⟨b0, o0, none⟩ = some (.int .i64 c0) := hc0 0 (by simp)
    have x1 : w.cell? ⟨b0, o0 + 1, none⟩ = some (.int .i64 c1) := hc0 1 (by simp)
    have y0 : w.cell? ⟨b1, o1, none⟩ = some (.int .i64 a0) := hc1 0 (by simp)
    have y1 : w.cell? ⟨b1, o1 + 1, none⟩ = some (.int .i64 a1) := hc1 1 (by simp)
    have X0 := Lib.hid x0
    have X1 := Lib.hid x1
    have Y0 := Lib.hid y0
    have Y1 := Lib.hid y1
    have V0 := Lib.hid h0'
    have V1 := Lib.hid h1'
    simp only [List.length_cons, List.length_nil, Nat.zero_add, Nat.reduceAdd] at *
    clear hc0 hc1 hl h0' h1'
    cases g0 : inB f 1 100000000 with
    | false =>
      have en := Lib.hid (res_bad (code_bad (f := f) (d := d) (r := r) (cs := [c0, c1]) (hs := [a0, a1]) ⟨rfl, rfl⟩ (okL_f g0)) (by decide))
      go_enter Tryd.func6, Tryd.ntmps6
      go_wp2_with fail
      refine (Span.allows1_0 f _ _ (by simp [go_sem]) (HG.out.on (On.alloc (On.alloc (On.refl _) _) _))).mono ?_
      rintro e w1 ⟨rfl, k1⟩
      have HO1 := Lib.hid (show On (w.alloc (.cells #[.int .i64 0, .int .i64 0, .int .i64 0, .int .i64 0, .int .i64 0] 28)) w1 from On.trans (On.trans (On.refl _) (On.alloc (On.refl _) _)) k1)
      clear k1
      obtain ⟨hcq, hfq⟩ := bcell HO1.out
      have z1 : w.heap.size < w1.heap.size := by have := HO1.out.size; (try simp at this); omega
      have t0 : w1.cell? ⟨w.heap.size, 0, none⟩ = some (.int .i64 0) := (hcq _ _ (by simp)).trans (by simp [go_sem])
      have t1 : w1.cell? ⟨w.heap.size, 1, none⟩ = some (.int .i64 0) := (hcq _ _ (by simp)).trans (by simp [go_sem])
      have t2 : w1.cell? ⟨w.heap.size, 2, none⟩ = some (.int .i64 0) := (hcq _ _ (by simp)).trans (by simp [go_sem])
      have t3 : w1.cell? ⟨w.heap.size, 3, none⟩ = some (.int .i64 0) := (hcq _ _ (by simp)).trans (by simp [go_sem])
      have t4 : w1.cell? ⟨w.heap.size, 4, none⟩ = some (.int .i64 0) := (hcq _ _ (by simp)).trans (by simp [go_sem])
      have tf : ∀ j, w1.frozen? ⟨w.heap.size, j, none⟩ = false := fun j => (hfq _ _ (by simp)).trans (by simp [go_sem])
      clear hcq hfq
      go_wp2_with fail
      refine bodyPost_ret (v := .tuple #[.agg #[.int .i64 0, .int .i64 0, .int .i64 0, .int .i64 0, .int .i64 0], .int .i64 2]) (by simp [results, Tryd.results6, go_sem, t0, t1, t2, t3, t4]) rfl ⟨ret_v en.out.symm, ?_⟩
      refine On.setCell ?_ (Nat.le_refl _) _
      refine On.setCell ?_ (Nat.le_refl _) _
      refine On.setCell ?_ (Nat.le_refl _) _
      refine On.setCell ?_ (Nat.le_refl _) _
      refine On.setCell ?_ (Nat.le_refl _) _
      exact On.trans (On.alloc (On.refl _) _) HO1.out
    | true =>
      cases g1 : inB d 1 283000 with
      | false =>
        have en := Lib.hid (res_bad (code_bad (f := f) (d := d) (r := r) (cs := [c0, c1]) (hs := [a0, a1]) ⟨rfl, rfl⟩ (okL_d g1)) (by decide))
        go_enter Tryd.func6, Tryd.ntmps6
        go_wp2_with fail
        refine (Span.allows1_0 f _ _ (by simp [go_sem]) (HG.out.on (On.alloc (On.alloc (On.refl _) _) _))).mono ?_
        rintro e w1 ⟨rfl, k1⟩
        have HO1 := Lib.hid (show On (w.alloc (.cells #[.int .i64 0, .int .i64 0, .int .i64 0, .int .i64 0, .int .i64 0] 28)) w1 from On.trans (On.trans (On.refl _) (On.alloc (On.refl _) _)) k1)
        clear k1
        go_wp2_with fail
        refine (Span.allows1_1 d _ _ (by simp [go_sem]) (HG.out.on (On.trans (On.trans (On.alloc (On.refl _) _) HO1.out) (On.alloc (On.refl _) _)))).mono ?_
        rintro e w2 ⟨rfl, k2⟩
        have HO2 := Lib.hid (show On (w.alloc (.cells #[.int .i64 0, .int .i64 0, .int .i64 0, .int .i64 0, .int .i64 0] 28)) w2 from On.trans (On.trans (HO1.out) (On.alloc (On.refl _) _)) k2)
        clear k2
        obtain ⟨hcq, hfq⟩ := bcell HO2.out
        have z2 : w.heap.size < w2.heap.size := by have := HO2.out.size; (try simp at this); omega
        have t0 : w2.cell? ⟨w.heap.size, 0, none⟩ = some (.int .i64 0) := (hcq _ _ (by simp)).trans (by simp [go_sem])
        have t1 : w2.cell? ⟨w.heap.size, 1, none⟩ = some (.int .i64 0) := (hcq _ _ (by simp)).trans (by simp [go_sem])
        have t2 : w2.cell? ⟨w.heap.size, 2, none⟩ = some (.int .i64 0) := (hcq _ _ (by simp)).trans (by simp [go_sem])
        have t3 : w2.cell? ⟨w.heap.size, 3, none⟩ = some (.int .i64 0) := (hcq _ _ (by simp)).trans (by simp [go_sem])
        have t4 : w2.cell? ⟨w.heap.size, 4, none⟩ = some (.int .i64 0) := (hcq _ _ (by simp)).trans (by simp [go_sem])
        have tf : ∀ j, w2.frozen? ⟨w.heap.size, j, none⟩ = false := fun j => (hfq _ _ (by simp)).trans (by simp [go_sem])
        clear hcq hfq
        go_wp2_with fail
        refine bodyPost_ret (v := .tuple #[.agg #[.int .i64 0, .int .i64 0, .int .i64 0, .int .i64 0, .int .i64 0], .int .i64 2]) (by simp [results, Tryd.results6, go_sem, t0, t1, t2, t3, t4]) rfl ⟨ret_v en.out.symm, ?_⟩
        refine On.setCell ?_ (Nat.le_refl _) _
        refine On.setCell ?_ (Nat.le_refl _) _
        refine On.setCell ?_ (Nat.le_refl _) _
        refine On.setCell ?_ (Nat.le_refl _) _
        refine On.setCell ?_ (Nat.le_refl _) _
        exact On.trans (On.alloc (On.refl _) _) HO2.out
      | true =>
        cases g2 : inB r 0 200 with
        | false =>
          have en := Lib.hid (res_bad (code_bad (f := f) (d := d) (r := r) (cs := [c0, c1]) (hs := [a0, a1]) ⟨rfl, rfl⟩ (okL_r g2)) (by decide))
          go_enter Tryd.func6, Tryd.ntmps6
          go_wp2_with fail
          refine (Span.allows1_0 f _ _ (by simp [go_sem]) (HG.out.on (On.alloc (On.alloc (On.refl _) _) _))).mono ?_
          rintro e w1 ⟨rfl, k1⟩
          have HO1 := Lib.hid (show On (w.alloc (.cells #[.int .i64 0, .int .i64 0, .int .i64 0, .int .i64 0, .int .i64 0] 28)) w1 from On.trans (On.trans (On.refl _) (On.alloc (On.refl _) _)) k1)
          clear k1
          go_wp2_with fail
          refine (Span.allows1_1 d _ _ (by simp [go_sem]) (HG.out.on (On.trans (On.trans (On.alloc (On.refl _) _) HO1.out) (On.alloc (On.refl _) _)))).mono ?_
          rintro e w2 ⟨rfl, k2⟩
          have HO2 := Lib.hid (show On (w.alloc (.cells #[.int .i64 0, .int .i64 0, .int .i64 0, .int .i64 0, .int .i64 0] 28)) w2 from On.trans (On.trans (HO1.out) (On.alloc (On.refl _) _)) k2)
          clear k2
          go_wp2_with fail
          refine (Span.allows1_8 r _ _ (by simp [go_sem]) (HG.out.on (On.trans (On.trans (On.alloc (On.refl _) _) HO2.out) (On.alloc (On.refl _) _)))).mono ?_
          rintro e w3 ⟨rfl, k3⟩
          have HO3 := Lib.hid (show On (w.alloc (.cells #[.int .i64 0, .int .i64 0, .int .i64 0, .int .i64 0, .int .i64 0] 28)) w3 from On.trans (On.trans (HO2.out) (On.alloc (On.refl _) _)) k3)
          clear k3
          obtain ⟨hcq, hfq⟩ := bcell HO3.out
          have z3 : w.heap.size < w3.heap.size := by have := HO3.out.size; (try simp at this); omega
          have t0 : w3.cell? ⟨w.heap.size, 0, none⟩ = some (.int .i64 0) := (hcq _ _ (by simp)).trans (by simp [go_sem])
          have t1 : w3.cell? ⟨w.heap.size, 1, none⟩ = some (.int .i64 0) := (hcq _ _ (by simp)).trans (by simp [go_sem])
          have t2 : w3.cell? ⟨w.heap.size, 2, none⟩ = some (.int .i64 0) := (hcq _ _ (by simp)).trans (by simp [go_sem])
          have t3 : w3.cell? ⟨w.heap.size, 3, none⟩ = some (.int .i64 0) := (hcq _ _ (by simp)).trans (by simp [go_sem])
          have t4 : w3.cell? ⟨w.heap.size, 4, none⟩ = some (.int .i64 0) := (hcq _ _ (by simp)).trans (by simp [go_sem])
          have tf : ∀ j, w3.frozen? ⟨w.heap.size, j, none⟩ = false := fun j => (hfq _ _ (by simp)).trans (by simp [go_sem])
          clear hcq hfq
          go_wp2_with fail
          refine bodyPost_ret (v := .tuple #[.agg #[.int .i64 0, .int .i64 0, .int .i64 0, .int .i64 0, .int .i64 0], .int .i64 2]) (by simp [results, Tryd.results6, go_sem, t0, t1, t2, t3, t4]) rfl ⟨ret_v en.out.symm, ?_⟩
          refine On.setCell ?_ (Nat.le_refl _) _
          refine On.setCell ?_ (Nat.le_refl _) _
          refine On.setCell ?_ (Nat.le_refl _) _
          refine On.setCell ?_ (Nat.le_refl _) _
          refine On.setCell ?_ (Nat.le_refl _) _
          exact On.trans (On.alloc (On.refl _) _) HO3.out
        | true =>
          cases g3 : [c0, c1].all classB with
          | false =>
            have en := Lib.hid (res_bad (code_bad (f := f) (d := d) (r := r) (cs := [c0, c1]) (hs := [a0, a1]) ⟨rfl, rfl⟩ (okL_c g3)) (by decide))
            have G3 : ([c0, c1].all fun x => inB x 0 7) = false := g3
            go_enter Tryd.func6, Tryd.ntmps6
            go_wp2_with fail
            refine (Span.allows1_0 f _ _ (by simp [go_sem]) (HG.out.on (On.alloc (On.alloc (On.refl _) _) _))).mono ?_
            rintro e w1 ⟨rfl, k1⟩
            have HO1 := Lib.hid (show On (w.alloc (.cells #[.int .i64 0, .int .i64 0, .int .i64 0, .int .i64 0, .int .i64 0] 28)) w1 from On.trans (On.trans (On.refl _) (On.alloc (On.refl _) _)) k1)
            clear k1
            go_wp2_with fail
            refine (Span.allows1_1 d _ _ (by simp [go_sem]) (HG.out.on (On.trans (On.trans (On.alloc (On.refl _) _) HO1.out) (On.alloc (On.refl _) _)))).mono ?_
            rintro e w2 ⟨rfl, k2⟩
            have HO2 := Lib.hid (show On (w.alloc (.cells #[.int .i64 0, .int .i64 0, .int .i64 0, .int .i64 0, .int .i64 0] 28)) w2 from On.trans (On.trans (HO1.out) (On.alloc (On.refl _) _)) k2)
            clear k2
            go_wp2_with fail
            refine (Span.allows1_8 r _ _ (by simp [go_sem]) (HG.out.on (On.trans (On.trans (On.alloc (On.refl _) _) HO2.out) (On.alloc (On.refl _) _)))).mono ?_
            rintro e w3 ⟨rfl, k3⟩
            have HO3 := Lib.hid (show On (w.alloc (.cells #[.int .i64 0, .int .i64 0, .int .i64 0, .int .i64 0, .int .i64 0] 28)) w3 from On.trans (On.trans (HO2.out) (On.alloc (On.refl _) _)) k3)
            clear k3
            go_wp2_with fail
            refine (Span.allows_6 _ _ _ (by simp) (V0.out.below (On.trans (On.alloc (On.refl _) _) HO3.out)) (HG.out.on (On.trans (On.alloc (On.refl _) _) HO3.out))).mono ?_
            rintro e w4 ⟨rfl, k4⟩
            have HO4 := Lib.hid (show On (w.alloc (.cells #[.int .i64 0, .int .i64 0, .int .i64 0, .int .i64 0, .int .i64 0] 28)) w4 from On.trans (HO3.out) k4)
            clear k4
            obtain ⟨hcq, hfq⟩ := bcell HO4.out
            have z4 : w.heap.size < w4.heap.size := by have := HO4.out.size; (try simp at this); omega
            have t0 : w4.cell? ⟨w.heap.size, 0, none⟩ = some (.int .i64 0) := (hcq _ _ (by simp)).trans (by simp [go_sem])
            have t1 : w4.cell? ⟨w.heap.size, 1, none⟩ = some (.int .i64 0) := (hcq _ _ (by simp)).trans (by simp [go_sem])
            have t2 : w4.cell? ⟨w.heap.size, 2, none⟩ = some (.int .i64 0) := (hcq _ _ (by simp)).trans (by simp [go_sem])
            have t3 : w4.cell? ⟨w.heap.size, 3, none⟩ = some (.int .i64 0) := (hcq _ _ (by simp)).trans (by simp [go_sem])
            have t4 : w4.cell? ⟨w.heap.size, 4, none⟩ = some (.int .i64 0) := (hcq _ _ (by simp)).trans (by simp [go_sem])
            have tf : ∀ j, w4.frozen? ⟨w.heap.size, j, none⟩ = false := fun j => (hfq _ _ (by simp)).trans (by simp [go_sem])
            clear hcq hfq
            go_wp2_with fail
            refine bodyPost_ret (v := .tuple #[.agg #[.int .i64 0, .int .i64 0, .int .i64 0, .int .i64 0, .int .i64 0], .int .i64 2]) (by simp [results, Tryd.results6, go_sem, t0, t1, t2, t3, t4]) rfl ⟨ret_v en.out.symm, ?_⟩
            refine On.setCell ?_ (Nat.le_refl _) _
            refine On.setCell ?_ (Nat.le_refl _) _
            refine On.setCell ?_ (Nat.le_refl _) _
            refine On.setCell ?_ (Nat.le_refl _) _
            refine On.setCell ?_ (Nat.le_refl _) _
            exact On.trans (On.alloc (On.refl _) _) HO4.out
          | true =>
            cases g4 : [a0, a1].all aboveB with
            | false =>
              have en := Lib.hid (res_bad (code_bad (f := f) (d := d) (r := r) (cs := [c0, c1]) (hs := [a0, a1]) ⟨rfl, rfl⟩ (okL_a g4)) (by decide))
              have G3 : ([c0, c1].all fun x => inB x 0 7) = true := g3
              have G4 : ([a0, a1].all fun x => inB x 0 90000) = false := g4
              go_enter Tryd.func6, Tryd.ntmps6
              go_wp2_with fail
              refine (Span.allows1_0 f _ _ (by simp [go_sem]) (HG.out.on (On.alloc (On.alloc (On.refl _) _) _))).mono ?_
              rintro e w1 ⟨rfl, k1⟩
              have HO1 := Lib.hid (show On (w.alloc (.cells #[.int .i64 0, .int .i64 0, .int .i64 0, .int .i64 0, .int .i64 0] 28)) w1 from On.trans (On.trans (On.refl _) (On.alloc (On.refl _) _)) k1)
              clear k1
              go_wp2_with fail
              refine (Span.allows1_1 d _ _ (by simp [go_sem]) (HG.out.on (On.trans (On.trans (On.alloc (On.refl _) _) HO1.out) (On.alloc (On.refl _) _)))).mono ?_
              rintro e w2 ⟨rfl, k2⟩
              have HO2 := Lib.hid (show On (w.alloc (.cells #[.int .i64 0, .int .i64 0, .int .i64 0, .int .i64 0, .int .i64 0] 28)) w2 from On.trans (On.trans (HO1.out) (On.alloc (On.refl _) _)) k2)
              clear k2
              go_wp2_with fail
              refine (Span.allows1_8 r _ _ (by simp [go_sem]) (HG.out.on (On.trans (On.trans (On.alloc (On.refl _) _) HO2.out) (On.alloc (On.refl _) _)))).mono ?_
              rintro e w3 ⟨rfl, k3⟩
              have HO3 := Lib.hid (show On (w.alloc (.cells #[.int .i64 0, .int .i64 0, .int .i64 0, .int .i64 0, .int .i64 0] 28)) w3 from On.trans (On.trans (HO2.out) (On.alloc (On.refl _) _)) k3)
              clear k3
              go_wp2_with fail
              refine (Span.allows_6 _ _ _ (by simp) (V0.out.below (On.trans (On.alloc (On.refl _) _) HO3.out)) (HG.out.on (On.trans (On.alloc (On.refl _) _) HO3.out))).mono ?_
              rintro e w4 ⟨rfl, k4⟩
              have HO4 := Lib.hid (show On (w.alloc (.cells #[.int .i64 0, .int .i64 0, .int .i64 0, .int .i64 0, .int .i64 0] 28)) w4 from On.trans (HO3.out) k4)
              clear k4
              go_wp2_with fail
              refine (Span.allows_7 _ _ _ (by simp) (V1.out.below (On.trans (On.alloc (On.refl _) _) HO4.out)) (HG.out.on (On.trans (On.alloc (On.refl _) _) HO4.out))).mono ?_
              rintro e w5 ⟨rfl, k5⟩
              have HO5 := Lib.hid (show On (w.alloc (.cells #[.int .i64 0, .int .i64 0, .int .i64 0, .int .i64 0, .int .i64 0] 28)) w5 from On.trans (HO4.out) k5)
              clear k5
              obtain ⟨hcq, hfq⟩ := bcell HO5.out
              have z5 : w.heap.size < w5.heap.size := by have := HO5.out.size; (try simp at this); omega
              have t0 : w5.cell? ⟨w.heap.size, 0, none⟩ = some (.int .i64 0) := (hcq _ _ (by simp)).trans (by simp [go_sem])
              have t1 : w5.cell? ⟨w.heap.size, 1, none⟩ = some (.int .i64 0) := (hcq _ _ (by simp)).trans (by simp [go_sem])
              have t2 : w5.cell? ⟨w.heap.size, 2, none⟩ = some (.int .i64 0) := (hcq _ _ (by simp)).trans (by simp [go_sem])
              have t3 : w5.cell? ⟨w.heap.size, 3, none⟩ = some (.int .i64 0) := (hcq _ _ (by simp)).trans (by simp [go_sem])
              have t4 : w5.cell? ⟨w.heap.size, 4, none⟩ = some (.int .i64 0) := (hcq _ _ (by simp)).trans (by simp [go_sem])
              have tf : ∀ j, w5.frozen? ⟨w.heap.size, j, none⟩ = false := fun j => (hfq _ _ (by simp)).trans (by simp [go_sem])
              clear hcq hfq
              go_wp2_with fail
              refine bodyPost_ret (v := .tuple #[.agg #[.int .i64 0, .int .i64 0, .int .i64 0, .int .i64 0, .int .i64 0], .int .i64 2]) (by simp [results, Tryd.results6, go_sem, t0, t1, t2, t3, t4]) rfl ⟨ret_v en.out.symm, ?_⟩
              refine On.setCell ?_ (Nat.le_refl _) _
              refine On.setCell ?_ (Nat.le_refl _) _
              refine On.setCell ?_ (Nat.le_refl _) _
              refine On.setCell ?_ (Nat.le_refl _) _
              refine On.setCell ?_ (Nat.le_refl _) _
              exact On.trans (On.alloc (On.refl _) _) HO5.out
            | true =>
              obtain ⟨f0, f1⟩ := of_inB g0
              obtain ⟨d0, d1⟩ := of_inB g1
              obtain ⟨r0, r1⟩ := of_inB g2
              have G3 : ([c0, c1].all fun x => inB x 0 7) = true := g3
              have G4 : ([a0, a1].all fun x => inB x 0 90000) = true := g4
              have i0 : inB c0 0 7 = true := by simp [classB] at g3; exact g3.1
              have i1 : inB c1 0 7 = true := by simp [classB] at g3; exact g3.2
              have i2 : inB a0 0 90000 = true := by simp [aboveB] at g4; exact g4.1
              have i3 : inB a1 0 90000 = true := by simp [aboveB] at g4; exact g4.2
              have HF := Lib.hid (fun w => Free.impl_loss f d w (by omega) (by omega) (by omega) (by omega))
              have HGA := Lib.hid (fun w => Rain.impl_gas f d w (by omega) f1 d0 d1)
              have HW := Lib.hid (fun w => Rain.impl_wet f r d w (by omega) f1 r0 r1 d0 d1)
              obtain ⟨u0, u1⟩ := freeV_bd (f := f) (d := d) (by omega) (by omega)
              obtain ⟨u2, u3⟩ := gasL_bd (f := f) d0 d1
              obtain ⟨u4, u5⟩ := rainL_bd (f := f) r0 r1 d0 d1
              have HZ := Lib.hid (fun (c : Int) (a : Int) (w : World) (hc : inB c 0 7 = true) (ha : inB a 0 90000 = true) (h : SurrG w) => show Calls Tryd.prog 23 #[.int .i64 f, .int .i64 c, .int .i64 a] w fun e w' => e = .returned (.int .i64 (clutV c.toNat f a)) ∧ On w w' from by
                have q := of_inB hc
                have := Clut.impl_clutter c.toNat f a w (by omega) (of_inB ha).1 (of_inB ha).2 h
                rw [Int.toNat_of_nonneg q.1] at this; exact this)
              obtain ⟨m0, m1⟩ : 0 ≤ clutV c0.toNat f a0 ∧ clutV c0.toNat f a0 ≤ 720000000 := clut_bd (by have := of_inB i0; omega) (of_inB i2).1
              obtain ⟨m2, m3⟩ : 0 ≤ clutV c1.toNat f a1 ∧ clutV c1.toNat f a1 ≤ 720000000 := clut_bd (by have := of_inB i1; omega) (of_inB i3).1
              have HZ0 := Lib.hid (fun w0 (ho : On w w0) (W v1 : World) (hW : On w0 W) (hv : On W v1) => HZ.out c0 a0 v1 i0 i2 (HS.out.on (On.trans ho (On.trans hW hv))))
              have HZ1 := Lib.hid (fun w0 (ho : On w w0) (W v1 : World) (hW : On w0 W) (hv : On W v1) => HZ.out c1 a1 v1 i1 i3 (HS.out.on (On.trans ho (On.trans hW hv))))
              have hok := code_ok (f := f) (d := d) (r := r) (cs := [c0, c1]) (hs := [a0, a1]) ⟨rfl, rfl⟩ (okL_yes g0 g1 g2 g3 g4)
              have en := Lib.hid (show resL f d r [c0, c1] [a0, a1] = .tuple #[.agg #[.int .i64 (freeV f d), .int .i64 (gasL f d), .int .i64 (rainL f r d), .int .i64 (clutV c0.toNat f a0 + clutV c1.toNat f a1), .int .i64 (freeV f d + gasL f d + rainL f r d + (clutV c0.toNat f a0 + clutV c1.toNat f a1))], .int .i64 0] from by
                unfold resL pathL clutL
                rw [hok]
                rfl)
              clear hok HZ i0 i1 i2 i3
              generalize clutV c0.toNat f a0 = K0 at *
              generalize clutV c1.toNat f a1 = K1 at *
              generalize freeV f d = FV at *
              generalize gasL f d = GV at *
              generalize rainL f r d = RV at *
              have wk0 : IntKind.i64.wrap K0 = K0 := IntWalk.i64_in _ (by omega)
              have wk1 : IntKind.i64.wrap (K0 + K1) = K0 + K1 := IntWalk.i64_in _ (by omega)
              have wk2 : IntKind.i64.wrap (FV + GV) = FV + GV := IntWalk.i64_in _ (by omega)
              have wk3 : IntKind.i64.wrap (FV + GV + RV) = FV + GV + RV := IntWalk.i64_in _ (by omega)
              have wk4 : IntKind.i64.wrap (FV + GV + RV + (K0 + K1)) = FV + GV + RV + (K0 + K1) := IntWalk.i64_in _ (by omega)
              go_enter Tryd.func6, Tryd.ntmps6
              go_wp2_with fail
              refine (Span.allows1_0 f _ _ (by simp [go_sem]) (HG.out.on (On.alloc (On.alloc (On.refl _) _) _))).mono ?_
              rintro e w1 ⟨rfl, k1⟩
              have HO1 := Lib.hid (show On (w.alloc (.cells #[.int .i64 0, .int .i64 0, .int .i64 0, .int .i64 0, .int .i64 0] 28)) w1 from On.trans (On.trans (On.refl _) (On.alloc (On.refl _) _)) k1)
              clear k1
              go_wp2_with fail
              refine (Span.allows1_1 d _ _ (by simp [go_sem]) (HG.out.on (On.trans (On.trans (On.alloc (On.refl _) _) HO1.out) (On.alloc (On.refl _) _)))).mono ?_
              rintro e wb ⟨rfl, kb⟩
              have HOb := Lib.hid (show On (w.alloc (.cells #[.int .i64 0, .int .i64 0, .int .i64 0, .int .i64 0, .int .i64 0] 28)) wb from On.trans (On.trans (HO1.out) (On.alloc (On.refl _) _)) kb)
              clear kb
              go_wp2_with fail
              refine (Span.allows1_8 r _ _ (by simp [go_sem]) (HG.out.on (On.trans (On.trans (On.alloc (On.refl _) _) HOb.out) (On.alloc (On.refl _) _)))).mono ?_
              rintro e w3 ⟨rfl, k3⟩
              have HO3 := Lib.hid (show On (w.alloc (.cells #[.int .i64 0, .int .i64 0, .int .i64 0, .int .i64 0, .int .i64 0] 28)) w3 from On.trans (On.trans (HOb.out) (On.alloc (On.refl _) _)) k3)
              clear k3
              go_wp2_with fail
              refine (Span.allows_6 _ _ _ (by simp) (V0.out.below (On.trans (On.alloc (On.refl _) _) HO3.out)) (HG.out.on (On.trans (On.alloc (On.refl _) _) HO3.out))).mono ?_
              rintro e w4 ⟨rfl, k4⟩
              have HO4 := Lib.hid (show On (w.alloc (.cells #[.int .i64 0, .int .i64 0, .int .i64 0, .int .i64 0, .int .i64 0] 28)) w4 from On.trans (HO3.out) k4)
              clear k4
              go_wp2_with fail
              refine (Span.allows_7 _ _ _ (by simp) (V1.out.below (On.trans (On.alloc (On.refl _) _) HO4.out)) (HG.out.on (On.trans (On.alloc (On.refl _) _) HO4.out))).mono ?_
              rintro e w5 ⟨rfl, k5⟩
              have HO5 := Lib.hid (show On (w.alloc (.cells #[.int .i64 0, .int .i64 0, .int .i64 0, .int .i64 0, .int .i64 0] 28)) w5 from On.trans (HO4.out) k5)
              clear k5
              go_wp2_with fail
              refine (HF.out _).mono ?_
              rintro e w6 ⟨rfl, k6⟩
              have HO6 := Lib.hid (On.trans HO5.out k6)
              clear k6
              go_wp2_with fail
              refine (HGA.out _).mono ?_
              rintro e w7 ⟨rfl, k7⟩
              have HO7 := Lib.hid (On.trans HO6.out k7)
              clear k7
              go_wp2_with fail
              refine (HW.out _).mono ?_
              rintro e w2 ⟨rfl, k2⟩
              have HO2 := Lib.hid (On.trans HO7.out k2)
              clear k2
              obtain ⟨hcq, hfq⟩ := bcell HO2.out
              have z2 : w.heap.size < w2.heap.size := by have := HO2.out.size; (try simp at this); omega
              have t0 : w2.cell? ⟨w.heap.size, 0, none⟩ = some (.int .i64 0) := (hcq _ _ (by simp)).trans (by simp [go_sem])
              have t1 : w2.cell? ⟨w.heap.size, 1, none⟩ = some (.int .i64 0) := (hcq _ _ (by simp)).trans (by simp [go_sem])
              have t2 : w2.cell? ⟨w.heap.size, 2, none⟩ = some (.int .i64 0) := (hcq _ _ (by simp)).trans (by simp [go_sem])
              have t3 : w2.cell? ⟨w.heap.size, 3, none⟩ = some (.int .i64 0) := (hcq _ _ (by simp)).trans (by simp [go_sem])
              have t4 : w2.cell? ⟨w.heap.size, 4, none⟩ = some (.int .i64 0) := (hcq _ _ (by simp)).trans (by simp [go_sem])
              have tf : ∀ j, w2.frozen? ⟨w.heap.size, j, none⟩ = false := fun j => (hfq _ _ (by simp)).trans (by simp [go_sem])
              clear hcq hfq
              have O2 : On w w2 := On.trans (On.alloc (On.refl _) _) HO2.out
              have e0 := O2.lts _ hb0
              have e1 := O2.lts _ hb1
              have x0 := (O2.cell (by exact hb0)).trans X0.out
              have x1 := (O2.cell (by exact hb0)).trans X1.out
              have y0 := (O2.cell (by exact hb1)).trans Y0.out
              have y1 := (O2.cell (by exact hb1)).trans Y1.out
              have OO2 := Lib.hid O2
              have gf := tf
              have hb0n : b0 ≠ w2.heap.size := Nat.ne_of_lt e0
              have hb1n : b1 ≠ w2.heap.size := Nat.ne_of_lt e1
              have hgn : w.heap.size ≠ w2.heap.size := Nat.ne_of_lt z2
              have HY0 := Lib.hid (HZ0.out w2 O2)
              have HY1 := Lib.hid (HZ1.out w2 O2)
              clear O2 tf
              go_wp2_with fail
              refine wp_loop_rounds 3 ?_
              rw [rounds_succ]
              go_wp2_with fail
              refine wp_region_on_tail 14 (by kernel_rfl) (by kernel_rfl) ?_
              simp only [List.take_succ_cons, List.take_zero, List.drop_succ_cons, List.drop_zero]
              repeat (refine wpQuiet_step (fun K hK => ?_); go_simp; first | (refine hK _ ?_; clear hK K) | (apply Exists.intro; refine ⟨fun v1 hv1 => ?_, hK _ ?_⟩; (first | with_reducible exact rfl | with_reducible exact ⟨rfl, rfl⟩ | with_reducible exact Calls.on hv1 (HY0.out _ _ (On.alloc (On.refl _) _) hv1) | (obtain ⟨hc, hf⟩ := bcell hv1; go_simp; first | with_reducible exact rfl | with_reducible exact ⟨rfl, rfl⟩ | exact rfl | exact ⟨rfl, rfl⟩)); clear hK K))
              refine wpQuiet_nil ?_
              intro w3 k3
              obtain ⟨hc3, hf3⟩ := bcell k3
              have s3 : w2.heap.size < w3.heap.size := by have := k3.size; (try simp at this); omega
              have z3 : w.heap.size < w3.heap.size := by omega
              have e30 : b0 < w3.heap.size := by omega
              have e31 : b1 < w3.heap.size := by omega
              have j0 : w3.cell? ⟨w2.heap.size, 0, none⟩ = some (.int .i64 FV) := (hc3 _ _ (by simp <;> omega)).trans (by simp [go_sem])
              have j1 : w3.cell? ⟨w2.heap.size, 1, none⟩ = some (.int .i64 GV) := (hc3 _ _ (by simp <;> omega)).trans (by simp [go_sem])
              have j2 : w3.cell? ⟨w2.heap.size, 2, none⟩ = some (.int .i64 RV) := (hc3 _ _ (by simp <;> omega)).trans (by simp [go_sem])
              have j3 : w3.cell? ⟨w2.heap.size, 3, none⟩ = some (.int .i64 0) := (hc3 _ _ (by simp <;> omega)).trans (by simp [go_sem])
              have j4 : w3.cell? ⟨w2.heap.size, 4, none⟩ = some (.int .i64 0) := (hc3 _ _ (by simp <;> omega)).trans (by simp [go_sem])
              have jr0 : w3.cell? ⟨w.heap.size, 0, none⟩ = some (.int .i64 0) := (hc3 _ _ (by simp <;> omega)).trans (by simp [go_sem, z2, t0])
              have jr1 : w3.cell? ⟨w.heap.size, 1, none⟩ = some (.int .i64 0) := (hc3 _ _ (by simp <;> omega)).trans (by simp [go_sem, z2, t1])
              have jr2 : w3.cell? ⟨w.heap.size, 2, none⟩ = some (.int .i64 0) := (hc3 _ _ (by simp <;> omega)).trans (by simp [go_sem, z2, t2])
              have jr3 : w3.cell? ⟨w.heap.size, 3, none⟩ = some (.int .i64 0) := (hc3 _ _ (by simp <;> omega)).trans (by simp [go_sem, z2, t3])
              have jr4 : w3.cell? ⟨w.heap.size, 4, none⟩ = some (.int .i64 0) := (hc3 _ _ (by simp <;> omega)).trans (by simp [go_sem, z2, t4])
              have jf : ∀ i, w3.frozen? ⟨w2.heap.size, i, none⟩ = false := fun i => (hf3 _ _ (by simp <;> omega)).trans (by simp [go_sem])
              have jg : ∀ i, w3.frozen? ⟨w.heap.size, i, none⟩ = false := fun i => (hf3 _ _ (by simp <;> omega)).trans (by simp [go_sem, gf, z2])
              have x30 : w3.cell? ⟨b0, o0, none⟩ = some (.int .i64 c0) := (hc3 _ _ (by simp <;> omega)).trans (by simp [go_sem, x0, e0])
              have x31 : w3.cell? ⟨b0, o0 + 1, none⟩ = some (.int .i64 c1) := (hc3 _ _ (by simp <;> omega)).trans (by simp [go_sem, x1, e0])
              have y30 : w3.cell? ⟨b1, o1, none⟩ = some (.int .i64 a0) := (hc3 _ _ (by simp <;> omega)).trans (by simp [go_sem, y0, e1])
              have y31 : w3.cell? ⟨b1, o1 + 1, none⟩ = some (.int .i64 a1) := (hc3 _ _ (by simp <;> omega)).trans (by simp [go_sem, y1, e1])
              have K3h := Lib.hid k3
              clear k3 hc3 hf3
              go_wp2_with fail
              rw [rounds_succ]
              go_wp2_with fail
              refine wp_region_on_tail 14 (by kernel_rfl) (by kernel_rfl) ?_
              simp only [List.take_succ_cons, List.take_zero, List.drop_succ_cons, List.drop_zero]
              repeat (refine wpQuiet_step (fun K hK => ?_); go_simp; first | (refine hK _ ?_; clear hK K) | (apply Exists.intro; refine ⟨fun v1 hv1 => ?_, hK _ ?_⟩; (first | with_reducible exact rfl | with_reducible exact ⟨rfl, rfl⟩ | with_reducible exact Calls.on hv1 (HY1.out _ _ (On.setCell (On.trans (On.alloc (On.refl _) _) K3h.out) (Nat.le_refl _) _) hv1) | (obtain ⟨hc, hf⟩ := bcell hv1; go_simp; first | with_reducible exact rfl | with_reducible exact ⟨rfl, rfl⟩ | exact rfl | exact ⟨rfl, rfl⟩)); clear hK K))
              refine wpQuiet_nil ?_
              intro w4 k4
              obtain ⟨hc4, hf4⟩ := bcell k4
              have s4 : w2.heap.size < w4.heap.size := by have := k4.size; (try simp at this); omega
              have z4 : w.heap.size < w4.heap.size := by omega
              have e40 : b0 < w4.heap.size := by omega
              have e41 : b1 < w4.heap.size := by omega
              have l0 : w4.cell? ⟨w2.heap.size, 0, none⟩ = some (.int .i64 FV) := (hc4 _ _ (by simp <;> omega)).trans (by simp [go_sem, j0])
              have l1 : w4.cell? ⟨w2.heap.size, 1, none⟩ = some (.int .i64 GV) := (hc4 _ _ (by simp <;> omega)).trans (by simp [go_sem, j1])
              have l2 : w4.cell? ⟨w2.heap.size, 2, none⟩ = some (.int .i64 RV) := (hc4 _ _ (by simp <;> omega)).trans (by simp [go_sem, j2])
              have l3 : w4.cell? ⟨w2.heap.size, 3, none⟩ = some (.int .i64 K0) := (hc4 _ _ (by simp <;> omega)).trans (by simp [go_sem, j3])
              have l4 : w4.cell? ⟨w2.heap.size, 4, none⟩ = some (.int .i64 0) := (hc4 _ _ (by simp <;> omega)).trans (by simp [go_sem, j4])
              have lr0 : w4.cell? ⟨w.heap.size, 0, none⟩ = some (.int .i64 0) := (hc4 _ _ (by simp <;> omega)).trans (by simp [go_sem, jr0])
              have lr1 : w4.cell? ⟨w.heap.size, 1, none⟩ = some (.int .i64 0) := (hc4 _ _ (by simp <;> omega)).trans (by simp [go_sem, jr1])
              have lr2 : w4.cell? ⟨w.heap.size, 2, none⟩ = some (.int .i64 0) := (hc4 _ _ (by simp <;> omega)).trans (by simp [go_sem, jr2])
              have lr3 : w4.cell? ⟨w.heap.size, 3, none⟩ = some (.int .i64 0) := (hc4 _ _ (by simp <;> omega)).trans (by simp [go_sem, jr3])
              have lr4 : w4.cell? ⟨w.heap.size, 4, none⟩ = some (.int .i64 0) := (hc4 _ _ (by simp <;> omega)).trans (by simp [go_sem, jr4])
              have lf : ∀ i, w4.frozen? ⟨w2.heap.size, i, none⟩ = false := fun i => (hf4 _ _ (by simp <;> omega)).trans (by simp [go_sem, jf])
              have lg : ∀ i, w4.frozen? ⟨w.heap.size, i, none⟩ = false := fun i => (hf4 _ _ (by simp <;> omega)).trans (by simp [go_sem, jg])
              have K4h := Lib.hid k4
              clear k4 hc4 hf4
              go_wp2_with fail
              rw [rounds_succ]
              go_wp2_with fail
              refine bodyPost_ret (v := .tuple #[.agg #[.int .i64 FV, .int .i64 GV, .int .i64 RV, .int .i64 (K0 + K1), .int .i64 (FV + GV + RV + (K0 + K1))], .int .i64 0]) (by simp [results, Tryd.results6, go_sem, lr0, lr1, lr2, lr3, lr4]) rfl ⟨ret_v en.out.symm, ?_⟩
              refine On.setCell ?_ (Nat.le_refl _) _
              refine On.setCell ?_ (Nat.le_refl _) _
              refine On.setCell ?_ (Nat.le_refl _) _
              refine On.setCell ?_ (Nat.le_refl _) _
              refine On.setCell ?_ (Nat.le_refl _) _
              refine On.setCell ?_ (Nat.le_of_lt z2) _
              refine On.setCell ?_ (Nat.le_of_lt z2) _
              refine On.trans ?_ K4h.out
              refine On.setCell ?_ (Nat.le_of_lt z2) _
              refine On.trans ?_ K3h.out
              exact On.alloc OO2.out _
  · have en := Lib.hid (res_bad (code_len (f := f) (d := d) (r := r) hl) (by decide))
    obtain ⟨p0, cap0, rfl, -⟩ := h0
    obtain ⟨p1, cap1, rfl, -⟩ := h1
    by_cases hl0 : zs.length = 2
    · have hl1 : ¬ hs.length = 2 := fun q => hl ⟨hl0, q⟩
      obtain ⟨m0, m1⟩ := ne_two hl1
      rw [hl0]
      clear hl
      go_enter Tryd.func6, Tryd.ntmps6
      go_wp2_with fail
      refine bodyPost_ret (v := .tuple #[.agg #[.int .i64 0, .int .i64 0, .int .i64 0, .int .i64 0, .int .i64 0], .int .i64 6]) (by simp [results, Tryd.results6, go_sem]) rfl ⟨ret_v en.out.symm, ?_⟩
      exact On.alloc (On.refl _) _
    · obtain ⟨m0, m1⟩ := ne_two hl0
      clear hl
      go_enter Tryd.func6, Tryd.ntmps6
      go_wp2_with fail
      refine bodyPost_ret (v := .tuple #[.agg #[.int .i64 0, .int .i64 0, .int .i64 0, .int .i64 0, .int .i64 0], .int .i64 6]) (by simp [results, Tryd.results6, go_sem]) rfl ⟨ret_v en.out.symm, ?_⟩
      exact On.alloc (On.refl _) _
end Go.Proofs.YtednfkjdidlenaaDoor.Losses
