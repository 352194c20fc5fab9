
/-
  A part of a terrain, in the program. Condition: at most 1048576 heights and classes, and the slices have the room for them.
-/
import Derived.Test.YtnambnddoebeiaaCrpC
import Derived.Laws.CopyOwn
import Derived.Deep.DeepCutAuto
import Derived.Deep.RegionLaw
import Derived.Deep.RegionHeld3
namespace Go.Proofs.Ytnambnddoebeiaa.Crp
open Go.RowKit
open Plain Terr
open Ints (Ints Own)
open Ant (listOf listOf_len listOf_at listOf_succ)
/-- The program's three tests are the model's. -/
theorem parts {s x y px py a b : Int} {zs cs : List Int} (h : okT s x y zs cs = true) (hc : cropB x y px py a b = true) : sizeB s a b = true ∧ hasB x y px py = true ∧ hasB x y (px + a - 1) (py + b - 1) = true := by
  obtain ⟨i1, -, -, -⟩ := of_okT h
  obtain ⟨⟨s1, s2⟩, ⟨x1, x2⟩, ⟨y1, y2⟩, m1, m2⟩ := of_size i1
  unfold cropB at hc
  rw [Bool.and_eq_true, Bool.and_eq_true, Bool.and_eq_true] at hc
  obtain ⟨c1, c2, c3, c4⟩ := hc
  have d1 := of_inB c1
  have d2 := of_inB c2
  have d3 := of_inB c3
  have d4 := of_inB c4
  have p1 : (a - 1) * s ≤ (x - 1) * s := Int.mul_le_mul_of_nonneg_right (by omega) (by omega)
  have p2 : (b - 1) * s ≤ (y - 1) * s := Int.mul_le_mul_of_nonneg_right (by omega) (by omega)
  refine ⟨?_, ?_, ?_⟩
  · rw [size_yes (three_yes (Plain.inB_yes s1 s2) c1 c2), Bool.and_eq_true]
    exact ⟨decide_eq_true (by omega), decide_eq_true (by omega)⟩
  · unfold hasB; rw [Plain.inB_yes (by omega) (by omega), Plain.inB_yes (by omega) (by omega)]; rfl
  · unfold hasB; rw [Plain.inB_yes (by omega) (by omega), Plain.inB_yes (by omega) (by omega)]; rfl
theorem unparts {s x y px py a b : Int} (h1 : sizeB s a b = true) (h2 : hasB x y px py = true) (h3 : hasB x y (px + a - 1) (py + b - 1) = true) : cropB x y px py a b = true := by
  obtain ⟨-, c1, c2, -, -⟩ := of_size h1
  obtain ⟨d1, d2⟩ := of_has h2
  obtain ⟨e1, e2⟩ := of_has h3
  unfold cropB
  rw [Plain.inB_yes (by omega) (by omega), Plain.inB_yes (by omega) (by omega), Plain.inB_yes (by omega) (by omega), Plain.inB_yes (by omega) (by omega)]
  rfl
/-- Both grids of the program, each in a block of its own. -/
structure Grids (W w : World) (gw gp : Nat) (s x y a b : Int) : Prop where
  w0 : w.cell? ⟨gw, 0, none⟩ = some (.int .i64 s)
  w1 : w.cell? ⟨gw, 1, none⟩ = some (.int .i64 x)
  w2 : w.cell? ⟨gw, 2, none⟩ = some (.int .i64 y)
  p0 : w.cell? ⟨gp, 0, none⟩ = some (.int .i64 s)
  p1 : w.cell? ⟨gp, 1, none⟩ = some (.int .i64 a)
  p2 : w.cell? ⟨gp, 2, none⟩ = some (.int .i64 b)
  on : On W w
theorem Grids.next {W w w' : World} {gw gp : Nat} {s x y a b : Int} (h : Grids W w gw gp s x y a b) (k : On w w') : Grids W w' gw gp s x y a b :=
  ⟨(k.cell (World.block_lt_of_cell? w _ h.w0)).trans h.w0, (k.cell (World.block_lt_of_cell? w _ h.w1)).trans h.w1, (k.cell (World.block_lt_of_cell? w _ h.w2)).trans h.w2, (k.cell (World.block_lt_of_cell? w _ h.p0)).trans h.p0, (k.cell (World.block_lt_of_cell? w _ h.p1)).trans h.p1, (k.cell (World.block_lt_of_cell? w _ h.p2)).trans h.p2, On.trans h.on k⟩
section
variable {W w : World} {s x y a b : Int} {t : TypeId}
/-- Three cells that are stored to, one after the other. -/
theorem put3c {w : World} {g : Nat} {v0 v1 v2 u0 u1 u2 : Value} (c0 : w.cell? ⟨g, 0, none⟩ = some u0) (c1 : w.cell? ⟨g, 1, none⟩ = some u1) (c2 : w.cell? ⟨g, 2, none⟩ = some u2) :
    (((w.setCell ⟨g, 0, none⟩ v0).setCell ⟨g, 1, none⟩ v1).setCell ⟨g, 2, none⟩ v2).cell? ⟨g, 0, none⟩ = some v0 ∧ (((w.setCell ⟨g, 0, none⟩ v0).setCell ⟨g, 1, none⟩ v1).setCell ⟨g, 2, none⟩ v2).cell? ⟨g, 1, none⟩ = some v1 ∧ (((w.setCell ⟨g, 0, none⟩ v0).setCell ⟨g, 1, none⟩ v1).setCell ⟨g, 2, none⟩ v2).cell? ⟨g, 2, none⟩ = some v2 ∧ ∀ h i, h ≠ g → (((w.setCell ⟨g, 0, none⟩ v0).setCell ⟨g, 1, none⟩ v1).setCell ⟨g, 2, none⟩ v2).cell? ⟨h, i, none⟩ = w.cell? ⟨h, i, none⟩ := by
  have O {w : World} {i j : Nat} {v : Value} (h : i ≠ j) : (w.setCell ⟨g, i, none⟩ v).cell? ⟨g, j, none⟩ = w.cell? ⟨g, j, none⟩ := World.cell?_setCell_other (h := fun hc => by injection hc with _ h2 _; exact h h2) ..
  have N {w : World} {h i j : Nat} {v : Value} (hn : h ≠ g) : (w.setCell ⟨g, i, none⟩ v).cell? ⟨h, j, none⟩ = w.cell? ⟨h, j, none⟩ := World.cell?_setCell_other (h := fun hc => by injection hc with h2 _ _; exact hn h2.symm) ..
  refine ⟨?_, ?_, ?_, fun h i hn => ?_⟩
  · rw [O (by decide), O (by decide)]; exact World.cell?_setCell_same (h := c0) ..
  · rw [O (by decide)]; exact World.cell?_setCell_same (h := (O (by decide)).trans c1) ..
  · exact World.cell?_setCell_same (h := (O (by decide)).trans ((O (by decide)).trans c2)) ..
  · rw [N hn, N hn, N hn]
theorem gA (hO : On W w) : Grids W ((w.alloc (.cells #[.int .i64 s, .int .i64 x, .int .i64 y] t)).alloc (.cells #[.int .i64 s, .int .i64 a, .int .i64 b] t)) w.heap.size (w.heap.size + 1) s x y a b :=
  ⟨by simp [go_sem], by simp [go_sem], by simp [go_sem], by simp [go_sem], by simp [go_sem], by simp [go_sem], On.alloc (On.alloc hO _) _⟩
theorem gB (hO : On W w) : Grids W ((w.alloc (.cells #[.int .i64 s, .int .i64 a, .int .i64 b] t)).alloc (.cells #[.int .i64 s, .int .i64 x, .int .i64 y] t)) (w.heap.size + 1) w.heap.size s x y a b :=
  ⟨by simp [go_sem], by simp [go_sem], by simp [go_sem], by simp [go_sem], by simp [go_sem], by simp [go_sem], On.alloc (On.alloc hO _) _⟩
theorem gC {u0 u1 u2 : Value} (hO : On W w) (c0 : w.cell? ⟨W.heap.size, 0, none⟩ = some u0) (c1 : w.cell? ⟨W.heap.size, 1, none⟩ = some u1) (c2 : w.cell? ⟨W.heap.size, 2, none⟩ = some u2) :
    Grids W ((((w.setCell ⟨W.heap.size, 0, none⟩ (.int .i64 s)).setCell ⟨W.heap.size, 1, none⟩ (.int .i64 x)).setCell ⟨W.heap.size, 2, none⟩ (.int .i64 y)).alloc (.cells #[.int .i64 s, .int .i64 a, .int .i64 b] t)) W.heap.size w.heap.size s x y a b := by
  have hlt := World.block_lt_of_cell? w _ c0
  obtain ⟨d0, d1, d2, -⟩ := put3c (v0 := .int .i64 s) (v1 := .int .i64 x) (v2 := .int .i64 y) c0 c1 c2
  generalize hz : ((w.setCell ⟨W.heap.size, 0, none⟩ (.int .i64 s)).setCell ⟨W.heap.size, 1, none⟩ (.int .i64 x)).setCell ⟨W.heap.size, 2, none⟩ (.int .i64 y) = z at *
  have hs : z.heap.size = w.heap.size := by rw [← hz]; simp
  have hOz : On W z := by rw [← hz]; exact On.setCell (On.setCell (On.setCell hO (Nat.le_refl _) _) (Nat.le_refl _) _) (Nat.le_refl _) _
  rw [← hs] at hlt ⊢
  have A := On.alloc (On.refl z) (.cells #[.int .i64 s, .int .i64 a, .int .i64 b] t)
  exact ⟨(A.cell (p := ⟨W.heap.size, 0, none⟩) (by exact hlt)).trans d0, (A.cell (p := ⟨W.heap.size, 1, none⟩) (by exact hlt)).trans d1, (A.cell (p := ⟨W.heap.size, 2, none⟩) (by exact hlt)).trans d2, by simp [go_sem], by simp [go_sem], by simp [go_sem], On.alloc hOz _⟩
theorem gD {u0 u1 u2 : Value} (hO : On W w) (c0 : w.cell? ⟨W.heap.size, 0, none⟩ = some u0) (c1 : w.cell? ⟨W.heap.size, 1, none⟩ = some u1) (c2 : w.cell? ⟨W.heap.size, 2, none⟩ = some u2) :
    Grids W ((((w.setCell ⟨W.heap.size, 0, none⟩ (.int .i64 s)).setCell ⟨W.heap.size, 1, none⟩ (.int .i64 a)).setCell ⟨W.heap.size, 2, none⟩ (.int .i64 b)).alloc (.cells #[.int .i64 s, .int .i64 x, .int .i64 y] t)) w.heap.size W.heap.size s x y a b := by
  have h := gC (x := a) (y := b) (a := x) (b := y) (s := s) (t := t) hO c0 c1 c2
  exact ⟨h.p0, h.p1, h.p2, h.w0, h.w1, h.w2, h.on⟩
theorem gE {u0 u1 u2 u3 u4 u5 : Value} (hO : On W w) (c0 : w.cell? ⟨W.heap.size, 0, none⟩ = some u0) (c1 : w.cell? ⟨W.heap.size, 1, none⟩ = some u1) (c2 : w.cell? ⟨W.heap.size, 2, none⟩ = some u2) (e0 : w.cell? ⟨W.heap.size + 1, 0, none⟩ = some u3) (e1 : w.cell? ⟨W.heap.size + 1, 1, none⟩ = some u4) (e2 : w.cell? ⟨W.heap.size + 1, 2, none⟩ = some u5) :
    Grids W ((((((w.setCell ⟨W.heap.size, 0, none⟩ (.int .i64 s)).setCell ⟨W.heap.size, 1, none⟩ (.int .i64 x)).setCell ⟨W.heap.size, 2, none⟩ (.int .i64 y)).setCell ⟨W.heap.size + 1, 0, none⟩ (.int .i64 s)).setCell ⟨W.heap.size + 1, 1, none⟩ (.int .i64 a)).setCell ⟨W.heap.size + 1, 2, none⟩ (.int .i64 b)) W.heap.size (W.heap.size + 1) s x y a b := by
  obtain ⟨d0, d1, d2, d3⟩ := put3c (v0 := .int .i64 s) (v1 := .int .i64 x) (v2 := .int .i64 y) c0 c1 c2
  have hO1 : On W (((w.setCell ⟨W.heap.size, 0, none⟩ (.int .i64 s)).setCell ⟨W.heap.size, 1, none⟩ (.int .i64 x)).setCell ⟨W.heap.size, 2, none⟩ (.int .i64 y)) := On.setCell (On.setCell (On.setCell hO (Nat.le_refl _) _) (Nat.le_refl _) _) (Nat.le_refl _) _
  generalize ((w.setCell ⟨W.heap.size, 0, none⟩ (.int .i64 s)).setCell ⟨W.heap.size, 1, none⟩ (.int .i64 x)).setCell ⟨W.heap.size, 2, none⟩ (.int .i64 y) = z at *
  obtain ⟨f0, f1, f2, f3⟩ := put3c (w := z) (v0 := .int .i64 s) (v1 := .int .i64 a) (v2 := .int .i64 b) ((d3 _ _ (by omega)).trans e0) ((d3 _ _ (by omega)).trans e1) ((d3 _ _ (by omega)).trans e2)
  exact ⟨(f3 _ _ (by omega)).trans d0, (f3 _ _ (by omega)).trans d1, (f3 _ _ (by omega)).trans d2, f0, f1, f2, On.setCell (On.setCell (On.setCell hO1 (Nat.le_succ _) _) (Nat.le_succ _) _) (Nat.le_succ _) _⟩
theorem gF {u0 u1 u2 u3 u4 u5 : Value} (hO : On W w) (c0 : w.cell? ⟨W.heap.size, 0, none⟩ = some u0) (c1 : w.cell? ⟨W.heap.size, 1, none⟩ = some u1) (c2 : w.cell? ⟨W.heap.size, 2, none⟩ = some u2) (e0 : w.cell? ⟨W.heap.size + 1, 0, none⟩ = some u3) (e1 : w.cell? ⟨W.heap.size + 1, 1, none⟩ = some u4) (e2 : w.cell? ⟨W.heap.size + 1, 2, none⟩ = some u5) :
    Grids W ((((((w.setCell ⟨W.heap.size + 1, 0, none⟩ (.int .i64 s)).setCell ⟨W.heap.size + 1, 1, none⟩ (.int .i64 x)).setCell ⟨W.heap.size + 1, 2, none⟩ (.int .i64 y)).setCell ⟨W.heap.size, 0, none⟩ (.int .i64 s)).setCell ⟨W.heap.size, 1, none⟩ (.int .i64 a)).setCell ⟨W.heap.size, 2, none⟩ (.int .i64 b)) (W.heap.size + 1) W.heap.size s x y a b := by
  obtain ⟨d0, d1, d2, d3⟩ := put3c (v0 := .int .i64 s) (v1 := .int .i64 x) (v2 := .int .i64 y) e0 e1 e2
  have hO1 : On W (((w.setCell ⟨W.heap.size + 1, 0, none⟩ (.int .i64 s)).setCell ⟨W.heap.size + 1, 1, none⟩ (.int .i64 x)).setCell ⟨W.heap.size + 1, 2, none⟩ (.int .i64 y)) := On.setCell (On.setCell (On.setCell hO (Nat.le_succ _) _) (Nat.le_succ _) _) (Nat.le_succ _) _
  generalize ((w.setCell ⟨W.heap.size + 1, 0, none⟩ (.int .i64 s)).setCell ⟨W.heap.size + 1, 1, none⟩ (.int .i64 x)).setCell ⟨W.heap.size + 1, 2, none⟩ (.int .i64 y) = z at *
  obtain ⟨f0, f1, f2, f3⟩ := put3c (w := z) (v0 := .int .i64 s) (v1 := .int .i64 a) (v2 := .int .i64 b) ((d3 _ _ (by omega)).trans c0) ((d3 _ _ (by omega)).trans c1) ((d3 _ _ (by omega)).trans c2)
  exact ⟨(f3 _ _ (by omega)).trans d0, (f3 _ _ (by omega)).trans d1, (f3 _ _ (by omega)).trans d2, f0, f1, f2, On.setCell (On.setCell (On.setCell hO1 (Nat.le_refl _) _) (Nat.le_refl _) _) (Nat.le_refl _) _⟩
end
theorem On.undrew {w w' : World} (h : On w.drew w') : On w w' := by
  have h' : Below w.drew.heap.size w.drew w' := h
  exact ⟨h'.os, h'.tape, h'.output, h'.size, fun k hk => h'.block k hk⟩
theorem held_one {W w' : World} {g : Nat} {x0 x1 x2 : Int} {v3 v4 : Value} (P : TRec.In W g x0 x1 x2 v3 v4) (h : On W w') :
    On W w' ∧ w'.cell? ⟨g, 0, none⟩ = some (.int .i64 x0) ∧ w'.cell? ⟨g, 1, none⟩ = some (.int .i64 x1) ∧ w'.cell? ⟨g, 2, none⟩ = some (.int .i64 x2) ∧ w'.cell? ⟨g, 3, none⟩ = some v3 ∧ w'.cell? ⟨g, 4, none⟩ = some v4 := by
  obtain ⟨a0, a1, a2, a3, a4⟩ := P.on h
  exact ⟨h, a0, a1, a2, a3, a4⟩
set_option maxRecDepth 1000000 in
set_option maxHeartbeats 16000000 in
theorem impl_Crop (s x y px py a b : Int) (u3 u4 : Option Addr) (cap3 cap4 : Nat) (z3 z4 : List Int) (w : World) (q3 : z3.length ≤ 1048576) (q4 : z4.length ≤ 1048576) (f3 : z3.length ≤ cap3) (f4 : z4.length ≤ cap4) (h3 : Ints w (.slice u3 z3.length cap3) z3) (h4 : Ints w (.slice u4 z4.length cap4) z4) :
    Calls Try.prog 10 #[.agg #[.int .i64 s, .int .i64 x, .int .i64 y, .slice u3 z3.length cap3, .slice u4 z4.length cap4], .int .i64 px, .int .i64 py, .int .i64 a, .int .i64 b] w fun e w' => ∃ a3 c3 a4 c4, e = .returned (.tuple #[.agg #[.int .i64 (crI (crC s x y px py a b z3 z4) s), .int .i64 (crI (crC s x y px py a b z3 z4) a), .int .i64 (crI (crC s x y px py a b z3 z4) b), .slice a3 (crL (crC s x y px py a b z3 z4) (crop z3 x px py a b)).length c3, .slice a4 (crL (crC s x y px py a b z3 z4) (crop z4 x px py a b)).length c4], .int .i64 (crC s x y px py a b z3 z4)]) ∧ TRec.OwnR w.heap.size w' a3 (crL (crC s x y px py a b z3 z4) (crop z3 x px py a b)).length c3 a4 (crL (crC s x y px py a b z3 z4) (crop z4 x px py a b)).length c4 (crL (crC s x y px py a b z3 z4) (crop z3 x px py a b)) (crL (crC s x y px py a b z3 z4) (crop z4 x px py a b)) ∧ On w w' := by
  have HV := Lib.hid (fun w' (hb : On w w') => impl_validT s x y u3 u4 z3.length cap3 z4.length cap4 z3 z4 w' rfl rfl q3 q4 (h3.below hb) (h4.below hb))
  cases ho : okT s x y z3 z4 with
  | false =>
    rw [ho] at HV
    rw [cr_1 ho]
    clear ho h3 h4
    go_enter Try.func10, Try.ntmps10
    go_wp2_with fail
    refine (HV.out _ (by repeat (first | with_reducible exact On.refl _ | with_reducible exact Below.refl _ _ | apply On.alloc))).mono ?_
    rintro e w1 ⟨rfl, k9⟩
    have O1 := Lib.hid (show On w w1 by refine On.trans ?_ k9; repeat (first | with_reducible exact On.refl _ | apply On.alloc))
    have KR := Lib.hid (show TRec.In w1 (w.heap.size + 1) 0 0 0 (.slice none 0 0) (.slice none 0 0) from TRec.In.on ⟨by simp [go_sem], by simp [go_sem], by simp [go_sem], by simp [go_sem], by simp [go_sem]⟩ k9)
    have KF := Lib.hid (show ∀ i, w1.frozen? ⟨w.heap.size + 1, i, none⟩ = false from fun i => (k9.frozen (by simp)).trans (by simp [go_sem]))
    clear k9
    obtain ⟨r0, r1, r2, r3, r4⟩ := KR.out
    have ry := KR.out.blk
    have g0 := KF.out 0
    have g1 := KF.out 1
    have g2 := KF.out 2
    have g3 := KF.out 3
    have g4 := KF.out 4
    go_wp2_with fail
    refine bodyPost_ret (v := .tuple #[.agg #[.int .i64 0, .int .i64 0, .int .i64 0, .slice none 0 0, .slice none 0 0], .int .i64 1]) (by simp [results, Try.results10, go_sem, r0, r1, r2, r3, r4]) rfl ⟨_, _, _, _, rfl, nilR _ _, ?_⟩
    iterate 5 refine On.setCell ?_ (by show w.heap.size ≤ w.heap.size + 1; omega) _
    exact O1.out
  | true =>
    rw [ho] at HV
    have HG := Lib.hid (fun w' => impl_grid s x y u3 u4 z3.length cap3 z4.length cap4 w')
    go_enter Try.func10, Try.ntmps10
    go_wp2_with fail
    refine (HV.out _ (by repeat (first | with_reducible exact On.refl _ | with_reducible exact Below.refl _ _ | apply On.alloc))).mono ?_
    rintro e w1 ⟨rfl, k9⟩
    have O1 := Lib.hid (show On w w1 by refine On.trans ?_ k9; repeat (first | with_reducible exact On.refl _ | apply On.alloc))
    have KT := Lib.hid (show TRec.In w1 w.heap.size s x y (.slice u3 z3.length cap3) (.slice u4 z4.length cap4) from TRec.In.on ⟨by simp [go_sem], by simp [go_sem], by simp [go_sem], by simp [go_sem], by simp [go_sem]⟩ k9)
    have KR := Lib.hid (show TRec.In w1 (w.heap.size + 1) 0 0 0 (.slice none 0 0) (.slice none 0 0) from TRec.In.on ⟨by simp [go_sem], by simp [go_sem], by simp [go_sem], by simp [go_sem], by simp [go_sem]⟩ k9)
    have KF := Lib.hid (show ∀ i, w1.frozen? ⟨w.heap.size + 1, i, none⟩ = false from fun i => (k9.frozen (by simp)).trans (by simp [go_sem]))
    clear k9
    obtain ⟨t0, t1, t2, t3, t4⟩ := KT.out
    have ty := KT.out.blk
    have ty1 : w.heap.size < w1.heap.size + 1 := by omega
    have ty2 : w.heap.size < w1.heap.size + 1 + 1 := by omega
    have tn0 : w.heap.size ≠ w1.heap.size := by omega
    have tn1 : w.heap.size ≠ w1.heap.size + 1 := by omega
    go_upto_region 3 with fail
    go_cut [12, 13] (fun p q wx => ∃ (WX : World) (gw gp : Nat), WX = wx ∧ p = .pointer (some ⟨gw, 0, none⟩) ∧ q = .pointer (some ⟨gp, 0, none⟩) ∧ Grids w1 WX gw gp s x y a b)
    case first =>
      go_region_law (first | (go_simp; go_at_call 31; (with_reducible refine (HG.out _).mono ?_); rintro e w' ⟨rfl, hk⟩; (try (with_reducible replace hk := On.undrew hk)); obtain ⟨hc, hf⟩ := bcell hk; have hsz := hk.size; (try simp at hsz); have hx1 : w.heap.size < w'.heap.size := (by omega); have hx2 : w.heap.size < w'.heap.size + 1 := (by omega); have hx3 : w.heap.size ≠ w'.heap.size := (by omega); have hx6 : w.heap.size ≠ w'.heap.size + 1 := (by omega); (try (have hx4 : w1.heap.size < w'.heap.size := by omega)); (try (have hx5 : w1.heap.size + 1 < w'.heap.size := by omega)); (try (have hac0 : w'.cell? ⟨w1.heap.size, 0, none⟩ = some (.int .i64 0) := by (rw [hc _ _ (by first | (simp; done) | (simp; omega))]; simp [go_sem]))); (try (have haf0 : w'.frozen? ⟨w1.heap.size, 0, none⟩ = false := by (rw [hf _ _ (by first | (simp; done) | (simp; omega))]; simp [go_sem]))); (try (have hac1 : w'.cell? ⟨w1.heap.size, 1, none⟩ = some (.int .i64 0) := by (rw [hc _ _ (by first | (simp; done) | (simp; omega))]; simp [go_sem]))); (try (have haf1 : w'.frozen? ⟨w1.heap.size, 1, none⟩ = false := by (rw [hf _ _ (by first | (simp; done) | (simp; omega))]; simp [go_sem]))); (try (have hac2 : w'.cell? ⟨w1.heap.size, 2, none⟩ = some (.int .i64 0) := by (rw [hc _ _ (by first | (simp; done) | (simp; omega))]; simp [go_sem]))); (try (have haf2 : w'.frozen? ⟨w1.heap.size, 2, none⟩ = false := by (rw [hf _ _ (by first | (simp; done) | (simp; omega))]; simp [go_sem]))); (try (have hbc0 : w'.cell? ⟨w1.heap.size + 1, 0, none⟩ = some (.int .i64 0) := by (rw [hc _ _ (by first | (simp; done) | (simp; omega))]; simp [go_sem]))); (try (have hbf0 : w'.frozen? ⟨w1.heap.size + 1, 0, none⟩ = false := by (rw [hf _ _ (by first | (simp; done) | (simp; omega))]; simp [go_sem]))); (try (have hbc1 : w'.cell? ⟨w1.heap.size + 1, 1, none⟩ = some (.int .i64 0) := by (rw [hc _ _ (by first | (simp; done) | (simp; omega))]; simp [go_sem]))); (try (have hbf1 : w'.frozen? ⟨w1.heap.size + 1, 1, none⟩ = false := by (rw [hf _ _ (by first | (simp; done) | (simp; omega))]; simp [go_sem]))); (try (have hbc2 : w'.cell? ⟨w1.heap.size + 1, 2, none⟩ = some (.int .i64 0) := by (rw [hc _ _ (by first | (simp; done) | (simp; omega))]; simp [go_sem]))); (try (have hbf2 : w'.frozen? ⟨w1.heap.size + 1, 2, none⟩ = false := by (rw [hf _ _ (by first | (simp; done) | (simp; omega))]; simp [go_sem]))); dsimp only))
      all_goals
        go_wp2_with fail
        go_meet
        have hOW : On w1 w' := by refine On.trans ?_ hk; repeat (first | with_reducible exact On.refl _ | apply On.alloc | apply On.drew)
        first
          | with_reducible exact ⟨_, _, _, rfl, rfl, rfl, gA hOW⟩
          | with_reducible exact ⟨_, _, _, rfl, rfl, rfl, gB hOW⟩
          | with_reducible exact ⟨_, _, _, rfl, rfl, rfl, gC hOW hac0 hac1 hac2⟩
          | with_reducible exact ⟨_, _, _, rfl, rfl, rfl, gD hOW hac0 hac1 hac2⟩
          | with_reducible exact ⟨_, _, _, rfl, rfl, rfl, gE hOW hac0 hac1 hac2 hbc0 hbc1 hbc2⟩
          | with_reducible exact ⟨_, _, _, rfl, rfl, rfl, gF hOW hac0 hac1 hac2 hbc0 hbc1 hbc2⟩
    case rest =>
      obtain ⟨WX, gw, gp, hWX, rfl, rfl, hG⟩ := hcut
      rw [← hWX]
      have HG1 := Lib.hid hG
      obtain ⟨a10, a11, a12, b10, b11, b12, -⟩ := hG
      clear hWX t0 t1 t2 t3 t4 ty ty1 ty2 tn0 tn1
      obtain ⟨i1, -, -, -⟩ := of_okT ho
      obtain ⟨-, ⟨x1, x2⟩, ⟨y1, y2⟩, -, -⟩ := of_size i1
      have HS1 := Lib.hid (fun w' => impl_gridValid s a b w')
      have HS2 := Lib.hid (fun w' => impl_has s x y px py w' x1 x2 y1 y2)
      have HS3 := Lib.hid (fun w' => impl_has s x y (px + a - 1) (py + b - 1) w' x1 x2 y1 y2)
      cases hcb : cropB x y px py a b with
      | false =>
        have HCB := Lib.hid (cr_2 (s := s) ho hcb)
        cases k1 : sizeB s a b with
        | false =>
          rw [k1] at HS1
          clear k1 hcb
          go_wp2_with fail
          refine (HS1.out _).mono ?_
          rintro e w2 ⟨rfl, k9⟩
          have HG2 := Lib.hid (HG1.out.next k9)
          obtain ⟨a20, a21, a22, b20, b21, b22, -⟩ := HG2.out
          clear k9
          have OO := Lib.hid HG2.out.on
          obtain ⟨r0, r1, r2, r3, r4⟩ := KR.out.on OO.out
          have ry := OO.out.lts _ KR.out.blk
          have g0 := (OO.out.frozen (p := ⟨w.heap.size + 1, 0, none⟩) (by exact KR.out.blk)).trans (KF.out 0)
          have g1 := (OO.out.frozen (p := ⟨w.heap.size + 1, 1, none⟩) (by exact KR.out.blk)).trans (KF.out 1)
          have g2 := (OO.out.frozen (p := ⟨w.heap.size + 1, 2, none⟩) (by exact KR.out.blk)).trans (KF.out 2)
          have g3 := (OO.out.frozen (p := ⟨w.heap.size + 1, 3, none⟩) (by exact KR.out.blk)).trans (KF.out 3)
          have g4 := (OO.out.frozen (p := ⟨w.heap.size + 1, 4, none⟩) (by exact KR.out.blk)).trans (KF.out 4)
          go_wp2_with fail
          refine bodyPost_ret (v := .tuple #[.agg #[.int .i64 0, .int .i64 0, .int .i64 0, .slice none 0 0, .slice none 0 0], .int .i64 2]) (by simp [results, Try.results10, go_sem, r0, r1, r2, r3, r4]) rfl ?_
          rw [HCB.out]
          refine ⟨_, _, _, _, rfl, nilR _ _, ?_⟩
          iterate 5 refine On.setCell ?_ (by show w.heap.size ≤ w.heap.size + 1; omega) _
          exact On.trans O1.out OO.out
        | true =>
          rw [k1] at HS1
          cases k2 : hasB x y px py with
          | false =>
            rw [k2] at HS2
            clear k1 k2 hcb
            go_wp2_with fail
            refine (HS1.out _).mono ?_
            rintro e w2 ⟨rfl, k9⟩
            have HG2 := Lib.hid (HG1.out.next k9)
            obtain ⟨a20, a21, a22, b20, b21, b22, -⟩ := HG2.out
            clear k9
            go_wp2_with fail
            refine (HS2.out _).mono ?_
            rintro e w3 ⟨rfl, k9⟩
            have HG3 := Lib.hid (HG2.out.next k9)
            obtain ⟨a30, a31, a32, b30, b31, b32, -⟩ := HG3.out
            clear k9
            have OO := Lib.hid HG3.out.on
            obtain ⟨r0, r1, r2, r3, r4⟩ := KR.out.on OO.out
            have ry := OO.out.lts _ KR.out.blk
            have g0 := (OO.out.frozen (p := ⟨w.heap.size + 1, 0, none⟩) (by exact KR.out.blk)).trans (KF.out 0)
            have g1 := (OO.out.frozen (p := ⟨w.heap.size + 1, 1, none⟩) (by exact KR.out.blk)).trans (KF.out 1)
            have g2 := (OO.out.frozen (p := ⟨w.heap.size + 1, 2, none⟩) (by exact KR.out.blk)).trans (KF.out 2)
            have g3 := (OO.out.frozen (p := ⟨w.heap.size + 1, 3, none⟩) (by exact KR.out.blk)).trans (KF.out 3)
            have g4 := (OO.out.frozen (p := ⟨w.heap.size + 1, 4, none⟩) (by exact KR.out.blk)).trans (KF.out 4)
            go_wp2_with fail
            refine bodyPost_ret (v := .tuple #[.agg #[.int .i64 0, .int .i64 0, .int .i64 0, .slice none 0 0, .slice none 0 0], .int .i64 2]) (by simp [results, Try.results10, go_sem, r0, r1, r2, r3, r4]) rfl ?_
            rw [HCB.out]
            refine ⟨_, _, _, _, rfl, nilR _ _, ?_⟩
            iterate 5 refine On.setCell ?_ (by show w.heap.size ≤ w.heap.size + 1; omega) _
            exact On.trans O1.out OO.out
          | true =>
            rw [k2] at HS2
            have k3 : hasB x y (px + a - 1) (py + b - 1) = false := by
              cases k3 : hasB x y (px + a - 1) (py + b - 1) with
              | false => rfl
              | true => rw [unparts k1 k2 k3] at hcb; cases hcb
            rw [k3] at HS3
            obtain ⟨-, c1, c2, -, -⟩ := of_size k1
            obtain ⟨d1, d2⟩ := of_has k2
            have e1 : IntKind.i64.wrap (px + a) = px + a := IntWalk.i64_in _ (by omega)
            have e2 : IntKind.i64.wrap (px + a - 1) = px + a - 1 := IntWalk.i64_in _ (by omega)
            have e3 : IntKind.i64.wrap (py + b) = py + b := IntWalk.i64_in _ (by omega)
            have e4 : IntKind.i64.wrap (py + b - 1) = py + b - 1 := IntWalk.i64_in _ (by omega)
            clear k1 k2 k3 hcb
            go_wp2_with fail
            refine (HS1.out _).mono ?_
            rintro e w2 ⟨rfl, k9⟩
            have HG2 := Lib.hid (HG1.out.next k9)
            obtain ⟨a20, a21, a22, b20, b21, b22, -⟩ := HG2.out
            clear k9
            go_wp2_with fail
            refine (HS2.out _).mono ?_
            rintro e w3 ⟨rfl, k9⟩
            have HG3 := Lib.hid (HG2.out.next k9)
            obtain ⟨a30, a31, a32, b30, b31, b32, -⟩ := HG3.out
            clear k9
            go_wp2_with fail
            refine (HS3.out _).mono ?_
            rintro e w4 ⟨rfl, k9⟩
            have HG4 := Lib.hid (HG3.out.next k9)
            obtain ⟨a40, a41, a42, b40, b41, b42, -⟩ := HG4.out
            clear k9
            have OO := Lib.hid HG4.out.on
            obtain ⟨r0, r1, r2, r3, r4⟩ := KR.out.on OO.out
            have ry := OO.out.lts _ KR.out.blk
            have g0 := (OO.out.frozen (p := ⟨w.heap.size + 1, 0, none⟩) (by exact KR.out.blk)).trans (KF.out 0)
            have g1 := (OO.out.frozen (p := ⟨w.heap.size + 1, 1, none⟩) (by exact KR.out.blk)).trans (KF.out 1)
            have g2 := (OO.out.frozen (p := ⟨w.heap.size + 1, 2, none⟩) (by exact KR.out.blk)).trans (KF.out 2)
            have g3 := (OO.out.frozen (p := ⟨w.heap.size + 1, 3, none⟩) (by exact KR.out.blk)).trans (KF.out 3)
            have g4 := (OO.out.frozen (p := ⟨w.heap.size + 1, 4, none⟩) (by exact KR.out.blk)).trans (KF.out 4)
            go_wp2_with fail
            refine bodyPost_ret (v := .tuple #[.agg #[.int .i64 0, .int .i64 0, .int .i64 0, .slice none 0 0, .slice none 0 0], .int .i64 2]) (by simp [results, Try.results10, go_sem, r0, r1, r2, r3, r4]) rfl ?_
            rw [HCB.out]
            refine ⟨_, _, _, _, rfl, nilR _ _, ?_⟩
            iterate 5 refine On.setCell ?_ (by show w.heap.size ≤ w.heap.size + 1; omega) _
            exact On.trans O1.out OO.out
      | true =>
        obtain ⟨k1, k2, k3⟩ := parts ho hcb
        rw [k1] at HS1
        rw [k2] at HS2
        rw [k3] at HS3
        obtain ⟨-, c1, c2, -, -⟩ := of_size k1
        obtain ⟨d1, d2⟩ := of_has k2
        have e1 : IntKind.i64.wrap (px + a) = px + a := IntWalk.i64_in _ (by omega)
        have e2 : IntKind.i64.wrap (px + a - 1) = px + a - 1 := IntWalk.i64_in _ (by omega)
        have e3 : IntKind.i64.wrap (py + b) = py + b := IntWalk.i64_in _ (by omega)
        have e4 : IntKind.i64.wrap (py + b - 1) = py + b - 1 := IntWalk.i64_in _ (by omega)
        clear k1 k2 k3
        go_wp2_with fail
        refine (HS1.out _).mono ?_
        rintro e w2 ⟨rfl, k9⟩
        have HG2 := Lib.hid (HG1.out.next k9)
        obtain ⟨a20, a21, a22, b20, b21, b22, -⟩ := HG2.out
        clear k9
        go_wp2_with fail
        refine (HS2.out _).mono ?_
        rintro e w3 ⟨rfl, k9⟩
        have HG3 := Lib.hid (HG2.out.next k9)
        obtain ⟨a30, a31, a32, b30, b31, b32, -⟩ := HG3.out
        clear k9
        go_wp2_with fail
        refine (HS3.out _).mono ?_
        rintro e w4 ⟨rfl, k9⟩
        have HG4 := Lib.hid (HG3.out.next k9)
        obtain ⟨a40, a41, a42, b40, b41, b42, -⟩ := HG4.out
        clear k9
        clear e1 e2 e3 e4
        have hq := hcb
        unfold cropB at hq
        rw [Bool.and_eq_true, Bool.and_eq_true, Bool.and_eq_true] at hq
        obtain ⟨n1, n2, n3', n4'⟩ := hq
        have HCB := Lib.hid (cr_0 (s := s) ho hcb)
        obtain ⟨X, Y, P, Q, A, B, rfl, rfl, rfl, rfl, rfl, rfl, -, ⟨x3, x4⟩, ⟨y3, y4⟩, ⟨a3, a4⟩, ⟨b3, b4⟩, hPX, hQY, lz, lc⟩ := nats ho n1 n2 n3' n4'
        have hXY : 4 ≤ X * Y := Nat.mul_le_mul x3 y3
        have hXY2 : X * Y ≤ 576 := Nat.mul_le_mul x4 y4
        obtain ⟨c, off, rfl, hb, hcell⟩ := slice_of h3 rfl (by omega)
        obtain ⟨d, doff, rfl, hd, hdell⟩ := slice_of h4 rfl (by omega)
        have HZ3 := Lib.hid hcell
        have HZ4 := Lib.hid hdell
        have LZ := Lib.hid lz
        have LC := Lib.hid lc
        have E3 := Lib.hid (show crL 0 (crop z3 (X : Int) (P : Int) (Q : Int) (A : Int) (B : Int)) = listOf (pick z3 X P Q A) (B * A) from rfl)
        have E4 := Lib.hid (show crL 0 (crop z4 (X : Int) (P : Int) (Q : Int) (A : Int) (B : Int)) = listOf (pick z4 X P Q A) (B * A) from rfl)
        have HP3 := Lib.hid (fun (k j : Nat) (hj : j < A) => pick_at z3 X P Q (k := k) hj)
        have HP4 := Lib.hid (fun (k j : Nat) (hj : j < A) => pick_at z4 X P Q (k := k) hj)
        generalize pick z3 X P Q A = p3 at *
        generalize pick z4 X P Q A = p4 at *
        obtain ⟨n, hn⟩ : ∃ n, n = B * A := ⟨_, rfl⟩
        have hnab : ((n : Nat) : Int) = (A : Int) * (B : Int) := by rw [hn, Nat.mul_comm]; simp
        have n576 : n ≤ 576 := by rw [hn]; exact Nat.mul_le_mul b4 a4
        have HBR := Lib.hid (fun w' => impl_bare s (A : Int) (B : Int) n w' hnab n576)
        have HNB := Lib.hid hn
        have hw4 : w1.heap.size ≤ w4.heap.size := HG4.out.on.size
        clear hnab hn lz lc hcell hdell ho hcb n1 n2 n3' n4' h3 h4 i1 HV HG HS1 HS2 HS3 c1 c2 d1 d2 x1 x2 y1 y2
        go_wp2_with fail
        refine (HBR.out _).mono ?_
        rintro e w5 ⟨A0, B0, rfl, la, lb, hne, hra, hrb, k9⟩
        obtain ⟨g, hg⟩ : ∃ g, g = w5.heap.size := ⟨_, rfl⟩
        obtain ⟨WB, hWB⟩ : ∃ z, z = w5.alloc (.cells #[.int .i64 s, .int .i64 (A : Int), .int .i64 (B : Int), .slice (some ⟨A0, 0, none⟩) n n, .slice (some ⟨B0, 0, none⟩) n n] 26) := ⟨_, rfl⟩
        have HT0 := Lib.hid (show Cop A0 B0 g n s (A : Int) (B : Int) (part p3 0 n) (part p4 0 n) w4 WB by
          have z1 := zeros hra
          have z2 := zeros hrb
          rw [part_zero, part_zero, hWB]
          have A1 := On.alloc (On.refl w5) (.cells #[.int .i64 s, .int .i64 (A : Int), .int .i64 (B : Int), .slice (some ⟨A0, 0, none⟩) n n, .slice (some ⟨B0, 0, none⟩) n n] 26)
          exact ⟨(A1.block _ (Array.getElem?_eq_some_iff.1 z1).1).trans z1, (A1.block _ (Array.getElem?_eq_some_iff.1 z2).1).trans z2, by rw [hg]; exact ⟨by simp [go_sem], by simp [go_sem], by simp [go_sem], by simp [go_sem], by simp [go_sem]⟩, On.alloc k9 _⟩)
        have hgA : g ≠ A0 := by have := (Array.getElem?_eq_some_iff.1 (zeros hra)).1; omega
        have hgB : g ≠ B0 := by have := (Array.getElem?_eq_some_iff.1 (zeros hrb)).1; omega
        have HWB := Lib.hid hWB
        have HGG := Lib.hid hg
        clear hWB hg hra hrb k9 HBR
        go_wp2_with fail
        rw [← HWB.out]
        rw [← HGG.out]
        clear a10 a11 a12 b10 b11 b12 a20 a21 a22 b20 b21 b22 a30 a31 a32 b30 b31 b32 a40 a41 a42 b40 b41 b42 HG1 HG2 HG3 HWB
        go_loopw [55] (fun i wr => ∃ k : Nat, k ≤ B ∧ i = .int .i64 k ∧ Cop A0 B0 g n s (A : Int) (B : Int) (part p3 (k * A) n) (part p4 (k * A) n) w4 wr) (fun i _ => B - (intOf i).toNat)
        case atStart => exact ⟨0, Nat.zero_le _, rfl, by rw [Nat.zero_mul]; exact HT0.out⟩
        case round =>
          obtain ⟨k, hk, rfl, hT⟩ := hrel
          have HT := Lib.hid hT
          clear hT
          by_cases hlt : k < B
          · have hlti : (k : Int) < (B : Int) := by omega
            obtain ⟨m, hm⟩ : ∃ m, m = k * A := ⟨_, rfl⟩
            have hmA : m + A ≤ n := by
              rw [hm, HNB.out]
              have := Nat.mul_le_mul_right A (show k + 1 ≤ B by omega)
              rw [Nat.succ_mul] at this
              exact this
            obtain ⟨r, hr⟩ : ∃ r, r = Q + k := ⟨_, rfl⟩
            obtain ⟨u, hu⟩ : ∃ u, u = r * X := ⟨_, rfl⟩
            obtain ⟨q, hqq⟩ : ∃ q, q = u + P := ⟨_, rfl⟩
            have hqn : q + A ≤ z3.length := by
              have := Nat.mul_le_mul_right X (show r + 1 ≤ Y by omega)
              rw [Nat.succ_mul, ← hu, Nat.mul_comm Y X] at this
              rw [LZ.out]
              omega
            have z576 : z3.length ≤ 576 := by rw [LZ.out]; exact hXY2
            have e1 : IntKind.i64.wrap ((Q : Int) + (k : Int)) = (r : Int) := by
              rw [show (Q : Int) + (k : Int) = (r : Int) by omega]
              exact IntWalk.i64_in _ (by omega)
            have HIx := Lib.hid (fun w' => idxP s X Y r P u q w' hu hqq (by omega))
            have HRa := Lib.hid (fun w' => show Calls Try.prog 36 #[.agg #[.int .i64 s, .int .i64 (A : Int), .int .i64 (B : Int)], .slice (some ⟨A0, 0, none⟩) n n, .int .i64 (k : Int)] w' fun e w'' => e = .returned (.slice (some ⟨A0, m, none⟩) A (n - m)) ∧ On w' w'' by have := impl_row s A B A0 0 n n k m w' hm (by omega) (by omega) (by omega) (by omega); rw [Nat.zero_add] at this; exact this)
            have HRb := Lib.hid (fun w' => show Calls Try.prog 36 #[.agg #[.int .i64 s, .int .i64 (A : Int), .int .i64 (B : Int)], .slice (some ⟨B0, 0, none⟩) n n, .int .i64 (k : Int)] w' fun e w'' => e = .returned (.slice (some ⟨B0, m, none⟩) A (n - m)) ∧ On w' w'' by have := impl_row s A B B0 0 n n k m w' hm (by omega) (by omega) (by omega) (by omega); rw [Nat.zero_add] at this; exact this)
            have sl3 := slr c off z3.length cap3 q (by omega) f3
            have sl4 := slr d doff z4.length cap4 q (by have := LC.out; omega) f4
            have HQ3 := Lib.hid (fun (j : Nat) (hj : j < A) => show p3 (m + j) = z3.getD (q + j) 0 by rw [hm, HP3.out k j hj, ← hr, ← hu, ← hqq])
            have HQ4 := Lib.hid (fun (j : Nat) (hj : j < A) => show p4 (m + j) = z4.getD (q + j) 0 by rw [hm, HP4.out k j hj, ← hr, ← hu, ← hqq])
            have HMK := Lib.hid (show (k + 1) * A = m + A by rw [hm, Nat.succ_mul])
            rw [← hm] at HT
            clear hm hr hu hqq
            obtain ⟨j0, j1, j2, j3, j4⟩ := HT.out.st
            obtain ⟨v0, v1, v2, v3, v4, v5, -⟩ := HG4.out.next HT.out.on
            obtain ⟨t0, t1, t2, t3, t4⟩ := KT.out.on (On.trans HG4.out.on HT.out.on)
            have y1' := World.block_lt_of_cell? wr _ j0
            have y2' := World.block_lt_of_cell? wr _ v0
            have y3' := World.block_lt_of_cell? wr _ v3
            have y4' := World.block_lt_of_cell? wr _ t0
            go_wp2_with fail
            refine (HIx.out _).mono ?_
            rintro e w6 ⟨rfl, k6⟩
            have HT6 := Lib.hid (HT.out.next k6)
            clear k6
            clear j0 j1 j2 j3 j4 v0 v1 v2 v3 v4 v5 t0 t1 t2 t3 t4 y1' y2' y3' y4'
            obtain ⟨j0, j1, j2, j3, j4⟩ := HT6.out.st
            obtain ⟨v0, v1, v2, v3, v4, v5, -⟩ := HG4.out.next HT6.out.on
            obtain ⟨t0, t1, t2, t3, t4⟩ := KT.out.on (On.trans HG4.out.on HT6.out.on)
            have y1' := World.block_lt_of_cell? w6 _ j0
            have y2' := World.block_lt_of_cell? w6 _ v0
            have y3' := World.block_lt_of_cell? w6 _ v3
            have y4' := World.block_lt_of_cell? w6 _ t0
            go_wp2_with fail
            refine wp_region_on_tail 9 (by kernel_rfl) (by kernel_rfl) ?_
            simp only [List.take_succ_cons, List.take_zero, List.drop_succ_cons, List.drop_zero]
            repeat (refine wpQuiet_step (fun K hK => ?_); go_simp; first | (refine hK _ ?_; clear hK K) | (apply Exists.intro; refine ⟨fun v1 hv1 => ?_, hK _ ?_⟩; (first | with_reducible exact rfl | with_reducible exact ⟨rfl, rfl⟩ | with_reducible exact Calls.on hv1 (HRa.out _) | (obtain ⟨hc, hf⟩ := bcell hv1; go_simp; first | with_reducible exact rfl | with_reducible exact ⟨rfl, rfl⟩ | exact rfl | exact ⟨rfl, rfl⟩)); clear hK K))
            refine wpQuiet_nil ?_
            intro w7 h7
            have HT7 := Lib.hid (HT6.out.next h7)
            clear h7
            refine wpList_copy_own rfl (.tmp 68) (.tmp 72) _ _ rfl 2 Try.underlying22 (by kernel_rfl) A0 m A (n - m) ⟨c, off + q, none⟩ (z3.length - q) (cap3 - q) rfl rfl _ 2 HT7.out.ha (Clone.intCells (listOf (fun j => p3 (m + j)) A)) ?_ ?_ ?_ (cells_one _) ?_
            · rw [cells_len, listOf_len]; exact (Nat.min_eq_right (by omega)).symm
            · intro j v hj
              obtain ⟨h1, rfl⟩ := cells_at hj
              rw [listOf_len] at h1
              rw [listOf_at _ h1, HQ3.out j h1]
              have hw : On w w7 := On.trans O1.out (On.trans HG4.out.on HT7.out.on)
              have hz := (hw.cell (p := ⟨c, off + (q + j), none⟩) (by exact hb)).trans (HZ3.out (q + j) (by omega))
              rw [show (⟨c, off + q, none⟩ : Addr).add j = ⟨c, off + (q + j), none⟩ by cases j <;> simp [Addr.add, Nat.add_assoc]]
              exact hz
            · simp [cells_len, listOf_len, part_len p3 (show m ≤ n by omega)]; omega
            rw [cells_len, listOf_len, List.toList_toArray, part_splice p3 hmA]
            have HT8 := Lib.hid (HT7.out.putA (hs' := part p3 (m + A) n) hgA hne (by omega))
            generalize hww : w7.setRow A0 (Clone.intCells (part p3 (m + A) n)).toArray = w8 at *
            clear hww
            clear j0 j1 j2 j3 j4 v0 v1 v2 v3 v4 v5 t0 t1 t2 t3 t4 y1' y2' y3' y4'
            obtain ⟨j0, j1, j2, j3, j4⟩ := HT8.out.st
            obtain ⟨v0, v1, v2, v3, v4, v5, -⟩ := HG4.out.next HT8.out.on
            obtain ⟨t0, t1, t2, t3, t4⟩ := KT.out.on (On.trans HG4.out.on HT8.out.on)
            have y1' := World.block_lt_of_cell? w8 _ j0
            have y2' := World.block_lt_of_cell? w8 _ v0
            have y3' := World.block_lt_of_cell? w8 _ v3
            have y4' := World.block_lt_of_cell? w8 _ t0
            go_wp2_with fail
            refine wp_region_on_tail 9 (by kernel_rfl) (by kernel_rfl) ?_
            simp only [List.take_succ_cons, List.take_zero, List.drop_succ_cons, List.drop_zero]
            repeat (refine wpQuiet_step (fun K hK => ?_); go_simp; first | (refine hK _ ?_; clear hK K) | (apply Exists.intro; refine ⟨fun v1 hv1 => ?_, hK _ ?_⟩; (first | with_reducible exact rfl | with_reducible exact ⟨rfl, rfl⟩ | with_reducible exact Calls.on hv1 (HRb.out _) | (obtain ⟨hc, hf⟩ := bcell hv1; go_simp; first | with_reducible exact rfl | with_reducible exact ⟨rfl, rfl⟩ | exact rfl | exact ⟨rfl, rfl⟩)); clear hK K))
            refine wpQuiet_nil ?_
            intro w9 h9
            have HT9 := Lib.hid (HT8.out.next h9)
            clear h9
            refine wpList_copy_own rfl (.tmp 78) (.tmp 82) _ _ rfl 2 Try.underlying22 (by kernel_rfl) B0 m A (n - m) ⟨d, doff + q, none⟩ (z4.length - q) (cap4 - q) rfl rfl _ 2 HT9.out.hb (Clone.intCells (listOf (fun j => p4 (m + j)) A)) ?_ ?_ ?_ (cells_one _) ?_
            · rw [cells_len, listOf_len]; exact (Nat.min_eq_right (by have := LC.out; omega)).symm
            · intro j v hj
              obtain ⟨h1, rfl⟩ := cells_at hj
              rw [listOf_len] at h1
              rw [listOf_at _ h1, HQ4.out j h1]
              have hw : On w w9 := On.trans O1.out (On.trans HG4.out.on HT9.out.on)
              have hz := (hw.cell (p := ⟨d, doff + (q + j), none⟩) (by exact hd)).trans (HZ4.out (q + j) (by have := LC.out; omega))
              rw [show (⟨d, doff + q, none⟩ : Addr).add j = ⟨d, doff + (q + j), none⟩ by cases j <;> simp [Addr.add, Nat.add_assoc]]
              exact hz
            · simp [cells_len, listOf_len, part_len p4 (show m ≤ n by omega)]; omega
            rw [cells_len, listOf_len, List.toList_toArray, part_splice p4 hmA]
            have HT10 := Lib.hid (HT9.out.putB (hs' := part p4 (m + A) n) hgB hne (by omega))
            generalize hww : w9.setRow B0 (Clone.intCells (part p4 (m + A) n)).toArray = w10 at *
            clear hww
            go_wp2_with fail
            go_roundw
            case rel => exact ⟨k + 1, by omega, by go_num, by rw [HMK.out]; exact HT10.out⟩
            case measure => simp [intOf]; omega
          · obtain rfl : k = B := by omega
            have hnot : ¬ ((k : Int) < (k : Int)) := by omega
            rw [← HNB.out, part_full, part_full] at HT
            rw [← HNB.out] at E3 E4
            obtain ⟨j0, j1, j2, j3, j4⟩ := HT.out.st
            have hgr := World.block_lt_of_cell? wr _ j0
            have OO := Lib.hid (On.trans HG4.out.on HT.out.on)
            have hl5 : w.heap.size + 1 < w4.heap.size := Nat.lt_of_lt_of_le KR.out.blk hw4
            obtain ⟨r0, r1, r2, r3, r4⟩ := KR.out.on OO.out
            have ry := OO.out.lts _ KR.out.blk
            have g0 := (OO.out.frozen (p := ⟨w.heap.size + 1, 0, none⟩) (by exact KR.out.blk)).trans (KF.out 0)
            have g1 := (OO.out.frozen (p := ⟨w.heap.size + 1, 1, none⟩) (by exact KR.out.blk)).trans (KF.out 1)
            have g2 := (OO.out.frozen (p := ⟨w.heap.size + 1, 2, none⟩) (by exact KR.out.blk)).trans (KF.out 2)
            have g3 := (OO.out.frozen (p := ⟨w.heap.size + 1, 3, none⟩) (by exact KR.out.blk)).trans (KF.out 3)
            have g4 := (OO.out.frozen (p := ⟨w.heap.size + 1, 4, none⟩) (by exact KR.out.blk)).trans (KF.out 4)
            go_wp2_with fail
            refine bodyPost_ret (v := .tuple #[.agg #[.int .i64 s, .int .i64 (A : Int), .int .i64 (k : Int), .slice (some ⟨A0, 0, none⟩) n n, .slice (some ⟨B0, 0, none⟩) n n], .int .i64 0]) (by simp [results, Try.results10, go_sem, r0, r1, r2, r3, r4]) rfl ?_
            rw [HCB.out, E3.out, E4.out, listOf_len, listOf_len]
            refine ⟨some ⟨A0, 0, none⟩, n, some ⟨B0, 0, none⟩, n, rfl, ⟨listOf_len _ _, listOf_len _ _, ?_, ?_, ?_⟩, ?_⟩
            · refine Own.mono (B := w4.heap.size) ?_ (by omega)
              iterate 5 refine Own.setCell ?_ (by show w.heap.size + 1 < w4.heap.size; exact hl5) _
              have := own_row (B := w4.heap.size) HT.out.ha la
              rw [listOf_len] at this
              exact this
            · refine Own.mono (B := w4.heap.size) ?_ (by omega)
              iterate 5 refine Own.setCell ?_ (by show w.heap.size + 1 < w4.heap.size; exact hl5) _
              have := own_row (B := w4.heap.size) HT.out.hb lb
              rw [listOf_len] at this
              exact this
            · intro _ _ p q hp hq
              cases hp
              cases hq
              exact hne
            · iterate 5 refine On.setCell ?_ (by show w.heap.size ≤ w.heap.size + 1; omega) _
              exact On.trans O1.out OO.out
end Go.Proofs.Ytnambnddoebeiaa.Crp
