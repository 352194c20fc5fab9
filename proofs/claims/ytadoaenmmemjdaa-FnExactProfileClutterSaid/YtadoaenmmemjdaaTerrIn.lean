
/-
  Whether a point is in a terrain, and what is asked of a terrain at a point, in the model and in the program. Conditions: each theorem's own.
-/
import Derived.Test.YtadoaenmmemjdaaTerrOkI
namespace Go.Proofs.Ytadoaenmmemjdaa.Terr
open Go.RowKit
open Plain
open Ints (Ints Own)

/-- The block g holds a point. -/
def PtIn (w : World) (g : Nat) (px py : Int) : Prop := w.cell? ⟨g, 0, none⟩ = some (.int .i64 px) ∧ w.cell? ⟨g, 1, none⟩ = some (.int .i64 py)
theorem PtIn.on {w w' : World} {g : Nat} {px py : Int} (h : PtIn w g px py) (ho : On w w') : PtIn w' g px py :=
  ⟨(ho.cell (World.block_lt_of_cell? w _ h.1)).trans h.1, (ho.cell (World.block_lt_of_cell? w _ h.2)).trans h.2⟩
/-- The point lies within the corners. -/
def inT (s x y px py : Int) : Bool := inB px 0 ((x - 1) * s) && inB py 0 ((y - 1) * s)
theorem inT_1 {s x y px py : Int} (h : inB px 0 ((x - 1) * s) = false) : inT s x y px py = false := by unfold inT; rw [h]; rfl
theorem inT_2 {s x y px py : Int} (h : inB px 0 ((x - 1) * s) = true) : inT s x y px py = inB py 0 ((y - 1) * s) := by unfold inT; rw [h]; rfl
theorem of_inT {s x y px py : Int} (h : inT s x y px py = true) : (0 ≤ px ∧ px ≤ (x - 1) * s) ∧ (0 ≤ py ∧ py ≤ (y - 1) * s) := by
  unfold inT at h
  rw [Bool.and_eq_true] at h
  exact ⟨of_inB h.1, of_inB h.2⟩
set_option maxHeartbeats 1000000 in
theorem spec_in (g : Nat) (s x y px py : Int) (v u : Value) (w : World) (hp : TIn w g s x y v u) (s0 : 1 ≤ s) (s1 : s ≤ 10000) (x0 : 2 ≤ x) (x1 : x ≤ 24) (y0 : 2 ≤ y) (y1 : y ≤ 24) :
    Calls Try.prog 46 #[.pointer (some ⟨g, 0, none⟩), .agg #[.int .i64 px, .int .i64 py]] w fun e w' => e = .returned (.bool (inT s x y px py)) ∧ On w w' := by
  obtain ⟨k0, k1, k2, k3, k4⟩ := hp
  have hg := World.block_lt_of_cell? w _ k0
  have hg1 : g < w.heap.size + 1 := by simp at hg; omega
  have hg2 : g ≠ w.heap.size := by simp at hg; omega
  obtain ⟨p0, p1⟩ := prod_s (a := x - 1) (by omega) (by omega) s0 s1
  obtain ⟨q0, q1⟩ := prod_s (a := y - 1) (by omega) (by omega) s0 s1
  have e0 : IntKind.i64.wrap (x - 1) = x - 1 := IntWalk.i64_in _ (by omega)
  have e1 : IntKind.i64.wrap ((x - 1) * s) = (x - 1) * s := IntWalk.i64_in _ (by omega)
  have e2 : IntKind.i64.wrap (y - 1) = y - 1 := IntWalk.i64_in _ (by omega)
  have e3 : IntKind.i64.wrap ((y - 1) * s) = (y - 1) * s := IntWalk.i64_in _ (by omega)
  cases d1 : inB px 0 ((x - 1) * s) with
  | false =>
    have en := Lib.hid (inT_1 (y := y) (py := py) d1)
    go_enter Try.func46, Try.ntmps46
    go_wp2_with fail
    refine wp_region_onh (by kernel_rfl) (by kernel_rfl) ?_
    repeat (refine rest_step (fun K hK => ?_); go_simp; first | (refine hK _ ?_; clear hK K) | (apply Exists.intro; refine ⟨fun v1 hv1 => ?_, hK _ ?_⟩; (first | with_reducible exact rfl | with_reducible exact ⟨rfl, rfl⟩ | with_reducible exact Calls.on_same hv1 (Arith.l00In _ _ _ _) | (obtain ⟨hc, hf⟩ := bcell hv1; go_simp; first | with_reducible exact rfl | with_reducible exact ⟨rfl, rfl⟩ | exact rfl | exact ⟨rfl, rfl⟩)); clear hK K))
    refine rest_nil ?_
    intro w1 h1
    go_wp2_with fail
    go_ret
    exact ⟨ret_bool en.out.symm, On.trans (On.alloc (On.refl _) _) h1⟩
  | true =>
    have en := Lib.hid (inT_2 (y := y) (py := py) d1)
    go_enter Try.func46, Try.ntmps46
    go_wp2_with fail
    refine wp_region_onh (by kernel_rfl) (by kernel_rfl) ?_
    repeat (refine rest_step (fun K hK => ?_); go_simp; first | (refine hK _ ?_; clear hK K) | (apply Exists.intro; refine ⟨fun v1 hv1 => ?_, hK _ ?_⟩; (first | with_reducible exact rfl | with_reducible exact ⟨rfl, rfl⟩ | with_reducible exact Calls.on_same hv1 (Arith.l00In _ _ _ _) | (obtain ⟨hc, hf⟩ := bcell hv1; go_simp; first | with_reducible exact rfl | with_reducible exact ⟨rfl, rfl⟩ | exact rfl | exact ⟨rfl, rfl⟩)); clear hK K))
    refine rest_nil ?_
    intro w1 h1
    go_wp2_with fail
    go_ret
    exact ⟨ret_bool en.out.symm, On.trans (On.alloc (On.refl _) _) h1⟩
set_option maxHeartbeats 1000000 in
set_option maxRecDepth 100000 in
theorem impl_contains (s x y px py : Int) (w : World) (s0 : 1 ≤ s) (s1 : s ≤ 10000) (x0 : 2 ≤ x) (x1 : x ≤ 24) (y0 : 2 ≤ y) (y1 : y ≤ 24) :
    Calls Try.prog 50 #[.agg #[.int .i64 s, .int .i64 x, .int .i64 y], .agg #[.int .i64 px, .int .i64 py]] w fun e w' => e = .returned (.bool (inT s x y px py)) ∧ On w w' := by
  have HC := Lib.hid (fun w => impl_corner s x y w s0 s1 x0 x1 y0 y1)
  cases d1 : inB px 0 ((x - 1) * s) with
  | false =>
    have en := Lib.hid (inT_1 (y := y) (py := py) d1)
    go_enter Try.func50, Try.ntmps50
    go_wp2_with fail
    refine wp_region_onh (by kernel_rfl) (by kernel_rfl) ?_
    repeat (refine rest_step (fun K hK => ?_); go_simp; first | (refine hK _ ?_; clear hK K) | (apply Exists.intro; refine ⟨fun v1 hv1 => ?_, hK _ ?_⟩; (first | with_reducible exact rfl | with_reducible exact ⟨rfl, rfl⟩ | with_reducible exact Calls.on_same hv1 (Arith.within _ _ _ _) | with_reducible exact Calls.on hv1 (HC.out _) | (obtain ⟨hc, hf⟩ := bcell hv1; go_simp; first | with_reducible exact rfl | with_reducible exact ⟨rfl, rfl⟩ | exact rfl | exact ⟨rfl, rfl⟩)); clear hK K))
    refine rest_nil ?_
    intro w1 h1
    go_wp2_with fail
    go_ret
    exact ⟨ret_bool en.out.symm, On.trans (On.alloc (On.alloc (On.refl _) _) _) h1⟩
  | true =>
    have en := Lib.hid (inT_2 (y := y) (py := py) d1)
    go_enter Try.func50, Try.ntmps50
    go_wp2_with fail
    refine wp_region_onh (by kernel_rfl) (by kernel_rfl) ?_
    repeat (refine rest_step (fun K hK => ?_); go_simp; first | (refine hK _ ?_; clear hK K) | (apply Exists.intro; refine ⟨fun v1 hv1 => ?_, hK _ ?_⟩; (first | with_reducible exact rfl | with_reducible exact ⟨rfl, rfl⟩ | with_reducible exact Calls.on_same hv1 (Arith.within _ _ _ _) | with_reducible exact Calls.on hv1 (HC.out _) | (obtain ⟨hc, hf⟩ := bcell hv1; go_simp; first | with_reducible exact rfl | with_reducible exact ⟨rfl, rfl⟩ | exact rfl | exact ⟨rfl, rfl⟩)); clear hK K))
    refine rest_nil ?_
    intro w1 h1
    go_wp2_with fail
    go_ret
    exact ⟨ret_bool en.out.symm, On.trans (On.alloc (On.alloc (On.refl _) _) _) h1⟩
end Go.Proofs.Ytadoaenmmemjdaa.Terr
