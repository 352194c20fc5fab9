
/-
  Whether a point is in a terrain, and what is asked of a terrain at a point, in the model and in the program. Conditions: each theorem's own.
-/
import Derived.Test.YtcdmijldkmmgmabTerrOkI
namespace Go.Proofs.Ytcdmijldkmmgmab.Terr
open Go.RowKit
open Plain
open Ints (Ints Own)

/-- The block g holds a point. -/
def PtIn (w : World) (g : Nat) (px py : Int) : Prop := w.cell? ⟨g, 0, none⟩ = some (.int .i64 px) ∧ w.cell? ⟨g, 1, none⟩ = some (.int .i64 py)
theorem PtIn.on {w w' : World} {g : Nat} {px py : Int} (h : PtIn w g px py) (ho : On w w') : PtIn w' g px py :=
  ⟨(ho.cell (World.block_lt_of_cell? w _ h.1)).trans h.1, (ho.cell (World.block_lt_of_cell? w _ h.2)).trans h.2⟩
/-- The point lies within the corners. -/
def inT (s x y px py : Int) : Bool := inB px 0 ((x - 1) * s) && inB py 0 ((y - 1) * s)
theorem inT_1 {s x y px py : Int} (h : inB px 0 ((x - 1) * s) = false) : inT s x y px py = false := by unfold inT; rw [h]; rfl
theorem inT_2 {s x y px py : Int} (h : inB px 0 ((x - 1) * s) = true) : inT s x y px py = inB py 0 ((y - 1) * s) := by unfold inT; rw [h]; rfl
theorem of_inT {s x y px py : Int} (h : inT s x y px py = true) : (0 ≤ px ∧ px ≤ (x - 1) * s) ∧ (0 ≤ py ∧ py ≤ (y - 1) * s) := by
  unfold inT at h
  rw [Bool.and_eq_true] at h
  exact ⟨of_inB h.1, of_inB h.2⟩
set_option maxHeartbeats 1000000 in
theorem spec_in (g : Nat) (s x y px py : Int) (v u : Value) (w : World) (hp : TIn w g s x y v u) (s0 : 1 ≤ s) (s1 : s ≤ 10000) (x0 : 2 ≤ x) (x1 : x ≤ 24) (y0 : 2 ≤ y) (y1 : y ≤ 24) :
    Calls Try.prog 45 #[.pointer (some ⟨g, 0, none⟩), .agg #[.int .i64 px, .int .i64 py]] w fun e w' => e = .returned (.bool (inT s x y px py)) ∧ On w w' := by
  obtain ⟨k0, k1, k2, k3, k4⟩ := hp
  have hg := World.block_lt_of_cell? w _ k0
  have hg1 : g < w.heap.size + 1 := by simp at hg; omega
  have hg2 : g ≠ w.heap.size := by simp at hg; omega
  obtain ⟨p0, p1⟩ := prod_s (a := x - 1) (by omega) (by omega) s0 s1
  obtain ⟨q0, q1⟩ := prod_s (a := y - 1) (by omega) (by omega) s0 s1
  have e0 : IntKind.i64.wrap (x - 1) = x - 1 := IntWalk.i64_in _ (by omega)
  have e1 : IntKind.i64.wrap ((x - 1) * s) = (x - 1) * s := IntWalk.i64_in _ (by omega)
  have e2 : IntKind.i64.wrap (y - 1) = y - 1 := IntWalk.i64_in _ (by omega)
  have e3 : IntKind.i64.wrap ((y - 1) * s) = (y - 1) * s := IntWalk.i64_in _ (by omega)
  cases d1 : inB px 0 ((x - 1) * s) with
  | false =>
    have en := Lib.hid (inT_1 (y := y) (py := py) d1)
    go_enter Try.func45, Try.ntmps45
    go_wp2_with fail
    refine wp_region_onh (by kernel_rfl) (by kernel_rfl) ?_
    repeat (refine rest_step (fun K hK => ?_); go_simp; first | (refine hK _ ?_; clear hK K) | (apply Exists.intro; refine ⟨fun v1 hv1 => ?_, hK _ ?_⟩; (first | with_reducible exact rfl | with_reducible exact ⟨rfl, rfl⟩ | with_reducible exact Calls.on_same hv1 (Arith.l00In _ _ _ _) | (obtain ⟨hc, hf⟩ := bcell hv1; go_simp; first | with_reducible exact rfl | with_reducible exact ⟨rfl, rfl⟩ | exact rfl | exact ⟨rfl, rfl⟩)); clear hK K))
    refine rest_nil ?_
    intro w1 h1
    go_wp2_with fail
    go_ret
    exact ⟨ret_bool en.out.symm, On.trans (On.alloc (On.refl _) _) h1⟩
  | true =>
    have en := Lib.hid (inT_2 (y := y) (py := py) d1)
    go_enter Try.func45, Try.ntmps45
    go_wp2_with fail
    refine wp_region_onh (by kernel_rfl) (by kernel_rfl) ?_
    repeat (refine rest_step (fun K hK => ?_); go_simp; first | (refine hK _ ?_; clear hK K) | (apply Exists.intro; refine ⟨fun v1 hv1 => ?_, hK _ ?_⟩; (first | with_reducible exact rfl | with_reducible exact ⟨rfl, rfl⟩ | with_reducible exact Calls.on_same hv1 (Arith.l00In _ _ _ _) | (obtain ⟨hc, hf⟩ := bcell hv1; go_simp; first | with_reducible exact rfl | with_reducible exact ⟨rfl, rfl⟩ | exact rfl | exact ⟨rfl, rfl⟩)); clear hK K))
    refine rest_nil ?_
    intro w1 h1
    go_wp2_with fail
    go_ret
    exact ⟨ret_bool en.out.symm, On.trans (On.alloc (On.refl _) _) h1⟩
set_option maxHeartbeats 1000000 in
theorem impl_contains (s x y px py : Int) (w : World) (s0 : 1 ≤ s) (s1 : s ≤ 10000) (x0 : 2 ≤ x) (x1 : x ≤ 24) (y0 : 2 ≤ y) (y1 : y ≤ 24) :
    Calls Try.prog 46 #[.agg #[.int .i64 s, .int .i64 x, .int .i64 y], .agg #[.int .i64 px, .int .i64 py]] w fun e w' => e = .returned (.bool (inT s x y px py)) ∧ On w w' := by
  have HC := Lib.hid (fun w => impl_corner s x y w s0 s1 x0 x1 y0 y1)
  cases d1 : inB px 0 ((x - 1) * s) with
  | false =>
    have en := Lib.hid (inT_1 (y := y) (py := py) d1)
    go_enter Try.func46, Try.ntmps46
    go_wp2_with fail
    refine wp_region_onh (by kernel_rfl) (by kernel_rfl) ?_
    repeat (refine rest_step (fun K hK => ?_); go_simp; first | (refine hK _ ?_; clear hK K) | (apply Exists.intro; refine ⟨fun v1 hv1 => ?_, hK _ ?_⟩; (first | with_reducible exact rfl | with_reducible exact ⟨rfl, rfl⟩ | with_reducible exact Calls.on_same hv1 (Arith.within _ _ _ _) | with_reducible exact Calls.on hv1 (HC.out _) | (obtain ⟨hc, hf⟩ := bcell hv1; go_simp; first | with_reducible exact rfl | with_reducible exact ⟨rfl, rfl⟩ | exact rfl | exact ⟨rfl, rfl⟩)); clear hK K))
    refine rest_nil ?_
    intro w1 h1
    go_wp2_with fail
    go_ret
    exact ⟨ret_bool en.out.symm, On.trans (On.alloc (On.alloc (On.refl _) _) _) h1⟩
  | true =>
    have en := Lib.hid (inT_2 (y := y) (py := py) d1)
    go_enter Try.func46, Try.ntmps46
    go_wp2_with fail
    refine wp_region_onh (by kernel_rfl) (by kernel_rfl) ?_
    repeat (refine rest_step (fun K hK => ?_); go_simp; first | (refine hK _ ?_; clear hK K) | (apply Exists.intro; refine ⟨fun v1 hv1 => ?_, hK _ ?_⟩; (first | with_reducible exact rfl | with_reducible exact ⟨rfl, rfl⟩ | with_reducible exact Calls.on_same hv1 (Arith.within _ _ _ _) | with_reducible exact Calls.on hv1 (HC.out _) | (obtain ⟨hc, hf⟩ := bcell hv1; go_simp; first | with_reducible exact rfl | with_reducible exact ⟨rfl, rfl⟩ | exact rfl | exact ⟨rfl, rfl⟩)); clear hK K))
    refine rest_nil ?_
    intro w1 h1
    go_wp2_with fail
    go_ret
    exact ⟨ret_bool en.out.symm, On.trans (On.alloc (On.alloc (On.refl _) _) _) h1⟩
theorem spec_inTerrain (s x y px py : Int) (a b : Option Addr) (n cap m dap : Nat) (zs cs : List Int) (w : World) (hzn : zs.length = n) (hcm : cs.length = m) (hn : n ≤ 1048576) (hm : m ≤ 1048576) (h : Ints w (.slice a n cap) zs) (k : Ints w (.slice b m dap) cs) :
    Calls Try.prog 16 #[.agg #[.int .i64 s, .int .i64 x, .int .i64 y, .slice a n cap, .slice b m dap], .agg #[.int .i64 px, .int .i64 py]] w fun e w' => e = .returned (.bool (okT s x y zs cs && inT s x y px py)) ∧ On w w' := by
  have HO := Lib.hid (fun w' (hb : On w w') hp => spec_okT w.heap.size n cap m dap s x y a b zs cs w' hzn hcm hn hm hp (h.below hb) (k.below hb))
  clear h k
  cases ho : okT s x y zs cs with
  | false =>
    go_enter Try.func16, Try.ntmps16
    go_wp2_with fail
    refine (HO.out _ (by repeat (first | with_reducible exact On.refl _ | with_reducible exact Below.refl _ _ | apply On.alloc)) ⟨by simp [go_sem], by simp [go_sem], by simp [go_sem], by simp [go_sem], by simp [go_sem]⟩).mono ?_
    rintro e w1 ⟨rfl, h1⟩
    go_wp2_with fail
    go_ret
    exact ⟨rfl, by repeat (first | with_reducible exact On.refl _ | apply On.alloc | refine On.trans ?_ h1)⟩
  | true =>
    obtain ⟨hs, -⟩ := of_okT ho
    obtain ⟨⟨s0, s1⟩, ⟨x0, x1⟩, ⟨y0, y1⟩, -, -⟩ := of_size hs
    have HI := Lib.hid (fun w' hp => spec_in w.heap.size s x y px py (.slice a n cap) (.slice b m dap) w' hp s0 s1 x0 x1 y0 y1)
    go_enter Try.func16, Try.ntmps16
    go_wp2_with fail
    refine (HO.out _ (by repeat (first | with_reducible exact On.refl _ | with_reducible exact Below.refl _ _ | apply On.alloc)) ⟨by simp [go_sem], by simp [go_sem], by simp [go_sem], by simp [go_sem], by simp [go_sem]⟩).mono ?_
    rintro e w1 ⟨rfl, h1⟩
    have hT : TIn w1 w.heap.size s x y (.slice a n cap) (.slice b m dap) := TIn.on ⟨by simp [go_sem], by simp [go_sem], by simp [go_sem], by simp [go_sem], by simp [go_sem]⟩ h1
    have HT := Lib.hid hT
    have r0 : w1.cell? ⟨w.heap.size + 1, 0, none⟩ = some (.int .i64 px) := (h1.cell (by simp)).trans (by simp [go_sem])
    have r1 : w1.cell? ⟨w.heap.size + 1, 1, none⟩ = some (.int .i64 py) := (h1.cell (by simp)).trans (by simp [go_sem])
    clear hT
    go_wp2_with fail
    refine (HI.out _ HT.out).mono ?_
    rintro e w2 ⟨rfl, h2⟩
    go_wp2_with fail
    go_ret
    exact ⟨ret_bool (Bool.true_and _).symm, by repeat (first | with_reducible exact On.refl _ | apply On.alloc | refine On.trans ?_ h2 | refine On.trans ?_ h1)⟩
set_option maxHeartbeats 1000000 in
theorem impl_inTerrain (s x y px py : Int) (a b : Option Addr) (n cap m dap : Nat) (zs cs : List Int) (w : World) (hzn : zs.length = n) (hcm : cs.length = m) (hn : n ≤ 1048576) (hm : m ≤ 1048576) (h : Ints w (.slice a n cap) zs) (k : Ints w (.slice b m dap) cs) :
    Calls Try.prog 18 #[.agg #[.int .i64 s, .int .i64 x, .int .i64 y, .slice a n cap, .slice b m dap], .agg #[.int .i64 px, .int .i64 py]] w fun e w' => e = .returned (.bool (okT s x y zs cs && inT s x y px py)) ∧ On w w' := by
  have HV := Lib.hid (fun w' (hb : On w w') => impl_validT s x y a b n cap m dap zs cs w' hzn hcm hn hm (h.below hb) (k.below hb))
  have HG := Lib.hid (fun w => impl_grid s x y a b n cap m dap w)
  have hO := On.alloc (On.alloc (On.refl w) (.cells #[.int .i64 s, .int .i64 x, .int .i64 y, .slice a n cap, .slice b m dap] 27)) (.cells #[.int .i64 px, .int .i64 py] 34)
  clear h k
  cases ho : okT s x y zs cs with
  | false =>
    go_enter Try.func18, Try.ntmps18
    go_wp2_with fail
    refine wp_region_onh (by kernel_rfl) (by kernel_rfl) ?_
    repeat (refine rest_step (fun K hK => ?_); go_simp; first | (refine hK _ ?_; clear hK K) | (apply Exists.intro; refine ⟨fun v1 hv1 => ?_, hK _ ?_⟩; (first | with_reducible exact rfl | with_reducible exact ⟨rfl, rfl⟩ | with_reducible exact Calls.on hv1 (HV.out _ (On.trans hO hv1)) | (obtain ⟨hc, hf⟩ := bcell hv1; go_simp; first | with_reducible exact rfl | with_reducible exact ⟨rfl, rfl⟩ | exact rfl | exact ⟨rfl, rfl⟩)); clear hK K))
    refine rest_nil ?_
    intro w1 h1
    go_wp2_with fail
    go_ret
    exact ⟨rfl, On.trans hO h1⟩
  | true =>
    obtain ⟨hs, -⟩ := of_okT ho
    obtain ⟨⟨s0, s1⟩, ⟨x0, x1⟩, ⟨y0, y1⟩, -, -⟩ := of_size hs
    have HC := Lib.hid (fun w => impl_contains s x y px py w s0 s1 x0 x1 y0 y1)
    go_enter Try.func18, Try.ntmps18
    go_wp2_with fail
    refine wp_region_onh (by kernel_rfl) (by kernel_rfl) ?_
    repeat (refine rest_step (fun K hK => ?_); go_simp; first | (refine hK _ ?_; clear hK K) | (apply Exists.intro; refine ⟨fun v1 hv1 => ?_, hK _ ?_⟩; (first | with_reducible exact rfl | with_reducible exact ⟨rfl, rfl⟩ | with_reducible exact Calls.on hv1 (HV.out _ (On.trans hO hv1)) | with_reducible exact Calls.on hv1 (HG.out _) | with_reducible exact Calls.on hv1 (HC.out _) | (obtain ⟨hc, hf⟩ := bcell hv1; go_simp; first | with_reducible exact rfl | with_reducible exact ⟨rfl, rfl⟩ | exact rfl | exact ⟨rfl, rfl⟩)); clear hK K))
    refine rest_nil ?_
    intro w1 h1
    go_wp2_with fail
    go_ret
    exact ⟨ret_bool (Bool.true_and _).symm, On.trans hO h1⟩
end Go.Proofs.Ytcdmijldkmmgmab.Terr
