
/-
  The height of an end of a path above the sea, in the model and in the program. Conditions: each theorem's own.
-/
import Derived.Test.YtadoaenmmemjdaaDoorTerrHI
import Derived.Test.YtadoaenmmemjdaaDoorEnd
namespace Go.Proofs.YtadoaenmmemjdaaDoor.High
open Go.RowKit
open Plain
open Ints (Ints)
open EndOk (okE EIn)
open Terr (okT inT TIn hgt of_okT of_size spot prod_n slice_of GTo)

theorem sum_bd {h0 h1 s u : Int} (b0 : 0 ≤ h0 ∧ h0 ≤ 90000) (b1 : 0 ≤ h1 ∧ h1 ≤ 90000) (u0 : 0 ≤ u) (u1 : u ≤ s) : 0 ≤ h0 * (s - u) + h1 * u ∧ h0 * (s - u) + h1 * u ≤ 90000 * s := by
  have p0 := Int.mul_nonneg b0.1 (show 0 ≤ s - u by omega)
  have p1 := Int.mul_nonneg b1.1 u0
  have q0 := Int.mul_le_mul_of_nonneg_right b0.2 (show 0 ≤ s - u by omega)
  have q1 := Int.mul_le_mul_of_nonneg_right b1.2 u0
  omega
theorem near_part {a b : Int} (h0 : 0 ≤ a) (hb : 0 < b) (h : a ≤ 90000 * b) : 0 ≤ near a b ∧ near a b ≤ 90000 := by
  rw [near_div_pp a b hb h0]
  refine ⟨Int.ediv_nonneg (by omega) (by omega), ?_⟩
  refine Int.le_of_lt_add_one (Int.ediv_lt_of_lt_mul (by omega) ?_)
  omega
theorem hgt_bd {s x y px py : Int} {zs cs : List Int} (ho : okT s x y zs cs = true) (hi : inT s x y px py = true) : 0 ≤ hgt s x y zs px py ∧ hgt s x y zs px py ≤ 90000 := by
  obtain ⟨hs, hl, -, hg⟩ := of_okT ho
  obtain ⟨⟨s0, s1⟩, ⟨x0, x1⟩, ⟨y0, y1⟩, -, -⟩ := of_size hs
  obtain ⟨I, K, A, X, u, v, h0, h1, h2, h3, sp⟩ := spot s0 s1 x0 x1 y0 y1 hi hl hg
  rw [sp.out]
  unfold Terr.hSum
  obtain ⟨a0, a1⟩ := sum_bd sp.b0 sp.b1 sp.u0 sp.u1
  obtain ⟨c0, c1⟩ := sum_bd sp.b2 sp.b3 sp.u0 sp.u1
  have v0 := sp.v0
  have v1 := sp.v1
  generalize h0 * (s - u) + h1 * u = P at *
  generalize h2 * (s - u) + h3 * u = Q at *
  have p0 := Int.mul_nonneg a0 (show 0 ≤ s - v by omega)
  have p1 := Int.mul_nonneg c0 v0
  have q0 := Int.mul_le_mul_of_nonneg_right a1 (show 0 ≤ s - v by omega)
  have q1 := Int.mul_le_mul_of_nonneg_right c1 v0
  have e : 90000 * s * (s - v) + 90000 * s * v = 90000 * (s * s) := by rw [← Int.mul_add, Int.sub_add_cancel, Int.mul_assoc]
  have ss : 0 < s * s := Int.mul_pos (by omega) (by omega)
  exact near_part (by omega) ss (by omega)
theorem spec_hgt (g : Nat) (s x y : Int) (a b : Option Addr) (n cap m dap : Nat) (zs cs : List Int) (px py : Int) (w : World) (hzn : zs.length = n) (hp : TIn w g s x y (.slice a n cap) (.slice b m dap)) (h : Ints w (.slice a n cap) zs) (ho : okT s x y zs cs = true) (hi : inT s x y px py = true) :
    Calls Tryd.prog 43 #[.pointer (some ⟨g, 0, none⟩), .agg #[.int .i64 px, .int .i64 py]] w fun e w' => e = .returned (.int .i64 (hgt s x y zs px py)) ∧ On w w' := by
  obtain ⟨hs, hl, -, hg⟩ := of_okT ho
  obtain ⟨⟨s0, s1⟩, ⟨x0, x1⟩, ⟨y0, y1⟩, -, -⟩ := of_size hs
  have hp5 := prod_n x0 x1 y0 y1
  rw [hzn] at hl hg
  obtain ⟨bz, oz, rfl, hlt, hcell⟩ := slice_of h hzn (by omega)
  obtain ⟨I, K, A, X, u, v, h0, h1, h2, h3, spt⟩ := spot s0 s1 x0 x1 y0 y1 hi hl hg
  exact Terr.spec_heightOf g bz oz n cap I K A X s x y px py u v h0 h1 h2 h3 _ zs w spt hp hlt hcell (by omega) s0 s1 x0 x1 y0 y1 hi
theorem impl_hgt (s x y : Int) (a b : Option Addr) (n cap m dap : Nat) (zs cs : List Int) (px py : Int) (w : World) (hzn : zs.length = n) (hcap : n ≤ cap) (h : Ints w (.slice a n cap) zs) (ho : okT s x y zs cs = true) (hi : inT s x y px py = true) :
    Calls Tryd.prog 50 #[.agg #[.int .i64 s, .int .i64 x, .int .i64 y, .slice a n cap, .slice b m dap], .agg #[.int .i64 px, .int .i64 py]] w fun e w' => e = .returned (.int .i64 (hgt s x y zs px py)) ∧ On w w' := by
  obtain ⟨hs, hl, -, hg⟩ := of_okT ho
  obtain ⟨⟨s0, s1⟩, ⟨x0, x1⟩, ⟨y0, y1⟩, -, -⟩ := of_size hs
  have hp5 := prod_n x0 x1 y0 y1
  rw [hzn] at hl hg
  obtain ⟨bz, oz, rfl, hlt, hcell⟩ := slice_of h hzn (by omega)
  obtain ⟨I, K, A, X, u, v, h0, h1, h2, h3, spt⟩ := spot s0 s1 x0 x1 y0 y1 hi hl hg
  exact Terr.impl_heightOf bz oz n cap I K A X m dap b s x y px py u v h0 h1 h2 h3 zs w spt hlt hcell (by omega) hl hcap s0 s1 x0 x1 y0 y1 hi
set_option maxHeartbeats 1000000 in
theorem spec_high (g : Nat) (s x y : Int) (a b : Option Addr) (n cap m dap : Nat) (zs cs : List Int) (px py ph : Int) (w : World) (hzn : zs.length = n) (hp : TIn w g s x y (.slice a n cap) (.slice b m dap)) (h : Ints w (.slice a n cap) zs) (ho : okT s x y zs cs = true) (hi : inT s x y px py = true) (p0 : 0 ≤ ph) (p1 : ph ≤ 1000000) :
    Calls Tryd.prog 24 #[.pointer (some ⟨g, 0, none⟩), .agg #[.int .i64 px, .int .i64 py, .int .i64 ph]] w fun e w' => e = .returned (.int .i64 (hgt s x y zs px py + ph)) ∧ On w w' := by
  obtain ⟨q0, q1⟩ := hgt_bd ho hi
  have HV := Lib.hid (fun w' (hb : On w w') => spec_hgt g s x y a b n cap m dap zs cs px py w' hzn (hp.on hb) (h.below hb) ho hi)
  have hO := On.alloc (On.refl w) (.cells #[.int .i64 px, .int .i64 py, .int .i64 ph] 36)
  generalize hgt s x y zs px py = H at *
  have wp : IntKind.i64.wrap (H + ph) = H + ph := IntWalk.i64_in _ (by omega)
  clear h hp
  go_enter Tryd.func24, Tryd.ntmps24
  go_wp2_with fail
  refine wp_region_onh (by kernel_rfl) (by kernel_rfl) ?_
  repeat (refine rest_step (fun K hK => ?_); go_simp; first | (refine hK _ ?_; clear hK K) | (apply Exists.intro; refine ⟨fun v1 hv1 => ?_, hK _ ?_⟩; (first | with_reducible exact rfl | with_reducible exact ⟨rfl, rfl⟩ | with_reducible exact Calls.on hv1 (HV.out _ (On.trans hO hv1)) | (obtain ⟨hc, hf⟩ := bcell hv1; go_simp; first | with_reducible exact rfl | with_reducible exact ⟨rfl, rfl⟩ | exact rfl | exact ⟨rfl, rfl⟩)); clear hK K))
  refine rest_nil ?_
  intro w1 h1
  go_wp2_with fail
  go_ret
  exact ⟨rfl, On.trans hO h1⟩
set_option maxHeartbeats 1000000 in
theorem impl_high (s x y : Int) (a b : Option Addr) (n cap m dap : Nat) (zs cs : List Int) (px py ph : Int) (w : World) (hzn : zs.length = n) (hcap : n ≤ cap) (h : Ints w (.slice a n cap) zs) (ho : okT s x y zs cs = true) (hi : inT s x y px py = true) (p0 : 0 ≤ ph) (p1 : ph ≤ 1000000) :
    Calls Tryd.prog 29 #[.agg #[.int .i64 s, .int .i64 x, .int .i64 y, .slice a n cap, .slice b m dap], .agg #[.int .i64 px, .int .i64 py, .int .i64 ph]] w fun e w' => e = .returned (.int .i64 (hgt s x y zs px py + ph)) ∧ On w w' := by
  obtain ⟨q0, q1⟩ := hgt_bd ho hi
  have HV := Lib.hid (fun w' (hb : On w w') => impl_hgt s x y a b n cap m dap zs cs px py w' hzn hcap (h.below hb) ho hi)
  have hO := On.alloc (On.alloc (On.refl w) (.cells #[.int .i64 s, .int .i64 x, .int .i64 y, .slice a n cap, .slice b m dap] 32)) (.cells #[.int .i64 px, .int .i64 py, .int .i64 ph] 36)
  generalize hgt s x y zs px py = H at *
  have wp : IntKind.i64.wrap (H + ph) = H + ph := IntWalk.i64_in _ (by omega)
  clear h
  go_enter Tryd.func29, Tryd.ntmps29
  go_wp2_with fail
  refine wp_region_onh (by kernel_rfl) (by kernel_rfl) ?_
  repeat (refine rest_step (fun K hK => ?_); go_simp; first | (refine hK _ ?_; clear hK K) | (apply Exists.intro; refine ⟨fun v1 hv1 => ?_, hK _ ?_⟩; (first | with_reducible exact rfl | with_reducible exact ⟨rfl, rfl⟩ | with_reducible exact Calls.on hv1 (HV.out _ (On.trans hO hv1)) | (obtain ⟨hc, hf⟩ := bcell hv1; go_simp; first | with_reducible exact rfl | with_reducible exact ⟨rfl, rfl⟩ | exact rfl | exact ⟨rfl, rfl⟩)); clear hK K))
  refine rest_nil ?_
  intro w1 h1
  go_wp2_with fail
  go_ret
  exact ⟨rfl, On.trans hO h1⟩
end Go.Proofs.YtadoaenmmemjdaaDoor.High
