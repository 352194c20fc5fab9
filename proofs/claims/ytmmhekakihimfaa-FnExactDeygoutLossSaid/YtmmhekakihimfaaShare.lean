
/-
  The share of a point of a profile, in the model and in the program. Conditions: each theorem's own.
-/
import Derived.Test.YtmmhekakihimfaaNuAt
namespace Go.Proofs.Ytmmhekakihimfaa.Nu
open Go.RowKit
open Plain
open Ints (Ints Own)
open Prof (PIn clr off_bd off slice_of okP of_okP ret_ii)
open Go.Proofs.Ytmmhekakihimfaa.Edge (smax spec_max)

def shr (d f l n fr k z : Int) : Int := near (1000 * clr d f l n k z) (rad fr (off d n k) (d - off d n k))
set_option maxHeartbeats 2000000 in
theorem spec_share (g n cap k b off : Nat) (d f l z fr : Int) (w : World) (hp : PIn w g d f l (.slice (some ⟨b, off, none⟩) (n + 1) cap)) (hb : b < w.heap.size) (hz : w.cell? ⟨b, off + k, none⟩ = some (.int .i64 z)) (z0 : 0 ≤ z) (z1 : z ≤ 90000)
    (d0 : 1 ≤ d) (d1 : d ≤ 283000) (f0 : 0 ≤ f) (f1 : f ≤ 180000) (l0 : 0 ≤ l) (l1 : l ≤ 180000) (k1 : k ≤ n) (n0 : 1 ≤ n) (n1 : n ≤ 64) (fr0 : 1 ≤ fr) (fr1 : fr ≤ 100000000) :
    Calls Try.prog 96 #[.pointer (some ⟨g, 0, none⟩), .int .i64 fr, .int .i64 k] w fun e w' => e = .returned (.int .i64 (shr d f l n fr k z)) ∧ On w w' := by
  have HO := Lib.hid (Prof.spec_offset g n cap d f l k _ w hp d0 d1 (by omega) (by omega) n0 n1)
  have HC := Lib.hid (fun w' (h : On w w') => Prof.spec_clear g n cap k b off d f l z w' (hp.on h) (h.lts _ hb) ((h.cell (p := ⟨b, off + k, none⟩) (by exact hb)).trans hz) z0 z1 d0 d1 f0 f1 l0 l1 k1 n0 n1)
  obtain ⟨o0, o1⟩ := off_bd (d := d) (n := n) (i := k) (by omega) (by omega) (by omega) (by omega)
  obtain ⟨c0, c1⟩ := clr_bd (n := n) (k := k) z0 z1 d0 d1 f0 f1 l0 l1 (by omega) (by omega) (by omega) (by omega)
  obtain ⟨r0, r1⟩ := fres_bd (a := Prof.off d n k) (b := d - Prof.off d n k) fr0 fr1 o0 (by omega) (by omega) (by omega)
  have HF := Lib.hid (fun w => Earth.spec_fresnel fr (Prof.off d n k) (d - Prof.off d n k) w fr0 fr1 o0 (by omega) (by omega) (by omega))
  have HM := Lib.hid (fun w => spec_max 1 (Earth.fres fr (Prof.off d n k) (d - Prof.off d n k)) w)
  obtain ⟨s0, s1⟩ := smax_bd r0 r1
  have HN := Lib.hid (fun w => Arith.l01Div (1000 * clr d f l n k z) (smax 1 (Earth.fres fr (Prof.off d n k) (d - Prof.off d n k))) w (by omega) (by omega) (by omega) (by omega) (by omega))
  have HD := Lib.hid (show near (1000 * clr d f l n k z) (smax 1 (Earth.fres fr (Prof.off d n k) (d - Prof.off d n k))) = shr d f l n fr k z from rfl)
  have HP := Lib.hid hp
  generalize Prof.off d n k = o at *
  generalize clr d f l n k z = c at *
  generalize Earth.fres fr o (d - o) = u at *
  generalize smax 1 u = s at *
  have e1 : IntKind.i64.wrap (d - o) = d - o := IntWalk.i64_in _ (by omega)
  have e2 : IntKind.i64.wrap (1000 * c) = 1000 * c := IntWalk.i64_in _ (by omega)
  go_enter Try.func96, Try.ntmps96
  go_wp2_with fail
  refine (HO.out).mono ?_
  rintro e w1 ⟨rfl, h1⟩
  obtain ⟨q0, q1, q2, q3⟩ := HP.out.on h1
  have g1 := World.block_lt_of_cell? w1 _ q0
  have HO1 := Lib.hid h1
  clear h1 hp hz
  go_wp2_with fail
  refine wp_region_onh (by kernel_rfl) (by kernel_rfl) ?_
  repeat (refine rest_step (fun K hK => ?_); go_simp; first | (refine hK _ ?_; clear hK K) | (apply Exists.intro; refine ⟨fun v1 hv1 => ?_, hK _ ?_⟩; (first | with_reducible exact rfl | with_reducible exact ⟨rfl, rfl⟩ | with_reducible exact Calls.on hv1 (HC.out _ (On.trans HO1.out hv1)) | with_reducible exact Calls.on_same hv1 (HF.out _) | with_reducible exact Calls.on_same hv1 (HM.out _) | with_reducible exact Calls.on_same hv1 (HN.out _) | (obtain ⟨hc, hf⟩ := bcell hv1; go_simp; first | with_reducible exact rfl | with_reducible exact ⟨rfl, rfl⟩ | exact rfl | exact ⟨rfl, rfl⟩)); clear hK K))
  refine rest_nil ?_
  intro w2 h2
  go_wp2_with fail
  go_ret
  exact ⟨ret_int HD.out, HO1.out.trans h2⟩
set_option maxHeartbeats 2000000 in
theorem impl_share (n cap k b off : Nat) (d f l z fr : Int) (w : World) (hb : b < w.heap.size) (hz : w.cell? ⟨b, off + k, none⟩ = some (.int .i64 z)) (z0 : 0 ≤ z) (z1 : z ≤ 90000)
    (d0 : 1 ≤ d) (d1 : d ≤ 283000) (f0 : 0 ≤ f) (f1 : f ≤ 180000) (l0 : 0 ≤ l) (l1 : l ≤ 180000) (k1 : k ≤ n) (n0 : 1 ≤ n) (n1 : n ≤ 64) (fr0 : 1 ≤ fr) (fr1 : fr ≤ 100000000) :
    Calls Try.prog 70 #[.agg #[.int .i64 d, .int .i64 f, .int .i64 l, .slice (some ⟨b, off, none⟩) (n + 1) cap, .int .i64 fr], .int .i64 k] w fun e w' => e = .returned (.int .i64 (shr d f l n fr k z)) ∧ On w w' := by
  have HO := Lib.hid (fun w => Prof.impl_offset n cap d f l k (some ⟨b, off, none⟩) w d0 d1 (by omega) (by omega) n0 n1)
  have HC := Lib.hid (fun w' (h : On w w') => Prof.impl_clearance n cap k b off d f l z w' (h.lts _ hb) ((h.cell (p := ⟨b, off + k, none⟩) (by exact hb)).trans hz) z0 z1 d0 d1 f0 f1 l0 l1 k1 n0 n1)
  obtain ⟨o0, o1⟩ := off_bd (d := d) (n := n) (i := k) (by omega) (by omega) (by omega) (by omega)
  obtain ⟨c0, c1⟩ := clr_bd (n := n) (k := k) z0 z1 d0 d1 f0 f1 l0 l1 (by omega) (by omega) (by omega) (by omega)
  have HR := Lib.hid (fun w => impl_radius d f l fr (Prof.off d n k) (some ⟨b, off, none⟩) (n + 1) cap w d1 o0 o1 fr0 fr1)
  obtain ⟨u0, u1⟩ := fres_bd (a := Prof.off d n k) (b := d - Prof.off d n k) fr0 fr1 o0 (by omega) (by omega) (by omega)
  obtain ⟨s0, s1⟩ : 1 ≤ rad fr (Prof.off d n k) (d - Prof.off d n k) ∧ rad fr (Prof.off d n k) (d - Prof.off d n k) ≤ 3037000499 := smax_bd u0 u1
  have HN := Lib.hid (fun w => Arith.nearest (1000 * clr d f l n k z) (rad fr (Prof.off d n k) (d - Prof.off d n k)) w (by omega) (by omega) (by omega) (by omega) (by omega))
  have HD := Lib.hid (show near (1000 * clr d f l n k z) (rad fr (Prof.off d n k) (d - Prof.off d n k)) = shr d f l n fr k z from rfl)
  generalize Prof.off d n k = o at *
  generalize clr d f l n k z = c at *
  generalize rad fr o (d - o) = s at *
  have e2 : IntKind.i64.wrap (1000 * c) = 1000 * c := IntWalk.i64_in _ (by omega)
  have hl0 : w.heap.size < w.heap.size + 1 := by omega
  clear hz
  go_enter Try.func70, Try.ntmps70
  go_wp2_with fail
  refine wp_region_onh (by kernel_rfl) (by kernel_rfl) ?_
  repeat (refine rest_step (fun K hK => ?_); go_simp; first | (refine hK _ ?_; clear hK K) | (apply Exists.intro; refine ⟨fun v1 hv1 => ?_, hK _ ?_⟩; (first | with_reducible exact rfl | with_reducible exact ⟨rfl, rfl⟩ | with_reducible exact Calls.on hv1 (HO.out _) | with_reducible exact Calls.on hv1 (HC.out _ (On.trans (On.alloc (On.refl _) _) hv1)) | with_reducible exact Calls.on hv1 (HR.out _) | with_reducible exact Calls.on_drew hv1 (HN.out _) | (obtain ⟨hc, hf⟩ := bcell hv1; go_simp; first | with_reducible exact rfl | with_reducible exact ⟨rfl, rfl⟩ | exact rfl | exact ⟨rfl, rfl⟩)); clear hK K))
  refine rest_nil ?_
  intro w2 h2
  go_wp2_with fail
  go_ret
  exact ⟨ret_int HD.out, On.trans (On.alloc (On.refl _) _) h2⟩
end Go.Proofs.Ytmmhekakihimfaa.Nu
