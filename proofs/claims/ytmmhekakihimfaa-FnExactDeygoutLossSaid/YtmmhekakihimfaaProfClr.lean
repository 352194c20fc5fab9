
/-
  What the clearance at a point of a profile is, in the model and in the program. Conditions: each theorem's own.
-/
import Derived.Test.YtmmhekakihimfaaProfAt2
namespace Go.Proofs.Ytmmhekakihimfaa.Prof
open Go.RowKit
open Plain
open Ints (Ints Own)

set_option maxHeartbeats 1000000 in
theorem spec_clear (g n cap k b off : Nat) (d f l z : Int) (w : World) (hp : PIn w g d f l (.slice (some ⟨b, off, none⟩) (n + 1) cap)) (hb : b < w.heap.size) (hz : w.cell? ⟨b, off + k, none⟩ = some (.int .i64 z)) (z0 : 0 ≤ z) (z1 : z ≤ 90000)
    (d0 : 1 ≤ d) (d1 : d ≤ 283000) (f0 : 0 ≤ f) (f1 : f ≤ 180000) (l0 : 0 ≤ l) (l1 : l ≤ 180000) (k1 : k ≤ n) (n0 : 1 ≤ n) (n1 : n ≤ 64) :
    Calls Try.prog 80 #[.pointer (some ⟨g, 0, none⟩), .int .i64 k] w fun e w' => e = .returned (.int .i64 (clr d f l n k z)) ∧ On w w' := by
  have HO := Lib.hid (spec_offset g n cap d f l k _ w hp d0 d1 (by omega) (by omega) n0 n1)
  have HL := Lib.hid (fun w' (h : On w w') => spec_line g n cap d f l k _ w' (hp.on h) f0 f1 l0 l1 (by omega) (by omega) n0 n1)
  obtain ⟨o0, o1⟩ := off_bd (d := d) (n := n) (i := k) (by omega) (by omega) (by omega) (by omega)
  obtain ⟨r0, r1⟩ := lin_bd (f := f) (l := l) (n := n) (i := k) f0 f1 l0 l1 (by omega) (by omega) (by omega) (by omega)
  obtain ⟨b0, b1⟩ := bulge_bd (a := Prof.off d n k) (b := d - Prof.off d n k) o0 (by omega) (by omega) (by omega)
  have HB := Lib.hid (fun w => Earth.spec_bulge (Prof.off d n k) (d - Prof.off d n k) w o0 (by omega) (by omega) (by omega))
  have HD := Lib.hid (show lin f l n k - z - Earth.bulge (Prof.off d n k) (d - Prof.off d n k) = clr d f l n k z from rfl)
  have HP := Lib.hid hp
  generalize Prof.off d n k = o at *
  generalize lin f l n k = r at *
  generalize Earth.bulge o (d - o) = u at *
  have e1 : IntKind.i64.wrap (d - o) = d - o := IntWalk.i64_in _ (by omega)
  have e2 : IntKind.i64.wrap (r - z) = r - z := IntWalk.i64_in _ (by omega)
  have e3 : IntKind.i64.wrap (r - z - u) = r - z - u := IntWalk.i64_in _ (by omega)
  have hk1 : k < n + 1 := by omega
  have hk2 : (k : Int) < (n : Int) + 1 := by omega
  go_enter Try.func80, Try.ntmps80
  go_wp2_with fail
  refine (HO.out).mono ?_
  rintro e w1 ⟨rfl, h1⟩
  obtain ⟨q0, q1, q2, q3⟩ := HP.out.on h1
  have g1 := World.block_lt_of_cell? w1 _ q0
  have b2 := h1.lts _ hb
  have hz1 := (h1.cell (p := ⟨b, off + k, none⟩) (by exact hb)).trans hz
  have HO1 := Lib.hid h1
  clear h1 hp
  go_wp2_with fail
  refine wp_region_onh (by kernel_rfl) (by kernel_rfl) ?_
  repeat (refine rest_step (fun K hK => ?_); go_simp; first | (refine hK _ ?_; clear hK K) | (apply Exists.intro; refine ⟨fun v1 hv1 => ?_, hK _ ?_⟩; (first | with_reducible exact rfl | with_reducible exact ⟨rfl, rfl⟩ | with_reducible exact Calls.on hv1 (HL.out _ (On.trans HO1.out hv1)) | with_reducible exact Calls.on_same hv1 (HB.out _) | (obtain ⟨hc, hf⟩ := bcell hv1; go_simp; first | with_reducible exact rfl | with_reducible exact ⟨rfl, rfl⟩)); clear hK K))
  refine rest_nil ?_
  intro w2 h2
  go_wp2_with fail
  go_ret
  exact ⟨ret_int HD.out, HO1.out.trans h2⟩
set_option maxHeartbeats 1000000 in
theorem impl_clearance (n cap k b off : Nat) (d f l z : Int) (w : World) (hb : b < w.heap.size) (hz : w.cell? ⟨b, off + k, none⟩ = some (.int .i64 z)) (z0 : 0 ≤ z) (z1 : z ≤ 90000)
    (d0 : 1 ≤ d) (d1 : d ≤ 283000) (f0 : 0 ≤ f) (f1 : f ≤ 180000) (l0 : 0 ≤ l) (l1 : l ≤ 180000) (k1 : k ≤ n) (n0 : 1 ≤ n) (n1 : n ≤ 64) :
    Calls Try.prog 84 #[.agg #[.int .i64 d, .int .i64 f, .int .i64 l, .slice (some ⟨b, off, none⟩) (n + 1) cap], .int .i64 k] w fun e w' => e = .returned (.int .i64 (clr d f l n k z)) ∧ On w w' := by
  have HO := Lib.hid (fun w => impl_offset n cap d f l k (some ⟨b, off, none⟩) w d0 d1 (by omega) (by omega) n0 n1)
  have HL := Lib.hid (fun w => impl_line n cap d f l k (some ⟨b, off, none⟩) w f0 f1 l0 l1 (by omega) (by omega) n0 n1)
  obtain ⟨o0, o1⟩ := off_bd (d := d) (n := n) (i := k) (by omega) (by omega) (by omega) (by omega)
  obtain ⟨r0, r1⟩ := lin_bd (f := f) (l := l) (n := n) (i := k) f0 f1 l0 l1 (by omega) (by omega) (by omega) (by omega)
  obtain ⟨b0, b1⟩ := bulge_bd (a := Prof.off d n k) (b := d - Prof.off d n k) o0 (by omega) (by omega) (by omega)
  have hB := fun w => Earth.impl_bulgeAt (Prof.off d n k) (d - Prof.off d n k) w
  rw [Earth.bulgeAt_yes (inB_yes o0 (by omega)) (inB_yes (by omega) (by omega))] at hB
  have HB := Lib.hid hB
  clear hB
  have HD := Lib.hid (show lin f l n k - z - Earth.bulge (Prof.off d n k) (d - Prof.off d n k) = clr d f l n k z from rfl)
  generalize Prof.off d n k = o at *
  generalize lin f l n k = r at *
  generalize Earth.bulge o (d - o) = u at *
  have e1 : IntKind.i64.wrap (d - o) = d - o := IntWalk.i64_in _ (by omega)
  have e2 : IntKind.i64.wrap (r - z) = r - z := IntWalk.i64_in _ (by omega)
  have e3 : IntKind.i64.wrap (r - z - u) = r - z - u := IntWalk.i64_in _ (by omega)
  have hk1 : k < n + 1 := by omega
  have hk2 : (k : Int) < (n : Int) + 1 := by omega
  go_enter Try.func84, Try.ntmps84
  go_wp2_with fail
  refine (HO.out _).mono ?_
  rintro e w1 ⟨rfl, h1⟩
  have hP : PIn w1 w.heap.size d f l (.slice (some ⟨b, off, none⟩) (n + 1) cap) := PIn.on ⟨by simp [go_sem], by simp [go_sem], by simp [go_sem], by simp [go_sem]⟩ h1
  have h01 : On w w1 := On.trans (On.alloc (On.refl w) _) h1
  obtain ⟨q0, q1, q2, q3⟩ := hP
  have g1 := World.block_lt_of_cell? w1 _ q0
  have b2 := h01.lts _ hb
  have hz1 := (h01.cell (p := ⟨b, off + k, none⟩) (by exact hb)).trans hz
  have HO1 := Lib.hid h01
  clear h1 h01
  go_wp2_with fail
  refine wp_region_onh (by kernel_rfl) (by kernel_rfl) ?_
  repeat (refine rest_step (fun K hK => ?_); go_simp; first | (refine hK _ ?_; clear hK K) | (apply Exists.intro; refine ⟨fun v1 hv1 => ?_, hK _ ?_⟩; (first | with_reducible exact rfl | with_reducible exact ⟨rfl, rfl⟩ | with_reducible exact Calls.on hv1 (HL.out _) | with_reducible exact Calls.on_drew hv1 (HB.out _) | (obtain ⟨hc, hf⟩ := bcell hv1; go_simp; first | with_reducible exact rfl | with_reducible exact ⟨rfl, rfl⟩)); clear hK K))
  refine rest_nil ?_
  intro w2 h2
  go_wp2_with fail
  go_ret
  exact ⟨ret_int HD.out, HO1.out.trans h2⟩
theorem clr_at {d f l i : Int} {zs : List Int} (hc : askC d f l zs i = 0) : ∃ k n : Nat, i = (k : Int) ∧ k ≤ n ∧ zs.length = n + 1 ∧ 1 ≤ n ∧ n ≤ 64 ∧ clrV d f l zs i = clr d f l n k (zs.getD k 0) ∧ (0 ≤ zs.getD k 0 ∧ zs.getD k 0 ≤ 90000) ∧ (1 ≤ d ∧ d ≤ 283000) ∧ (0 ≤ f ∧ f ≤ 180000) ∧ (0 ≤ l ∧ l ≤ 180000) := by
  obtain ⟨hok, hi0, hi1, n, hzn, n0, n1⟩ := of_ask hc
  obtain ⟨⟨d0, d1⟩, _, hz, ⟨f0, f1⟩, l0, l1⟩ := of_okP hok
  have y0 := of_inB (hz 0 (by omega))
  have yl := of_inB (hz (zs.length - 1) (by omega))
  obtain ⟨k, rfl⟩ := Int.eq_ofNat_of_zero_le hi0
  refine ⟨k, n, rfl, by omega, hzn, n0, n1, ?_, of_inB (hz k (by omega)), ⟨d0, d1⟩, ⟨by omega, f1⟩, ⟨by omega, l1⟩⟩
  unfold clrV
  rw [if_pos hc, show ((zs.length : Nat) : Int) - 1 = (n : Int) from by omega]
  rfl
end Go.Proofs.Ytmmhekakihimfaa.Prof
