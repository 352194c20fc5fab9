
/-
  The parameter of a point of a profile, and a profile seen at a frequency, in the model and in the program. Conditions: each theorem's own.
-/
import Derived.Test.YtmmhekakihimfaaProfClr
import Derived.Test.YtmmhekakihimfaaEdge
namespace Go.Proofs.Ytmmhekakihimfaa.Nu
open Go.RowKit
open Plain
open Ints (Ints Own)
open Prof (PIn clr off_bd off slice_of okP of_okP ret_ii)
open Go.Proofs.Ytmmhekakihimfaa.Edge (smax spec_max)

def lim (x : Int) : Int := if x < -1000000 then -1000000 else if 1000000 < x then 1000000 else x
theorem lim_bd (x : Int) : -1000000 ≤ lim x ∧ lim x ≤ 1000000 := by unfold lim; split <;> (try split) <;> omega
theorem lim_spec (x : Int) : smax (-1000000) (Turn.smin 1000000 x) = lim x := by unfold smax Turn.smin lim; split <;> split <;> (try split) <;> omega
theorem lim_impl (x : Int) : Turn.gmax (-1000000) (Turn.gmin x 1000000) = lim x := by unfold Turn.gmax Turn.gmin lim; split <;> split <;> (try split) <;> omega
/-- The radius by which a clearance is divided. -/
def rad (fr a b : Int) : Int := smax 1 (Earth.fres fr a b)
theorem rad_impl (fr a b : Int) : Turn.gmax (Earth.fres fr a b) 1 = rad fr a b := rfl
theorem fres_bd {fr a b : Int} (f0 : 1 ≤ fr) (f1 : fr ≤ 100000000) (a0 : 0 ≤ a) (a1 : a ≤ 283000) (b0 : 0 ≤ b) (b1 : b ≤ 283000) : 0 ≤ Earth.fres fr a b ∧ Earth.fres fr a b ≤ 3037000499 := by
  by_cases h : a + b = 0
  · rw [Earth.fres_none h]; omega
  · rw [Earth.fres_some h]
    obtain ⟨p0, p1⟩ := Earth.wave_bd a0 a1 b0 b1
    obtain ⟨q0, q1⟩ := Earth.den_bd f0 f1 a0 a1 b0 b1 h
    exact rootOf_bd _ (Earth.quo_bd p0 p1 q0).2
theorem smax_bd {x : Int} (h0 : 0 ≤ x) (h1 : x ≤ 3037000499) : 1 ≤ smax 1 x ∧ smax 1 x ≤ 3037000499 := by unfold smax; split <;> omega
def nuOf (h r : Int) : Int := lim (near (1414 * h) r)
def nu (d f l n fr k z : Int) : Int := nuOf (-(clr d f l n k z)) (rad fr (off d n k) (d - off d n k))
theorem nu_bd (d f l n fr k z : Int) : -1000000 ≤ nu d f l n fr k z ∧ nu d f l n fr k z ≤ 1000000 := lim_bd _
theorem clr_bd {d f l n k z : Int} (z0 : 0 ≤ z) (z1 : z ≤ 90000) (d0 : 1 ≤ d) (d1 : d ≤ 283000) (f0 : 0 ≤ f) (f1 : f ≤ 180000) (l0 : 0 ≤ l) (l1 : l ≤ 180000) (k0 : 0 ≤ k) (k1 : k ≤ n) (n0 : 1 ≤ n) (n1 : n ≤ 64) : -1000000000000 ≤ clr d f l n k z ∧ clr d f l n k z ≤ 1000000000000 := by
  have o := off_bd (d := d) (n := n) (i := k) (by omega) k0 k1 (by omega)
  have r := Prof.lin_bd (f := f) (l := l) (n := n) (i := k) f0 f1 l0 l1 k0 k1 (by omega) n1
  have b := Prof.bulge_bd (a := off d n k) (b := d - off d n k) o.1 (by omega) (by omega) (by omega)
  unfold clr
  omega
theorem spec_limit (x : Int) (w : World) :
    Calls Try.prog 103 #[.int .i64 x] w fun e w' => e = .returned (.int .i64 (lim x)) ∧ w = w' := by
  have en := Lib.hid (lim_spec x)
  go_enter Try.func103, Try.ntmps103
  go_wp2_with fail
  refine (Turn.spec_min _ _ _).mono ?_
  rintro e w1 ⟨rfl, rfl⟩
  go_wp2_with fail
  refine (spec_max _ _ _).mono ?_
  rintro e w1 ⟨rfl, rfl⟩
  go_wp2_with fail
  go_ret
  exact ⟨ret_int en.out, rfl⟩
theorem spec_of (h r : Int) (w : World) (h0 : -1000000000000 ≤ h) (h1 : h ≤ 1000000000000) (r0 : 0 ≤ r) (r1 : r ≤ 3037000499) :
    Calls Try.prog 79 #[.int .i64 h, .int .i64 r] w fun e w' => e = .returned (.int .i64 (nuOf h (smax 1 r))) ∧ w = w' := by
  obtain ⟨s0, s1⟩ := smax_bd r0 r1
  have HM := Lib.hid (fun w => spec_max 1 r w)
  have HD := Lib.hid (fun w => Arith.l01Div (1414 * h) (smax 1 r) w (by omega) (by omega) (by omega) (by omega) (by omega))
  have HL := Lib.hid (fun w => spec_limit (near (1414 * h) (smax 1 r)) w)
  have en := Lib.hid (show lim (near (1414 * h) (smax 1 r)) = nuOf h (smax 1 r) from rfl)
  generalize smax 1 r = s at *
  go_enter Try.func79, Try.ntmps79
  go_wp2_with fail
  refine (HM.out _).mono ?_
  rintro e w1 ⟨rfl, rfl⟩
  go_wp2_with fail
  refine (HD.out _).mono ?_
  rintro e w1 ⟨rfl, rfl⟩
  go_wp2_with fail
  refine (HL.out _).mono ?_
  rintro e w1 ⟨rfl, rfl⟩
  go_wp2_with fail
  go_ret
  exact ⟨ret_int en.out, rfl⟩
set_option maxHeartbeats 2000000 in
theorem spec_nu (g n cap k b off : Nat) (d f l z fr : Int) (w : World) (hp : PIn w g d f l (.slice (some ⟨b, off, none⟩) (n + 1) cap)) (hb : b < w.heap.size) (hz : w.cell? ⟨b, off + k, none⟩ = some (.int .i64 z)) (z0 : 0 ≤ z) (z1 : z ≤ 90000)
    (d0 : 1 ≤ d) (d1 : d ≤ 283000) (f0 : 0 ≤ f) (f1 : f ≤ 180000) (l0 : 0 ≤ l) (l1 : l ≤ 180000) (k1 : k ≤ n) (n0 : 1 ≤ n) (n1 : n ≤ 64) (fr0 : 1 ≤ fr) (fr1 : fr ≤ 100000000) :
    Calls Try.prog 49 #[.pointer (some ⟨g, 0, none⟩), .int .i64 fr, .int .i64 k] w fun e w' => e = .returned (.int .i64 (nu d f l n fr k z)) ∧ On w w' := by
  have HO := Lib.hid (Prof.spec_offset g n cap d f l k _ w hp d0 d1 (by omega) (by omega) n0 n1)
  have HC := Lib.hid (fun w' (h : On w w') => Prof.spec_clear g n cap k b off d f l z w' (hp.on h) (h.lts _ hb) ((h.cell (p := ⟨b, off + k, none⟩) (by exact hb)).trans hz) z0 z1 d0 d1 f0 f1 l0 l1 k1 n0 n1)
  obtain ⟨o0, o1⟩ := off_bd (d := d) (n := n) (i := k) (by omega) (by omega) (by omega) (by omega)
  obtain ⟨c0, c1⟩ := clr_bd (n := n) (k := k) z0 z1 d0 d1 f0 f1 l0 l1 (by omega) (by omega) (by omega) (by omega)
  obtain ⟨r0, r1⟩ := fres_bd (a := Prof.off d n k) (b := d - Prof.off d n k) fr0 fr1 o0 (by omega) (by omega) (by omega)
  have HF := Lib.hid (fun w => Earth.spec_fresnel fr (Prof.off d n k) (d - Prof.off d n k) w fr0 fr1 o0 (by omega) (by omega) (by omega))
  have HN := Lib.hid (fun w => spec_of (-(clr d f l n k z)) (Earth.fres fr (Prof.off d n k) (d - Prof.off d n k)) w (by omega) (by omega) r0 r1)
  have HD := Lib.hid (show nuOf (-(clr d f l n k z)) (smax 1 (Earth.fres fr (Prof.off d n k) (d - Prof.off d n k))) = nu d f l n fr k z from rfl)
  have HP := Lib.hid hp
  generalize Prof.off d n k = o at *
  generalize clr d f l n k z = c at *
  generalize Earth.fres fr o (d - o) = u at *
  have e1 : IntKind.i64.wrap (d - o) = d - o := IntWalk.i64_in _ (by omega)
  have e2 : IntKind.i64.wrap (-c) = -c := IntWalk.i64_in _ (by omega)
  go_enter Try.func49, Try.ntmps49
  go_wp2_with fail
  refine (HO.out).mono ?_
  rintro e w1 ⟨rfl, h1⟩
  obtain ⟨q0, q1, q2, q3⟩ := HP.out.on h1
  have g1 := World.block_lt_of_cell? w1 _ q0
  have HO1 := Lib.hid h1
  clear h1 hp hz
  go_wp2_with fail
  refine wp_region_onh (by kernel_rfl) (by kernel_rfl) ?_
  repeat (refine rest_step (fun K hK => ?_); go_simp; first | (refine hK _ ?_; clear hK K) | (apply Exists.intro; refine ⟨fun v1 hv1 => ?_, hK _ ?_⟩; (first | with_reducible exact rfl | with_reducible exact ⟨rfl, rfl⟩ | with_reducible exact Calls.on hv1 (HC.out _ (On.trans HO1.out hv1)) | with_reducible exact Calls.on_same hv1 (HF.out _) | with_reducible exact Calls.on_same hv1 (HN.out _) | (obtain ⟨hc, hf⟩ := bcell hv1; go_simp; first | with_reducible exact rfl | with_reducible exact ⟨rfl, rfl⟩ | exact rfl | exact ⟨rfl, rfl⟩)); clear hK K))
  refine rest_nil ?_
  intro w2 h2
  go_wp2_with fail
  go_ret
  exact ⟨ret_int HD.out, HO1.out.trans h2⟩
set_option maxHeartbeats 1000000 in
theorem impl_radius (d f l fr o : Int) (a : Option Addr) (m cap : Nat) (w : World) (d1 : d ≤ 283000) (o0 : 0 ≤ o) (o1 : o ≤ d) (fr0 : 1 ≤ fr) (fr1 : fr ≤ 100000000) :
    Calls Try.prog 97 #[.agg #[.int .i64 d, .int .i64 f, .int .i64 l, .slice a m cap, .int .i64 fr], .int .i64 o] w fun e w' => e = .returned (.int .i64 (rad fr o (d - o))) ∧ On w w' := by
  have hF := fun w => Earth.impl_fresnelRadius fr o (d - o) w
  rw [Earth.fresnel_yes (inB_yes fr0 fr1) (inB_yes o0 (by omega)) (inB_yes (by omega) (by omega))] at hF
  have HF := Lib.hid hF
  have en := Lib.hid (rad_impl fr o (d - o))
  have e1 : IntKind.i64.wrap (d - o) = d - o := IntWalk.i64_in _ (by omega)
  generalize Earth.fres fr o (d - o) = u at *
  clear hF
  go_enter Try.func97, Try.ntmps97
  go_wp2_with fail
  refine (HF.out _).mono ?_
  rintro e w1 ⟨rfl, rfl⟩
  go_wp2_with fail
  refine (Turn.impl_greatest _ _ _).mono ?_
  rintro e w1 ⟨rfl, rfl⟩
  go_wp2_with fail
  go_ret
  exact ⟨ret_int en.out, (by repeat (first | with_reducible exact On.refl _ | apply On.alloc))⟩
set_option maxHeartbeats 1000000 in
theorem impl_parameterAt (d f l fr o h : Int) (a : Option Addr) (m cap : Nat) (w : World) (d1 : d ≤ 283000) (o0 : 0 ≤ o) (o1 : o ≤ d) (fr0 : 1 ≤ fr) (fr1 : fr ≤ 100000000) (h0 : -1000000000000 ≤ h) (h1 : h ≤ 1000000000000) :
    Calls Try.prog 83 #[.agg #[.int .i64 d, .int .i64 f, .int .i64 l, .slice a m cap, .int .i64 fr], .int .i64 o, .int .i64 h] w fun e w' => e = .returned (.int .i64 (nuOf h (rad fr o (d - o)))) ∧ On w w' := by
  have HR := Lib.hid (fun w => impl_radius d f l fr o a m cap w d1 o0 o1 fr0 fr1)
  obtain ⟨u0, u1⟩ := fres_bd (a := o) (b := d - o) fr0 fr1 o0 (by omega) (by omega) (by omega)
  obtain ⟨s0, s1⟩ : 1 ≤ rad fr o (d - o) ∧ rad fr o (d - o) ≤ 3037000499 := smax_bd u0 u1
  have HD := Lib.hid (fun w => Arith.nearest (1414 * h) (rad fr o (d - o)) w (by omega) (by omega) (by omega) (by omega) (by omega))
  have en := Lib.hid (lim_impl (near (1414 * h) (rad fr o (d - o))))
  have en2 := Lib.hid (show lim (near (1414 * h) (rad fr o (d - o))) = nuOf h (rad fr o (d - o)) from rfl)
  generalize rad fr o (d - o) = s at *
  go_enter Try.func83, Try.ntmps83
  go_wp2_with fail
  refine (HR.out _).mono ?_
  rintro e w1 ⟨rfl, k1⟩
  have HO1 := Lib.hid (show On w w1 by refine On.trans ?_ k1; repeat (first | with_reducible exact On.refl _ | apply On.alloc))
  clear k1
  go_wp2_with fail
  refine (HD.out _).mono ?_
  rintro e w2 ⟨rfl, q, rfl⟩
  go_wp2_with fail
  refine (Turn.impl_bounded _ _ _ _).mono ?_
  rintro e w2 ⟨rfl, rfl⟩
  go_wp2_with fail
  go_ret
  exact ⟨ret_int (en.out.trans en2.out), HO1.out.drewN _⟩
/-- The block g holds a sight. -/
def SIn (w : World) (g : Nat) (d f l : Int) (v : Value) (fr : Int) : Prop := PIn w g d f l v ∧ w.cell? ⟨g, 4, none⟩ = some (.int .i64 fr)
theorem SIn.on {w w' : World} {g : Nat} {d f l : Int} {v : Value} {fr : Int} (h : SIn w g d f l v fr) (ho : On w w') : SIn w' g d f l v fr := ⟨h.1.on ho, (ho.cell (World.block_lt_of_cell? w _ h.2)).trans h.2⟩
set_option maxHeartbeats 2000000 in
theorem impl_parameter (n cap k b off : Nat) (d f l z fr : Int) (w : World) (hb : b < w.heap.size) (hz : w.cell? ⟨b, off + k, none⟩ = some (.int .i64 z)) (z0 : 0 ≤ z) (z1 : z ≤ 90000)
    (d0 : 1 ≤ d) (d1 : d ≤ 283000) (f0 : 0 ≤ f) (f1 : f ≤ 180000) (l0 : 0 ≤ l) (l1 : l ≤ 180000) (k1 : k ≤ n) (n0 : 1 ≤ n) (n1 : n ≤ 64) (fr0 : 1 ≤ fr) (fr1 : fr ≤ 100000000) :
    Calls Try.prog 53 #[.agg #[.int .i64 d, .int .i64 f, .int .i64 l, .slice (some ⟨b, off, none⟩) (n + 1) cap, .int .i64 fr], .int .i64 k] w fun e w' => e = .returned (.int .i64 (nu d f l n fr k z)) ∧ On w w' := by
  have HO := Lib.hid (fun w => Prof.impl_offset n cap d f l k (some ⟨b, off, none⟩) w d0 d1 (by omega) (by omega) n0 n1)
  have HC := Lib.hid (fun w' (h : On w w') => Prof.impl_clearance n cap k b off d f l z w' (h.lts _ hb) ((h.cell (p := ⟨b, off + k, none⟩) (by exact hb)).trans hz) z0 z1 d0 d1 f0 f1 l0 l1 k1 n0 n1)
  obtain ⟨o0, o1⟩ := off_bd (d := d) (n := n) (i := k) (by omega) (by omega) (by omega) (by omega)
  obtain ⟨c0, c1⟩ := clr_bd (n := n) (k := k) z0 z1 d0 d1 f0 f1 l0 l1 (by omega) (by omega) (by omega) (by omega)
  have HN := Lib.hid (fun w => impl_parameterAt d f l fr (Prof.off d n k) (-(clr d f l n k z)) (some ⟨b, off, none⟩) (n + 1) cap w d1 o0 o1 fr0 fr1 (by omega) (by omega))
  have HD := Lib.hid (show nuOf (-(clr d f l n k z)) (rad fr (Prof.off d n k) (d - Prof.off d n k)) = nu d f l n fr k z from rfl)
  generalize Prof.off d n k = o at *
  generalize clr d f l n k z = c at *
  have e2 : IntKind.i64.wrap (-c) = -c := IntWalk.i64_in _ (by omega)
  have hl0 : w.heap.size < w.heap.size + 1 := by omega
  clear hz
  go_enter Try.func53, Try.ntmps53
  go_wp2_with fail
  refine wp_region_onh (by kernel_rfl) (by kernel_rfl) ?_
  repeat (refine rest_step (fun K hK => ?_); go_simp; first | (refine hK _ ?_; clear hK K) | (apply Exists.intro; refine ⟨fun v1 hv1 => ?_, hK _ ?_⟩; (first | with_reducible exact rfl | with_reducible exact ⟨rfl, rfl⟩ | with_reducible exact Calls.on hv1 (HO.out _) | with_reducible exact Calls.on hv1 (HC.out _ (On.trans (On.alloc (On.refl _) _) hv1)) | with_reducible exact Calls.on hv1 (HN.out _) | (obtain ⟨hc, hf⟩ := bcell hv1; go_simp; first | with_reducible exact rfl | with_reducible exact ⟨rfl, rfl⟩ | exact rfl | exact ⟨rfl, rfl⟩)); clear hK K))
  refine rest_nil ?_
  intro w2 h2
  go_wp2_with fail
  go_ret
  exact ⟨ret_int HD.out, On.trans (On.alloc (On.refl _) _) h2⟩
/-- The code of a profile and a frequency. -/
def seeC (d f l : Int) (zs : List Int) (fr : Int) : Int := if okP d f l zs = true then (if inB fr 1 100000000 = true then 0 else 2) else 1
theorem see_bad {d f l : Int} {zs : List Int} {fr : Int} (h : okP d f l zs = false) : seeC d f l zs fr = 1 := by unfold seeC; rw [h]; rfl
theorem see_far {d f l : Int} {zs : List Int} {fr : Int} (h : okP d f l zs = true) (g : inB fr 1 100000000 = false) : seeC d f l zs fr = 2 := by unfold seeC; rw [h, g]; rfl
theorem see_ok {d f l : Int} {zs : List Int} {fr : Int} (h : okP d f l zs = true) (g : inB fr 1 100000000 = true) : seeC d f l zs fr = 0 := by unfold seeC; rw [h, g]; rfl
theorem of_see {d f l : Int} {zs : List Int} {fr : Int} (h : seeC d f l zs fr = 0) : okP d f l zs = true ∧ inB fr 1 100000000 = true := by
  unfold seeC at h
  cases g : okP d f l zs with
  | false => rw [g] at h; cases h
  | true =>
    cases k : inB fr 1 100000000 with
    | false => rw [g, k] at h; cases h
    | true => exact ⟨rfl, rfl⟩
set_option maxHeartbeats 1000000 in
theorem spec_ask (g : Nat) (d f l fr : Int) (a : Option Addr) (cap : Nat) (zs : List Int) (w : World) (hn : zs.length ≤ 1048576) (hp : PIn w g d f l (.slice a zs.length cap)) (h : Ints w (.slice a zs.length cap) zs) :
    Calls Try.prog 48 #[.pointer (some ⟨g, 0, none⟩), .int .i64 fr] w fun e w' => e = .returned (.int .i64 (seeC d f l zs fr)) ∧ ∃ n, w' = w.drewN n := by
  have HK := Lib.hid (Prof.spec_ok g d f l a cap zs w hn hp h)
  cases ho : okP d f l zs with
  | false =>
    rw [ho] at HK
    have en := Lib.hid (see_bad (fr := fr) ho)
    clear hp h
    go_enter Try.func48, Try.ntmps48
    go_wp2_with fail
    refine HK.out.mono ?_
    rintro e w1 ⟨rfl, q, rfl⟩
    go_wp2_with fail
    go_ret
    exact ⟨ret_int en.out.symm, _, rfl⟩
  | true =>
    rw [ho] at HK
    cases hf : inB fr 1 100000000 with
    | false =>
      have en := Lib.hid (see_far ho hf)
      clear hp h
      go_enter Try.func48, Try.ntmps48
      go_wp2_with fail
      refine HK.out.mono ?_
      rintro e w1 ⟨rfl, q, rfl⟩
      go_wp2_with (go_at_call 68; refine (Earth.spec_freq _ _).mono ?_; rintro e w' ⟨rfl, rfl⟩)
      go_ret
      exact ⟨ret_int en.out.symm, _, rfl⟩
    | true =>
      have en := Lib.hid (see_ok ho hf)
      clear hp h
      go_enter Try.func48, Try.ntmps48
      go_wp2_with fail
      refine HK.out.mono ?_
      rintro e w1 ⟨rfl, q, rfl⟩
      go_wp2_with (go_at_call 68; refine (Earth.spec_freq _ _).mono ?_; rintro e w' ⟨rfl, rfl⟩)
      go_ret
      exact ⟨ret_int en.out.symm, _, rfl⟩
set_option maxHeartbeats 4000000 in
theorem impl_sightAlong (d f l fr : Int) (a : Option Addr) (cap : Nat) (zs : List Int) (w : World) (hn : zs.length ≤ 1048576) (h : Ints w (.slice a zs.length cap) zs) :
    Calls Try.prog 51 #[.agg #[.int .i64 d, .int .i64 f, .int .i64 l, .slice a zs.length cap], .int .i64 fr] w fun e w' => ∃ v, e = .returned (.tuple #[v, .int .i64 (seeC d f l zs fr)]) ∧ (seeC d f l zs fr = 0 → v = .agg #[.int .i64 d, .int .i64 f, .int .i64 l, .slice a zs.length cap, .int .i64 fr]) ∧ (seeC d f l zs fr ≠ 0 → v = .agg #[.int .i64 0, .int .i64 0, .int .i64 0, .slice none 0 0, .int .i64 0]) ∧ On w w' := by
  have HV := Lib.hid (fun w' (hb : On w w') => Prof.impl_valid d f l a cap zs w' hn (h.below hb))
  clear h
  cases ho : okP d f l zs with
  | false =>
    rw [ho] at HV
    have en := Lib.hid (see_bad (fr := fr) ho)
    go_enter Try.func51, Try.ntmps51
    go_wp2_with fail
    refine (HV.out _ (by repeat (first | with_reducible exact On.refl _ | apply On.alloc))).mono ?_
    rintro e W ⟨rfl, h1⟩
    have HO := Lib.hid (show On w W by refine On.trans ?_ h1; repeat (first | with_reducible exact On.refl _ | apply On.alloc))
    obtain ⟨p0, p1, p2, p3⟩ : PIn W w.heap.size d f l (.slice a zs.length cap) := PIn.on ⟨by simp [go_sem], by simp [go_sem], by simp [go_sem], by simp [go_sem]⟩ h1
    obtain ⟨⟨r0, r1, r2, r3⟩, r4⟩ : SIn W (w.heap.size + 1) 0 0 0 (.slice none 0 0) 0 := SIn.on ⟨⟨by simp [go_sem], by simp [go_sem], by simp [go_sem], by simp [go_sem]⟩, by simp [go_sem]⟩ h1
    have z1 : w.heap.size + 1 < W.heap.size := World.block_lt_of_cell? W _ r0
    have HF := fun i => show W.frozen? ⟨w.heap.size + 1, i, none⟩ = false from (h1.frozen (by simp)).trans (by simp [go_sem])
    have t0 := HF 0
    have t1 := HF 1
    have t2 := HF 2
    have t3 := HF 3
    have t4 := HF 4
    clear h1 HF
    go_wp2_with fail
    refine bodyPost_ret (v := .tuple #[.agg #[.int .i64 0, .int .i64 0, .int .i64 0, .slice none 0 0, .int .i64 0], .int .i64 1]) (by simp [results, Try.results51, go_sem, r0, r1, r2, r3, r4]) rfl ?_
    exact ⟨_, by rw [en.out], fun h => absurd (en.out.symm.trans h) (by decide), fun _ => rfl, by repeat (first | with_reducible exact HO.out | refine On.setCell ?_ (by (try simp) <;> omega) _)⟩
  | true =>
    rw [ho] at HV
    cases hf : inB fr 1 100000000 with
    | false =>
      have en := Lib.hid (see_far ho hf)
      go_enter Try.func51, Try.ntmps51
      go_wp2_with fail
      refine (HV.out _ (by repeat (first | with_reducible exact On.refl _ | apply On.alloc))).mono ?_
      rintro e W ⟨rfl, h1⟩
      have HO := Lib.hid (show On w W by refine On.trans ?_ h1; repeat (first | with_reducible exact On.refl _ | apply On.alloc))
      obtain ⟨p0, p1, p2, p3⟩ : PIn W w.heap.size d f l (.slice a zs.length cap) := PIn.on ⟨by simp [go_sem], by simp [go_sem], by simp [go_sem], by simp [go_sem]⟩ h1
      obtain ⟨⟨r0, r1, r2, r3⟩, r4⟩ : SIn W (w.heap.size + 1) 0 0 0 (.slice none 0 0) 0 := SIn.on ⟨⟨by simp [go_sem], by simp [go_sem], by simp [go_sem], by simp [go_sem]⟩, by simp [go_sem]⟩ h1
      have z1 : w.heap.size + 1 < W.heap.size := World.block_lt_of_cell? W _ r0
      have HF := fun i => show W.frozen? ⟨w.heap.size + 1, i, none⟩ = false from (h1.frozen (by simp)).trans (by simp [go_sem])
      have t0 := HF 0
      have t1 := HF 1
      have t2 := HF 2
      have t3 := HF 3
      have t4 := HF 4
      clear h1 HF
      go_wp2_with (go_at_call 82; refine (Earth.impl_freq _ _).mono ?_; rintro e w' ⟨rfl, rfl⟩)
      refine bodyPost_ret (v := .tuple #[.agg #[.int .i64 0, .int .i64 0, .int .i64 0, .slice none 0 0, .int .i64 0], .int .i64 2]) (by simp [results, Try.results51, go_sem, r0, r1, r2, r3, r4]) rfl ?_
      exact ⟨_, by rw [en.out], fun h => absurd (en.out.symm.trans h) (by decide), fun _ => rfl, by repeat (first | with_reducible exact HO.out | refine On.setCell ?_ (by (try simp) <;> omega) _)⟩
    | true =>
      have en := Lib.hid (see_ok ho hf)
      go_enter Try.func51, Try.ntmps51
      go_wp2_with fail
      refine (HV.out _ (by repeat (first | with_reducible exact On.refl _ | apply On.alloc))).mono ?_
      rintro e W ⟨rfl, h1⟩
      have HO := Lib.hid (show On w W by refine On.trans ?_ h1; repeat (first | with_reducible exact On.refl _ | apply On.alloc))
      obtain ⟨p0, p1, p2, p3⟩ : PIn W w.heap.size d f l (.slice a zs.length cap) := PIn.on ⟨by simp [go_sem], by simp [go_sem], by simp [go_sem], by simp [go_sem]⟩ h1
      obtain ⟨⟨r0, r1, r2, r3⟩, r4⟩ : SIn W (w.heap.size + 1) 0 0 0 (.slice none 0 0) 0 := SIn.on ⟨⟨by simp [go_sem], by simp [go_sem], by simp [go_sem], by simp [go_sem]⟩, by simp [go_sem]⟩ h1
      have z1 : w.heap.size + 1 < W.heap.size := World.block_lt_of_cell? W _ r0
      have HF := fun i => show W.frozen? ⟨w.heap.size + 1, i, none⟩ = false from (h1.frozen (by simp)).trans (by simp [go_sem])
      have t0 := HF 0
      have t1 := HF 1
      have t2 := HF 2
      have t3 := HF 3
      have t4 := HF 4
      clear h1 HF
      go_wp2_with (go_at_call 82; refine (Earth.impl_freq _ _).mono ?_; rintro e w' ⟨rfl, rfl⟩)
      refine bodyPost_ret (v := .tuple #[.agg #[.int .i64 d, .int .i64 f, .int .i64 l, .slice a zs.length cap, .int .i64 fr], .int .i64 0]) (by simp [results, Try.results51, go_sem, r0, r1, r2, r3, r4]) rfl ?_
      exact ⟨_, by rw [en.out], fun _ => rfl, fun h => absurd en.out h, by repeat (first | with_reducible exact HO.out | refine On.setCell ?_ (by (try simp) <;> omega) _)⟩
end Go.Proofs.Ytmmhekakihimfaa.Nu
