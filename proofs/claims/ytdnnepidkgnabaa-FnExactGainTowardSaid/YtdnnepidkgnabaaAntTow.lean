
/-
  The gain of an antenna toward a direction and the width of its beam, in the model and in the program. Condition: at most 1048576 losses in each list and bytes in the name.
-/
import Derived.Test.YtdnnepidkgnabaaAntFun
import Derived.Test.YtdnnepidkgnabaaTail
namespace Go.Proofs.Ytdnnepidkgnabaa.Ant
open Go.RowKit
open Plain
open Ints (Ints Own)

/-- An elevation, not beyond straight up and down. -/
def clip (x : Int) : Int := if x < -90 then -90 else if 90 < x then 90 else x
theorem clip_bd (x : Int) : -90 ≤ clip x ∧ clip x ≤ 90 := by unfold clip; split <;> (try split) <;> omega
def smax (a b : Int) : Int := if b < a then a else b
theorem clip_spec (x : Int) : smax (-90) (Turn.smin 90 x) = clip x := by unfold smax Turn.smin clip; split <;> split <;> (try split) <;> (try split) <;> omega
theorem clip_impl (x : Int) : Turn.gmax (-90) (Turn.gmin x 90) = clip x := by unfold Turn.gmax Turn.gmin clip; split <;> split <;> (try split) <;> (try split) <;> omega
def cut (s : Int) : Int := if 60000 < s then 60000 else s
theorem cut_spec (s : Int) : Turn.smin 60000 s = cut s := rfl
theorem cut_impl (s : Int) : Turn.gmin s 60000 = cut s := rfl
theorem cut_bd {s : Int} (h : 0 ≤ s) : 0 ≤ cut s ∧ cut s ≤ 60000 := by unfold cut; split <;> omega
/-- The gain toward a direction. -/
def toward (g : Int) (hs vs : List Int) (az tilt be el : Int) : Int := g - cut (across hs (be - az) + up vs (clip (el + tilt)))
def dirB (az tilt be el : Int) : Bool := inB az 0 359 && (inB be 0 359 && (inB tilt (-90) 90 && inB el (-90) 90))
def towV (ok : Bool) (g : Int) (hs vs : List Int) (az tilt be el : Int) : Int := if ok = true then (if dirB az tilt be el = true then toward g hs vs az tilt be el else 0) else 0
def towC (ok : Bool) (az tilt be el : Int) : Int := if ok = true then (if dirB az tilt be el = true then 0 else 2) else 1
theorem across_bd {hs : List Int} (h : lossB hs 36 0 = true) (a : Int) : 0 ≤ across hs a ∧ across hs a ≤ 60000 := acrossN_bd h (deg_lt a)
theorem up_bd {vs : List Int} (h : lossB vs 19 9 = true) {e : Int} (h1 : e ≤ 90) : 0 ≤ up vs e ∧ up vs e ≤ 60000 := upN_bd h (by omega)

theorem spec_max (a b : Int) (w : World) :
    Calls Try.prog 41 #[.int .i64 a, .int .i64 b] w fun e w' => e = .returned (.int .i64 (smax a b)) ∧ w = w' := by
  by_cases h : b < a
  · rw [show smax a b = a from if_pos h]
    go_enter Try.func41, Try.ntmps41
    go_wp2
    go_ret
    exact ⟨rfl, rfl⟩
  · rw [show smax a b = b from if_neg h]
    go_enter Try.func41, Try.ntmps41
    go_wp2
    go_ret
    exact ⟨rfl, rfl⟩
set_option maxHeartbeats 2000000 in
theorem spec_toward (b : Nat) (x0 : ByteArray) (x1 : Int) (v2 v3 : Value) (z2 z3 : List Int) (az tilt be el : Int) (w : World) (g0 : -60000 ≤ x1) (g1 : x1 ≤ 60000) (hl : lossB z2 36 0 = true) (hv : lossB z3 19 9 = true) (a0 : 0 ≤ az) (a1 : az ≤ 359) (b0 : 0 ≤ be) (b1 : be ≤ 359) (t0 : -90 ≤ tilt) (t1 : tilt ≤ 90) (e0 : -90 ≤ el) (e1 : el ≤ 90)
    (hp : In w b x0 x1 v2 v3) (h2 : Ints w v2 z2) (h3 : Ints w v3 z3) :
    Calls Try.prog 33 #[.pointer (some ⟨b, 0, none⟩), .int .i64 az, .int .i64 tilt, .int .i64 be, .int .i64 el] w fun r w' => r = .returned (.int .i64 (toward x1 z2 z3 az tilt be el)) ∧ On w w' := by
  have HX := Lib.hid (fun w' (hw : On w w') => spec_across b x0 x1 v2 v3 z2 (be - az) w' hl (hp.on hw) (h2.below hw))
  obtain ⟨c0, c1⟩ := clip_bd (el + tilt)
  have HU := Lib.hid (fun w' (hw : On w w') => spec_up b x0 x1 v2 v3 z3 (clip (el + tilt)) w' hv c0 c1 (hp.on hw) (h3.below hw))
  obtain ⟨k0, k1, k2, k3⟩ := hp
  have hb := World.block_lt_of_cell? w _ k0
  have en := Lib.hid (show toward x1 z2 z3 az tilt be el = x1 - cut (across z2 (be - az) + up z3 (clip (el + tilt))) from rfl)
  have hm := fun w => spec_max (-90) (Turn.smin 90 (el + tilt)) w
  rw [clip_spec] at hm
  have HM := Lib.hid hm
  have HN := Lib.hid (fun w => Turn.spec_min 90 (el + tilt) w)
  obtain ⟨r0, r1⟩ := across_bd hl (be - az)
  obtain ⟨s0, s1⟩ := up_bd hv c1
  generalize across z2 (be - az) = x at *
  generalize clip (el + tilt) = c at *
  generalize up z3 c = y at *
  have w1 : IntKind.i64.wrap (el + tilt) = el + tilt := IntWalk.i64_in _ (by omega)
  have w2 : IntKind.i64.wrap (be - az) = be - az := IntWalk.i64_in _ (by omega)
  have w3 : IntKind.i64.wrap (x + y) = x + y := IntWalk.i64_in _ (by omega)
  obtain ⟨u0, u1⟩ := cut_bd (s := x + y) (by omega)
  have HC := Lib.hid (fun w => show Calls Try.prog 59 #[.int .i64 60000, .int .i64 (x + y)] w fun e w' => e = .returned (.int .i64 (cut (x + y))) ∧ w = w' from Turn.spec_min 60000 (x + y) w)
  generalize cut (x + y) = d at *
  have w4 : IntKind.i64.wrap (x1 - d) = x1 - d := IntWalk.i64_in _ (by omega)
  clear hm hl hv h2 h3
  go_enter Try.func33, Try.ntmps33
  go_wp2_with (first
    | (go_at_call 59; with_reducible refine (HN.out _).mono ?_; rintro e w' ⟨rfl, rfl⟩)
    | (go_at_call 41; refine (HM.out _).mono ?_; rintro e w' ⟨rfl, rfl⟩))
  refine wp_region_onh (by kernel_rfl) (by kernel_rfl) ?_
  repeat (refine rest_step (fun K hK => ?_); go_simp; first | (refine hK _ ?_; clear hK K) | (apply Exists.intro; refine ⟨fun v1 hv1 => ?_, hK _ ?_⟩; (first | with_reducible exact rfl | with_reducible exact ⟨rfl, rfl⟩ | with_reducible exact Calls.on hv1 (HX.out _ hv1) | with_reducible exact Calls.on hv1 (HU.out _ hv1) | with_reducible exact Calls.on_same hv1 (HC.out _) | (obtain ⟨hc, hf⟩ := bcell hv1; go_simp; first | with_reducible exact rfl | with_reducible exact ⟨rfl, rfl⟩ | exact rfl | exact ⟨rfl, rfl⟩)); clear hK K))
  refine rest_nil ?_
  intro w5 h5
  go_wp2_with fail
  go_ret
  exact ⟨ret_int en.out.symm, h5⟩
set_option maxHeartbeats 1000000 in
theorem impl_gainLess (x0 : ByteArray) (x1 : Int) (v2 v3 : Value) (b cap : Nat) (l m : Int) (w : World) (g0 : -60000 ≤ x1) (g1 : x1 ≤ 60000) (l0 : 0 ≤ l) (l1 : l ≤ 60000) (m0 : 0 ≤ m) (m1 : m ≤ 60000) (hb : b < w.heap.size)
    (hv2 : ∃ a n c, v2 = .slice a n c) (hv3 : ∃ a n c, v3 = .slice a n c) (c0 : w.cell? ⟨b, 0, none⟩ = some (.int .i64 l)) (c1 : w.cell? ⟨b, 1, none⟩ = some (.int .i64 m)) :
    Calls Try.prog 37 #[.agg #[.string x0, .int .i64 x1, v2, v3], .slice (some ⟨b, 0, none⟩) 2 cap] w fun r w' => r = .returned (.int .i64 (x1 - cut (l + m))) ∧ On w w' := by
  obtain ⟨a2, n2, cap2, rfl⟩ := hv2
  obtain ⟨a3, n3, cap3, rfl⟩ := hv3
  have w1 : IntKind.i64.wrap (0 + l) = l := by rw [Int.zero_add]; exact IntWalk.i64_in _ (by omega)
  have w1' : IntKind.i64.wrap l = l := IntWalk.i64_in _ (by omega)
  have w2 : IntKind.i64.wrap (l + m) = l + m := IntWalk.i64_in _ (by omega)
  obtain ⟨u0, u1⟩ := cut_bd (s := l + m) (by omega)
  have HC := Lib.hid (fun w => show Calls Try.prog 66 #[.int .i64 (l + m), .int .i64 60000] w fun e w' => e = .returned (.int .i64 (cut (l + m))) ∧ w = w' from Turn.impl_least (l + m) 60000 w)
  generalize cut (l + m) = d at *
  have w4 : IntKind.i64.wrap (x1 - d) = x1 - d := IntWalk.i64_in _ (by omega)
  have hb1 : b < w.heap.size + 1 := by omega
  go_enter Try.func37, Try.ntmps37
  go_wp2_with fail
  go_loop [5, 10] (fun s i => (i = .int .i64 0 ∧ s = .int .i64 0) ∨ (i = .int .i64 1 ∧ s = .int .i64 l) ∨ (i = .int .i64 2 ∧ s = .int .i64 (l + m))) (fun _ i => 2 - (intOf i).toNat)
  case atStart => exact .inl ⟨rfl, rfl⟩
  case round =>
    rcases hrel with ⟨rfl, rfl⟩ | ⟨rfl, rfl⟩ | ⟨rfl, rfl⟩
    · go_wp2_with fail
      go_round
      case rel => exact .inr (.inl ⟨by go_num, by go_num⟩)
      case measure => simp [intOf]
    · go_wp2_with fail
      go_round
      case rel => exact .inr (.inr ⟨by go_num, by go_num⟩)
      case measure => simp [intOf]
    · go_wp2_with fail
      refine wp_region_onh (by kernel_rfl) (by kernel_rfl) ?_
      repeat (refine rest_step (fun K hK => ?_); go_simp; first | (refine hK _ ?_; clear hK K) | (apply Exists.intro; refine ⟨fun v1 hv1 => ?_, hK _ ?_⟩; (first | with_reducible exact rfl | with_reducible exact ⟨rfl, rfl⟩ | with_reducible exact Calls.on_same hv1 (HC.out _) | (obtain ⟨hc, hf⟩ := bcell hv1; go_simp; first | with_reducible exact rfl | with_reducible exact ⟨rfl, rfl⟩ | exact rfl | exact ⟨rfl, rfl⟩)); clear hK K))
      refine rest_nil ?_
      intro w5 h5
      go_wp2_with fail
      go_ret
      exact ⟨rfl, On.trans (by repeat (first | with_reducible exact On.refl _ | apply On.alloc)) h5⟩
theorem of_dir {az tilt be el : Int} (h : dirB az tilt be el = true) : (0 ≤ az ∧ az ≤ 359) ∧ (0 ≤ be ∧ be ≤ 359) ∧ (-90 ≤ tilt ∧ tilt ≤ 90) ∧ -90 ≤ el ∧ el ≤ 90 := by
  unfold dirB at h
  rw [Bool.and_eq_true, Bool.and_eq_true, Bool.and_eq_true] at h
  exact ⟨of_inB h.1, of_inB h.2.1, of_inB h.2.2.1, of_inB h.2.2.2⟩
set_option maxHeartbeats 4000000 in
theorem spec_GainToward (x0 : ByteArray) (x1 : Int) (v2 v3 : Value) (z2 z3 : List Int) (az tilt be el : Int) (w : World) (q0 : x0.size ≤ 1048576) (q2 : z2.length ≤ 1048576) (q3 : z3.length ≤ 1048576) (h2 : Ints w v2 z2) (h3 : Ints w v3 z3) :
    Calls Try.prog 14 #[.agg #[.string x0, .int .i64 x1, v2, v3], .int .i64 az, .int .i64 tilt, .int .i64 be, .int .i64 el] w fun r w' => r = .returned (.tuple #[.int .i64 (towV (okA x0 x1 z2 z3) x1 z2 z3 az tilt be el), .int .i64 (towC (okA x0 x1 z2 z3) az tilt be el)]) ∧ On w w' := by
  have HO := Lib.hid (fun w' (hb : On w w') hp => spec_ok w.heap.size x0 x1 v2 v3 z2 z3 w' q0 q2 q3 hp (h2.below hb) (h3.below hb))
  have HL := Lib.hid (fun w' (hb : On w w') g0 g1 hl hv a0 a1 b0 b1 t0 t1 e0 e1 hp => spec_toward w.heap.size x0 x1 v2 v3 z2 z3 az tilt be el w' g0 g1 hl hv a0 a1 b0 b1 t0 t1 e0 e1 hp (h2.below hb) (h3.below hb))
  have h2' := h2
  have h3' := h3
  obtain ⟨a2, cap2, rfl, -⟩ := h2
  obtain ⟨a3, cap3, rfl, -⟩ := h3
  cases hok : okA x0 x1 z2 z3 with
  | false =>
    rw [hok] at HO
    have V := Lib.hid (show towV false x1 z2 z3 az tilt be el = 0 from rfl)
    have C := Lib.hid (show towC false az tilt be el = 1 from rfl)
    clear h2' h3' HL
    go_enter Try.func14, Try.ntmps14
    go_wp2_with fail
    refine (HO.out _ (by repeat (first | with_reducible exact On.refl _ | apply On.alloc)) ⟨by simp [go_sem], by simp [go_sem], by simp [go_sem], by simp [go_sem]⟩).mono ?_
    rintro r w1 ⟨rfl, rfl⟩
    go_wp2_with fail
    go_ret2
    exact ⟨ret_ii V.out.symm C.out.symm, (by repeat (first | with_reducible exact On.refl _ | apply On.alloc))⟩
  | true =>
    rw [hok] at HO
    have HK := Lib.hid (of_okA hok)
    clear h2' h3' hok
    cases hd : dirB az tilt be el with
    | false =>
      have V := Lib.hid (show towV true x1 z2 z3 az tilt be el = 0 by unfold towV; rw [hd]; rfl)
      have C := Lib.hid (show towC true az tilt be el = 2 by unfold towC; rw [hd]; rfl)
      have D := Lib.hid hd
      unfold dirB at hd
      generalize d1 : inB az 0 359 = s1 at *
      generalize d2 : inB be 0 359 = s2 at *
      generalize d3 : inB tilt (-90) 90 = s3 at *
      generalize d4 : inB el (-90) 90 = s4 at *
      cases s1 <;> cases s2 <;> cases s3 <;> cases s4 <;> (first | (exfalso; revert hd; decide) | (
        clear hd D
        go_enter Try.func14, Try.ntmps14
        go_wp2_with fail
        refine (HO.out _ (by repeat (first | with_reducible exact On.refl _ | apply On.alloc)) ⟨by simp [go_sem], by simp [go_sem], by simp [go_sem], by simp [go_sem]⟩).mono ?_
        rintro r w1 ⟨rfl, rfl⟩
        go_wp2_with (go_at_call 18; refine (Arith.l00In _ _ _ _).mono ?_; rintro r w' ⟨rfl, rfl⟩)
        go_ret2
        exact ⟨ret_ii V.out.symm C.out.symm, (by repeat (first | with_reducible exact On.refl _ | apply On.alloc))⟩))
    | true =>
      have V := Lib.hid (show towV true x1 z2 z3 az tilt be el = toward x1 z2 z3 az tilt be el by unfold towV; rw [hd]; rfl)
      have C := Lib.hid (show towC true az tilt be el = 0 by unfold towC; rw [hd]; rfl)
      obtain ⟨⟨a0, a1⟩, ⟨b0, b1⟩, ⟨t0, t1⟩, e0, e1⟩ := of_dir hd
      obtain ⟨-, ⟨g0, g1⟩, hh, hv⟩ := HK.out
      have d1 := inB_yes a0 a1
      have d2 := inB_yes b0 b1
      have d3 := inB_yes t0 t1
      have d4 := inB_yes e0 e1
      have HH := Lib.hid hh
      have HV := Lib.hid hv
      clear hd hh hv HK
      go_enter Try.func14, Try.ntmps14
      go_wp2_with fail
      refine (HO.out _ (by repeat (first | with_reducible exact On.refl _ | apply On.alloc)) ⟨by simp [go_sem], by simp [go_sem], by simp [go_sem], by simp [go_sem]⟩).mono ?_
      rintro r w1 ⟨rfl, rfl⟩
      go_wp2_with (go_at_call 18; refine (Arith.l00In _ _ _ _).mono ?_; rintro r w' ⟨rfl, rfl⟩)
      refine (HL.out _ (by repeat (first | with_reducible exact On.refl _ | apply On.alloc)) g0 g1 HH.out HV.out a0 a1 b0 b1 t0 t1 e0 e1 ⟨by simp [go_sem], by simp [go_sem], by simp [go_sem], by simp [go_sem]⟩).mono ?_
      rintro r w2 ⟨rfl, h2⟩
      go_wp2_with fail
      go_ret2
      exact ⟨ret_ii V.out.symm C.out.symm, (by repeat (first | with_reducible exact On.refl _ | apply On.alloc | refine On.trans ?_ h2))⟩

set_option maxHeartbeats 4000000 in
theorem impl_GainToward (x0 : ByteArray) (x1 : Int) (v2 v3 : Value) (z2 z3 : List Int) (az tilt be el : Int) (w : World) (q0 : x0.size ≤ 1048576) (q2 : z2.length ≤ 1048576) (q3 : z3.length ≤ 1048576) (h2 : Ints w v2 z2) (h3 : Ints w v3 z3) :
    Calls Try.prog 16 #[.agg #[.string x0, .int .i64 x1, v2, v3], .int .i64 az, .int .i64 tilt, .int .i64 be, .int .i64 el] w fun r w' => r = .returned (.tuple #[.int .i64 (towV (okA x0 x1 z2 z3) x1 z2 z3 az tilt be el), .int .i64 (towC (okA x0 x1 z2 z3) az tilt be el)]) ∧ On w w' := by
  have HO := Lib.hid (fun w' (hb : On w w') => impl_valid x0 x1 v2 v3 z2 z3 w' q0 q2 q3 (h2.below hb) (h3.below hb))
  have HX := Lib.hid (fun w' (hb : On w w') hl => impl_horizontal x0 x1 v2 v3 z2 (be - az) w' hl (anySlice h3) (h2.below hb))
  have HU := Lib.hid (fun w' (hb : On w w') hl e0 e1 => impl_vertical x0 x1 v2 v3 z3 (clip (el + tilt)) w' hl e0 e1 (anySlice h2) (h3.below hb))
  have HG := Lib.hid (fun (b cap : Nat) (l m : Int) w g0 g1 l0 l1 m0 m1 hb c0 c1 => impl_gainLess x0 x1 v2 v3 b cap l m w g0 g1 l0 l1 m0 m1 hb (anySlice h2) (anySlice h3) c0 c1)
  have h2' := h2
  have h3' := h3
  obtain ⟨a2, cap2, rfl, -⟩ := h2
  obtain ⟨a3, cap3, rfl, -⟩ := h3
  cases hok : okA x0 x1 z2 z3 with
  | false =>
    rw [hok] at HO
    have V := Lib.hid (show towV false x1 z2 z3 az tilt be el = 0 from rfl)
    have C := Lib.hid (show towC false az tilt be el = 1 from rfl)
    clear h2' h3' HX HU HG
    go_enter Try.func16, Try.ntmps16
    go_wp2_with fail
    refine (HO.out _ (by repeat (first | with_reducible exact On.refl _ | apply On.alloc))).mono ?_
    rintro r w1 ⟨rfl, h1⟩
    have P1 : In w1 w.heap.size x0 x1 (.slice a2 z2.length cap2) (.slice a3 z3.length cap3) := In.on ⟨by simp [go_sem], by simp [go_sem], by simp [go_sem], by simp [go_sem]⟩ h1
    have HO1 := Lib.hid (On.trans (On.alloc (On.refl w) _) h1)
    have HP1 := Lib.hid P1
    obtain ⟨p0, p1, p2, p3⟩ := P1
    clear h1
    go_wp2_with fail
    go_ret2
    exact ⟨ret_ii V.out.symm C.out.symm, HO1.out⟩
  | true =>
    rw [hok] at HO
    have HK := Lib.hid (of_okA hok)
    clear h2' h3' hok
    cases hd : dirB az tilt be el with
    | false =>
      have V := Lib.hid (show towV true x1 z2 z3 az tilt be el = 0 by unfold towV; rw [hd]; rfl)
      have C := Lib.hid (show towC true az tilt be el = 2 by unfold towC; rw [hd]; rfl)
      have D := Lib.hid hd
      unfold dirB at hd
      generalize d1 : inB az 0 359 = s1 at *
      generalize d2 : inB be 0 359 = s2 at *
      generalize d3 : inB tilt (-90) 90 = s3 at *
      generalize d4 : inB el (-90) 90 = s4 at *
      cases s1 <;> cases s2 <;> cases s3 <;> cases s4 <;> (first | (exfalso; revert hd; decide) | (
        clear hd D
        go_enter Try.func16, Try.ntmps16
        go_wp2_with fail
        refine (HO.out _ (by repeat (first | with_reducible exact On.refl _ | apply On.alloc))).mono ?_
        rintro r w1 ⟨rfl, h1⟩
        have P1 : In w1 w.heap.size x0 x1 (.slice a2 z2.length cap2) (.slice a3 z3.length cap3) := In.on ⟨by simp [go_sem], by simp [go_sem], by simp [go_sem], by simp [go_sem]⟩ h1
        have HO1 := Lib.hid (On.trans (On.alloc (On.refl w) _) h1)
        have HP1 := Lib.hid P1
        obtain ⟨p0, p1, p2, p3⟩ := P1
        clear h1
        go_wp2_with (first | (go_at_call 20; refine (Arith.within _ _ _ _).mono ?_; rintro r w' ⟨rfl, rfl⟩) | (go_at_call 35; refine (impl_isElevation _ _).mono ?_; rintro r w' ⟨rfl, rfl⟩))
        go_ret2
        exact ⟨ret_ii V.out.symm C.out.symm, HO1.out⟩))
    | true =>
      have V := Lib.hid (show towV true x1 z2 z3 az tilt be el = toward x1 z2 z3 az tilt be el by unfold towV; rw [hd]; rfl)
      have C := Lib.hid (show towC true az tilt be el = 0 by unfold towC; rw [hd]; rfl)
      obtain ⟨⟨a0, a1⟩, ⟨b0, b1⟩, ⟨t0, t1⟩, e0, e1⟩ := of_dir hd
      obtain ⟨-, ⟨g0, g1⟩, hh, hv⟩ := HK.out
      have d1 := inB_yes a0 a1
      have d2 := inB_yes b0 b1
      have d3 := inB_yes t0 t1
      have d4 := inB_yes e0 e1
      have HH := Lib.hid hh
      have HV := Lib.hid hv
      obtain ⟨c0, c1⟩ := clip_bd (el + tilt)
      obtain ⟨r0, r1⟩ := across_bd hh (be - az)
      obtain ⟨s0, s1⟩ := up_bd hv c1
      have E := Lib.hid (show toward x1 z2 z3 az tilt be el = x1 - cut (across z2 (be - az) + up z3 (clip (el + tilt))) from rfl)
      have hm := fun w => Turn.impl_bounded (el + tilt) (-90) 90 w
      rw [clip_impl] at hm
      have HM := Lib.hid hm
      have HX2 := Lib.hid (fun w' hb => HX.out w' hb HH.out)
      have HU2 := Lib.hid (fun w' hb => HU.out w' hb HV.out c0 c1)
      generalize across z2 (be - az) = x at *
      generalize clip (el + tilt) = c at *
      generalize up z3 c = y at *
      have w1 : IntKind.i64.wrap (el + tilt) = el + tilt := IntWalk.i64_in _ (by omega)
      have w2 : IntKind.i64.wrap (be - az) = be - az := IntWalk.i64_in _ (by omega)
      clear hm HX HU
      clear hd hh hv HK
      go_enter Try.func16, Try.ntmps16
      go_wp2_with fail
      refine (HO.out _ (by repeat (first | with_reducible exact On.refl _ | apply On.alloc))).mono ?_
      rintro r w1 ⟨rfl, h1⟩
      have P1 : In w1 w.heap.size x0 x1 (.slice a2 z2.length cap2) (.slice a3 z3.length cap3) := In.on ⟨by simp [go_sem], by simp [go_sem], by simp [go_sem], by simp [go_sem]⟩ h1
      have HO1 := Lib.hid (On.trans (On.alloc (On.refl w) _) h1)
      have HP1 := Lib.hid P1
      obtain ⟨p0, p1, p2, p3⟩ := P1
      clear h1
      go_wp2_with (first
        | (go_at_call 20; refine (Arith.within _ _ _ _).mono ?_; rintro r w' ⟨rfl, rfl⟩)
        | (go_at_call 35; refine (impl_isElevation _ _).mono ?_; rintro r w' ⟨rfl, rfl⟩)
        | (go_at_call 36; refine (HM.out _).mono ?_; rintro e w' ⟨rfl, rfl⟩))
      have z1 := World.block_lt_of_cell? w1 _ p0
      go_region_with (first
        | (go_at_call 38; refine (HX2.out _ (On.trans HO1.out (by repeat (first | with_reducible exact On.refl _ | apply On.drew | apply On.alloc)))).mono ?_; rintro e w6 ⟨rfl, h6⟩; (have h16 : On w1 w6 := by refine On.trans ?_ h6; repeat (first | with_reducible exact On.refl _ | apply On.drew | apply On.alloc)); obtain ⟨q0, q1, q2, q3⟩ := HP1.out.on h16; have z6 : w.heap.size < w6.heap.size := World.block_lt_of_cell? w6 _ q0; clear h6)
        | (go_at_call 39; refine (HU2.out _ (On.trans HO1.out (On.trans ‹On w1 w6› (by repeat (first | with_reducible exact On.refl _ | apply On.drew | apply On.alloc))))).mono ?_; rintro e w7 ⟨rfl, h7⟩; (have h67 : On w6 w7 := by refine On.trans ?_ h7; repeat (first | with_reducible exact On.refl _ | apply On.drew | apply On.alloc)); obtain ⟨s0', s1', s2', s3'⟩ := HP1.out.on (On.trans ‹On w1 w6› h67); have z7 : w.heap.size < w7.heap.size := World.block_lt_of_cell? w7 _ s0'; have z7n := Nat.ne_of_lt z7; clear h7)
        | (go_at_call 37; refine (HG.out _ _ x y _ g0 g1 r0 r1 s0 s1 (by simp [go_sem]) (by simp [go_sem]) (by simp [go_sem])).mono ?_; rintro e w8 ⟨rfl, h8⟩))
      all_goals
        go_wp2_with fail
        go_ret2
        exact ⟨ret_ii (E.out.symm.trans V.out.symm) C.out.symm, On.trans HO1.out (On.trans ‹On w1 w6› (On.trans ‹On w6 w7› (On.trans (by repeat (first | with_reducible exact On.refl _ | apply On.drew | apply On.alloc)) h8)))⟩

end Go.Proofs.Ytdnnepidkgnabaa.Ant
