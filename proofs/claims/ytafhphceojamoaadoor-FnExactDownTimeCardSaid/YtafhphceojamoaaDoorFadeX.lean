
/-
  The functions of fading and availability with an error code, in the model and in the program. Condition: the program's variable of spans holds what its text lays.
-/
import Derived.Test.YtafhphceojamoaaDoorFade
namespace Go.Proofs.YtafhphceojamoaaDoor.Fade
open Go.RowKit
open Plain
open Span (SpanG)
open Ints (Ints)
open Free (okV okC ret_ii)

theorem spec_l11Rate (v : Int) (w : World) :
    Calls Tryd.prog 52 #[.int .i64 v] w fun e w' => e = .returned (.bool (inB v 0 200)) ∧ w = w' := by
  go_enter Tryd.func52, Tryd.ntmps52
  go_wp2_with (go_at_call 85; refine (Arith.l00In _ _ _ _).mono ?_; rintro e w' ⟨rfl, rfl⟩)
  go_ret
  exact ⟨rfl, rfl⟩
/-- OutageOf. -/
def okOutageOf (f d c m : Int) : Bool := inB f 1 100000000 && inB d 1 283000 && inB c 25 400 && inB m 0 100000
set_option maxHeartbeats 2000000 in
theorem spec_OutageOf (f d c m : Int) (w : World) :
    Calls Tryd.prog 13 #[.int .i64 f, .int .i64 d, .int .i64 c, .int .i64 m] w fun e w' => e = .returned (.tuple #[.int .i64 (okV (okOutageOf f d c m) (fadeV f d c m)), .int .i64 (okC (okOutageOf f d c m))]) ∧ On w w' := by
  cases h0 : inB f 1 100000000 with
  | false =>
    have en := Lib.hid (show okV (okOutageOf f d c m) (fadeV f d c m) = 0 ∧ okC (okOutageOf f d c m) = 2 by unfold okOutageOf; rw [h0]; exact ⟨rfl, rfl⟩)
    go_enter Tryd.func13, Tryd.ntmps13
    go_wp2_with (first | (go_at_call 43; refine (Free.spec_l09Distance _ _).mono ?_; rintro e w' ⟨rfl, rfl⟩) | (go_at_call 42; refine (Free.spec_l09Frequency _ _).mono ?_; rintro e w' ⟨rfl, rfl⟩) | (go_at_call 44; refine (spec_l13Climate _ _).mono ?_; rintro e w' ⟨rfl, rfl⟩) | (go_at_call 45; refine (spec_l13Margin _ _).mono ?_; rintro e w' ⟨rfl, rfl⟩))
    go_ret2
    exact ⟨ret_ii en.out.1.symm en.out.2.symm, On.refl _⟩
  | true =>
    cases h1 : inB d 1 283000 with
    | false =>
      have en := Lib.hid (show okV (okOutageOf f d c m) (fadeV f d c m) = 0 ∧ okC (okOutageOf f d c m) = 2 by unfold okOutageOf; rw [h0, h1]; exact ⟨rfl, rfl⟩)
      go_enter Tryd.func13, Tryd.ntmps13
      go_wp2_with (first | (go_at_call 43; refine (Free.spec_l09Distance _ _).mono ?_; rintro e w' ⟨rfl, rfl⟩) | (go_at_call 42; refine (Free.spec_l09Frequency _ _).mono ?_; rintro e w' ⟨rfl, rfl⟩) | (go_at_call 44; refine (spec_l13Climate _ _).mono ?_; rintro e w' ⟨rfl, rfl⟩) | (go_at_call 45; refine (spec_l13Margin _ _).mono ?_; rintro e w' ⟨rfl, rfl⟩))
      go_ret2
      exact ⟨ret_ii en.out.1.symm en.out.2.symm, On.refl _⟩
    | true =>
      cases h2 : inB c 25 400 with
      | false =>
        have en := Lib.hid (show okV (okOutageOf f d c m) (fadeV f d c m) = 0 ∧ okC (okOutageOf f d c m) = 2 by unfold okOutageOf; rw [h0, h1, h2]; exact ⟨rfl, rfl⟩)
        go_enter Tryd.func13, Tryd.ntmps13
        go_wp2_with (first | (go_at_call 43; refine (Free.spec_l09Distance _ _).mono ?_; rintro e w' ⟨rfl, rfl⟩) | (go_at_call 42; refine (Free.spec_l09Frequency _ _).mono ?_; rintro e w' ⟨rfl, rfl⟩) | (go_at_call 44; refine (spec_l13Climate _ _).mono ?_; rintro e w' ⟨rfl, rfl⟩) | (go_at_call 45; refine (spec_l13Margin _ _).mono ?_; rintro e w' ⟨rfl, rfl⟩))
        go_ret2
        exact ⟨ret_ii en.out.1.symm en.out.2.symm, On.refl _⟩
      | true =>
        cases h3 : inB m 0 100000 with
        | false =>
          have en := Lib.hid (show okV (okOutageOf f d c m) (fadeV f d c m) = 0 ∧ okC (okOutageOf f d c m) = 2 by unfold okOutageOf; rw [h0, h1, h2, h3]; exact ⟨rfl, rfl⟩)
          go_enter Tryd.func13, Tryd.ntmps13
          go_wp2_with (first | (go_at_call 43; refine (Free.spec_l09Distance _ _).mono ?_; rintro e w' ⟨rfl, rfl⟩) | (go_at_call 42; refine (Free.spec_l09Frequency _ _).mono ?_; rintro e w' ⟨rfl, rfl⟩) | (go_at_call 44; refine (spec_l13Climate _ _).mono ?_; rintro e w' ⟨rfl, rfl⟩) | (go_at_call 45; refine (spec_l13Margin _ _).mono ?_; rintro e w' ⟨rfl, rfl⟩))
          go_ret2
          exact ⟨ret_ii en.out.1.symm en.out.2.symm, On.refl _⟩
        | true =>
          have en := Lib.hid (show okV (okOutageOf f d c m) (fadeV f d c m) = fadeV f d c m ∧ okC (okOutageOf f d c m) = 0 by unfold okOutageOf; rw [h0, h1, h2, h3]; exact ⟨rfl, rfl⟩)
          have b0 := of_inB h0
          obtain ⟨b00, b01⟩ := b0
          have b1 := of_inB h1
          obtain ⟨b10, b11⟩ := b1
          have b2 := of_inB h2
          obtain ⟨b20, b21⟩ := b2
          have b3 := of_inB h3
          obtain ⟨b30, b31⟩ := b3
          have HB := Lib.hid (fun w => spec_fade f d c m w b00 b01 b10 b11 b20 b21 b30 b31)
          go_enter Tryd.func13, Tryd.ntmps13
          go_wp2_with (first | (go_at_call 43; refine (Free.spec_l09Distance _ _).mono ?_; rintro e w' ⟨rfl, rfl⟩) | (go_at_call 42; refine (Free.spec_l09Frequency _ _).mono ?_; rintro e w' ⟨rfl, rfl⟩) | (go_at_call 44; refine (spec_l13Climate _ _).mono ?_; rintro e w' ⟨rfl, rfl⟩) | (go_at_call 45; refine (spec_l13Margin _ _).mono ?_; rintro e w' ⟨rfl, rfl⟩))
          refine (HB.out _).mono ?_
          rintro e w8 ⟨rfl, rfl⟩
          go_wp2_with fail
          go_ret2
          exact ⟨ret_ii en.out.1.symm en.out.2.symm, (On.refl _)⟩
set_option maxHeartbeats 2000000 in
theorem impl_OutageOf (f d c m : Int) (w : World) (hg : SpanG w) :
    Calls Tryd.prog 14 #[.int .i64 f, .int .i64 d, .int .i64 c, .int .i64 m] w fun e w' => e = .returned (.tuple #[.int .i64 (okV (okOutageOf f d c m) (fadeV f d c m)), .int .i64 (okC (okOutageOf f d c m))]) ∧ On w w' := by
  cases h0 : inB f 1 100000000 with
  | false =>
    have HG := Lib.hid hg
    have en := Lib.hid (show okV (okOutageOf f d c m) (fadeV f d c m) = 0 ∧ okC (okOutageOf f d c m) = 2 by unfold okOutageOf; rw [h0]; exact ⟨rfl, rfl⟩)
    go_enter Tryd.func14, Tryd.ntmps14
    go_wp2_with fail
    refine (Span.allows1_0 f _ _ (by simp [go_sem]) (HG.out.on (by repeat (first | with_reducible exact On.refl _ | with_reducible exact On.refl _ | apply On.alloc)))).mono ?_
    rintro e w1 ⟨rfl, k1⟩
    have HO1 := Lib.hid (show On w w1 by refine On.trans ?_ k1; repeat (first | with_reducible exact On.refl _ | apply On.alloc))
    clear k1
    go_wp2_with fail
    go_ret2
    exact ⟨ret_ii en.out.1.symm en.out.2.symm, HO1.out⟩
  | true =>
    cases h1 : inB d 1 283000 with
    | false =>
      have HG := Lib.hid hg
      have en := Lib.hid (show okV (okOutageOf f d c m) (fadeV f d c m) = 0 ∧ okC (okOutageOf f d c m) = 2 by unfold okOutageOf; rw [h0, h1]; exact ⟨rfl, rfl⟩)
      go_enter Tryd.func14, Tryd.ntmps14
      go_wp2_with fail
      refine (Span.allows1_0 f _ _ (by simp [go_sem]) (HG.out.on (by repeat (first | with_reducible exact On.refl _ | with_reducible exact On.refl _ | apply On.alloc)))).mono ?_
      rintro e w1 ⟨rfl, k1⟩
      have HO1 := Lib.hid (show On w w1 by refine On.trans ?_ k1; repeat (first | with_reducible exact On.refl _ | apply On.alloc))
      clear k1
      go_wp2_with fail
      refine (Span.allows1_1 d _ _ (by simp [go_sem]) (HG.out.on (by repeat (first | with_reducible exact On.refl _ | with_reducible exact HO1.out | apply On.alloc)))).mono ?_
      rintro e w2 ⟨rfl, k2⟩
      have HO2 := Lib.hid (show On w w2 by refine On.trans ?_ k2; repeat (first | with_reducible exact On.refl _ | with_reducible exact HO1.out | apply On.alloc))
      clear k2
      go_wp2_with fail
      go_ret2
      exact ⟨ret_ii en.out.1.symm en.out.2.symm, HO2.out⟩
    | true =>
      cases h2 : inB c 25 400 with
      | false =>
        have HG := Lib.hid hg
        have en := Lib.hid (show okV (okOutageOf f d c m) (fadeV f d c m) = 0 ∧ okC (okOutageOf f d c m) = 2 by unfold okOutageOf; rw [h0, h1, h2]; exact ⟨rfl, rfl⟩)
        go_enter Tryd.func14, Tryd.ntmps14
        go_wp2_with fail
        refine (Span.allows1_0 f _ _ (by simp [go_sem]) (HG.out.on (by repeat (first | with_reducible exact On.refl _ | with_reducible exact On.refl _ | apply On.alloc)))).mono ?_
        rintro e w1 ⟨rfl, k1⟩
        have HO1 := Lib.hid (show On w w1 by refine On.trans ?_ k1; repeat (first | with_reducible exact On.refl _ | apply On.alloc))
        clear k1
        go_wp2_with fail
        refine (Span.allows1_1 d _ _ (by simp [go_sem]) (HG.out.on (by repeat (first | with_reducible exact On.refl _ | with_reducible exact HO1.out | apply On.alloc)))).mono ?_
        rintro e w2 ⟨rfl, k2⟩
        have HO2 := Lib.hid (show On w w2 by refine On.trans ?_ k2; repeat (first | with_reducible exact On.refl _ | with_reducible exact HO1.out | apply On.alloc))
        clear k2
        go_wp2_with fail
        refine (Span.allows1_13 c _ _ (by simp [go_sem]) (HG.out.on (by repeat (first | with_reducible exact On.refl _ | with_reducible exact HO2.out | apply On.alloc)))).mono ?_
        rintro e w3 ⟨rfl, k3⟩
        have HO3 := Lib.hid (show On w w3 by refine On.trans ?_ k3; repeat (first | with_reducible exact On.refl _ | with_reducible exact HO2.out | apply On.alloc))
        clear k3
        go_wp2_with fail
        go_ret2
        exact ⟨ret_ii en.out.1.symm en.out.2.symm, HO3.out⟩
      | true =>
        cases h3 : inB m 0 100000 with
        | false =>
          have HG := Lib.hid hg
          have en := Lib.hid (show okV (okOutageOf f d c m) (fadeV f d c m) = 0 ∧ okC (okOutageOf f d c m) = 2 by unfold okOutageOf; rw [h0, h1, h2, h3]; exact ⟨rfl, rfl⟩)
          go_enter Tryd.func14, Tryd.ntmps14
          go_wp2_with fail
          refine (Span.allows1_0 f _ _ (by simp [go_sem]) (HG.out.on (by repeat (first | with_reducible exact On.refl _ | with_reducible exact On.refl _ | apply On.alloc)))).mono ?_
          rintro e w1 ⟨rfl, k1⟩
          have HO1 := Lib.hid (show On w w1 by refine On.trans ?_ k1; repeat (first | with_reducible exact On.refl _ | apply On.alloc))
          clear k1
          go_wp2_with fail
          refine (Span.allows1_1 d _ _ (by simp [go_sem]) (HG.out.on (by repeat (first | with_reducible exact On.refl _ | with_reducible exact HO1.out | apply On.alloc)))).mono ?_
          rintro e w2 ⟨rfl, k2⟩
          have HO2 := Lib.hid (show On w w2 by refine On.trans ?_ k2; repeat (first | with_reducible exact On.refl _ | with_reducible exact HO1.out | apply On.alloc))
          clear k2
          go_wp2_with fail
          refine (Span.allows1_13 c _ _ (by simp [go_sem]) (HG.out.on (by repeat (first | with_reducible exact On.refl _ | with_reducible exact HO2.out | apply On.alloc)))).mono ?_
          rintro e w3 ⟨rfl, k3⟩
          have HO3 := Lib.hid (show On w w3 by refine On.trans ?_ k3; repeat (first | with_reducible exact On.refl _ | with_reducible exact HO2.out | apply On.alloc))
          clear k3
          go_wp2_with fail
          refine (Span.allows1_14 m _ _ (by simp [go_sem]) (HG.out.on (by repeat (first | with_reducible exact On.refl _ | with_reducible exact HO3.out | apply On.alloc)))).mono ?_
          rintro e w4 ⟨rfl, k4⟩
          have HO4 := Lib.hid (show On w w4 by refine On.trans ?_ k4; repeat (first | with_reducible exact On.refl _ | with_reducible exact HO3.out | apply On.alloc))
          clear k4
          go_wp2_with fail
          go_ret2
          exact ⟨ret_ii en.out.1.symm en.out.2.symm, HO4.out⟩
        | true =>
          have HG := Lib.hid hg
          have en := Lib.hid (show okV (okOutageOf f d c m) (fadeV f d c m) = fadeV f d c m ∧ okC (okOutageOf f d c m) = 0 by unfold okOutageOf; rw [h0, h1, h2, h3]; exact ⟨rfl, rfl⟩)
          have b0 := of_inB h0
          obtain ⟨b00, b01⟩ := b0
          have b1 := of_inB h1
          obtain ⟨b10, b11⟩ := b1
          have b2 := of_inB h2
          obtain ⟨b20, b21⟩ := b2
          have b3 := of_inB h3
          obtain ⟨b30, b31⟩ := b3
          have HB := Lib.hid (fun w => impl_fade f d c m w b00 b01 b10 b11 b20 b21 b30 b31)
          go_enter Tryd.func14, Tryd.ntmps14
          go_wp2_with fail
          refine (Span.allows1_0 f _ _ (by simp [go_sem]) (HG.out.on (by repeat (first | with_reducible exact On.refl _ | with_reducible exact On.refl _ | apply On.alloc)))).mono ?_
          rintro e w1 ⟨rfl, k1⟩
          have HO1 := Lib.hid (show On w w1 by refine On.trans ?_ k1; repeat (first | with_reducible exact On.refl _ | apply On.alloc))
          clear k1
          go_wp2_with fail
          refine (Span.allows1_1 d _ _ (by simp [go_sem]) (HG.out.on (by repeat (first | with_reducible exact On.refl _ | with_reducible exact HO1.out | apply On.alloc)))).mono ?_
          rintro e w2 ⟨rfl, k2⟩
          have HO2 := Lib.hid (show On w w2 by refine On.trans ?_ k2; repeat (first | with_reducible exact On.refl _ | with_reducible exact HO1.out | apply On.alloc))
          clear k2
          go_wp2_with fail
          refine (Span.allows1_13 c _ _ (by simp [go_sem]) (HG.out.on (by repeat (first | with_reducible exact On.refl _ | with_reducible exact HO2.out | apply On.alloc)))).mono ?_
          rintro e w3 ⟨rfl, k3⟩
          have HO3 := Lib.hid (show On w w3 by refine On.trans ?_ k3; repeat (first | with_reducible exact On.refl _ | with_reducible exact HO2.out | apply On.alloc))
          clear k3
          go_wp2_with fail
          refine (Span.allows1_14 m _ _ (by simp [go_sem]) (HG.out.on (by repeat (first | with_reducible exact On.refl _ | with_reducible exact HO3.out | apply On.alloc)))).mono ?_
          rintro e w4 ⟨rfl, k4⟩
          have HO4 := Lib.hid (show On w w4 by refine On.trans ?_ k4; repeat (first | with_reducible exact On.refl _ | with_reducible exact HO3.out | apply On.alloc))
          clear k4
          go_wp2_with fail
          refine (HB.out _).mono ?_
          rintro e w8 ⟨rfl, k8⟩
          go_wp2_with fail
          go_ret2
          exact ⟨ret_ii en.out.1.symm en.out.2.symm, HO4.out.trans k8⟩
/-- ExceedanceOf. -/
def okExceedanceOf (r : Int) : Bool := inB r 0 200
set_option maxHeartbeats 2000000 in
theorem spec_ExceedanceOf (r : Int) (w : World) :
    Calls Tryd.prog 17 #[.int .i64 r] w fun e w' => e = .returned (.tuple #[.int .i64 (okV (okExceedanceOf r) (excS r)), .int .i64 (okC (okExceedanceOf r))]) ∧ On w w' := by
  cases h0 : inB r 0 200 with
  | false =>
    have en := Lib.hid (show okV (okExceedanceOf r) (excS r) = 0 ∧ okC (okExceedanceOf r) = 2 by unfold okExceedanceOf; rw [h0]; exact ⟨rfl, rfl⟩)
    go_enter Tryd.func17, Tryd.ntmps17
    go_wp2_with (go_at_call 52; refine (spec_l11Rate _ _).mono ?_; rintro e w' ⟨rfl, rfl⟩)
    go_ret2
    exact ⟨ret_ii en.out.1.symm en.out.2.symm, On.refl _⟩
  | true =>
    have en := Lib.hid (show okV (okExceedanceOf r) (excS r) = excS r ∧ okC (okExceedanceOf r) = 0 by unfold okExceedanceOf; rw [h0]; exact ⟨rfl, rfl⟩)
    have b0 := of_inB h0
    obtain ⟨b00, b01⟩ := b0
    have HB := Lib.hid (fun w => spec_exceed r w)
    go_enter Tryd.func17, Tryd.ntmps17
    go_wp2_with (go_at_call 52; refine (spec_l11Rate _ _).mono ?_; rintro e w' ⟨rfl, rfl⟩)
    refine (HB.out _).mono ?_
    rintro e w8 ⟨rfl, k8⟩
    go_wp2_with fail
    go_ret2
    exact ⟨ret_ii en.out.1.symm en.out.2.symm, k8⟩
set_option maxHeartbeats 2000000 in
theorem impl_ExceedanceOf (r : Int) (w : World) (hg : SpanG w) :
    Calls Tryd.prog 18 #[.int .i64 r] w fun e w' => e = .returned (.tuple #[.int .i64 (okV (okExceedanceOf r) (excS r)), .int .i64 (okC (okExceedanceOf r))]) ∧ On w w' := by
  cases h0 : inB r 0 200 with
  | false =>
    have HG := Lib.hid hg
    have en := Lib.hid (show okV (okExceedanceOf r) (excS r) = 0 ∧ okC (okExceedanceOf r) = 2 by unfold okExceedanceOf; rw [h0]; exact ⟨rfl, rfl⟩)
    go_enter Tryd.func18, Tryd.ntmps18
    go_wp2_with fail
    refine (Span.allows1_8 r _ _ (by simp [go_sem]) (HG.out.on (by repeat (first | with_reducible exact On.refl _ | with_reducible exact On.refl _ | apply On.alloc)))).mono ?_
    rintro e w1 ⟨rfl, k1⟩
    have HO1 := Lib.hid (show On w w1 by refine On.trans ?_ k1; repeat (first | with_reducible exact On.refl _ | apply On.alloc))
    clear k1
    go_wp2_with fail
    go_ret2
    exact ⟨ret_ii en.out.1.symm en.out.2.symm, HO1.out⟩
  | true =>
    have HG := Lib.hid hg
    have en := Lib.hid (show okV (okExceedanceOf r) (excS r) = excS r ∧ okC (okExceedanceOf r) = 0 by unfold okExceedanceOf; rw [h0]; exact ⟨rfl, rfl⟩)
    have b0 := of_inB h0
    obtain ⟨b00, b01⟩ := b0
    have HB := Lib.hid (fun b w hc => impl_exc r b w hc)
    go_enter Tryd.func18, Tryd.ntmps18
    go_wp2_with fail
    refine (Span.allows1_8 r _ _ (by simp [go_sem]) (HG.out.on (by repeat (first | with_reducible exact On.refl _ | with_reducible exact On.refl _ | apply On.alloc)))).mono ?_
    rintro e w1 ⟨rfl, k1⟩
    have HO1 := Lib.hid (show On w w1 by refine On.trans ?_ k1; repeat (first | with_reducible exact On.refl _ | apply On.alloc))
    clear k1
    go_wp2_with fail
    refine (impl_exceedances _).mono ?_
    rintro e w7 ⟨rfl, k7, c7, z7⟩
    go_wp2_with fail
    refine (HB.out _ _ c7).mono ?_
    rintro e w8 ⟨rfl, k8⟩
    go_wp2_with fail
    go_ret2
    exact ⟨ret_ii en.out.1.symm en.out.2.symm, HO1.out.trans (On.trans k7 k8)⟩
/-- RainOutage. -/
def okRainOutage (f d m : Int) : Bool := inB f 1 100000000 && inB d 1 283000 && inB m 0 100000
set_option maxHeartbeats 2000000 in
theorem spec_RainOutage (f d m : Int) (w : World) :
    Calls Tryd.prog 19 #[.int .i64 f, .int .i64 d, .int .i64 m] w fun e w' => e = .returned (.tuple #[.int .i64 (okV (okRainOutage f d m) (wetV f d m)), .int .i64 (okC (okRainOutage f d m))]) ∧ On w w' := by
  cases h0 : inB f 1 100000000 with
  | false =>
    have en := Lib.hid (show okV (okRainOutage f d m) (wetV f d m) = 0 ∧ okC (okRainOutage f d m) = 2 by unfold okRainOutage; rw [h0]; exact ⟨rfl, rfl⟩)
    go_enter Tryd.func19, Tryd.ntmps19
    go_wp2_with (first | (go_at_call 43; refine (Free.spec_l09Distance _ _).mono ?_; rintro e w' ⟨rfl, rfl⟩) | (go_at_call 42; refine (Free.spec_l09Frequency _ _).mono ?_; rintro e w' ⟨rfl, rfl⟩) | (go_at_call 45; refine (spec_l13Margin _ _).mono ?_; rintro e w' ⟨rfl, rfl⟩))
    go_ret2
    exact ⟨ret_ii en.out.1.symm en.out.2.symm, On.refl _⟩
  | true =>
    cases h1 : inB d 1 283000 with
    | false =>
      have en := Lib.hid (show okV (okRainOutage f d m) (wetV f d m) = 0 ∧ okC (okRainOutage f d m) = 2 by unfold okRainOutage; rw [h0, h1]; exact ⟨rfl, rfl⟩)
      go_enter Tryd.func19, Tryd.ntmps19
      go_wp2_with (first | (go_at_call 43; refine (Free.spec_l09Distance _ _).mono ?_; rintro e w' ⟨rfl, rfl⟩) | (go_at_call 42; refine (Free.spec_l09Frequency _ _).mono ?_; rintro e w' ⟨rfl, rfl⟩) | (go_at_call 45; refine (spec_l13Margin _ _).mono ?_; rintro e w' ⟨rfl, rfl⟩))
      go_ret2
      exact ⟨ret_ii en.out.1.symm en.out.2.symm, On.refl _⟩
    | true =>
      cases h2 : inB m 0 100000 with
      | false =>
        have en := Lib.hid (show okV (okRainOutage f d m) (wetV f d m) = 0 ∧ okC (okRainOutage f d m) = 2 by unfold okRainOutage; rw [h0, h1, h2]; exact ⟨rfl, rfl⟩)
        go_enter Tryd.func19, Tryd.ntmps19
        go_wp2_with (first | (go_at_call 43; refine (Free.spec_l09Distance _ _).mono ?_; rintro e w' ⟨rfl, rfl⟩) | (go_at_call 42; refine (Free.spec_l09Frequency _ _).mono ?_; rintro e w' ⟨rfl, rfl⟩) | (go_at_call 45; refine (spec_l13Margin _ _).mono ?_; rintro e w' ⟨rfl, rfl⟩))
        go_ret2
        exact ⟨ret_ii en.out.1.symm en.out.2.symm, On.refl _⟩
      | true =>
        have en := Lib.hid (show okV (okRainOutage f d m) (wetV f d m) = wetV f d m ∧ okC (okRainOutage f d m) = 0 by unfold okRainOutage; rw [h0, h1, h2]; exact ⟨rfl, rfl⟩)
        have b0 := of_inB h0
        obtain ⟨b00, b01⟩ := b0
        have b1 := of_inB h1
        obtain ⟨b10, b11⟩ := b1
        have b2 := of_inB h2
        obtain ⟨b20, b21⟩ := b2
        have HB := Lib.hid (fun w => spec_rain f d m w b00 b01 b10 b11)
        go_enter Tryd.func19, Tryd.ntmps19
        go_wp2_with (first | (go_at_call 43; refine (Free.spec_l09Distance _ _).mono ?_; rintro e w' ⟨rfl, rfl⟩) | (go_at_call 42; refine (Free.spec_l09Frequency _ _).mono ?_; rintro e w' ⟨rfl, rfl⟩) | (go_at_call 45; refine (spec_l13Margin _ _).mono ?_; rintro e w' ⟨rfl, rfl⟩))
        refine (HB.out _).mono ?_
        rintro e w8 ⟨rfl, k8⟩
        go_wp2_with fail
        go_ret2
        exact ⟨ret_ii en.out.1.symm en.out.2.symm, k8⟩
set_option maxHeartbeats 2000000 in
theorem impl_RainOutage (f d m : Int) (w : World) (hg : SpanG w) :
    Calls Tryd.prog 20 #[.int .i64 f, .int .i64 d, .int .i64 m] w fun e w' => e = .returned (.tuple #[.int .i64 (okV (okRainOutage f d m) (wetV f d m)), .int .i64 (okC (okRainOutage f d m))]) ∧ On w w' := by
  cases h0 : inB f 1 100000000 with
  | false =>
    have HG := Lib.hid hg
    have en := Lib.hid (show okV (okRainOutage f d m) (wetV f d m) = 0 ∧ okC (okRainOutage f d m) = 2 by unfold okRainOutage; rw [h0]; exact ⟨rfl, rfl⟩)
    go_enter Tryd.func20, Tryd.ntmps20
    go_wp2_with fail
    refine (Span.allows1_0 f _ _ (by simp [go_sem]) (HG.out.on (by repeat (first | with_reducible exact On.refl _ | with_reducible exact On.refl _ | apply On.alloc)))).mono ?_
    rintro e w1 ⟨rfl, k1⟩
    have HO1 := Lib.hid (show On w w1 by refine On.trans ?_ k1; repeat (first | with_reducible exact On.refl _ | apply On.alloc))
    clear k1
    go_wp2_with fail
    go_ret2
    exact ⟨ret_ii en.out.1.symm en.out.2.symm, HO1.out⟩
  | true =>
    cases h1 : inB d 1 283000 with
    | false =>
      have HG := Lib.hid hg
      have en := Lib.hid (show okV (okRainOutage f d m) (wetV f d m) = 0 ∧ okC (okRainOutage f d m) = 2 by unfold okRainOutage; rw [h0, h1]; exact ⟨rfl, rfl⟩)
      go_enter Tryd.func20, Tryd.ntmps20
      go_wp2_with fail
      refine (Span.allows1_0 f _ _ (by simp [go_sem]) (HG.out.on (by repeat (first | with_reducible exact On.refl _ | with_reducible exact On.refl _ | apply On.alloc)))).mono ?_
      rintro e w1 ⟨rfl, k1⟩
      have HO1 := Lib.hid (show On w w1 by refine On.trans ?_ k1; repeat (first | with_reducible exact On.refl _ | apply On.alloc))
      clear k1
      go_wp2_with fail
      refine (Span.allows1_1 d _ _ (by simp [go_sem]) (HG.out.on (by repeat (first | with_reducible exact On.refl _ | with_reducible exact HO1.out | apply On.alloc)))).mono ?_
      rintro e w2 ⟨rfl, k2⟩
      have HO2 := Lib.hid (show On w w2 by refine On.trans ?_ k2; repeat (first | with_reducible exact On.refl _ | with_reducible exact HO1.out | apply On.alloc))
      clear k2
      go_wp2_with fail
      go_ret2
      exact ⟨ret_ii en.out.1.symm en.out.2.symm, HO2.out⟩
    | true =>
      cases h2 : inB m 0 100000 with
      | false =>
        have HG := Lib.hid hg
        have en := Lib.hid (show okV (okRainOutage f d m) (wetV f d m) = 0 ∧ okC (okRainOutage f d m) = 2 by unfold okRainOutage; rw [h0, h1, h2]; exact ⟨rfl, rfl⟩)
        go_enter Tryd.func20, Tryd.ntmps20
        go_wp2_with fail
        refine (Span.allows1_0 f _ _ (by simp [go_sem]) (HG.out.on (by repeat (first | with_reducible exact On.refl _ | with_reducible exact On.refl _ | apply On.alloc)))).mono ?_
        rintro e w1 ⟨rfl, k1⟩
        have HO1 := Lib.hid (show On w w1 by refine On.trans ?_ k1; repeat (first | with_reducible exact On.refl _ | apply On.alloc))
        clear k1
        go_wp2_with fail
        refine (Span.allows1_1 d _ _ (by simp [go_sem]) (HG.out.on (by repeat (first | with_reducible exact On.refl _ | with_reducible exact HO1.out | apply On.alloc)))).mono ?_
        rintro e w2 ⟨rfl, k2⟩
        have HO2 := Lib.hid (show On w w2 by refine On.trans ?_ k2; repeat (first | with_reducible exact On.refl _ | with_reducible exact HO1.out | apply On.alloc))
        clear k2
        go_wp2_with fail
        refine (Span.allows1_14 m _ _ (by simp [go_sem]) (HG.out.on (by repeat (first | with_reducible exact On.refl _ | with_reducible exact HO2.out | apply On.alloc)))).mono ?_
        rintro e w3 ⟨rfl, k3⟩
        have HO3 := Lib.hid (show On w w3 by refine On.trans ?_ k3; repeat (first | with_reducible exact On.refl _ | with_reducible exact HO2.out | apply On.alloc))
        clear k3
        go_wp2_with fail
        go_ret2
        exact ⟨ret_ii en.out.1.symm en.out.2.symm, HO3.out⟩
      | true =>
        have HG := Lib.hid hg
        have en := Lib.hid (show okV (okRainOutage f d m) (wetV f d m) = wetV f d m ∧ okC (okRainOutage f d m) = 0 by unfold okRainOutage; rw [h0, h1, h2]; exact ⟨rfl, rfl⟩)
        have b0 := of_inB h0
        obtain ⟨b00, b01⟩ := b0
        have b1 := of_inB h1
        obtain ⟨b10, b11⟩ := b1
        have b2 := of_inB h2
        obtain ⟨b20, b21⟩ := b2
        have HB := Lib.hid (fun w => impl_rain f d m w b00 b01 b10 b11)
        go_enter Tryd.func20, Tryd.ntmps20
        go_wp2_with fail
        refine (Span.allows1_0 f _ _ (by simp [go_sem]) (HG.out.on (by repeat (first | with_reducible exact On.refl _ | with_reducible exact On.refl _ | apply On.alloc)))).mono ?_
        rintro e w1 ⟨rfl, k1⟩
        have HO1 := Lib.hid (show On w w1 by refine On.trans ?_ k1; repeat (first | with_reducible exact On.refl _ | apply On.alloc))
        clear k1
        go_wp2_with fail
        refine (Span.allows1_1 d _ _ (by simp [go_sem]) (HG.out.on (by repeat (first | with_reducible exact On.refl _ | with_reducible exact HO1.out | apply On.alloc)))).mono ?_
        rintro e w2 ⟨rfl, k2⟩
        have HO2 := Lib.hid (show On w w2 by refine On.trans ?_ k2; repeat (first | with_reducible exact On.refl _ | with_reducible exact HO1.out | apply On.alloc))
        clear k2
        go_wp2_with fail
        refine (Span.allows1_14 m _ _ (by simp [go_sem]) (HG.out.on (by repeat (first | with_reducible exact On.refl _ | with_reducible exact HO2.out | apply On.alloc)))).mono ?_
        rintro e w3 ⟨rfl, k3⟩
        have HO3 := Lib.hid (show On w w3 by refine On.trans ?_ k3; repeat (first | with_reducible exact On.refl _ | with_reducible exact HO2.out | apply On.alloc))
        clear k3
        go_wp2_with fail
        refine (HB.out _).mono ?_
        rintro e w8 ⟨rfl, k8⟩
        go_wp2_with fail
        go_ret2
        exact ⟨ret_ii en.out.1.symm en.out.2.symm, HO3.out.trans k8⟩
/-- DownTime. -/
def okDownTime (o : Int) : Bool := inB o 0 1000000
set_option maxHeartbeats 2000000 in
theorem spec_DownTime (o : Int) (w : World) :
    Calls Tryd.prog 27 #[.int .i64 o] w fun e w' => e = .returned (.tuple #[.int .i64 (okV (okDownTime o) (near (31536000 * o) 1000000)), .int .i64 (okC (okDownTime o))]) ∧ On w w' := by
  cases h0 : inB o 0 1000000 with
  | false =>
    have en := Lib.hid (show okV (okDownTime o) (near (31536000 * o) 1000000) = 0 ∧ okC (okDownTime o) = 2 by unfold okDownTime; rw [h0]; exact ⟨rfl, rfl⟩)
    go_enter Tryd.func27, Tryd.ntmps27
    go_wp2_with (go_at_call 49; refine (spec_l13Outage _ _).mono ?_; rintro e w' ⟨rfl, rfl⟩)
    go_ret2
    exact ⟨ret_ii en.out.1.symm en.out.2.symm, On.refl _⟩
  | true =>
    have en := Lib.hid (show okV (okDownTime o) (near (31536000 * o) 1000000) = near (31536000 * o) 1000000 ∧ okC (okDownTime o) = 0 by unfold okDownTime; rw [h0]; exact ⟨rfl, rfl⟩)
    have b0 := of_inB h0
    obtain ⟨b00, b01⟩ := b0
    have HB := Lib.hid (fun w => Arith.l01Div (31536000 * o) 1000000 w (by omega) (by omega) (by omega) (by omega) (by omega))
    go_enter Tryd.func27, Tryd.ntmps27
    go_wp2_with (go_at_call 49; refine (spec_l13Outage _ _).mono ?_; rintro e w' ⟨rfl, rfl⟩)
    refine (HB.out _).mono ?_
    rintro e w8 ⟨rfl, rfl⟩
    go_wp2_with fail
    go_ret2
    exact ⟨ret_ii en.out.1.symm en.out.2.symm, (On.refl _)⟩
set_option maxHeartbeats 2000000 in
theorem impl_DownTime (o : Int) (w : World) (hg : SpanG w) :
    Calls Tryd.prog 28 #[.int .i64 o] w fun e w' => e = .returned (.tuple #[.int .i64 (okV (okDownTime o) (near (31536000 * o) 1000000)), .int .i64 (okC (okDownTime o))]) ∧ On w w' := by
  cases h0 : inB o 0 1000000 with
  | false =>
    have HG := Lib.hid hg
    have en := Lib.hid (show okV (okDownTime o) (near (31536000 * o) 1000000) = 0 ∧ okC (okDownTime o) = 2 by unfold okDownTime; rw [h0]; exact ⟨rfl, rfl⟩)
    go_enter Tryd.func28, Tryd.ntmps28
    go_wp2_with fail
    refine (Span.allows1_12 o _ _ (by simp [go_sem]) (HG.out.on (by repeat (first | with_reducible exact On.refl _ | with_reducible exact On.refl _ | apply On.alloc)))).mono ?_
    rintro e w1 ⟨rfl, k1⟩
    have HO1 := Lib.hid (show On w w1 by refine On.trans ?_ k1; repeat (first | with_reducible exact On.refl _ | apply On.alloc))
    clear k1
    go_wp2_with fail
    go_ret2
    exact ⟨ret_ii en.out.1.symm en.out.2.symm, HO1.out⟩
  | true =>
    have HG := Lib.hid hg
    have en := Lib.hid (show okV (okDownTime o) (near (31536000 * o) 1000000) = near (31536000 * o) 1000000 ∧ okC (okDownTime o) = 0 by unfold okDownTime; rw [h0]; exact ⟨rfl, rfl⟩)
    have b0 := of_inB h0
    obtain ⟨b00, b01⟩ := b0
    have HB := Lib.hid (fun w => Arith.nearest (31536000 * o) 1000000 w (by omega) (by omega) (by omega) (by omega) (by omega))
    go_enter Tryd.func28, Tryd.ntmps28
    go_wp2_with fail
    refine (Span.allows1_12 o _ _ (by simp [go_sem]) (HG.out.on (by repeat (first | with_reducible exact On.refl _ | with_reducible exact On.refl _ | apply On.alloc)))).mono ?_
    rintro e w1 ⟨rfl, k1⟩
    have HO1 := Lib.hid (show On w w1 by refine On.trans ?_ k1; repeat (first | with_reducible exact On.refl _ | apply On.alloc))
    clear k1
    go_wp2_with fail
    refine (HB.out _).mono ?_
    rintro e w8 ⟨rfl, n8, rfl⟩
    go_wp2_with fail
    go_ret2
    exact ⟨ret_ii en.out.1.symm en.out.2.symm, HO1.out.trans (On.drewN (On.refl _) _)⟩
end Go.Proofs.YtafhphceojamoaaDoor.Fade
