
/-
  The functions of the losses of the surroundings with an error code, in the model and in the program. Condition: the program's variables of spans and of surroundings hold what their texts lay.
-/
import Derived.Test.YtigbbhohgeemdaaDoorClut
import Derived.Test.YtigbbhohgeemdaaDoorRain
import Derived.Test.YtigbbhohgeemdaaDoorFree
namespace Go.Proofs.YtigbbhohgeemdaaDoor.Loss
open Go.RowKit
open Plain
open Span (SpanG)
open Surr (SurrG)
open Ints (Ints)
open Free (okV okC ret_ii)

theorem spec_l11Class (v : Int) (w : World) :
    Calls Tryd.prog 33 #[.int .i64 v] w fun e w' => e = .returned (.bool (inB v 0 7)) ∧ w = w' := by
  go_enter Tryd.func33, Tryd.ntmps33
  go_wp2_with (go_at_call 38; refine (Arith.l00In _ _ _ _).mono ?_; rintro e w' ⟨rfl, rfl⟩)
  go_ret
  exact ⟨rfl, rfl⟩
theorem spec_l11Rate (v : Int) (w : World) :
    Calls Tryd.prog 41 #[.int .i64 v] w fun e w' => e = .returned (.bool (inB v 0 200)) ∧ w = w' := by
  go_enter Tryd.func41, Tryd.ntmps41
  go_wp2_with (go_at_call 38; refine (Arith.l00In _ _ _ _).mono ?_; rintro e w' ⟨rfl, rfl⟩)
  go_ret
  exact ⟨rfl, rfl⟩
/-- ClutterLoss. -/
def okClutterLoss (c f a : Int) : Bool := inB c 0 7 && inB f 1 100000000 && inB a 0 90000
set_option maxHeartbeats 2000000 in
theorem spec_ClutterLoss (c f a : Int) (w : World) :
    Calls Tryd.prog 16 #[.int .i64 c, .int .i64 f, .int .i64 a] w fun e w' => e = .returned (.tuple #[.int .i64 (okV (okClutterLoss c f a) (clutV c.toNat f a)), .int .i64 (okC (okClutterLoss c f a))]) ∧ On w w' := by
  cases h0 : inB c 0 7 with
  | false =>
    have en := Lib.hid (show okV (okClutterLoss c f a) (clutV c.toNat f a) = 0 ∧ okC (okClutterLoss c f a) = 2 by unfold okClutterLoss; rw [h0]; exact ⟨rfl, rfl⟩)
    go_enter Tryd.func16, Tryd.ntmps16
    go_wp2_with (first | (go_at_call 38; refine (Arith.l00In _ _ _ _).mono ?_; rintro e w' ⟨rfl, rfl⟩) | (go_at_call 37; refine (Free.spec_l09Frequency _ _).mono ?_; rintro e w' ⟨rfl, rfl⟩) | (go_at_call 33; refine (spec_l11Class _ _).mono ?_; rintro e w' ⟨rfl, rfl⟩))
    go_ret2
    exact ⟨ret_ii en.out.1.symm en.out.2.symm, On.refl _⟩
  | true =>
    cases h1 : inB f 1 100000000 with
    | false =>
      have en := Lib.hid (show okV (okClutterLoss c f a) (clutV c.toNat f a) = 0 ∧ okC (okClutterLoss c f a) = 2 by unfold okClutterLoss; rw [h0, h1]; exact ⟨rfl, rfl⟩)
      go_enter Tryd.func16, Tryd.ntmps16
      go_wp2_with (first | (go_at_call 38; refine (Arith.l00In _ _ _ _).mono ?_; rintro e w' ⟨rfl, rfl⟩) | (go_at_call 37; refine (Free.spec_l09Frequency _ _).mono ?_; rintro e w' ⟨rfl, rfl⟩) | (go_at_call 33; refine (spec_l11Class _ _).mono ?_; rintro e w' ⟨rfl, rfl⟩))
      go_ret2
      exact ⟨ret_ii en.out.1.symm en.out.2.symm, On.refl _⟩
    | true =>
      cases h2 : inB a 0 90000 with
      | false =>
        have en := Lib.hid (show okV (okClutterLoss c f a) (clutV c.toNat f a) = 0 ∧ okC (okClutterLoss c f a) = 2 by unfold okClutterLoss; rw [h0, h1, h2]; exact ⟨rfl, rfl⟩)
        go_enter Tryd.func16, Tryd.ntmps16
        go_wp2_with (first | (go_at_call 38; refine (Arith.l00In _ _ _ _).mono ?_; rintro e w' ⟨rfl, rfl⟩) | (go_at_call 37; refine (Free.spec_l09Frequency _ _).mono ?_; rintro e w' ⟨rfl, rfl⟩) | (go_at_call 33; refine (spec_l11Class _ _).mono ?_; rintro e w' ⟨rfl, rfl⟩))
        go_ret2
        exact ⟨ret_ii en.out.1.symm en.out.2.symm, On.refl _⟩
      | true =>
        have en := Lib.hid (show okV (okClutterLoss c f a) (clutV c.toNat f a) = clutV c.toNat f a ∧ okC (okClutterLoss c f a) = 0 by unfold okClutterLoss; rw [h0, h1, h2]; exact ⟨rfl, rfl⟩)
        have b0 := of_inB h0
        obtain ⟨b00, b01⟩ := b0
        have b1 := of_inB h1
        obtain ⟨b10, b11⟩ := b1
        have b2 := of_inB h2
        obtain ⟨b20, b21⟩ := b2
        have HB := Lib.hid (fun w => show Calls Tryd.prog 39 #[.int .i64 c, .int .i64 f, .int .i64 a] w fun e w' => e = .returned (.int .i64 (clutV c.toNat f a)) ∧ On w w' from by have := Clut.spec_clutter c.toNat f a w (by omega) b20 b21; rw [Int.toNat_of_nonneg b00] at this; exact this)
        go_enter Tryd.func16, Tryd.ntmps16
        go_wp2_with (first | (go_at_call 38; refine (Arith.l00In _ _ _ _).mono ?_; rintro e w' ⟨rfl, rfl⟩) | (go_at_call 37; refine (Free.spec_l09Frequency _ _).mono ?_; rintro e w' ⟨rfl, rfl⟩) | (go_at_call 33; refine (spec_l11Class _ _).mono ?_; rintro e w' ⟨rfl, rfl⟩))
        refine (HB.out _).mono ?_
        rintro e w8 ⟨rfl, k8⟩
        go_wp2_with fail
        go_ret2
        exact ⟨ret_ii en.out.1.symm en.out.2.symm, k8⟩
set_option maxHeartbeats 2000000 in
theorem impl_ClutterLoss (c f a : Int) (w : World) (hg : SpanG w) (hs : SurrG w) :
    Calls Tryd.prog 17 #[.int .i64 c, .int .i64 f, .int .i64 a] w fun e w' => e = .returned (.tuple #[.int .i64 (okV (okClutterLoss c f a) (clutV c.toNat f a)), .int .i64 (okC (okClutterLoss c f a))]) ∧ On w w' := by
  cases h0 : inB c 0 7 with
  | false =>
    have HG := Lib.hid hg
    have HS := Lib.hid hs
    have en := Lib.hid (show okV (okClutterLoss c f a) (clutV c.toNat f a) = 0 ∧ okC (okClutterLoss c f a) = 2 by unfold okClutterLoss; rw [h0]; exact ⟨rfl, rfl⟩)
    go_enter Tryd.func17, Tryd.ntmps17
    go_wp2_with fail
    refine (Span.allows1_6 c _ _ (by simp [go_sem]) (HG.out.on (by repeat (first | with_reducible exact On.refl _ | with_reducible exact On.refl _ | apply On.alloc)))).mono ?_
    rintro e w1 ⟨rfl, k1⟩
    have HO1 := Lib.hid (show On w w1 by refine On.trans ?_ k1; repeat (first | with_reducible exact On.refl _ | apply On.alloc))
    clear k1
    go_wp2_with fail
    go_ret2
    exact ⟨ret_ii en.out.1.symm en.out.2.symm, HO1.out⟩
  | true =>
    cases h1 : inB f 1 100000000 with
    | false =>
      have HG := Lib.hid hg
      have HS := Lib.hid hs
      have en := Lib.hid (show okV (okClutterLoss c f a) (clutV c.toNat f a) = 0 ∧ okC (okClutterLoss c f a) = 2 by unfold okClutterLoss; rw [h0, h1]; exact ⟨rfl, rfl⟩)
      go_enter Tryd.func17, Tryd.ntmps17
      go_wp2_with fail
      refine (Span.allows1_6 c _ _ (by simp [go_sem]) (HG.out.on (by repeat (first | with_reducible exact On.refl _ | with_reducible exact On.refl _ | apply On.alloc)))).mono ?_
      rintro e w1 ⟨rfl, k1⟩
      have HO1 := Lib.hid (show On w w1 by refine On.trans ?_ k1; repeat (first | with_reducible exact On.refl _ | apply On.alloc))
      clear k1
      go_wp2_with fail
      refine (Span.allows1_0 f _ _ (by simp [go_sem]) (HG.out.on (by repeat (first | with_reducible exact On.refl _ | with_reducible exact HO1.out | apply On.alloc)))).mono ?_
      rintro e w2 ⟨rfl, k2⟩
      have HO2 := Lib.hid (show On w w2 by refine On.trans ?_ k2; repeat (first | with_reducible exact On.refl _ | with_reducible exact HO1.out | apply On.alloc))
      clear k2
      go_wp2_with fail
      go_ret2
      exact ⟨ret_ii en.out.1.symm en.out.2.symm, HO2.out⟩
    | true =>
      cases h2 : inB a 0 90000 with
      | false =>
        have HG := Lib.hid hg
        have HS := Lib.hid hs
        have en := Lib.hid (show okV (okClutterLoss c f a) (clutV c.toNat f a) = 0 ∧ okC (okClutterLoss c f a) = 2 by unfold okClutterLoss; rw [h0, h1, h2]; exact ⟨rfl, rfl⟩)
        go_enter Tryd.func17, Tryd.ntmps17
        go_wp2_with fail
        refine (Span.allows1_6 c _ _ (by simp [go_sem]) (HG.out.on (by repeat (first | with_reducible exact On.refl _ | with_reducible exact On.refl _ | apply On.alloc)))).mono ?_
        rintro e w1 ⟨rfl, k1⟩
        have HO1 := Lib.hid (show On w w1 by refine On.trans ?_ k1; repeat (first | with_reducible exact On.refl _ | apply On.alloc))
        clear k1
        go_wp2_with fail
        refine (Span.allows1_0 f _ _ (by simp [go_sem]) (HG.out.on (by repeat (first | with_reducible exact On.refl _ | with_reducible exact HO1.out | apply On.alloc)))).mono ?_
        rintro e w2 ⟨rfl, k2⟩
        have HO2 := Lib.hid (show On w w2 by refine On.trans ?_ k2; repeat (first | with_reducible exact On.refl _ | with_reducible exact HO1.out | apply On.alloc))
        clear k2
        go_wp2_with fail
        refine (Span.allows1_7 a _ _ (by simp [go_sem]) (HG.out.on (by repeat (first | with_reducible exact On.refl _ | with_reducible exact HO2.out | apply On.alloc)))).mono ?_
        rintro e w3 ⟨rfl, k3⟩
        have HO3 := Lib.hid (show On w w3 by refine On.trans ?_ k3; repeat (first | with_reducible exact On.refl _ | with_reducible exact HO2.out | apply On.alloc))
        clear k3
        go_wp2_with fail
        go_ret2
        exact ⟨ret_ii en.out.1.symm en.out.2.symm, HO3.out⟩
      | true =>
        have HG := Lib.hid hg
        have HS := Lib.hid hs
        have en := Lib.hid (show okV (okClutterLoss c f a) (clutV c.toNat f a) = clutV c.toNat f a ∧ okC (okClutterLoss c f a) = 0 by unfold okClutterLoss; rw [h0, h1, h2]; exact ⟨rfl, rfl⟩)
        have b0 := of_inB h0
        obtain ⟨b00, b01⟩ := b0
        have b1 := of_inB h1
        obtain ⟨b10, b11⟩ := b1
        have b2 := of_inB h2
        obtain ⟨b20, b21⟩ := b2
        have HB := Lib.hid (fun w (h : SurrG w) => show Calls Tryd.prog 40 #[.int .i64 f, .int .i64 c, .int .i64 a] w fun e w' => e = .returned (.int .i64 (clutV c.toNat f a)) ∧ On w w' from by have := Clut.impl_clutter c.toNat f a w (by omega) b20 b21 h; rw [Int.toNat_of_nonneg b00] at this; exact this)
        go_enter Tryd.func17, Tryd.ntmps17
        go_wp2_with fail
        refine (Span.allows1_6 c _ _ (by simp [go_sem]) (HG.out.on (by repeat (first | with_reducible exact On.refl _ | with_reducible exact On.refl _ | apply On.alloc)))).mono ?_
        rintro e w1 ⟨rfl, k1⟩
        have HO1 := Lib.hid (show On w w1 by refine On.trans ?_ k1; repeat (first | with_reducible exact On.refl _ | apply On.alloc))
        clear k1
        go_wp2_with fail
        refine (Span.allows1_0 f _ _ (by simp [go_sem]) (HG.out.on (by repeat (first | with_reducible exact On.refl _ | with_reducible exact HO1.out | apply On.alloc)))).mono ?_
        rintro e w2 ⟨rfl, k2⟩
        have HO2 := Lib.hid (show On w w2 by refine On.trans ?_ k2; repeat (first | with_reducible exact On.refl _ | with_reducible exact HO1.out | apply On.alloc))
        clear k2
        go_wp2_with fail
        refine (Span.allows1_7 a _ _ (by simp [go_sem]) (HG.out.on (by repeat (first | with_reducible exact On.refl _ | with_reducible exact HO2.out | apply On.alloc)))).mono ?_
        rintro e w3 ⟨rfl, k3⟩
        have HO3 := Lib.hid (show On w w3 by refine On.trans ?_ k3; repeat (first | with_reducible exact On.refl _ | with_reducible exact HO2.out | apply On.alloc))
        clear k3
        go_wp2_with fail
        refine (HB.out _ (HS.out.on HO3.out)).mono ?_
        rintro e w8 ⟨rfl, k8⟩
        go_wp2_with fail
        go_ret2
        exact ⟨ret_ii en.out.1.symm en.out.2.symm, HO3.out.trans k8⟩
/-- RainSpecific. -/
def okRainSpecific (f r : Int) : Bool := inB f 1 100000000 && inB r 0 200
set_option maxHeartbeats 2000000 in
theorem spec_RainSpecific (f r : Int) (w : World) :
    Calls Tryd.prog 18 #[.int .i64 f, .int .i64 r] w fun e w' => e = .returned (.tuple #[.int .i64 (okV (okRainSpecific f r) (rainS f r)), .int .i64 (okC (okRainSpecific f r))]) ∧ On w w' := by
  cases h0 : inB f 1 100000000 with
  | false =>
    have en := Lib.hid (show okV (okRainSpecific f r) (rainS f r) = 0 ∧ okC (okRainSpecific f r) = 2 by unfold okRainSpecific; rw [h0]; exact ⟨rfl, rfl⟩)
    go_enter Tryd.func18, Tryd.ntmps18
    go_wp2_with (first | (go_at_call 37; refine (Free.spec_l09Frequency _ _).mono ?_; rintro e w' ⟨rfl, rfl⟩) | (go_at_call 41; refine (spec_l11Rate _ _).mono ?_; rintro e w' ⟨rfl, rfl⟩))
    go_ret2
    exact ⟨ret_ii en.out.1.symm en.out.2.symm, On.refl _⟩
  | true =>
    cases h1 : inB r 0 200 with
    | false =>
      have en := Lib.hid (show okV (okRainSpecific f r) (rainS f r) = 0 ∧ okC (okRainSpecific f r) = 2 by unfold okRainSpecific; rw [h0, h1]; exact ⟨rfl, rfl⟩)
      go_enter Tryd.func18, Tryd.ntmps18
      go_wp2_with (first | (go_at_call 37; refine (Free.spec_l09Frequency _ _).mono ?_; rintro e w' ⟨rfl, rfl⟩) | (go_at_call 41; refine (spec_l11Rate _ _).mono ?_; rintro e w' ⟨rfl, rfl⟩))
      go_ret2
      exact ⟨ret_ii en.out.1.symm en.out.2.symm, On.refl _⟩
    | true =>
      have en := Lib.hid (show okV (okRainSpecific f r) (rainS f r) = rainS f r ∧ okC (okRainSpecific f r) = 0 by unfold okRainSpecific; rw [h0, h1]; exact ⟨rfl, rfl⟩)
      have b0 := of_inB h0
      obtain ⟨b00, b01⟩ := b0
      have b1 := of_inB h1
      obtain ⟨b10, b11⟩ := b1
      have HB := Lib.hid (fun w => Rain.spec_rain f r w (by omega) b01 b10 b11)
      go_enter Tryd.func18, Tryd.ntmps18
      go_wp2_with (first | (go_at_call 37; refine (Free.spec_l09Frequency _ _).mono ?_; rintro e w' ⟨rfl, rfl⟩) | (go_at_call 41; refine (spec_l11Rate _ _).mono ?_; rintro e w' ⟨rfl, rfl⟩))
      refine (HB.out _).mono ?_
      rintro e w8 ⟨rfl, k8⟩
      go_wp2_with fail
      go_ret2
      exact ⟨ret_ii en.out.1.symm en.out.2.symm, k8⟩
set_option maxHeartbeats 2000000 in
theorem impl_RainSpecific (f r : Int) (w : World) (hg : SpanG w) :
    Calls Tryd.prog 19 #[.int .i64 f, .int .i64 r] w fun e w' => e = .returned (.tuple #[.int .i64 (okV (okRainSpecific f r) (rainS f r)), .int .i64 (okC (okRainSpecific f r))]) ∧ On w w' := by
  cases h0 : inB f 1 100000000 with
  | false =>
    have HG := Lib.hid hg
    have en := Lib.hid (show okV (okRainSpecific f r) (rainS f r) = 0 ∧ okC (okRainSpecific f r) = 2 by unfold okRainSpecific; rw [h0]; exact ⟨rfl, rfl⟩)
    go_enter Tryd.func19, Tryd.ntmps19
    go_wp2_with fail
    refine (Span.allows1_0 f _ _ (by simp [go_sem]) (HG.out.on (by repeat (first | with_reducible exact On.refl _ | with_reducible exact On.refl _ | apply On.alloc)))).mono ?_
    rintro e w1 ⟨rfl, k1⟩
    have HO1 := Lib.hid (show On w w1 by refine On.trans ?_ k1; repeat (first | with_reducible exact On.refl _ | apply On.alloc))
    clear k1
    go_wp2_with fail
    go_ret2
    exact ⟨ret_ii en.out.1.symm en.out.2.symm, HO1.out⟩
  | true =>
    cases h1 : inB r 0 200 with
    | false =>
      have HG := Lib.hid hg
      have en := Lib.hid (show okV (okRainSpecific f r) (rainS f r) = 0 ∧ okC (okRainSpecific f r) = 2 by unfold okRainSpecific; rw [h0, h1]; exact ⟨rfl, rfl⟩)
      go_enter Tryd.func19, Tryd.ntmps19
      go_wp2_with fail
      refine (Span.allows1_0 f _ _ (by simp [go_sem]) (HG.out.on (by repeat (first | with_reducible exact On.refl _ | with_reducible exact On.refl _ | apply On.alloc)))).mono ?_
      rintro e w1 ⟨rfl, k1⟩
      have HO1 := Lib.hid (show On w w1 by refine On.trans ?_ k1; repeat (first | with_reducible exact On.refl _ | apply On.alloc))
      clear k1
      go_wp2_with fail
      refine (Span.allows1_8 r _ _ (by simp [go_sem]) (HG.out.on (by repeat (first | with_reducible exact On.refl _ | with_reducible exact HO1.out | apply On.alloc)))).mono ?_
      rintro e w2 ⟨rfl, k2⟩
      have HO2 := Lib.hid (show On w w2 by refine On.trans ?_ k2; repeat (first | with_reducible exact On.refl _ | with_reducible exact HO1.out | apply On.alloc))
      clear k2
      go_wp2_with fail
      go_ret2
      exact ⟨ret_ii en.out.1.symm en.out.2.symm, HO2.out⟩
    | true =>
      have HG := Lib.hid hg
      have en := Lib.hid (show okV (okRainSpecific f r) (rainS f r) = rainS f r ∧ okC (okRainSpecific f r) = 0 by unfold okRainSpecific; rw [h0, h1]; exact ⟨rfl, rfl⟩)
      have b0 := of_inB h0
      obtain ⟨b00, b01⟩ := b0
      have b1 := of_inB h1
      obtain ⟨b10, b11⟩ := b1
      have HB := Lib.hid (fun w => Rain.impl_rain f r w (by omega) b01 b10 b11)
      go_enter Tryd.func19, Tryd.ntmps19
      go_wp2_with fail
      refine (Span.allows1_0 f _ _ (by simp [go_sem]) (HG.out.on (by repeat (first | with_reducible exact On.refl _ | with_reducible exact On.refl _ | apply On.alloc)))).mono ?_
      rintro e w1 ⟨rfl, k1⟩
      have HO1 := Lib.hid (show On w w1 by refine On.trans ?_ k1; repeat (first | with_reducible exact On.refl _ | apply On.alloc))
      clear k1
      go_wp2_with fail
      refine (Span.allows1_8 r _ _ (by simp [go_sem]) (HG.out.on (by repeat (first | with_reducible exact On.refl _ | with_reducible exact HO1.out | apply On.alloc)))).mono ?_
      rintro e w2 ⟨rfl, k2⟩
      have HO2 := Lib.hid (show On w w2 by refine On.trans ?_ k2; repeat (first | with_reducible exact On.refl _ | with_reducible exact HO1.out | apply On.alloc))
      clear k2
      go_wp2_with fail
      refine (HB.out _).mono ?_
      rintro e w8 ⟨rfl, k8⟩
      go_wp2_with fail
      go_ret2
      exact ⟨ret_ii en.out.1.symm en.out.2.symm, HO2.out.trans k8⟩
/-- RainLoss. -/
def okRainLoss (f r d : Int) : Bool := inB f 1 100000000 && inB r 0 200 && inB d 1 283000
set_option maxHeartbeats 2000000 in
theorem spec_RainLoss (f r d : Int) (w : World) :
    Calls Tryd.prog 20 #[.int .i64 f, .int .i64 r, .int .i64 d] w fun e w' => e = .returned (.tuple #[.int .i64 (okV (okRainLoss f r d) (rainL f r d)), .int .i64 (okC (okRainLoss f r d))]) ∧ On w w' := by
  cases h0 : inB f 1 100000000 with
  | false =>
    have en := Lib.hid (show okV (okRainLoss f r d) (rainL f r d) = 0 ∧ okC (okRainLoss f r d) = 2 by unfold okRainLoss; rw [h0]; exact ⟨rfl, rfl⟩)
    go_enter Tryd.func20, Tryd.ntmps20
    go_wp2_with (first | (go_at_call 44; refine (Free.spec_l09Distance _ _).mono ?_; rintro e w' ⟨rfl, rfl⟩) | (go_at_call 37; refine (Free.spec_l09Frequency _ _).mono ?_; rintro e w' ⟨rfl, rfl⟩) | (go_at_call 41; refine (spec_l11Rate _ _).mono ?_; rintro e w' ⟨rfl, rfl⟩))
    go_ret2
    exact ⟨ret_ii en.out.1.symm en.out.2.symm, On.refl _⟩
  | true =>
    cases h1 : inB r 0 200 with
    | false =>
      have en := Lib.hid (show okV (okRainLoss f r d) (rainL f r d) = 0 ∧ okC (okRainLoss f r d) = 2 by unfold okRainLoss; rw [h0, h1]; exact ⟨rfl, rfl⟩)
      go_enter Tryd.func20, Tryd.ntmps20
      go_wp2_with (first | (go_at_call 44; refine (Free.spec_l09Distance _ _).mono ?_; rintro e w' ⟨rfl, rfl⟩) | (go_at_call 37; refine (Free.spec_l09Frequency _ _).mono ?_; rintro e w' ⟨rfl, rfl⟩) | (go_at_call 41; refine (spec_l11Rate _ _).mono ?_; rintro e w' ⟨rfl, rfl⟩))
      go_ret2
      exact ⟨ret_ii en.out.1.symm en.out.2.symm, On.refl _⟩
    | true =>
      cases h2 : inB d 1 283000 with
      | false =>
        have en := Lib.hid (show okV (okRainLoss f r d) (rainL f r d) = 0 ∧ okC (okRainLoss f r d) = 2 by unfold okRainLoss; rw [h0, h1, h2]; exact ⟨rfl, rfl⟩)
        go_enter Tryd.func20, Tryd.ntmps20
        go_wp2_with (first | (go_at_call 44; refine (Free.spec_l09Distance _ _).mono ?_; rintro e w' ⟨rfl, rfl⟩) | (go_at_call 37; refine (Free.spec_l09Frequency _ _).mono ?_; rintro e w' ⟨rfl, rfl⟩) | (go_at_call 41; refine (spec_l11Rate _ _).mono ?_; rintro e w' ⟨rfl, rfl⟩))
        go_ret2
        exact ⟨ret_ii en.out.1.symm en.out.2.symm, On.refl _⟩
      | true =>
        have en := Lib.hid (show okV (okRainLoss f r d) (rainL f r d) = rainL f r d ∧ okC (okRainLoss f r d) = 0 by unfold okRainLoss; rw [h0, h1, h2]; exact ⟨rfl, rfl⟩)
        have b0 := of_inB h0
        obtain ⟨b00, b01⟩ := b0
        have b1 := of_inB h1
        obtain ⟨b10, b11⟩ := b1
        have b2 := of_inB h2
        obtain ⟨b20, b21⟩ := b2
        have HB := Lib.hid (fun w => Rain.spec_wet f r d w (by omega) b01 b10 b11 b20 b21)
        go_enter Tryd.func20, Tryd.ntmps20
        go_wp2_with (first | (go_at_call 44; refine (Free.spec_l09Distance _ _).mono ?_; rintro e w' ⟨rfl, rfl⟩) | (go_at_call 37; refine (Free.spec_l09Frequency _ _).mono ?_; rintro e w' ⟨rfl, rfl⟩) | (go_at_call 41; refine (spec_l11Rate _ _).mono ?_; rintro e w' ⟨rfl, rfl⟩))
        refine (HB.out _).mono ?_
        rintro e w8 ⟨rfl, k8⟩
        go_wp2_with fail
        go_ret2
        exact ⟨ret_ii en.out.1.symm en.out.2.symm, k8⟩
set_option maxHeartbeats 2000000 in
theorem impl_RainLoss (f r d : Int) (w : World) (hg : SpanG w) :
    Calls Tryd.prog 21 #[.int .i64 f, .int .i64 r, .int .i64 d] w fun e w' => e = .returned (.tuple #[.int .i64 (okV (okRainLoss f r d) (rainL f r d)), .int .i64 (okC (okRainLoss f r d))]) ∧ On w w' := by
  cases h0 : inB f 1 100000000 with
  | false =>
    have HG := Lib.hid hg
    have en := Lib.hid (show okV (okRainLoss f r d) (rainL f r d) = 0 ∧ okC (okRainLoss f r d) = 2 by unfold okRainLoss; rw [h0]; exact ⟨rfl, rfl⟩)
    go_enter Tryd.func21, Tryd.ntmps21
    go_wp2_with fail
    refine (Span.allows1_0 f _ _ (by simp [go_sem]) (HG.out.on (by repeat (first | with_reducible exact On.refl _ | with_reducible exact On.refl _ | apply On.alloc)))).mono ?_
    rintro e w1 ⟨rfl, k1⟩
    have HO1 := Lib.hid (show On w w1 by refine On.trans ?_ k1; repeat (first | with_reducible exact On.refl _ | apply On.alloc))
    clear k1
    go_wp2_with fail
    go_ret2
    exact ⟨ret_ii en.out.1.symm en.out.2.symm, HO1.out⟩
  | true =>
    cases h1 : inB r 0 200 with
    | false =>
      have HG := Lib.hid hg
      have en := Lib.hid (show okV (okRainLoss f r d) (rainL f r d) = 0 ∧ okC (okRainLoss f r d) = 2 by unfold okRainLoss; rw [h0, h1]; exact ⟨rfl, rfl⟩)
      go_enter Tryd.func21, Tryd.ntmps21
      go_wp2_with fail
      refine (Span.allows1_0 f _ _ (by simp [go_sem]) (HG.out.on (by repeat (first | with_reducible exact On.refl _ | with_reducible exact On.refl _ | apply On.alloc)))).mono ?_
      rintro e w1 ⟨rfl, k1⟩
      have HO1 := Lib.hid (show On w w1 by refine On.trans ?_ k1; repeat (first | with_reducible exact On.refl _ | apply On.alloc))
      clear k1
      go_wp2_with fail
      refine (Span.allows1_8 r _ _ (by simp [go_sem]) (HG.out.on (by repeat (first | with_reducible exact On.refl _ | with_reducible exact HO1.out | apply On.alloc)))).mono ?_
      rintro e w2 ⟨rfl, k2⟩
      have HO2 := Lib.hid (show On w w2 by refine On.trans ?_ k2; repeat (first | with_reducible exact On.refl _ | with_reducible exact HO1.out | apply On.alloc))
      clear k2
      go_wp2_with fail
      go_ret2
      exact ⟨ret_ii en.out.1.symm en.out.2.symm, HO2.out⟩
    | true =>
      cases h2 : inB d 1 283000 with
      | false =>
        have HG := Lib.hid hg
        have en := Lib.hid (show okV (okRainLoss f r d) (rainL f r d) = 0 ∧ okC (okRainLoss f r d) = 2 by unfold okRainLoss; rw [h0, h1, h2]; exact ⟨rfl, rfl⟩)
        go_enter Tryd.func21, Tryd.ntmps21
        go_wp2_with fail
        refine (Span.allows1_0 f _ _ (by simp [go_sem]) (HG.out.on (by repeat (first | with_reducible exact On.refl _ | with_reducible exact On.refl _ | apply On.alloc)))).mono ?_
        rintro e w1 ⟨rfl, k1⟩
        have HO1 := Lib.hid (show On w w1 by refine On.trans ?_ k1; repeat (first | with_reducible exact On.refl _ | apply On.alloc))
        clear k1
        go_wp2_with fail
        refine (Span.allows1_8 r _ _ (by simp [go_sem]) (HG.out.on (by repeat (first | with_reducible exact On.refl _ | with_reducible exact HO1.out | apply On.alloc)))).mono ?_
        rintro e w2 ⟨rfl, k2⟩
        have HO2 := Lib.hid (show On w w2 by refine On.trans ?_ k2; repeat (first | with_reducible exact On.refl _ | with_reducible exact HO1.out | apply On.alloc))
        clear k2
        go_wp2_with fail
        refine (Span.allows1_1 d _ _ (by simp [go_sem]) (HG.out.on (by repeat (first | with_reducible exact On.refl _ | with_reducible exact HO2.out | apply On.alloc)))).mono ?_
        rintro e w3 ⟨rfl, k3⟩
        have HO3 := Lib.hid (show On w w3 by refine On.trans ?_ k3; repeat (first | with_reducible exact On.refl _ | with_reducible exact HO2.out | apply On.alloc))
        clear k3
        go_wp2_with fail
        go_ret2
        exact ⟨ret_ii en.out.1.symm en.out.2.symm, HO3.out⟩
      | true =>
        have HG := Lib.hid hg
        have en := Lib.hid (show okV (okRainLoss f r d) (rainL f r d) = rainL f r d ∧ okC (okRainLoss f r d) = 0 by unfold okRainLoss; rw [h0, h1, h2]; exact ⟨rfl, rfl⟩)
        have b0 := of_inB h0
        obtain ⟨b00, b01⟩ := b0
        have b1 := of_inB h1
        obtain ⟨b10, b11⟩ := b1
        have b2 := of_inB h2
        obtain ⟨b20, b21⟩ := b2
        have HB := Lib.hid (fun w => Rain.impl_wet f r d w (by omega) b01 b10 b11 b20 b21)
        go_enter Tryd.func21, Tryd.ntmps21
        go_wp2_with fail
        refine (Span.allows1_0 f _ _ (by simp [go_sem]) (HG.out.on (by repeat (first | with_reducible exact On.refl _ | with_reducible exact On.refl _ | apply On.alloc)))).mono ?_
        rintro e w1 ⟨rfl, k1⟩
        have HO1 := Lib.hid (show On w w1 by refine On.trans ?_ k1; repeat (first | with_reducible exact On.refl _ | apply On.alloc))
        clear k1
        go_wp2_with fail
        refine (Span.allows1_8 r _ _ (by simp [go_sem]) (HG.out.on (by repeat (first | with_reducible exact On.refl _ | with_reducible exact HO1.out | apply On.alloc)))).mono ?_
        rintro e w2 ⟨rfl, k2⟩
        have HO2 := Lib.hid (show On w w2 by refine On.trans ?_ k2; repeat (first | with_reducible exact On.refl _ | with_reducible exact HO1.out | apply On.alloc))
        clear k2
        go_wp2_with fail
        refine (Span.allows1_1 d _ _ (by simp [go_sem]) (HG.out.on (by repeat (first | with_reducible exact On.refl _ | with_reducible exact HO2.out | apply On.alloc)))).mono ?_
        rintro e w3 ⟨rfl, k3⟩
        have HO3 := Lib.hid (show On w w3 by refine On.trans ?_ k3; repeat (first | with_reducible exact On.refl _ | with_reducible exact HO2.out | apply On.alloc))
        clear k3
        go_wp2_with fail
        refine (HB.out _).mono ?_
        rintro e w8 ⟨rfl, k8⟩
        go_wp2_with fail
        go_ret2
        exact ⟨ret_ii en.out.1.symm en.out.2.symm, HO3.out.trans k8⟩
/-- GasSpecific. -/
def okGasSpecific (f : Int) : Bool := inB f 1 100000000
set_option maxHeartbeats 2000000 in
theorem spec_GasSpecific (f : Int) (w : World) :
    Calls Tryd.prog 22 #[.int .i64 f] w fun e w' => e = .returned (.tuple #[.int .i64 (okV (okGasSpecific f) (gasS f)), .int .i64 (okC (okGasSpecific f))]) ∧ On w w' := by
  cases h0 : inB f 1 100000000 with
  | false =>
    have en := Lib.hid (show okV (okGasSpecific f) (gasS f) = 0 ∧ okC (okGasSpecific f) = 2 by unfold okGasSpecific; rw [h0]; exact ⟨rfl, rfl⟩)
    go_enter Tryd.func22, Tryd.ntmps22
    go_wp2_with (go_at_call 37; refine (Free.spec_l09Frequency _ _).mono ?_; rintro e w' ⟨rfl, rfl⟩)
    go_ret2
    exact ⟨ret_ii en.out.1.symm en.out.2.symm, On.refl _⟩
  | true =>
    have en := Lib.hid (show okV (okGasSpecific f) (gasS f) = gasS f ∧ okC (okGasSpecific f) = 0 by unfold okGasSpecific; rw [h0]; exact ⟨rfl, rfl⟩)
    have b0 := of_inB h0
    obtain ⟨b00, b01⟩ := b0
    have HB := Lib.hid (fun w => Rain.spec_gas f w (by omega) b01)
    go_enter Tryd.func22, Tryd.ntmps22
    go_wp2_with (go_at_call 37; refine (Free.spec_l09Frequency _ _).mono ?_; rintro e w' ⟨rfl, rfl⟩)
    refine (HB.out _).mono ?_
    rintro e w8 ⟨rfl, k8⟩
    go_wp2_with fail
    go_ret2
    exact ⟨ret_ii en.out.1.symm en.out.2.symm, k8⟩
set_option maxHeartbeats 2000000 in
theorem impl_GasSpecific (f : Int) (w : World) (hg : SpanG w) :
    Calls Tryd.prog 23 #[.int .i64 f] w fun e w' => e = .returned (.tuple #[.int .i64 (okV (okGasSpecific f) (gasS f)), .int .i64 (okC (okGasSpecific f))]) ∧ On w w' := by
  cases h0 : inB f 1 100000000 with
  | false =>
    have HG := Lib.hid hg
    have en := Lib.hid (show okV (okGasSpecific f) (gasS f) = 0 ∧ okC (okGasSpecific f) = 2 by unfold okGasSpecific; rw [h0]; exact ⟨rfl, rfl⟩)
    go_enter Tryd.func23, Tryd.ntmps23
    go_wp2_with fail
    refine (Span.allows1_0 f _ _ (by simp [go_sem]) (HG.out.on (by repeat (first | with_reducible exact On.refl _ | with_reducible exact On.refl _ | apply On.alloc)))).mono ?_
    rintro e w1 ⟨rfl, k1⟩
    have HO1 := Lib.hid (show On w w1 by refine On.trans ?_ k1; repeat (first | with_reducible exact On.refl _ | apply On.alloc))
    clear k1
    go_wp2_with fail
    go_ret2
    exact ⟨ret_ii en.out.1.symm en.out.2.symm, HO1.out⟩
  | true =>
    have HG := Lib.hid hg
    have en := Lib.hid (show okV (okGasSpecific f) (gasS f) = gasS f ∧ okC (okGasSpecific f) = 0 by unfold okGasSpecific; rw [h0]; exact ⟨rfl, rfl⟩)
    have b0 := of_inB h0
    obtain ⟨b00, b01⟩ := b0
    have HB := Lib.hid (fun b w hc => show Calls Tryd.prog 49 #[.slice (some ⟨b, 0, none⟩) 9 9, .int .i64 f] w fun e w' => e = .returned (.int .i64 (gasS f)) ∧ On w w' from Tab.impl_at f b gasP gasV 9 7 w Tab.gas_v rfl hc (by omega) b01)
    go_enter Tryd.func23, Tryd.ntmps23
    go_wp2_with fail
    refine (Span.allows1_0 f _ _ (by simp [go_sem]) (HG.out.on (by repeat (first | with_reducible exact On.refl _ | with_reducible exact On.refl _ | apply On.alloc)))).mono ?_
    rintro e w1 ⟨rfl, k1⟩
    have HO1 := Lib.hid (show On w w1 by refine On.trans ?_ k1; repeat (first | with_reducible exact On.refl _ | apply On.alloc))
    clear k1
    go_wp2_with fail
    refine (Tab.impl_gases _).mono ?_
    rintro e w7 ⟨rfl, k7, c7, z7⟩
    go_wp2_with fail
    refine (HB.out _ _ c7).mono ?_
    rintro e w8 ⟨rfl, k8⟩
    go_wp2_with fail
    go_ret2
    exact ⟨ret_ii en.out.1.symm en.out.2.symm, HO1.out.trans (On.trans k7 k8)⟩
/-- GasLoss. -/
def okGasLoss (f d : Int) : Bool := inB f 1 100000000 && inB d 1 283000
set_option maxHeartbeats 2000000 in
theorem spec_GasLoss (f d : Int) (w : World) :
    Calls Tryd.prog 24 #[.int .i64 f, .int .i64 d] w fun e w' => e = .returned (.tuple #[.int .i64 (okV (okGasLoss f d) (gasL f d)), .int .i64 (okC (okGasLoss f d))]) ∧ On w w' := by
  cases h0 : inB f 1 100000000 with
  | false =>
    have en := Lib.hid (show okV (okGasLoss f d) (gasL f d) = 0 ∧ okC (okGasLoss f d) = 2 by unfold okGasLoss; rw [h0]; exact ⟨rfl, rfl⟩)
    go_enter Tryd.func24, Tryd.ntmps24
    go_wp2_with (first | (go_at_call 44; refine (Free.spec_l09Distance _ _).mono ?_; rintro e w' ⟨rfl, rfl⟩) | (go_at_call 37; refine (Free.spec_l09Frequency _ _).mono ?_; rintro e w' ⟨rfl, rfl⟩))
    go_ret2
    exact ⟨ret_ii en.out.1.symm en.out.2.symm, On.refl _⟩
  | true =>
    cases h1 : inB d 1 283000 with
    | false =>
      have en := Lib.hid (show okV (okGasLoss f d) (gasL f d) = 0 ∧ okC (okGasLoss f d) = 2 by unfold okGasLoss; rw [h0, h1]; exact ⟨rfl, rfl⟩)
      go_enter Tryd.func24, Tryd.ntmps24
      go_wp2_with (first | (go_at_call 44; refine (Free.spec_l09Distance _ _).mono ?_; rintro e w' ⟨rfl, rfl⟩) | (go_at_call 37; refine (Free.spec_l09Frequency _ _).mono ?_; rintro e w' ⟨rfl, rfl⟩))
      go_ret2
      exact ⟨ret_ii en.out.1.symm en.out.2.symm, On.refl _⟩
    | true =>
      have en := Lib.hid (show okV (okGasLoss f d) (gasL f d) = gasL f d ∧ okC (okGasLoss f d) = 0 by unfold okGasLoss; rw [h0, h1]; exact ⟨rfl, rfl⟩)
      have b0 := of_inB h0
      obtain ⟨b00, b01⟩ := b0
      have b1 := of_inB h1
      obtain ⟨b10, b11⟩ := b1
      have HB := Lib.hid (fun w => Rain.spec_gas f w (by omega) b01)
      obtain ⟨p0, p1⟩ := gas_prod (f := f) b10 b11
      have HD := Lib.hid (fun w => show Calls Tryd.prog 50 #[.int .i64 (gasS f * d), .int .i64 1000] w fun e w' => e = .returned (.int .i64 (gasL f d)) ∧ w = w' from Arith.l01Div (gasS f * d) 1000 w (by omega) (by omega) (by omega) (by omega) (by omega))
      go_enter Tryd.func24, Tryd.ntmps24
      go_wp2_with (first | (go_at_call 44; refine (Free.spec_l09Distance _ _).mono ?_; rintro e w' ⟨rfl, rfl⟩) | (go_at_call 37; refine (Free.spec_l09Frequency _ _).mono ?_; rintro e w' ⟨rfl, rfl⟩))
      refine (HB.out _).mono ?_
      rintro e w8 ⟨rfl, k8⟩
      go_wp2_with fail
      refine (HD.out _).mono ?_
      rintro e w9 ⟨rfl, rfl⟩
      go_wp2_with fail
      go_ret2
      exact ⟨ret_ii en.out.1.symm en.out.2.symm, k8⟩
set_option maxHeartbeats 2000000 in
theorem impl_GasLoss (f d : Int) (w : World) (hg : SpanG w) :
    Calls Tryd.prog 25 #[.int .i64 f, .int .i64 d] w fun e w' => e = .returned (.tuple #[.int .i64 (okV (okGasLoss f d) (gasL f d)), .int .i64 (okC (okGasLoss f d))]) ∧ On w w' := by
  cases h0 : inB f 1 100000000 with
  | false =>
    have HG := Lib.hid hg
    have en := Lib.hid (show okV (okGasLoss f d) (gasL f d) = 0 ∧ okC (okGasLoss f d) = 2 by unfold okGasLoss; rw [h0]; exact ⟨rfl, rfl⟩)
    go_enter Tryd.func25, Tryd.ntmps25
    go_wp2_with fail
    refine (Span.allows1_0 f _ _ (by simp [go_sem]) (HG.out.on (by repeat (first | with_reducible exact On.refl _ | with_reducible exact On.refl _ | apply On.alloc)))).mono ?_
    rintro e w1 ⟨rfl, k1⟩
    have HO1 := Lib.hid (show On w w1 by refine On.trans ?_ k1; repeat (first | with_reducible exact On.refl _ | apply On.alloc))
    clear k1
    go_wp2_with fail
    go_ret2
    exact ⟨ret_ii en.out.1.symm en.out.2.symm, HO1.out⟩
  | true =>
    cases h1 : inB d 1 283000 with
    | false =>
      have HG := Lib.hid hg
      have en := Lib.hid (show okV (okGasLoss f d) (gasL f d) = 0 ∧ okC (okGasLoss f d) = 2 by unfold okGasLoss; rw [h0, h1]; exact ⟨rfl, rfl⟩)
      go_enter Tryd.func25, Tryd.ntmps25
      go_wp2_with fail
      refine (Span.allows1_0 f _ _ (by simp [go_sem]) (HG.out.on (by repeat (first | with_reducible exact On.refl _ | with_reducible exact On.refl _ | apply On.alloc)))).mono ?_
      rintro e w1 ⟨rfl, k1⟩
      have HO1 := Lib.hid (show On w w1 by refine On.trans ?_ k1; repeat (first | with_reducible exact On.refl _ | apply On.alloc))
      clear k1
      go_wp2_with fail
      refine (Span.allows1_1 d _ _ (by simp [go_sem]) (HG.out.on (by repeat (first | with_reducible exact On.refl _ | with_reducible exact HO1.out | apply On.alloc)))).mono ?_
      rintro e w2 ⟨rfl, k2⟩
      have HO2 := Lib.hid (show On w w2 by refine On.trans ?_ k2; repeat (first | with_reducible exact On.refl _ | with_reducible exact HO1.out | apply On.alloc))
      clear k2
      go_wp2_with fail
      go_ret2
      exact ⟨ret_ii en.out.1.symm en.out.2.symm, HO2.out⟩
    | true =>
      have HG := Lib.hid hg
      have en := Lib.hid (show okV (okGasLoss f d) (gasL f d) = gasL f d ∧ okC (okGasLoss f d) = 0 by unfold okGasLoss; rw [h0, h1]; exact ⟨rfl, rfl⟩)
      have b0 := of_inB h0
      obtain ⟨b00, b01⟩ := b0
      have b1 := of_inB h1
      obtain ⟨b10, b11⟩ := b1
      have HB := Lib.hid (fun w => Rain.impl_gas f d w (by omega) b01 b10 b11)
      go_enter Tryd.func25, Tryd.ntmps25
      go_wp2_with fail
      refine (Span.allows1_0 f _ _ (by simp [go_sem]) (HG.out.on (by repeat (first | with_reducible exact On.refl _ | with_reducible exact On.refl _ | apply On.alloc)))).mono ?_
      rintro e w1 ⟨rfl, k1⟩
      have HO1 := Lib.hid (show On w w1 by refine On.trans ?_ k1; repeat (first | with_reducible exact On.refl _ | apply On.alloc))
      clear k1
      go_wp2_with fail
      refine (Span.allows1_1 d _ _ (by simp [go_sem]) (HG.out.on (by repeat (first | with_reducible exact On.refl _ | with_reducible exact HO1.out | apply On.alloc)))).mono ?_
      rintro e w2 ⟨rfl, k2⟩
      have HO2 := Lib.hid (show On w w2 by refine On.trans ?_ k2; repeat (first | with_reducible exact On.refl _ | with_reducible exact HO1.out | apply On.alloc))
      clear k2
      go_wp2_with fail
      refine (HB.out _).mono ?_
      rintro e w8 ⟨rfl, k8⟩
      go_wp2_with fail
      go_ret2
      exact ⟨ret_ii en.out.1.symm en.out.2.symm, HO2.out.trans k8⟩
/-- VegetationLoss. -/
def okVegetationLoss (f z : Int) : Bool := inB f 1 100000000 && inB z 0 1000
set_option maxHeartbeats 2000000 in
theorem spec_VegetationLoss (f z : Int) (w : World) :
    Calls Tryd.prog 26 #[.int .i64 f, .int .i64 z] w fun e w' => e = .returned (.tuple #[.int .i64 (okV (okVegetationLoss f z) (leafL f z)), .int .i64 (okC (okVegetationLoss f z))]) ∧ On w w' := by
  cases h0 : inB f 1 100000000 with
  | false =>
    have en := Lib.hid (show okV (okVegetationLoss f z) (leafL f z) = 0 ∧ okC (okVegetationLoss f z) = 2 by unfold okVegetationLoss; rw [h0]; exact ⟨rfl, rfl⟩)
    go_enter Tryd.func26, Tryd.ntmps26
    go_wp2_with (first | (go_at_call 38; refine (Arith.l00In _ _ _ _).mono ?_; rintro e w' ⟨rfl, rfl⟩) | (go_at_call 37; refine (Free.spec_l09Frequency _ _).mono ?_; rintro e w' ⟨rfl, rfl⟩))
    go_ret2
    exact ⟨ret_ii en.out.1.symm en.out.2.symm, On.refl _⟩
  | true =>
    cases h1 : inB z 0 1000 with
    | false =>
      have en := Lib.hid (show okV (okVegetationLoss f z) (leafL f z) = 0 ∧ okC (okVegetationLoss f z) = 2 by unfold okVegetationLoss; rw [h0, h1]; exact ⟨rfl, rfl⟩)
      go_enter Tryd.func26, Tryd.ntmps26
      go_wp2_with (first | (go_at_call 38; refine (Arith.l00In _ _ _ _).mono ?_; rintro e w' ⟨rfl, rfl⟩) | (go_at_call 37; refine (Free.spec_l09Frequency _ _).mono ?_; rintro e w' ⟨rfl, rfl⟩))
      go_ret2
      exact ⟨ret_ii en.out.1.symm en.out.2.symm, On.refl _⟩
    | true =>
      have en := Lib.hid (show okV (okVegetationLoss f z) (leafL f z) = leafL f z ∧ okC (okVegetationLoss f z) = 0 by unfold okVegetationLoss; rw [h0, h1]; exact ⟨rfl, rfl⟩)
      have b0 := of_inB h0
      obtain ⟨b00, b01⟩ := b0
      have b1 := of_inB h1
      obtain ⟨b10, b11⟩ := b1
      have hx0 : 0 ≤ f / 1000 := by omega
      obtain ⟨t0, t1⟩ := leaf_bd f
      obtain ⟨p0, p1⟩ := leafX_bd (f := f) b10 b11
      have eX := Lib.hid (show leafX f z = Tab.tabV leafP leafV (f / 1000) * z from rfl)
      have eZ := Lib.hid (show z * Tab.tabV leafP leafV (f / 1000) = leafX f z from Int.mul_comm _ _)
      have HB := Lib.hid (fun (vp vv : Value) w hp hv => Tab.spec_table (f / 1000) vp vv leafP leafV 2 w Tab.leaf_v hp hv)
      have HD := Lib.hid (fun w => show Calls Tryd.prog 50 #[.int .i64 (30000 * leafX f z), .int .i64 (30000 + leafX f z)] w fun e w' => e = .returned (.int .i64 (leafL f z)) ∧ w = w' from Arith.l01Div (30000 * leafX f z) (30000 + leafX f z) w (by omega) (by omega) (by omega) (by omega) (by omega))
      generalize hT : Tab.tabV leafP leafV (f / 1000) = T at *
      generalize hX : leafX f z = X at *
      have wz : IntKind.i64.wrap (z * T) = X := by rw [eZ.out]; exact IntWalk.i64_in _ (by omega)
      have wz1 : 0 ≤ z * T ∧ z * T ≤ 4000000 := by rw [eZ.out]; exact ⟨p0, p1⟩
      clear hT hX
      go_enter Tryd.func26, Tryd.ntmps26
      go_wp2_with (first | (go_at_call 38; refine (Arith.l00In _ _ _ _).mono ?_; rintro e w' ⟨rfl, rfl⟩) | (go_at_call 37; refine (Free.spec_l09Frequency _ _).mono ?_; rintro e w' ⟨rfl, rfl⟩))
      refine (HB.out _ _ _ ?_ ?_).mono ?_
      · exact (Rain.lit w _ 4 _ leafP _ (by simp) rfl rfl).below (On.alloc (On.refl _) _)
      · exact Rain.lit _ _ 4 _ leafV _ (by simp) rfl rfl
      rintro e w8 ⟨rfl, k8⟩
      have K8 := Lib.hid k8
      clear k8
      go_wp2_with fail
      refine (HD.out _).mono ?_
      rintro e w9 ⟨rfl, rfl⟩
      go_wp2_with fail
      go_ret2
      exact ⟨ret_ii en.out.1.symm en.out.2.symm, (On.trans (On.alloc (On.alloc (On.refl _) _) _) K8.out)⟩
set_option maxHeartbeats 2000000 in
theorem impl_VegetationLoss (f z : Int) (w : World) (hg : SpanG w) :
    Calls Tryd.prog 27 #[.int .i64 f, .int .i64 z] w fun e w' => e = .returned (.tuple #[.int .i64 (okV (okVegetationLoss f z) (leafL f z)), .int .i64 (okC (okVegetationLoss f z))]) ∧ On w w' := by
  cases h0 : inB f 1 100000000 with
  | false =>
    have HG := Lib.hid hg
    have en := Lib.hid (show okV (okVegetationLoss f z) (leafL f z) = 0 ∧ okC (okVegetationLoss f z) = 2 by unfold okVegetationLoss; rw [h0]; exact ⟨rfl, rfl⟩)
    go_enter Tryd.func27, Tryd.ntmps27
    go_wp2_with fail
    refine (Span.allows1_0 f _ _ (by simp [go_sem]) (HG.out.on (by repeat (first | with_reducible exact On.refl _ | with_reducible exact On.refl _ | apply On.alloc)))).mono ?_
    rintro e w1 ⟨rfl, k1⟩
    have HO1 := Lib.hid (show On w w1 by refine On.trans ?_ k1; repeat (first | with_reducible exact On.refl _ | apply On.alloc))
    clear k1
    go_wp2_with fail
    go_ret2
    exact ⟨ret_ii en.out.1.symm en.out.2.symm, HO1.out⟩
  | true =>
    cases h1 : inB z 0 1000 with
    | false =>
      have HG := Lib.hid hg
      have en := Lib.hid (show okV (okVegetationLoss f z) (leafL f z) = 0 ∧ okC (okVegetationLoss f z) = 2 by unfold okVegetationLoss; rw [h0, h1]; exact ⟨rfl, rfl⟩)
      go_enter Tryd.func27, Tryd.ntmps27
      go_wp2_with fail
      refine (Span.allows1_0 f _ _ (by simp [go_sem]) (HG.out.on (by repeat (first | with_reducible exact On.refl _ | with_reducible exact On.refl _ | apply On.alloc)))).mono ?_
      rintro e w1 ⟨rfl, k1⟩
      have HO1 := Lib.hid (show On w w1 by refine On.trans ?_ k1; repeat (first | with_reducible exact On.refl _ | apply On.alloc))
      clear k1
      go_wp2_with fail
      refine (Span.allows1_9 z _ _ (by simp [go_sem]) (HG.out.on (by repeat (first | with_reducible exact On.refl _ | with_reducible exact HO1.out | apply On.alloc)))).mono ?_
      rintro e w2 ⟨rfl, k2⟩
      have HO2 := Lib.hid (show On w w2 by refine On.trans ?_ k2; repeat (first | with_reducible exact On.refl _ | with_reducible exact HO1.out | apply On.alloc))
      clear k2
      go_wp2_with fail
      go_ret2
      exact ⟨ret_ii en.out.1.symm en.out.2.symm, HO2.out⟩
    | true =>
      have HG := Lib.hid hg
      have en := Lib.hid (show okV (okVegetationLoss f z) (leafL f z) = leafL f z ∧ okC (okVegetationLoss f z) = 0 by unfold okVegetationLoss; rw [h0, h1]; exact ⟨rfl, rfl⟩)
      have b0 := of_inB h0
      obtain ⟨b00, b01⟩ := b0
      have b1 := of_inB h1
      obtain ⟨b10, b11⟩ := b1
      obtain ⟨t0, t1⟩ := leaf_bd f
      obtain ⟨p0, p1⟩ := leafX_bd (f := f) b10 b11
      have eZ := Lib.hid (show Tab.tabV leafP leafV (f / 1000) * z = leafX f z from rfl)
      have HB := Lib.hid (fun b w hc => show Calls Tryd.prog 49 #[.slice (some ⟨b, 0, none⟩) 4 4, .int .i64 f] w fun e w' => e = .returned (.int .i64 (Tab.tabV leafP leafV (f / 1000))) ∧ On w w' from Tab.impl_at f b leafP leafV 4 2 w Tab.leaf_v rfl hc (by omega) b01)
      have HD := Lib.hid (fun w => show Calls Tryd.prog 54 #[.int .i64 (30000 * leafX f z), .int .i64 (30000 + leafX f z)] w fun e w' => e = .returned (.int .i64 (leafL f z)) ∧ ∃ n, w' = w.drewN n from Arith.nearest (30000 * leafX f z) (30000 + leafX f z) w (by omega) (by omega) (by omega) (by omega) (by omega))
      generalize hT : Tab.tabV leafP leafV (f / 1000) = T at *
      generalize hX : leafX f z = X at *
      have wz1 : 0 ≤ T * z ∧ T * z ≤ 4000000 := by rw [eZ.out]; exact ⟨p0, p1⟩
      clear hT hX
      go_enter Tryd.func27, Tryd.ntmps27
      go_wp2_with fail
      refine (Span.allows1_0 f _ _ (by simp [go_sem]) (HG.out.on (by repeat (first | with_reducible exact On.refl _ | with_reducible exact On.refl _ | apply On.alloc)))).mono ?_
      rintro e w1 ⟨rfl, k1⟩
      have HO1 := Lib.hid (show On w w1 by refine On.trans ?_ k1; repeat (first | with_reducible exact On.refl _ | apply On.alloc))
      clear k1
      go_wp2_with fail
      refine (Span.allows1_9 z _ _ (by simp [go_sem]) (HG.out.on (by repeat (first | with_reducible exact On.refl _ | with_reducible exact HO1.out | apply On.alloc)))).mono ?_
      rintro e w2 ⟨rfl, k2⟩
      have HO2 := Lib.hid (show On w w2 by refine On.trans ?_ k2; repeat (first | with_reducible exact On.refl _ | with_reducible exact HO1.out | apply On.alloc))
      clear k2
      go_wp2_with fail
      refine (Tab.impl_leaves _).mono ?_
      rintro e w7 ⟨rfl, k7, c7, z7⟩
      go_wp2_with fail
      refine (HB.out _ _ c7).mono ?_
      rintro e w8 ⟨rfl, k8⟩
      have K8 := Lib.hid (On.trans k7 k8)
      clear k7 k8 c7 z7
      go_wp2_with fail
      rw [eZ.out]
      refine (HD.out _).mono ?_
      rintro e w9 ⟨rfl, n9, rfl⟩
      go_wp2_with fail
      go_ret2
      exact ⟨ret_ii en.out.1.symm en.out.2.symm, HO2.out.trans (On.drewN K8.out _)⟩
end Go.Proofs.YtigbbhohgeemdaaDoor.Loss
