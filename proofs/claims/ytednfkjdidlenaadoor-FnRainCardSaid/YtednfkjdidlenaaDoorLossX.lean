
/-
  The functions of the losses of the surroundings with an error code, in the model and in the program. Condition: the program's variables of spans and of surroundings hold what their texts lay.
-/
import Derived.Test.YtednfkjdidlenaaDoorClut
import Derived.Test.YtednfkjdidlenaaDoorRain
import Derived.Test.YtednfkjdidlenaaDoorFree
namespace Go.Proofs.YtednfkjdidlenaaDoor.Loss
open Go.RowKit
open Plain
open Span (SpanG)
open Surr (SurrG)
open Ints (Ints)
open Free (okV okC ret_ii)

/-- ClutterLoss. -/
def okClutterLoss (c f a : Int) : Bool := inB c 0 7 && inB f 1 100000000 && inB a 0 90000
set_option maxHeartbeats 2000000 in
theorem impl_ClutterLoss (c f a : Int) (w : World) (hg : SpanG w) (hs : SurrG w) :
    Calls Tryd.prog 8 #[.int .i64 c, .int .i64 f, .int .i64 a] w fun e w' => e = .returned (.tuple #[.int .i64 (okV (okClutterLoss c f a) (clutV c.toNat f a)), .int .i64 (okC (okClutterLoss c f a))]) ∧ On w w' := by
  cases h0 : inB c 0 7 with
  | false =>
    have HG := Lib.hid hg
    have HS := Lib.hid hs
    have en := Lib.hid (show okV (okClutterLoss c f a) (clutV c.toNat f a) = 0 ∧ okC (okClutterLoss c f a) = 2 by unfold okClutterLoss; rw [h0]; exact ⟨rfl, rfl⟩)
    go_enter Tryd.func8, Tryd.ntmps8
    go_wp2_with fail
    refine (Span.allows1_6 c _ _ (by simp [go_sem]) (HG.out.on (by repeat (first | with_reducible exact On.refl _ | with_reducible exact On.refl _ | apply On.alloc)))).mono ?_
    rintro e w1 ⟨rfl, k1⟩
    have HO1 := Lib.hid (show On w w1 by refine On.trans ?_ k1; repeat (first | with_reducible exact On.refl _ | apply On.alloc))
    clear k1
    go_wp2_with fail
    go_ret2
    exact ⟨ret_ii en.out.1.symm en.out.2.symm, HO1.out⟩
  | true =>
    cases h1 : inB f 1 100000000 with
    | false =>
      have HG := Lib.hid hg
      have HS := Lib.hid hs
      have en := Lib.hid (show okV (okClutterLoss c f a) (clutV c.toNat f a) = 0 ∧ okC (okClutterLoss c f a) = 2 by unfold okClutterLoss; rw [h0, h1]; exact ⟨rfl, rfl⟩)
      go_enter Tryd.func8, Tryd.ntmps8
      go_wp2_with fail
      refine (Span.allows1_6 c _ _ (by simp [go_sem]) (HG.out.on (by repeat (first | with_reducible exact On.refl _ | with_reducible exact On.refl _ | apply On.alloc)))).mono ?_
      rintro e w1 ⟨rfl, k1⟩
      have HO1 := Lib.hid (show On w w1 by refine On.trans ?_ k1; repeat (first | with_reducible exact On.refl _ | apply On.alloc))
      clear k1
      go_wp2_with fail
      refine (Span.allows1_0 f _ _ (by simp [go_sem]) (HG.out.on (by repeat (first | with_reducible exact On.refl _ | with_reducible exact HO1.out | apply On.alloc)))).mono ?_
      rintro e w2 ⟨rfl, k2⟩
      have HO2 := Lib.hid (show On w w2 by refine On.trans ?_ k2; repeat (first | with_reducible exact On.refl _ | with_reducible exact HO1.out | apply On.alloc))
      clear k2
      go_wp2_with fail
      go_ret2
      exact ⟨ret_ii en.out.1.symm en.out.2.symm, HO2.out⟩
    | true =>
      cases h2 : inB a 0 90000 with
      | false =>
        have HG := Lib.hid hg
        have HS := Lib.hid hs
        have en := Lib.hid (show okV (okClutterLoss c f a) (clutV c.toNat f a) = 0 ∧ okC (okClutterLoss c f a) = 2 by unfold okClutterLoss; rw [h0, h1, h2]; exact ⟨rfl, rfl⟩)
        go_enter Tryd.func8, Tryd.ntmps8
        go_wp2_with fail
        refine (Span.allows1_6 c _ _ (by simp [go_sem]) (HG.out.on (by repeat (first | with_reducible exact On.refl _ | with_reducible exact On.refl _ | apply On.alloc)))).mono ?_
        rintro e w1 ⟨rfl, k1⟩
        have HO1 := Lib.hid (show On w w1 by refine On.trans ?_ k1; repeat (first | with_reducible exact On.refl _ | apply On.alloc))
        clear k1
        go_wp2_with fail
        refine (Span.allows1_0 f _ _ (by simp [go_sem]) (HG.out.on (by repeat (first | with_reducible exact On.refl _ | with_reducible exact HO1.out | apply On.alloc)))).mono ?_
        rintro e w2 ⟨rfl, k2⟩
        have HO2 := Lib.hid (show On w w2 by refine On.trans ?_ k2; repeat (first | with_reducible exact On.refl _ | with_reducible exact HO1.out | apply On.alloc))
        clear k2
        go_wp2_with fail
        refine (Span.allows1_7 a _ _ (by simp [go_sem]) (HG.out.on (by repeat (first | with_reducible exact On.refl _ | with_reducible exact HO2.out | apply On.alloc)))).mono ?_
        rintro e w3 ⟨rfl, k3⟩
        have HO3 := Lib.hid (show On w w3 by refine On.trans ?_ k3; repeat (first | with_reducible exact On.refl _ | with_reducible exact HO2.out | apply On.alloc))
        clear k3
        go_wp2_with fail
        go_ret2
        exact ⟨ret_ii en.out.1.symm en.out.2.symm, HO3.out⟩
      | true =>
        have HG := Lib.hid hg
        have HS := Lib.hid hs
        have en := Lib.hid (show okV (okClutterLoss c f a) (clutV c.toNat f a) = clutV c.toNat f a ∧ okC (okClutterLoss c f a) = 0 by unfold okClutterLoss; rw [h0, h1, h2]; exact ⟨rfl, rfl⟩)
        have b0 := of_inB h0
        obtain ⟨b00, b01⟩ := b0
        have b1 := of_inB h1
        obtain ⟨b10, b11⟩ := b1
        have b2 := of_inB h2
        obtain ⟨b20, b21⟩ := b2
        have HB := Lib.hid (fun w (h : SurrG w) => show Calls Tryd.prog 23 #[.int .i64 f, .int .i64 c, .int .i64 a] w fun e w' => e = .returned (.int .i64 (clutV c.toNat f a)) ∧ On w w' from by have := Clut.impl_clutter c.toNat f a w (by omega) b20 b21 h; rw [Int.toNat_of_nonneg b00] at this; exact this)
        go_enter Tryd.func8, Tryd.ntmps8
        go_wp2_with fail
        refine (Span.allows1_6 c _ _ (by simp [go_sem]) (HG.out.on (by repeat (first | with_reducible exact On.refl _ | with_reducible exact On.refl _ | apply On.alloc)))).mono ?_
        rintro e w1 ⟨rfl, k1⟩
        have HO1 := Lib.hid (show On w w1 by refine On.trans ?_ k1; repeat (first | with_reducible exact On.refl _ | apply On.alloc))
        clear k1
        go_wp2_with fail
        refine (Span.allows1_0 f _ _ (by simp [go_sem]) (HG.out.on (by repeat (first | with_reducible exact On.refl _ | with_reducible exact HO1.out | apply On.alloc)))).mono ?_
        rintro e w2 ⟨rfl, k2⟩
        have HO2 := Lib.hid (show On w w2 by refine On.trans ?_ k2; repeat (first | with_reducible exact On.refl _ | with_reducible exact HO1.out | apply On.alloc))
        clear k2
        go_wp2_with fail
        refine (Span.allows1_7 a _ _ (by simp [go_sem]) (HG.out.on (by repeat (first | with_reducible exact On.refl _ | with_reducible exact HO2.out | apply On.alloc)))).mono ?_
        rintro e w3 ⟨rfl, k3⟩
        have HO3 := Lib.hid (show On w w3 by refine On.trans ?_ k3; repeat (first | with_reducible exact On.refl _ | with_reducible exact HO2.out | apply On.alloc))
        clear k3
        go_wp2_with fail
        refine (HB.out _ (HS.out.on HO3.out)).mono ?_
        rintro e w8 ⟨rfl, k8⟩
        go_wp2_with fail
        go_ret2
        exact ⟨ret_ii en.out.1.symm en.out.2.symm, HO3.out.trans k8⟩
/-- RainSpecific. -/
def okRainSpecific (f r : Int) : Bool := inB f 1 100000000 && inB r 0 200
set_option maxHeartbeats 2000000 in
theorem impl_RainSpecific (f r : Int) (w : World) (hg : SpanG w) :
    Calls Tryd.prog 7 #[.int .i64 f, .int .i64 r] w fun e w' => e = .returned (.tuple #[.int .i64 (okV (okRainSpecific f r) (rainS f r)), .int .i64 (okC (okRainSpecific f r))]) ∧ On w w' := by
  cases h0 : inB f 1 100000000 with
  | false =>
    have HG := Lib.hid hg
    have en := Lib.hid (show okV (okRainSpecific f r) (rainS f r) = 0 ∧ okC (okRainSpecific f r) = 2 by unfold okRainSpecific; rw [h0]; exact ⟨rfl, rfl⟩)
    go_enter Tryd.func7, Tryd.ntmps7
    go_wp2_with fail
    refine (Span.allows1_0 f _ _ (by simp [go_sem]) (HG.out.on (by repeat (first | with_reducible exact On.refl _ | with_reducible exact On.refl _ | apply On.alloc)))).mono ?_
    rintro e w1 ⟨rfl, k1⟩
    have HO1 := Lib.hid (show On w w1 by refine On.trans ?_ k1; repeat (first | with_reducible exact On.refl _ | apply On.alloc))
    clear k1
    go_wp2_with fail
    go_ret2
    exact ⟨ret_ii en.out.1.symm en.out.2.symm, HO1.out⟩
  | true =>
    cases h1 : inB r 0 200 with
    | false =>
      have HG := Lib.hid hg
      have en := Lib.hid (show okV (okRainSpecific f r) (rainS f r) = 0 ∧ okC (okRainSpecific f r) = 2 by unfold okRainSpecific; rw [h0, h1]; exact ⟨rfl, rfl⟩)
      go_enter Tryd.func7, Tryd.ntmps7
      go_wp2_with fail
      refine (Span.allows1_0 f _ _ (by simp [go_sem]) (HG.out.on (by repeat (first | with_reducible exact On.refl _ | with_reducible exact On.refl _ | apply On.alloc)))).mono ?_
      rintro e w1 ⟨rfl, k1⟩
      have HO1 := Lib.hid (show On w w1 by refine On.trans ?_ k1; repeat (first | with_reducible exact On.refl _ | apply On.alloc))
      clear k1
      go_wp2_with fail
      refine (Span.allows1_8 r _ _ (by simp [go_sem]) (HG.out.on (by repeat (first | with_reducible exact On.refl _ | with_reducible exact HO1.out | apply On.alloc)))).mono ?_
      rintro e w2 ⟨rfl, k2⟩
      have HO2 := Lib.hid (show On w w2 by refine On.trans ?_ k2; repeat (first | with_reducible exact On.refl _ | with_reducible exact HO1.out | apply On.alloc))
      clear k2
      go_wp2_with fail
      go_ret2
      exact ⟨ret_ii en.out.1.symm en.out.2.symm, HO2.out⟩
    | true =>
      have HG := Lib.hid hg
      have en := Lib.hid (show okV (okRainSpecific f r) (rainS f r) = rainS f r ∧ okC (okRainSpecific f r) = 0 by unfold okRainSpecific; rw [h0, h1]; exact ⟨rfl, rfl⟩)
      have b0 := of_inB h0
      obtain ⟨b00, b01⟩ := b0
      have b1 := of_inB h1
      obtain ⟨b10, b11⟩ := b1
      have HB := Lib.hid (fun w => Rain.impl_rain f r w (by omega) b01 b10 b11)
      go_enter Tryd.func7, Tryd.ntmps7
      go_wp2_with fail
      refine (Span.allows1_0 f _ _ (by simp [go_sem]) (HG.out.on (by repeat (first | with_reducible exact On.refl _ | with_reducible exact On.refl _ | apply On.alloc)))).mono ?_
      rintro e w1 ⟨rfl, k1⟩
      have HO1 := Lib.hid (show On w w1 by refine On.trans ?_ k1; repeat (first | with_reducible exact On.refl _ | apply On.alloc))
      clear k1
      go_wp2_with fail
      refine (Span.allows1_8 r _ _ (by simp [go_sem]) (HG.out.on (by repeat (first | with_reducible exact On.refl _ | with_reducible exact HO1.out | apply On.alloc)))).mono ?_
      rintro e w2 ⟨rfl, k2⟩
      have HO2 := Lib.hid (show On w w2 by refine On.trans ?_ k2; repeat (first | with_reducible exact On.refl _ | with_reducible exact HO1.out | apply On.alloc))
      clear k2
      go_wp2_with fail
      refine (HB.out _).mono ?_
      rintro e w8 ⟨rfl, k8⟩
      go_wp2_with fail
      go_ret2
      exact ⟨ret_ii en.out.1.symm en.out.2.symm, HO2.out.trans k8⟩
/-- RainLoss. -/
def okRainLoss (f r d : Int) : Bool := inB f 1 100000000 && inB r 0 200 && inB d 1 283000
/-- GasSpecific. -/
def okGasSpecific (f : Int) : Bool := inB f 1 100000000
/-- GasLoss. -/
def okGasLoss (f d : Int) : Bool := inB f 1 100000000 && inB d 1 283000
/-- VegetationLoss. -/
def okVegetationLoss (f z : Int) : Bool := inB f 1 100000000 && inB z 0 1000
set_option maxHeartbeats 2000000 in
theorem impl_VegetationLoss (f z : Int) (w : World) (hg : SpanG w) :
    Calls Tryd.prog 11 #[.int .i64 f, .int .i64 z] w fun e w' => e = .returned (.tuple #[.int .i64 (okV (okVegetationLoss f z) (leafL f z)), .int .i64 (okC (okVegetationLoss f z))]) ∧ On w w' := by
  cases h0 : inB f 1 100000000 with
  | false =>
    have HG := Lib.hid hg
    have en := Lib.hid (show okV (okVegetationLoss f z) (leafL f z) = 0 ∧ okC (okVegetationLoss f z) = 2 by unfold okVegetationLoss; rw [h0]; exact ⟨rfl, rfl⟩)
    go_enter Tryd.func11, Tryd.ntmps11
    go_wp2_with fail
    refine (Span.allows1_0 f _ _ (by simp [go_sem]) (HG.out.on (by repeat (first | with_reducible exact On.refl _ | with_reducible exact On.refl _ | apply On.alloc)))).mono ?_
    rintro e w1 ⟨rfl, k1⟩
    have HO1 := Lib.hid (show On w w1 by refine On.trans ?_ k1; repeat (first | with_reducible exact On.refl _ | apply On.alloc))
    clear k1
    go_wp2_with fail
    go_ret2
    exact ⟨ret_ii en.out.1.symm en.out.2.symm, HO1.out⟩
  | true =>
    cases h1 : inB z 0 1000 with
    | false =>
      have HG := Lib.hid hg
      have en := Lib.hid (show okV (okVegetationLoss f z) (leafL f z) = 0 ∧ okC (okVegetationLoss f z) = 2 by unfold okVegetationLoss; rw [h0, h1]; exact ⟨rfl, rfl⟩)
      go_enter Tryd.func11, Tryd.ntmps11
      go_wp2_with fail
      refine (Span.allows1_0 f _ _ (by simp [go_sem]) (HG.out.on (by repeat (first | with_reducible exact On.refl _ | with_reducible exact On.refl _ | apply On.alloc)))).mono ?_
      rintro e w1 ⟨rfl, k1⟩
      have HO1 := Lib.hid (show On w w1 by refine On.trans ?_ k1; repeat (first | with_reducible exact On.refl _ | apply On.alloc))
      clear k1
      go_wp2_with fail
      refine (Span.allows1_9 z _ _ (by simp [go_sem]) (HG.out.on (by repeat (first | with_reducible exact On.refl _ | with_reducible exact HO1.out | apply On.alloc)))).mono ?_
      rintro e w2 ⟨rfl, k2⟩
      have HO2 := Lib.hid (show On w w2 by refine On.trans ?_ k2; repeat (first | with_reducible exact On.refl _ | with_reducible exact HO1.out | apply On.alloc))
      clear k2
      go_wp2_with fail
      go_ret2
      exact ⟨ret_ii en.out.1.symm en.out.2.symm, HO2.out⟩
    | true =>
      have HG := Lib.hid hg
      have en := Lib.hid (show okV (okVegetationLoss f z) (leafL f z) = leafL f z ∧ okC (okVegetationLoss f z) = 0 by unfold okVegetationLoss; rw [h0, h1]; exact ⟨rfl, rfl⟩)
      have b0 := of_inB h0
      obtain ⟨b00, b01⟩ := b0
      have b1 := of_inB h1
      obtain ⟨b10, b11⟩ := b1
      obtain ⟨t0, t1⟩ := leaf_bd f
      obtain ⟨p0, p1⟩ := leafX_bd (f := f) b10 b11
      have eZ := Lib.hid (show Tab.tabV leafP leafV (f / 1000) * z = leafX f z from rfl)
      have HB := Lib.hid (fun b w hc => show Calls Tryd.prog 26 #[.slice (some ⟨b, 0, none⟩) 4 4, .int .i64 f] w fun e w' => e = .returned (.int .i64 (Tab.tabV leafP leafV (f / 1000))) ∧ On w w' from Tab.impl_at f b leafP leafV 4 2 w Tab.leaf_v rfl hc (by omega) b01)
      have HD := Lib.hid (fun w => show Calls Tryd.prog 27 #[.int .i64 (30000 * leafX f z), .int .i64 (30000 + leafX f z)] w fun e w' => e = .returned (.int .i64 (leafL f z)) ∧ ∃ n, w' = w.drewN n from Arith.nearest (30000 * leafX f z) (30000 + leafX f z) w (by omega) (by omega) (by omega) (by omega) (by omega))
      generalize hT : Tab.tabV leafP leafV (f / 1000) = T at *
      generalize hX : leafX f z = X at *
      have wz1 : 0 ≤ T * z ∧ T * z ≤ 4000000 := by rw [eZ.out]; exact ⟨p0, p1⟩
      clear hT hX
      go_enter Tryd.func11, Tryd.ntmps11
      go_wp2_with fail
      refine (Span.allows1_0 f _ _ (by simp [go_sem]) (HG.out.on (by repeat (first | with_reducible exact On.refl _ | with_reducible exact On.refl _ | apply On.alloc)))).mono ?_
      rintro e w1 ⟨rfl, k1⟩
      have HO1 := Lib.hid (show On w w1 by refine On.trans ?_ k1; repeat (first | with_reducible exact On.refl _ | apply On.alloc))
      clear k1
      go_wp2_with fail
      refine (Span.allows1_9 z _ _ (by simp [go_sem]) (HG.out.on (by repeat (first | with_reducible exact On.refl _ | with_reducible exact HO1.out | apply On.alloc)))).mono ?_
      rintro e w2 ⟨rfl, k2⟩
      have HO2 := Lib.hid (show On w w2 by refine On.trans ?_ k2; repeat (first | with_reducible exact On.refl _ | with_reducible exact HO1.out | apply On.alloc))
      clear k2
      go_wp2_with fail
      refine (Tab.impl_leaves _).mono ?_
      rintro e w7 ⟨rfl, k7, c7, z7⟩
      go_wp2_with fail
      refine (HB.out _ _ c7).mono ?_
      rintro e w8 ⟨rfl, k8⟩
      have K8 := Lib.hid (On.trans k7 k8)
      clear k7 k8 c7 z7
      go_wp2_with fail
      rw [eZ.out]
      refine (HD.out _).mono ?_
      rintro e w9 ⟨rfl, n9, rfl⟩
      go_wp2_with fail
      go_ret2
      exact ⟨ret_ii en.out.1.symm en.out.2.symm, HO2.out.trans (On.drewN K8.out _)⟩
end Go.Proofs.YtednfkjdidlenaaDoor.Loss
