
/-
  What the functions of the losses of the surroundings return in their bounds, and what the losses of a path are. Condition: the program's variables of spans and of surroundings hold what their texts lay.
-/
import Derived.Test.YtednfkjdidlenaaDoorLossEq
import Derived.Test.YtednfkjdidlenaaDoorLossN
import Derived.Test.YtednfkjdidlenaaDoorRainMono
import Derived.Test.YtednfkjdidlenaaDoorDraw11
namespace Go.Proofs.YtednfkjdidlenaaDoor
open Go.RowKit
theorem On.undrew {w w' : World} (h : On w.drew w') : On w w' := by
  have h' : Below w.drew.heap.size w.drew w' := h
  exact ⟨h'.os, h'.tape, h'.output, h'.size, fun k hk => h'.block k hk⟩
theorem On.last {w w' : World} {o : Obj} (h : On (w.alloc o) w') : w.heap.size < w'.heap.size := by
  have := h.size
  simp at this
  omega
end Go.Proofs.YtednfkjdidlenaaDoor
namespace Go.Proofs.YtednfkjdidlenaaDoor.RainLaw
open Go.RowKit
open Plain
open Span (SpanG)
open Surr (SurrG)
open Ints (Ints)
open Free (okV okC)
open Losses (resL codeL okL pathL clutL classB aboveB)

theorem yes {b : Bool} (h : b = true) (x : Int) : okV b x = x ∧ okC b = 0 := by rw [h]; exact ⟨rfl, rfl⟩
theorem clut_yes (c f a : Int) (w : World) (hg : SpanG w) (hs : SurrG w) (h0 : inB c 0 7 = true) (f0 : 1 ≤ f) (f1 : f ≤ 100000000) (a0 : 0 ≤ a) (a1 : a ≤ 90000) :
    Calls Tryd.prog 8 #[.int .i64 c, .int .i64 f, .int .i64 a] w fun e w' => e = .returned (.tuple #[.int .i64 (clutV c.toNat f a), .int .i64 0]) ∧ On w w' := by
  have h := Loss.impl_ClutterLoss c f a w hg hs
  have ok : Loss.okClutterLoss c f a = true := by unfold Loss.okClutterLoss; rw [h0, inB_yes f0 f1, inB_yes a0 a1]; rfl
  rw [(yes ok _).1, (yes ok 0).2] at h
  exact h
theorem high_yes (c : Int) (w : World) (hg : SpanG w) (hs : SurrG w) (h0 : inB c 0 7 = true) :
    Calls Tryd.prog 9 #[.int .i64 c] w fun e w' => e = .returned (.int .i64 (highV c.toNat)) ∧ On w w' := by
  have h := Loss.impl_ClutterHeight c w hg hs
  rw [show Loss.heightOf c = highV c.toNat by unfold Loss.heightOf; rw [h0]; rfl] at h
  exact h
theorem rain_yes (f r : Int) (w : World) (hg : SpanG w) (f0 : 1 ≤ f) (f1 : f ≤ 100000000) (r0 : 0 ≤ r) (r1 : r ≤ 200) :
    Calls Tryd.prog 7 #[.int .i64 f, .int .i64 r] w fun e w' => e = .returned (.tuple #[.int .i64 (rainS f r), .int .i64 0]) ∧ On w w' := by
  have h := Loss.impl_RainSpecific f r w hg
  have ok : Loss.okRainSpecific f r = true := by unfold Loss.okRainSpecific; rw [inB_yes f0 f1, inB_yes r0 r1]; rfl
  rw [(yes ok _).1, (yes ok 0).2] at h
  exact h
theorem veg_yes (f z : Int) (w : World) (hg : SpanG w) (f0 : 1 ≤ f) (f1 : f ≤ 100000000) (z0 : 0 ≤ z) (z1 : z ≤ 1000) :
    Calls Tryd.prog 11 #[.int .i64 f, .int .i64 z] w fun e w' => e = .returned (.tuple #[.int .i64 (leafL f z), .int .i64 0]) ∧ On w w' := by
  have h := Loss.impl_VegetationLoss f z w hg
  have ok : Loss.okVegetationLoss f z = true := by unfold Loss.okVegetationLoss; rw [inB_yes f0 f1, inB_yes z0 z1]; rfl
  rw [(yes ok _).1, (yes ok 0).2] at h
  exact h
/-- The losses of a path that is as stated. -/
noncomputable def good (f d r K : Int) : Value := .tuple #[.agg #[.int .i64 (freeV f d), .int .i64 (gasL f d), .int .i64 (rainL f r d), .int .i64 K, .int .i64 (freeV f d + gasL f d + rainL f r d + K)], .int .i64 0]
theorem res_good {f d r c0 c1 a0 a1 : Int} (hf : inB f 1 100000000 = true) (hd : inB d 1 283000 = true) (hr : inB r 0 200 = true) (h0 : inB c0 0 7 = true) (h1 : inB c1 0 7 = true) (k0 : inB a0 0 90000 = true) (k1 : inB a1 0 90000 = true) :
    resL f d r [c0, c1] [a0, a1] = good f d r (clutV c0.toNat f a0 + clutV c1.toNat f a1) := by
  have hok := Losses.code_ok (f := f) (d := d) (r := r) (cs := [c0, c1]) (hs := [a0, a1]) ⟨rfl, rfl⟩ (Losses.okL_yes hf hd hr (by simp [classB, h0, h1]) (by simp [aboveB, k0, k1]))
  unfold resL pathL clutL good
  rw [hok]
  rfl
theorem of_code {f d r : Int} {cs hs : List Int} (h : codeL f d r cs hs = 0) : ∃ c0 c1 a0 a1, cs = [c0, c1] ∧ hs = [a0, a1] ∧ inB f 1 100000000 = true ∧ inB d 1 283000 = true ∧ inB r 0 200 = true ∧ inB c0 0 7 = true ∧ inB c1 0 7 = true ∧ inB a0 0 90000 = true ∧ inB a1 0 90000 = true := by
  by_cases hl : cs.length = 2 ∧ hs.length = 2
  · obtain ⟨c0, c1, rfl⟩ := Losses.two_of hl.1
    obtain ⟨a0, a1, rfl⟩ := Losses.two_of hl.2
    cases g : okL f d r [c0, c1] [a0, a1] with
    | false => rw [Losses.code_bad hl g] at h; exact absurd h (by decide)
    | true =>
      unfold okL at g
      simp only [Bool.and_eq_true, List.all_cons, List.all_nil, classB, aboveB, and_true] at g
      exact ⟨c0, c1, a0, a1, rfl, rfl, g.1, g.2.1, g.2.2.1, g.2.2.2.1.1, g.2.2.2.1.2, g.2.2.2.2.1, g.2.2.2.2.2⟩
  · rw [Losses.code_len hl] at h
    exact absurd h (by decide)
theorem res_err {f d r : Int} {cs hs : List Int} (h : codeL f d r cs hs ≠ 0) : ∃ c : Int, c ≠ 0 ∧ resL f d r cs hs = .tuple #[.agg #[.int .i64 0, .int .i64 0, .int .i64 0, .int .i64 0, .int .i64 0], .int .i64 c] := ⟨_, h, Losses.res_bad rfl h⟩
theorem ints2 {w : World} {b cap : Nat} {x y : Int} (h0 : w.cell? ⟨b, 0, none⟩ = some (.int .i64 x)) (h1 : w.cell? ⟨b, 1, none⟩ = some (.int .i64 y)) : Ints w (.slice (some ⟨b, 0, none⟩) 2 cap) [x, y] :=
  ⟨_, _, rfl, fun _ => ⟨b, 0, rfl, World.block_lt_of_cell? w _ h0, fun i hi => by
    have : i = 0 ∨ i = 1 := by simp at hi; omega
    rcases this with rfl | rfl
    · exact h0
    · exact h1⟩⟩
/-- The two lists are there. -/
theorem held4 {W w' : World} {b0 o0 b1 o1 : Nat} {c0 c1 a0 a1 : Int} (x0 : W.cell? ⟨b0, o0, none⟩ = some (.int .i64 c0)) (x1 : W.cell? ⟨b0, o0 + 1, none⟩ = some (.int .i64 c1)) (y0 : W.cell? ⟨b1, o1, none⟩ = some (.int .i64 a0)) (y1 : W.cell? ⟨b1, o1 + 1, none⟩ = some (.int .i64 a1)) (ho : On W w') :
    On W w' ∧ w'.cell? ⟨b0, o0, none⟩ = some (.int .i64 c0) ∧ w'.cell? ⟨b0, o0 + 1, none⟩ = some (.int .i64 c1) ∧ w'.cell? ⟨b1, o1, none⟩ = some (.int .i64 a0) ∧ w'.cell? ⟨b1, o1 + 1, none⟩ = some (.int .i64 a1) := by
  have hb0 := World.block_lt_of_cell? W _ x0
  have hb1 := World.block_lt_of_cell? W _ y0
  exact ⟨ho, (ho.cell (by exact hb0)).trans x0, (ho.cell (by exact hb0)).trans x1, (ho.cell (by exact hb1)).trans y0, (ho.cell (by exact hb1)).trans y1⟩
end Go.Proofs.YtednfkjdidlenaaDoor.RainLaw
