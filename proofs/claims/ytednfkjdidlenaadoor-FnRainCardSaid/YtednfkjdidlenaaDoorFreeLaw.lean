
/-
  Plain facts on the greatest distances for a loss and for a field, and what the functions of free space return in and out of their bounds.
-/
import Derived.Test.YtednfkjdidlenaaDoorFar
import Derived.Test.YtednfkjdidlenaaDoorDraw9
namespace Go.Proofs.YtednfkjdidlenaaDoor.FreeLaw
open Go.RowKit
open Plain
open Span (SpanG)
open Free (okV okC)
open Far (valLoss codeLoss valField codeField okLoss okField)

theorem range_cases (f z : Int) : (codeLoss f z = 0 ∧ ∃ k : Int, 1 ≤ k ∧ k ≤ 283000 ∧ valLoss f z = k ∧ 1 ≤ f ∧ f ≤ 100000000 ∧ freeV f k ≤ z ∧ (k < 283000 → z < freeV f (k + 1))) ∨ codeLoss f z ≠ 0 := by
  cases h : okLoss f z with
  | false =>
    obtain ⟨_, h2⟩ := Far.no_Loss h
    exact .inr (by rw [h2]; decide)
  | true =>
    obtain ⟨h1, h2⟩ := Far.yes_Loss h
    unfold okLoss at h
    rw [Bool.and_eq_true] at h
    have hf := of_inB h.1
    obtain ⟨m, hm⟩ : ∃ m, leadN (lossP f z) 283000 = m := ⟨_, rfl⟩
    by_cases h0 : m = 0
    · subst h0
      exact .inr (by rw [h2, (far_none hm).2]; decide)
    · obtain ⟨e1, e2⟩ := far_some hm h0
      obtain ⟨s1, s2⟩ := lead_spec (lossP f z) 283000
      have hle := lead_le (lossP f z) 283000
      rw [hm] at s1 s2 hle
      refine .inl ⟨by rw [h2, e2], (m : Int), by omega, by omega, by rw [h1, e1], hf.1, hf.2, ?_, fun hk => ?_⟩
      · have := of_decide_eq_true (s1 (m - 1) (by omega))
        rw [show ((m - 1 : Nat) : Int) + 1 = (m : Int) by omega] at this
        exact this
      · rcases s2 with s2 | s2
        · omega
        · have := of_decide_eq_false s2
          omega
theorem reach {v d : Int} (v0 : -300000 ≤ v) (v1 : v ≤ 300000) (d0 : 1 ≤ d) (d1 : d ≤ 283000) (e0 : -300000 ≤ fieldV v d) (e1 : fieldV v d ≤ 300000) : codeField v (fieldV v d) = 0 ∧ d ≤ valField v (fieldV v d) := by
  have hok : okField v (fieldV v d) = true := by unfold okField; rw [inB_yes v0 v1, inB_yes e0 e1]; rfl
  obtain ⟨h1, h2⟩ := Far.yes_Field hok
  obtain ⟨m, hm⟩ : ∃ m, leadN (fieldP v (fieldV v d)) 283000 = m := ⟨_, rfl⟩
  obtain ⟨s1, s2⟩ := lead_spec (fieldP v (fieldV v d)) 283000
  rw [hm] at s1 s2
  have hd : d ≤ (m : Int) := by
    rcases s2 with s2 | s2
    · omega
    · by_cases g : d ≤ (m : Int)
      · exact g
      · have q := of_decide_eq_false s2
        have := fieldV_mono (e := v) (a := (m : Int) + 1) (b := d) (by omega) (by omega)
        omega
  obtain ⟨e1, e2⟩ := far_some hm (by omega)
  exact ⟨by rw [h2, e2], by rw [h1, e1]; exact hd⟩
theorem okC_zero {b : Bool} (h : okC b = 0) : b = true := by cases b with | true => rfl | false => exact absurd h (by decide)
theorem okV_true {b : Bool} (h : b = true) (x : Int) : okV b x = x := by rw [h]; rfl
theorem ok_free {f d : Int} (h : okC (Free.okFreeLoss f d) = 0) : (1 ≤ f ∧ f ≤ 100000000) ∧ 1 ≤ d ∧ d ≤ 283000 := by
  have := okC_zero h
  unfold Free.okFreeLoss at this
  rw [Bool.and_eq_true] at this
  exact ⟨of_inB this.1, of_inB this.2⟩
theorem ok_level {e f : Int} (h : okC (Free.okLevelOfField e f) = 0) : (-300000 ≤ e ∧ e ≤ 300000) ∧ 1 ≤ f ∧ f ≤ 100000000 := by
  have := okC_zero h
  unfold Free.okLevelOfField at this
  rw [Bool.and_eq_true] at this
  exact ⟨of_inB this.1, of_inB this.2⟩
/-- The next metre loses no less. -/
theorem no_less {f d : Int} : ¬ (okC (Free.okFreeLoss f d) = 0 ∧ okC (Free.okFreeLoss f (d + 1)) = 0 ∧ okV (Free.okFreeLoss f (d + 1)) (freeV f (d + 1)) < okV (Free.okFreeLoss f d) (freeV f d)) := by
  rintro ⟨h1, h2, h3⟩
  have g := ok_free h1
  rw [okV_true (okC_zero h1), okV_true (okC_zero h2)] at h3
  have := freeV_mono (f := f) (a := d) (b := d + 1) (by omega) (by omega)
  omega
/-- A level that is not cut off is the power less the loss. -/
theorem level_is {f d v : Int} : ¬ (okC (Free.okLevelOfField (fieldV v d) f) = 0 ∧ okC (Free.okFreeLoss f d) = 0 ∧ 0 < okV (Free.okFreeLoss f d) (freeV f d) ∧ okV (Free.okLevelOfField (fieldV v d) f) (fieldV v d - 2 * logDb f - 17219) ≠ v - okV (Free.okFreeLoss f d) (freeV f d)) := by
  rintro ⟨h1, h2, h3, h4⟩
  rw [okV_true (okC_zero h2)] at h3 h4
  rw [okV_true (okC_zero h1)] at h4
  unfold fieldV at h4
  unfold freeV at h3 h4
  split at h3 <;> omega
theorem ok_bd {b : Bool} {x lo hi : Int} (h0 : lo ≤ 0) (h1 : 0 ≤ hi) (a : lo ≤ x) (c : x ≤ hi) : lo ≤ okV b x ∧ okV b x ≤ hi := by cases b with | true => exact ⟨a, c⟩ | false => exact ⟨h0, h1⟩
theorem code_up {w w' : World} {v : Value} (h : Src.Code w w.heap.size v) (ho : On w w') : Src.Code w' w'.heap.size v := by
  obtain ⟨a, len, cap, hv, hl, hc⟩ := h.on ho
  refine ⟨a, len, cap, hv, hl, fun h0 => ?_⟩
  obtain ⟨b, off, ha, hb, hr⟩ := hc h0
  exact ⟨b, off, ha, ho.lts _ hb, hr⟩
end Go.Proofs.YtednfkjdidlenaaDoor.FreeLaw
