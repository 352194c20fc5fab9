
/-
  Plain facts on losses and fields in free space and on the greatest distance for them, with no program in them.
-/
import Derived.Test.YtednfkjdidlenaaDoorPowPlain
import Derived.Test.YtednfkjdidlenaaDoorLead
namespace Go.Proofs.YtednfkjdidlenaaDoor.Plain

theorem logDb_mono {a b : Int} (h0 : 1 ≤ a) (h : a ≤ b) : logDb a ≤ logDb b := by
  unfold logDb
  rw [if_neg (by omega), if_neg (by omega)]
  exact log_mono (by omega) (by omega)
/-- The loss at a frequency and a distance. -/
def freeV (f d : Int) : Int := if 2 * logDb d + 2 * logDb f - 87552 ≤ 0 then 0 else 2 * logDb d + 2 * logDb f - 87552
theorem freeV_bd {f d : Int} (h1 : f ≤ 100000000) (h2 : d ≤ 283000) : 0 ≤ freeV f d ∧ freeV f d ≤ 672444 := by
  have a := logDb_bd (n := f) (by omega)
  have b := logDb_bd (n := d) (by omega)
  unfold freeV
  split <;> omega
theorem freeV_mono {f a b : Int} (h0 : 1 ≤ a) (h : a ≤ b) : freeV f a ≤ freeV f b := by
  have := logDb_mono h0 h
  unfold freeV
  split <;> split <;> omega
/-- The field of a level at a distance. -/
def fieldV (e d : Int) : Int := e - 2 * logDb d + 104771
theorem fieldV_bd {e d : Int} (h0 : -300000 ≤ e) (h1 : e ≤ 300000) (h2 : d ≤ 283000) : -700000 ≤ fieldV e d ∧ fieldV e d ≤ 500000 := by
  have b := logDb_bd (n := d) (by omega)
  unfold fieldV
  omega
theorem fieldV_mono {e a b : Int} (h0 : 1 ≤ a) (h : a ≤ b) : fieldV e b ≤ fieldV e a := by
  have := logDb_mono h0 h
  unfold fieldV
  omega
/-- Whether the distance k + 1 is near enough. -/
def lossP (f loss : Int) (k : Nat) : Bool := decide (freeV f ((k : Int) + 1) ≤ loss)
def fieldP (e field : Int) (k : Nat) : Bool := decide (field ≤ fieldV e ((k : Int) + 1))
theorem lossP_mono (f loss : Int) (n : Nat) : Mono (lossP f loss) n := fun i j h _ hj => by
  have h1 := of_decide_eq_true hj
  have := freeV_mono (f := f) (a := (i : Int) + 1) (b := (j : Int) + 1) (by omega) (by omega)
  exact decide_eq_true (by omega)
theorem fieldP_mono (e field : Int) (n : Nat) : Mono (fieldP e field) n := fun i j h _ hj => by
  have h1 := of_decide_eq_true hj
  have := fieldV_mono (e := e) (a := (i : Int) + 1) (b := (j : Int) + 1) (by omega) (by omega)
  exact decide_eq_true (by omega)
/-- The greatest distance, and its code. -/
def farV (p : Nat → Bool) : Int := (leadN p 283000 : Nat)
def farC (p : Nat → Bool) : Int := if leadN p 283000 = 0 then 3 else 0
theorem far_none {p : Nat → Bool} (h : leadN p 283000 = 0) : farV p = 0 ∧ farC p = 3 := by unfold farV farC; rw [h]; exact ⟨rfl, rfl⟩
theorem far_some {p : Nat → Bool} {k : Nat} (h : leadN p 283000 = k) (hk : k ≠ 0) : farV p = k ∧ farC p = 0 := by unfold farV farC; rw [h, if_neg hk]; exact ⟨rfl, rfl⟩
end Go.Proofs.YtednfkjdidlenaaDoor.Plain
