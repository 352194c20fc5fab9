
/-
  Plain facts on antennas: when one is valid, its losses between two angles, with no program in them.
-/
import Derived.Test.YtnambnddoebeiaaPlain
import Derived.Test.YtnambnddoebeiaaSin
import Derived.Test.YtnambnddoebeiaaBytes
import Derived.Test.YtnambnddoebeiaaAll
namespace Go.Proofs.Ytnambnddoebeiaa.Ant
open Plain

def lsB (z : Int) : Bool := inB z 0 60000
/-- Whether a list has n losses, the one at m being 0. -/
def lossB (zs : List Int) (n m : Nat) : Bool := decide (zs.length = n) && (decide (zs.getD m 0 = 0) && zs.all lsB)
theorem loss_len {zs : List Int} {n m : Nat} (h : ¬ zs.length = n) : lossB zs n m = false := by unfold lossB; rw [decide_eq_false h]; rfl
theorem loss_main {zs : List Int} {n m : Nat} (h : ¬ zs.getD m 0 = 0) : lossB zs n m = false := by unfold lossB; rw [decide_eq_false h]; simp
theorem loss_all {zs : List Int} {n m : Nat} (h : zs.all lsB = false) : lossB zs n m = false := by unfold lossB; rw [h]; simp
theorem loss_yes {zs : List Int} {n m : Nat} (h1 : zs.length = n) (h2 : zs.getD m 0 = 0) (h3 : zs.all lsB = true) : lossB zs n m = true := by unfold lossB; rw [decide_eq_true h1, decide_eq_true h2, h3]; rfl
theorem of_loss {zs : List Int} {n m : Nat} (h : lossB zs n m = true) : zs.length = n ∧ zs.getD m 0 = 0 ∧ AllTo lsB zs zs.length := by
  unfold lossB at h
  rw [Bool.and_eq_true, Bool.and_eq_true] at h
  exact ⟨of_decide_eq_true h.1, of_decide_eq_true h.2.1, allTo_of h.2.2⟩
/-- Whether an antenna is valid. -/
def okA (s : ByteArray) (g : Int) (hs vs : List Int) : Bool := nameB s.data.toList && (inB g (-60000) 60000 && (lossB hs 36 0 && lossB vs 19 9))
theorem okA_name {s : ByteArray} {g : Int} {hs vs : List Int} (h : nameB s.data.toList = false) : okA s g hs vs = false := by unfold okA; rw [h]; rfl
theorem okA_gain {s : ByteArray} {g : Int} {hs vs : List Int} (h : inB g (-60000) 60000 = false) : okA s g hs vs = false := by unfold okA; rw [h]; simp
theorem okA_h {s : ByteArray} {g : Int} {hs vs : List Int} (h : lossB hs 36 0 = false) : okA s g hs vs = false := by unfold okA; rw [h]; simp
theorem okA_v {s : ByteArray} {g : Int} {hs vs : List Int} (h : lossB vs 19 9 = false) : okA s g hs vs = false := by unfold okA; rw [h]; simp
theorem okA_yes {s : ByteArray} {g : Int} {hs vs : List Int} (h1 : nameB s.data.toList = true) (h2 : inB g (-60000) 60000 = true) (h3 : lossB hs 36 0 = true) (h4 : lossB vs 19 9 = true) : okA s g hs vs = true := by unfold okA; rw [h1, h2, h3, h4]; rfl
theorem of_okA {s : ByteArray} {g : Int} {hs vs : List Int} (h : okA s g hs vs = true) : nameB s.data.toList = true ∧ (-60000 ≤ g ∧ g ≤ 60000) ∧ lossB hs 36 0 = true ∧ lossB vs 19 9 = true := by
  unfold okA at h
  rw [Bool.and_eq_true, Bool.and_eq_true, Bool.and_eq_true] at h
  exact ⟨h.1, of_inB h.2.1, h.2.2.1, h.2.2.2⟩
theorem ls_bd {zs : List Int} {n m i : Nat} (h : lossB zs n m = true) (hi : i < n) : 0 ≤ zs.getD i 0 ∧ zs.getD i 0 ≤ 60000 := by
  obtain ⟨h1, _, h3⟩ := of_loss h
  exact of_inB (h3 i (by omega))
/-- The loss u tenths behind one of two losses. -/
def mix (l m u : Int) : Int := (l * (10 - u) + m * u + 5).tdiv 10
theorem mixb {l m u : Int} (l0 : 0 ≤ l) (l1 : l ≤ 60000) (m0 : 0 ≤ m) (m1 : m ≤ 60000) (u0 : 0 ≤ u) (u1 : u ≤ 10) :
    (0 ≤ l * (10 - u) ∧ l * (10 - u) ≤ 600000) ∧ (0 ≤ m * u ∧ m * u ≤ 600000) := by
  refine ⟨⟨Int.mul_nonneg l0 (by omega), ?_⟩, Int.mul_nonneg m0 u0, ?_⟩
  · have : l * (10 - u) ≤ 60000 * 10 := Int.mul_le_mul l1 (by omega) (by omega) (by omega)
    omega
  · have : m * u ≤ 60000 * 10 := Int.mul_le_mul m1 u1 u0 (by omega)
    omega
theorem mix_bd {l m u : Int} (l0 : 0 ≤ l) (l1 : l ≤ 60000) (m0 : 0 ≤ m) (m1 : m ≤ 60000) (u0 : 0 ≤ u) (u1 : u ≤ 10) : 0 ≤ mix l m u ∧ mix l m u ≤ 60000 := by
  obtain ⟨⟨a, b⟩, c, d⟩ := mixb l0 l1 m0 m1 u0 u1
  have e : l * (10 - u) ≤ 60000 * (10 - u) := Int.mul_le_mul_of_nonneg_right l1 (by omega)
  have e2 : m * u ≤ 60000 * u := Int.mul_le_mul_of_nonneg_right m1 u0
  unfold mix
  rw [Int.tdiv_eq_ediv_of_nonneg (by omega)]
  omega
theorem mix_ten {l m : Int} (m0 : 0 ≤ m) : mix l m 10 = m := by
  unfold mix
  rw [show (10 : Int) - 10 = 0 from rfl, Int.mul_zero, Int.zero_add, Int.tdiv_eq_ediv_of_nonneg (by omega)]
  omega
/-- The horizontal loss, d degrees of a circle from the main direction. -/
def acrossN (hs : List Int) (d : Nat) : Int := mix (hs.getD (d / 10) 0) (hs.getD ((d / 10 + 1) % 36) 0) ((d % 10 : Nat) : Int)
def across (hs : List Int) (angle : Int) : Int := acrossN hs (deg angle)
/-- The vertical loss, d degrees above the direction straight down. -/
def upN (vs : List Int) (d : Nat) : Int := if d = 180 then vs.getD 18 0 else mix (vs.getD (d / 10) 0) (vs.getD (d / 10 + 1) 0) ((d % 10 : Nat) : Int)
def up (vs : List Int) (e : Int) : Int := upN vs (e + 90).toNat
theorem acrossN_bd {hs : List Int} {d : Nat} (h : lossB hs 36 0 = true) (hd : d < 360) : 0 ≤ acrossN hs d ∧ acrossN hs d ≤ 60000 := by
  obtain ⟨a, b⟩ := ls_bd (i := d / 10) h (by omega)
  obtain ⟨c, e⟩ := ls_bd (i := (d / 10 + 1) % 36) h (by omega)
  exact mix_bd a b c e (by omega) (by omega)
theorem upN_bd {vs : List Int} {d : Nat} (h : lossB vs 19 9 = true) (hd : d ≤ 180) : 0 ≤ upN vs d ∧ upN vs d ≤ 60000 := by
  unfold upN
  split
  · exact ls_bd h (by omega)
  · obtain ⟨a, b⟩ := ls_bd (i := d / 10) h (by omega)
    obtain ⟨c, e⟩ := ls_bd (i := d / 10 + 1) h (by omega)
    exact mix_bd a b c e (by omega) (by omega)
/-- The losses of a circle, both ends included. -/
def ring (hs : List Int) (i : Nat) : Int := if i = 36 then hs.getD 0 0 else hs.getD i 0
theorem acrossN_ring (hs : List Int) {d : Nat} (hd : d < 360) : acrossN hs d = mix (ring hs (d / 10)) (ring hs (d / 10 + 1)) ((d % 10 : Nat) : Int) := by
  unfold acrossN ring
  rw [if_neg (by omega)]
  by_cases h : d / 10 + 1 = 36
  · rw [if_pos h, h]
  · rw [if_neg h, Nat.mod_eq_of_lt (by omega)]
theorem upN_clip (vs : List Int) (h : lossB vs 19 9 = true) {d : Nat} (hd : d = 180) : upN vs d = mix (vs.getD 17 0) (vs.getD 18 0) 10 := by
  unfold upN
  rw [if_pos hd, mix_ten (ls_bd h (by omega)).1]
end Go.Proofs.Ytnambnddoebeiaa.Ant
