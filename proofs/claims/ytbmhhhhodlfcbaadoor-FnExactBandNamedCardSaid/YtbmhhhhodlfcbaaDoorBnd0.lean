
/-
  Bands: their validity in plain words, and what the laws' copy, comparison and count of them return. Condition: at most 1048576 bytes in the name.
-/
import Derived.Test.YtbmhhhhodlfcbaaDoorOn
import Derived.Test.YtbmhhhhodlfcbaaDoorOnH
import Derived.Test.YtbmhhhhodlfcbaaDoorPlain
import Derived.Test.YtbmhhhhodlfcbaaDoorArith
import Derived.Test.YtbmhhhhodlfcbaaDoorText1
namespace Go.Proofs.YtbmhhhhodlfcbaaDoor.Bnd
open Go.RowKit
open Plain

def quo (l h r : Int) : Int := Int.tdiv (h - l) r
def okN (n : Bool) (l h r d : Int) : Bool := n && (inB l 1 100000000 && (inB h 1 100000000 && (inB r 1 100000 && (inB (quo l h r) 1 1000 && (decide (d = 0) || (decide (h - l ≤ d) && decide (h + d ≤ 100000000)))))))
def okB (x : ByteArray) (l h r d : Int) : Bool := okN (nameB x.data.toList) l h r d
theorem quo_pos {l h r : Int} (hr : 1 ≤ r) (hq : 1 ≤ quo l h r) : 1 ≤ h - l := by
  unfold quo at hq
  refine Int.not_lt.1 fun hc => ?_
  have e1 : Int.tdiv (h - l) r = -Int.tdiv (l - h) r := by rw [← Int.neg_tdiv]; congr 1; omega
  have e2 : 0 ≤ Int.tdiv (l - h) r := Int.tdiv_nonneg (by omega) (by omega)
  omega
theorem quo_range {l h r : Int} (hr : 1 ≤ r) (h1 : 1 ≤ l) (h2 : l ≤ 100000000) (h3 : 1 ≤ h) (h4 : h ≤ 100000000) : -100000000 ≤ quo l h r ∧ quo l h r ≤ 100000000 := by
  unfold quo
  by_cases hc : 0 ≤ h - l
  · have e2 : 0 ≤ Int.tdiv (h - l) r := Int.tdiv_nonneg hc (by omega)
    have e3 : Int.tdiv (h - l) r ≤ h - l := Int.tdiv_le_self _ hc
    omega
  · have e1 : Int.tdiv (h - l) r = -Int.tdiv (l - h) r := by rw [← Int.neg_tdiv]; congr 1; omega
    have e2 : 0 ≤ Int.tdiv (l - h) r := Int.tdiv_nonneg (by omega) (by omega)
    have e3 : Int.tdiv (l - h) r ≤ l - h := Int.tdiv_le_self _ (by omega)
    omega
/-- A channel's first frequency lies so that the whole channel is in the band. -/
theorem chan_in {l h r c : Int} (hr : 1 ≤ r) (hq : 1 ≤ quo l h r) (c0 : 0 ≤ c) (c1 : c ≤ quo l h r - 1) : 0 ≤ c * r ∧ c * r + r ≤ h - l := by
  have hp := quo_pos hr hq
  have e1 : Int.tdiv (h - l) r * r ≤ h - l := by
    have := Int.tdiv_mul_le (h - l) (b := r) (by omega)
    rw [Int.tdiv_eq_ediv_of_nonneg (by omega)]
    exact Int.ediv_mul_le _ (by omega)
  refine ⟨Int.mul_nonneg c0 (by omega), ?_⟩
  have e2 : (c + 1) * r ≤ Int.tdiv (h - l) r * r := Int.mul_le_mul_of_nonneg_right (by unfold quo at c1; omega) (by omega)
  rw [Int.add_mul] at e2
  omega
theorem quo_end {l h r : Int} (hr : 1 ≤ r) (hp : 0 ≤ h - l) : 0 ≤ quo l h r * r ∧ quo l h r * r ≤ h - l ∧ h - l < quo l h r * r + r := by
  unfold quo
  rw [Int.tdiv_eq_ediv_of_nonneg hp]
  have e0 : 0 ≤ (h - l) / r := Int.ediv_nonneg hp (by omega)
  have e1 : (h - l) / r * r ≤ h - l := Int.ediv_mul_le _ (by omega)
  have e2 : h - l < ((h - l) / r + 1) * r := Int.lt_ediv_add_one_mul_self _ (by omega)
  rw [Int.add_mul] at e2
  exact ⟨Int.mul_nonneg e0 (by omega), e1, by omega⟩
theorem ok_0 {l h r d : Int} : okN false l h r d = false := rfl
theorem ok_1 {n : Bool} {l h r d : Int} (h1 : inB l 1 100000000 = false) : okN n l h r d = false := by unfold okN; rw [h1]; simp
theorem ok_2 {n : Bool} {l h r d : Int} (h1 : inB h 1 100000000 = false) : okN n l h r d = false := by unfold okN; rw [h1]; simp
theorem ok_3 {n : Bool} {l h r d : Int} (h1 : inB r 1 100000 = false) : okN n l h r d = false := by unfold okN; rw [h1]; simp
theorem ok_4 {n : Bool} {l h r d : Int} (h1 : inB (quo l h r) 1 1000 = false) : okN n l h r d = false := by unfold okN; rw [h1]; simp
theorem ok_5 {n : Bool} {l h r d : Int} (h1 : inB d 0 100000000 = false) : okN n l h r d = false := by
  cases h2 : okN n l h r d with
  | false => rfl
  | true =>
    exfalso
    unfold okN at h2
    simp only [Bool.and_eq_true, Bool.or_eq_true, decide_eq_true_eq] at h2
    obtain ⟨_, a1, a2, a3, a4, a5⟩ := h2
    have b1 := of_inB a1
    have b3 := of_inB a3
    have b4 := of_inB a4
    have b2 := of_inB a2
    have b5 := quo_pos b3.1 b4.1
    have : inB d 0 100000000 = true := inB_yes (by omega) (by omega)
    rw [this] at h1
    cases h1
theorem ok_zero {l h r : Int} (h1 : inB l 1 100000000 = true) (h2 : inB h 1 100000000 = true) (h3 : inB r 1 100000 = true) (h4 : inB (quo l h r) 1 1000 = true) : okN true l h r 0 = true := by unfold okN; rw [h1, h2, h3, h4]; rfl
theorem ok_main {l h r d : Int} (h1 : inB l 1 100000000 = true) (h2 : inB h 1 100000000 = true) (h3 : inB r 1 100000 = true) (h4 : inB (quo l h r) 1 1000 = true) (h5 : ¬ d = 0) : okN true l h r d = (decide (h - l ≤ d) && decide (h + d ≤ 100000000)) := by unfold okN; rw [h1, h2, h3, h4, decide_eq_false h5]; rfl
theorem of_okB {x : ByteArray} {l h r d : Int} (hk : okB x l h r d = true) : (1 ≤ l ∧ l ≤ 100000000) ∧ (1 ≤ h ∧ h ≤ 100000000) ∧ (1 ≤ r ∧ r ≤ 100000) ∧ (1 ≤ quo l h r ∧ quo l h r ≤ 1000) ∧ 0 ≤ d ∧ d ≤ 100000000 := by
  unfold okB okN at hk
  simp only [Bool.and_eq_true, Bool.or_eq_true, decide_eq_true_eq] at hk
  obtain ⟨_, a1, a2, a3, a4, a5⟩ := hk
  have b1 := of_inB a1
  have b2 := of_inB a2
  have b3 := of_inB a3
  have b4 := of_inB a4
  have b5 := quo_pos b3.1 b4.1
  exact ⟨b1, b2, b3, b4, by omega, by omega⟩
/-- The block g holds the band. -/
def In (w : World) (g : Nat) (x : ByteArray) (l h r d : Int) : Prop := w.cell? ⟨g, 0, none⟩ = some (.string x) ∧ w.cell? ⟨g, 1, none⟩ = some (.int .i64 l) ∧ w.cell? ⟨g, 2, none⟩ = some (.int .i64 h) ∧ w.cell? ⟨g, 3, none⟩ = some (.int .i64 r) ∧ w.cell? ⟨g, 4, none⟩ = some (.int .i64 d)
theorem In.lt {w : World} {g : Nat} {x : ByteArray} {l h r d : Int} (hi : In w g x l h r d) : g < w.heap.size := World.block_lt_of_cell? w _ hi.1
theorem In.on {w w' : World} {g : Nat} {x : ByteArray} {l h r d : Int} (hi : In w g x l h r d) (ho : On w w') : In w' g x l h r d :=
  ⟨(ho.cell (by exact hi.lt)).trans hi.1, (ho.cell (by exact hi.lt)).trans hi.2.1, (ho.cell (by exact hi.lt)).trans hi.2.2.1, (ho.cell (by exact hi.lt)).trans hi.2.2.2.1, (ho.cell (by exact hi.lt)).trans hi.2.2.2.2⟩
set_option maxHeartbeats 1000000 in
theorem copy (x : ByteArray) (l h r d : Int) (w : World) :
    Calls Tryd.prog 14 #[.agg #[.string x, .int .i64 l, .int .i64 h, .int .i64 r, .int .i64 d]] w fun e w' => e = .returned (.agg #[.string x, .int .i64 l, .int .i64 h, .int .i64 r, .int .i64 d]) ∧ On w w' := by
  go_enter Tryd.func14, Tryd.ntmps14
  go_wp2_with fail
  refine bodyPost_ret (v := .agg #[.string x, .int .i64 l, .int .i64 h, .int .i64 r, .int .i64 d]) (by simp [results, Tryd.results14, go_sem]) rfl ⟨rfl, ?_⟩
  repeat (first | with_reducible exact On.refl _ | apply On.alloc | apply On.drewN | refine On.setCell ?_ (by (try simp) <;> omega) _)
/-- What is left of a count behind a text. -/
def left (m : Nat) (s : Nat) : Int := if s ≤ m then ((m - s : Nat) : Int) else -1
theorem left_or (m s : Nat) : left m s = -1 ∨ ∃ k : Nat, left m s = (k : Int) ∧ k ≤ m ∧ s ≤ m := by
  unfold left
  by_cases h : s ≤ m
  · exact .inr ⟨m - s, if_pos h, by omega, h⟩
  · exact .inl (if_neg h)
theorem count (m : Nat) (x : ByteArray) (l h r d : Int) (w : World) (hm : m ≤ 1048576) (hx : x.size ≤ maxLen) :
    Calls Tryd.prog 12 #[.agg #[.string x, .int .i64 l, .int .i64 h, .int .i64 r, .int .i64 d], .int .i64 m] w fun e w' => e = .returned (.int .i64 (left m x.size)) ∧ On w w' := by
  unfold maxLen at hx
  by_cases hle : x.size ≤ m
  · have en := Lib.hid (show (m : Int) - (x.size : Int) = left m x.size by unfold left; rw [if_pos hle]; omega)
    have h0 : ¬ (m : Int) - (x.size : Int) < 0 := by omega
    go_enter Tryd.func12, Tryd.ntmps12
    go_wp2_with fail
    go_ret
    exact ⟨ret_int en.out, by repeat (first | with_reducible exact On.refl _ | apply On.alloc)⟩
  · have en := Lib.hid (show (-1 : Int) = left m x.size by unfold left; rw [if_neg hle])
    have h0 : (m : Int) - (x.size : Int) < 0 := by omega
    go_enter Tryd.func12, Tryd.ntmps12
    go_wp2_with fail
    go_ret
    exact ⟨ret_int en.out, by repeat (first | with_reducible exact On.refl _ | apply On.alloc)⟩
set_option maxHeartbeats 1000000 in
theorem eq (x : ByteArray) (l h r d : Int) (w : World) :
    Calls Tryd.prog 18 #[.agg #[.string x, .int .i64 l, .int .i64 h, .int .i64 r, .int .i64 d], .agg #[.string x, .int .i64 l, .int .i64 h, .int .i64 r, .int .i64 d]] w fun e w' => e = .returned (.bool true) ∧ On w w' := by
  go_enter Tryd.func18, Tryd.ntmps18
  go_wp2_with fail
  go_ret
  exact ⟨rfl, by repeat (first | with_reducible exact On.refl _ | apply On.alloc | apply On.drewN)⟩
end Go.Proofs.YtbmhhhhodlfcbaaDoor.Bnd
