
/-
  Plain facts on a table of places and values between which a line is drawn, with no program in them.
-/
import Derived.Test.YtednfkjdidlenaaDoorLine
namespace Go.Proofs.YtednfkjdidlenaaDoor.Tab
open Plain
open Line (line line_first line_last line_mid)

def segFrom (ps : List Int) (x : Int) : Nat → Nat → Nat
  | 0, i => i
  | m + 1, i => if ps.getD i 0 < x then segFrom ps x m (i + 1) else i
/-- The row up to which x lies: from 1 to the last. -/
def seg (ps : List Int) (x : Int) : Nat := segFrom ps x (ps.length - 2) 1
theorem segFrom_at (ps : List Int) (x : Int) (k : Nat) : ∀ (m i : Nat), i ≤ k → k ≤ i + m → (∀ j, i ≤ j → j < k → ps.getD j 0 < x) → (k = i + m ∨ ¬ ps.getD k 0 < x) → segFrom ps x m i = k
  | 0, i, h1, h2, _, _ => by unfold segFrom; omega
  | m + 1, i, h1, h2, h3, h4 => by
    unfold segFrom
    by_cases h : i = k
    · subst h
      rcases h4 with h4 | h4
      · omega
      · rw [if_neg h4]
    · rw [if_pos (h3 i (Nat.le_refl _) (by omega))]
      exact segFrom_at ps x k m (i + 1) (by omega) (by omega) (fun j a b => h3 j (by omega) b) (by rcases h4 with h4 | h4; exact .inl (by omega); exact .inr h4)
theorem seg_at {ps : List Int} {x : Int} {k : Nat} (h1 : 1 ≤ k) (h2 : k < ps.length) (h3 : ∀ j, 1 ≤ j → j < k → ps.getD j 0 < x) (h4 : k + 1 = ps.length ∨ ¬ ps.getD k 0 < x) : seg ps x = k :=
  segFrom_at ps x k (ps.length - 2) 1 h1 (by omega) h3 (by rcases h4 with h4 | h4; exact .inl (by omega); exact .inr h4)
theorem segFrom_in (ps : List Int) (x : Int) : ∀ (m i : Nat), i ≤ segFrom ps x m i ∧ segFrom ps x m i ≤ i + m
  | 0, i => by unfold segFrom; omega
  | m + 1, i => by
    unfold segFrom
    have := segFrom_in ps x m (i + 1)
    split <;> omega
theorem seg_in {ps : List Int} {x : Int} (h : 2 ≤ ps.length) : 1 ≤ seg ps x ∧ seg ps x < ps.length := by
  have := segFrom_in ps x (ps.length - 2) 1
  unfold seg
  omega
/-- The value of a table at a place. -/
def tabV (ps vs : List Int) (x : Int) : Int := line (ps.getD (seg ps x - 1) 0) (vs.getD (seg ps x - 1) 0) (ps.getD (seg ps x) 0) (vs.getD (seg ps x) 0) x
theorem tab_mid {ps vs : List Int} {x : Int} {k : Nat} (h1 : 1 ≤ k) (h2 : k < ps.length) (h3 : ∀ j, 1 ≤ j → j < k → ps.getD j 0 < x) (h4 : k + 1 = ps.length ∨ ¬ ps.getD k 0 < x) :
    tabV ps vs x = line (ps.getD (k - 1) 0) (vs.getD (k - 1) 0) (ps.getD k 0) (vs.getD k 0) x := by
  unfold tabV
  rw [seg_at h1 h2 h3 h4]
theorem tab_first {ps vs : List Int} {x : Int} (h2 : 2 ≤ ps.length) (hs : ps.getD 0 0 ≤ ps.getD 1 0) (h : x ≤ ps.getD 0 0) : tabV ps vs x = vs.getD 0 0 := by
  rw [tab_mid (k := 1) (Nat.le_refl _) (by omega) (fun j a b => by omega) (.inr (by omega))]
  exact line_first (.inl h)
theorem tab_last {ps vs : List Int} {x : Int} {n : Nat} (hn : ps.length = n + 2) (hs : ps.getD n 0 < ps.getD (n + 1) 0) (h : ∀ j, 1 ≤ j → j < n + 2 → ps.getD j 0 < x) : tabV ps vs x = vs.getD (n + 1) 0 := by
  have h1 := h (n + 1) (by omega) (by omega)
  rw [tab_mid (k := n + 1) (by omega) (by omega) (fun j a b => h j a (by omega)) (.inl (by omega))]
  rw [show n + 1 - 1 = n by omega]
  exact line_last (by omega) hs (by omega)
/-- A part of a difference lies between 0 and the difference. -/
theorem near_part {d t n : Int} (hn : 0 < n) (t0 : 0 ≤ t) (t1 : t ≤ n) : (0 ≤ d → 0 ≤ near (d * t) n ∧ near (d * t) n ≤ d) ∧ (d ≤ 0 → d ≤ near (d * t) n ∧ near (d * t) n ≤ 0) := by
  have key : ∀ e : Int, 0 ≤ e → 0 ≤ near (e * t) n ∧ near (e * t) n ≤ e := fun e he => by
    have p0 : 0 ≤ e * t := Int.mul_nonneg he t0
    have p1 : e * t ≤ e * n := Int.mul_le_mul_of_nonneg_left t1 he
    rw [near_div_pp _ _ hn p0]
    refine ⟨Int.ediv_nonneg (by omega) (by omega), ?_⟩
    refine Int.le_of_lt_add_one (Int.ediv_lt_of_lt_mul (by omega) ?_)
    rw [Int.add_mul, Int.one_mul, show e * (2 * n) = 2 * (e * n) by rw [Int.mul_left_comm]]
    omega
  refine ⟨key d, fun hd => ?_⟩
  have h := key (-d) (by omega)
  by_cases h0 : d * t = 0
  · rw [h0, near_zero _ (by omega)]; omega
  · rw [Int.neg_mul, near_neg _ _ h0] at h
    omega
theorem line_bd {x0 y0 x1 y1 x lo hi : Int} (a0 : lo ≤ y0) (a1 : y0 ≤ hi) (b0 : lo ≤ y1) (b1 : y1 ≤ hi) : lo ≤ line x0 y0 x1 y1 x ∧ line x0 y0 x1 y1 x ≤ hi := by
  unfold line
  split
  · exact ⟨a0, a1⟩
  · split
    · exact ⟨b0, b1⟩
    · have h := near_part (d := y1 - y0) (t := x - x0) (n := x1 - x0) (by omega) (by omega) (by omega)
      by_cases g : 0 ≤ y1 - y0
      · have := h.1 g; omega
      · have := h.2 (by omega); omega
theorem getD_all {p : Int → Prop} {l : List Int} (h : ∀ v ∈ l, p v) {k : Nat} (hk : k < l.length) : p (l.getD k 0) := by
  rw [List.getD_eq_getElem?_getD, List.getElem?_eq_getElem hk]
  exact h _ (List.getElem_mem hk)
theorem tab_bd {ps vs : List Int} {x lo hi : Int} (hp : 2 ≤ ps.length) (hl : vs.length = ps.length) (h : ∀ v ∈ vs, lo ≤ v ∧ v ≤ hi) : lo ≤ tabV ps vs x ∧ tabV ps vs x ≤ hi := by
  obtain ⟨s1, s2⟩ := seg_in (x := x) hp
  have h1 := getD_all h (k := seg ps x - 1) (by omega)
  have h2 := getD_all h (k := seg ps x) (by omega)
  exact line_bd h1.1 h1.2 h2.1 h2.2
end Go.Proofs.YtednfkjdidlenaaDoor.Tab
