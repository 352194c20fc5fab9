
/-
  Plain facts on masks: when one is valid, its loss, with no program in them.
-/
import Derived.Test.YtnambnddoebeiaaDoorPlain
import Derived.Test.YtnambnddoebeiaaDoorLead
import Derived.Test.YtnambnddoebeiaaDoorLine
namespace Go.Proofs.YtnambnddoebeiaaDoor.Msk
open Plain
open Line (line line_first line_last line_mid)

/-- The number at k is at most a limit, 0 if it is the first one, and otherwise by a step or more above the one before. -/
def stepAt (s lim : Int) (zs : List Int) (k : Nat) : Bool := decide (zs.getD k 0 ≤ lim) && (decide (k = 0 → zs.getD 0 0 = 0) && decide (0 < k → zs.getD (k - 1) 0 + s ≤ zs.getD k 0))
theorem step_hi {s lim : Int} {zs : List Int} {k : Nat} (h : ¬ zs.getD k 0 ≤ lim) : stepAt s lim zs k = false := by unfold stepAt; rw [decide_eq_false h]; rfl
theorem step_0 {s lim : Int} {zs : List Int} (h : ¬ zs.getD 0 0 = 0) : stepAt s lim zs 0 = false := by
  have e : decide (0 = 0 → zs.getD 0 0 = 0) = false := decide_eq_false (fun g => h (g rfl))
  unfold stepAt; rw [e]; simp
theorem step_s {s lim : Int} {zs : List Int} {k : Nat} (h : ¬ zs.getD k 0 + s ≤ zs.getD (k + 1) 0) : stepAt s lim zs (k + 1) = false := by
  have e : decide (0 < k + 1 → zs.getD (k + 1 - 1) 0 + s ≤ zs.getD (k + 1) 0) = false := decide_eq_false (fun g => h (g (by omega)))
  unfold stepAt; rw [e]; simp
theorem step_yes0 {s lim : Int} {zs : List Int} (h1 : zs.getD 0 0 ≤ lim) (h : zs.getD 0 0 = 0) : stepAt s lim zs 0 = true := by
  have e : decide (0 = 0 → zs.getD 0 0 = 0) = true := decide_eq_true (fun _ => h)
  have e2 : decide (0 < 0 → zs.getD (0 - 1) 0 + s ≤ zs.getD 0 0) = true := decide_eq_true (fun g => absurd g (by omega))
  unfold stepAt; rw [decide_eq_true h1, e, e2]; rfl
theorem step_yes {s lim : Int} {zs : List Int} {k : Nat} (h1 : zs.getD (k + 1) 0 ≤ lim) (h : zs.getD k 0 + s ≤ zs.getD (k + 1) 0) : stepAt s lim zs (k + 1) = true := by
  have e : decide (k + 1 = 0 → zs.getD 0 0 = 0) = true := decide_eq_true (fun g => absurd g (by omega))
  have e2 : decide (0 < k + 1 → zs.getD (k + 1 - 1) 0 + s ≤ zs.getD (k + 1) 0) = true := decide_eq_true (fun _ => h)
  unfold stepAt; rw [decide_eq_true h1, e, e2]; rfl
theorem of_step {s lim : Int} {zs : List Int} {k : Nat} (h : stepAt s lim zs k = true) : zs.getD k 0 ≤ lim ∧ (k = 0 → zs.getD 0 0 = 0) ∧ (0 < k → zs.getD (k - 1) 0 + s ≤ zs.getD k 0) := by
  unfold stepAt at h
  rw [Bool.and_eq_true, Bool.and_eq_true] at h
  exact ⟨of_decide_eq_true h.1, of_decide_eq_true h.2.1, of_decide_eq_true h.2.2⟩
/-- Whether numbers begin with 0, are at most a limit, and climb. -/
def climb (s lim : Int) (zs : List Int) : Bool := allN (stepAt s lim zs) zs.length
/-- What climbing numbers are like. -/
def Climb (s lim : Int) (zs : List Int) : Prop := zs.getD 0 0 = 0 ∧ (∀ k, k + 1 < zs.length → zs.getD k 0 + s ≤ zs.getD (k + 1) 0) ∧ ∀ k, k < zs.length → zs.getD k 0 ≤ lim
theorem of_climb {s lim : Int} {zs : List Int} (h0 : 0 < zs.length) (h : climb s lim zs = true) : Climb s lim zs := by
  have h' := of_allN h
  refine ⟨(of_step (h' 0 h0)).2.1 rfl, fun k hk => (of_step (h' (k + 1) hk)).2.2 (by omega), fun k hk => (of_step (h' k hk)).1⟩
theorem climb_of {s lim : Int} {zs : List Int} (h : Climb s lim zs) : climb s lim zs = true := allN_all fun k hk => by
  cases k with
  | zero => exact step_yes0 (h.2.2 0 hk) h.1
  | succ k => exact step_yes (h.2.2 _ hk) (h.2.1 k hk)
theorem Climb.le {s lim : Int} {zs : List Int} (h : Climb s lim zs) (hs : 0 ≤ s) {i : Nat} : ∀ {j : Nat}, i ≤ j → j < zs.length → zs.getD i 0 ≤ zs.getD j 0
  | 0, h1, _ => by rw [show i = 0 by omega]; exact Int.le_refl _
  | j + 1, h1, h2 => by
    by_cases g : i = j + 1
    · rw [g]; exact Int.le_refl _
    · have a := h.le hs (i := i) (j := j) (by omega) (by omega)
      have b := h.2.1 j h2
      omega
theorem Climb.lt {lim : Int} {zs : List Int} (h : Climb 1 lim zs) {i j : Nat} (h1 : i < j) (h2 : j < zs.length) : zs.getD i 0 < zs.getD j 0 := by
  obtain ⟨m, rfl⟩ : ∃ m, j = m + 1 := ⟨j - 1, by omega⟩
  have a := h.le (by omega) (i := i) (j := m) (by omega) (by omega)
  have b := h.2.1 m h2
  omega
theorem Climb.bd {s lim : Int} {zs : List Int} (h : Climb s lim zs) (hs : 0 ≤ s) {k : Nat} (hk : k < zs.length) : 0 ≤ zs.getD k 0 ∧ zs.getD k 0 ≤ lim :=
  ⟨by have := h.le hs (i := 0) (j := k) (Nat.zero_le _) hk; rw [h.1] at this; exact this, h.2.2 k hk⟩
/-- Whether numbers are from a least to a greatest one, and rise. -/
def riseAt (lo hi : Int) (zs : List Int) (k : Nat) : Bool := inB (zs.getD k 0) lo hi && decide (0 < k → zs.getD (k - 1) 0 < zs.getD k 0)
theorem rise_in {lo hi : Int} {zs : List Int} {k : Nat} (h : inB (zs.getD k 0) lo hi = false) : riseAt lo hi zs k = false := by unfold riseAt; rw [h]; rfl
theorem rise_0 {lo hi : Int} {zs : List Int} (h : inB (zs.getD 0 0) lo hi = true) : riseAt lo hi zs 0 = true := by
  have e : decide (0 < 0 → zs.getD (0 - 1) 0 < zs.getD 0 0) = true := decide_eq_true (fun g => absurd g (by omega))
  unfold riseAt; rw [h, e]; rfl
theorem rise_yes {lo hi : Int} {zs : List Int} {k : Nat} (h : inB (zs.getD (k + 1) 0) lo hi = true) (g : zs.getD k 0 < zs.getD (k + 1) 0) : riseAt lo hi zs (k + 1) = true := by
  have e : decide (0 < k + 1 → zs.getD (k + 1 - 1) 0 < zs.getD (k + 1) 0) = true := decide_eq_true (fun _ => g)
  unfold riseAt; rw [h, e]; rfl
theorem rise_no {lo hi : Int} {zs : List Int} {k : Nat} (g : ¬ zs.getD k 0 < zs.getD (k + 1) 0) : riseAt lo hi zs (k + 1) = false := by
  have e : decide (0 < k + 1 → zs.getD (k + 1 - 1) 0 < zs.getD (k + 1) 0) = false := decide_eq_false (fun q => g (q (by omega)))
  unfold riseAt; rw [e]; simp
theorem of_rise {lo hi : Int} {zs : List Int} {k : Nat} (h : riseAt lo hi zs k = true) : (lo ≤ zs.getD k 0 ∧ zs.getD k 0 ≤ hi) ∧ (0 < k → zs.getD (k - 1) 0 < zs.getD k 0) := by
  unfold riseAt at h
  rw [Bool.and_eq_true] at h
  exact ⟨of_inB h.1, of_decide_eq_true h.2⟩
def rise (lo hi : Int) (zs : List Int) : Bool := allN (riseAt lo hi zs) zs.length
/-- Whether numbers are from a least to a greatest one, and never fall. -/
def flatAt (lo hi : Int) (zs : List Int) (k : Nat) : Bool := inB (zs.getD k 0) lo hi && decide (0 < k → zs.getD (k - 1) 0 ≤ zs.getD k 0)
theorem flat_in {lo hi : Int} {zs : List Int} {k : Nat} (h : inB (zs.getD k 0) lo hi = false) : flatAt lo hi zs k = false := by unfold flatAt; rw [h]; rfl
theorem flat_0 {lo hi : Int} {zs : List Int} (h : inB (zs.getD 0 0) lo hi = true) : flatAt lo hi zs 0 = true := by
  have e : decide (0 < 0 → zs.getD (0 - 1) 0 ≤ zs.getD 0 0) = true := decide_eq_true (fun g => absurd g (by omega))
  unfold flatAt; rw [h, e]; rfl
theorem flat_yes {lo hi : Int} {zs : List Int} {k : Nat} (h : inB (zs.getD (k + 1) 0) lo hi = true) (g : zs.getD k 0 ≤ zs.getD (k + 1) 0) : flatAt lo hi zs (k + 1) = true := by
  have e : decide (0 < k + 1 → zs.getD (k + 1 - 1) 0 ≤ zs.getD (k + 1) 0) = true := decide_eq_true (fun _ => g)
  unfold flatAt; rw [h, e]; rfl
theorem flat_no {lo hi : Int} {zs : List Int} {k : Nat} (g : ¬ zs.getD k 0 ≤ zs.getD (k + 1) 0) : flatAt lo hi zs (k + 1) = false := by
  have e : decide (0 < k + 1 → zs.getD (k + 1 - 1) 0 ≤ zs.getD (k + 1) 0) = false := decide_eq_false (fun q => g (q (by omega)))
  unfold flatAt; rw [e]; simp
theorem of_flat {lo hi : Int} {zs : List Int} {k : Nat} (h : flatAt lo hi zs k = true) : (lo ≤ zs.getD k 0 ∧ zs.getD k 0 ≤ hi) ∧ (0 < k → zs.getD (k - 1) 0 ≤ zs.getD k 0) := by
  unfold flatAt at h
  rw [Bool.and_eq_true] at h
  exact ⟨of_inB h.1, of_decide_eq_true h.2⟩
theorem rise_climb {zs : List Int} {hi : Int} (h0 : zs.getD 0 0 = 0) : rise 0 hi zs = climb 1 hi zs := by
  by_cases hn : zs.length = 0
  · unfold rise climb; rw [hn]; rfl
  cases e : climb 1 hi zs with
  | true =>
    have c := of_climb (by omega) e
    refine allN_all fun k hk => ?_
    obtain ⟨b1, b2⟩ := c.bd (by omega) hk
    cases k with
    | zero => exact rise_0 (inB_yes b1 b2)
    | succ k => exact rise_yes (inB_yes b1 b2) (c.lt (by omega) hk)
  | false =>
    cases e2 : rise 0 hi zs with
    | false => rfl
    | true =>
      have h := of_allN e2
      rw [climb_of ⟨h0, fun k hk => ?_, fun k hk => ?_⟩] at e
      · cases e
      · have := (of_rise (h (k + 1) hk)).2 (by omega)
        rw [show k + 1 - 1 = k by omega] at this
        omega
      · exact (of_rise (h k hk)).1.2
theorem flat_climb {zs : List Int} {hi : Int} (h0 : zs.getD 0 0 = 0) : allN (flatAt 0 hi zs) zs.length = climb 0 hi zs := by
  by_cases hn : zs.length = 0
  · unfold climb; rw [hn]; rfl
  cases e : climb 0 hi zs with
  | true =>
    have c := of_climb (by omega) e
    refine allN_all fun k hk => ?_
    obtain ⟨b1, b2⟩ := c.bd (by omega) hk
    cases k with
    | zero => exact flat_0 (inB_yes b1 b2)
    | succ k => exact flat_yes (inB_yes b1 b2) (c.le (by omega) (by omega) hk)
  | false =>
    cases e2 : allN (flatAt 0 hi zs) zs.length with
    | false => rfl
    | true =>
      have h := of_allN e2
      rw [climb_of ⟨h0, fun k hk => ?_, fun k hk => ?_⟩] at e
      · cases e
      · have := (of_flat (h (k + 1) hk)).2 (by omega)
        rw [show k + 1 - 1 = k by omega] at this
        omega
      · exact (of_flat (h k hk)).1.2
theorem climb_no0 {s hi : Int} {zs : List Int} (hn : 0 < zs.length) (h : ¬ zs.getD 0 0 = 0) : climb s hi zs = false := allN_bad hn (step_0 h)
/-- Whether a mask is valid. -/
def okM (os ls : List Int) : Bool := decide (2 ≤ os.length ∧ os.length ≤ 12) && (decide (ls.length = os.length) && (climb 1 100000 os && climb 0 120000 ls))
theorem okM_n {os ls : List Int} (h : ¬ (2 ≤ os.length ∧ os.length ≤ 12)) : okM os ls = false := by unfold okM; rw [decide_eq_false h]; rfl
theorem okM_len {os ls : List Int} (h : ¬ ls.length = os.length) : okM os ls = false := by unfold okM; rw [decide_eq_false h]; simp
theorem okM_os {os ls : List Int} (h : climb 1 100000 os = false) : okM os ls = false := by unfold okM; rw [h]; simp
theorem okM_ls {os ls : List Int} (h : climb 0 120000 ls = false) : okM os ls = false := by unfold okM; rw [h]; simp
theorem okM_yes {os ls : List Int} (h1 : 2 ≤ os.length ∧ os.length ≤ 12) (h2 : ls.length = os.length) (h3 : climb 1 100000 os = true) (h4 : climb 0 120000 ls = true) : okM os ls = true := by
  unfold okM; rw [decide_eq_true h1, decide_eq_true h2, h3, h4]; rfl
theorem of_okM {os ls : List Int} (h : okM os ls = true) : (2 ≤ os.length ∧ os.length ≤ 12) ∧ ls.length = os.length ∧ Climb 1 100000 os ∧ Climb 0 120000 ls := by
  unfold okM at h
  rw [Bool.and_eq_true, Bool.and_eq_true, Bool.and_eq_true] at h
  have h1 := of_decide_eq_true h.1
  have h2 := of_decide_eq_true h.2.1
  exact ⟨h1, h2, of_climb (by omega) h.2.2.1, of_climb (by omega) h.2.2.2⟩
/-- How many offsets are at most a distance. -/
def upTo (os : List Int) (a : Int) (k : Nat) : Bool := decide (os.getD k 0 ≤ a)
def cntM (os : List Int) (a : Int) : Nat := leadN (upTo os a) os.length
/-- The loss at a distance. -/
def lossA (os ls : List Int) (a : Int) : Int :=
  if cntM os a = os.length then ls.getD (os.length - 1) 0 else line (os.getD (cntM os a - 1) 0) (ls.getD (cntM os a - 1) 0) (os.getD (cntM os a) 0) (ls.getD (cntM os a) 0) a
/-- The loss at an offset. -/
def lossM (os ls : List Int) (x : Int) : Int := lossA os ls (x.natAbs : Nat)
theorem cntM_at {os : List Int} {a : Int} {i : Nat} (hi : i ≤ os.length) (h : ∀ j, j < i → os.getD j 0 ≤ a) (e : i = os.length ∨ a < os.getD i 0) : cntM os a = i :=
  lead_at hi (fun j hj => decide_eq_true (h j hj)) (by rcases e with e | e; exact .inl e; exact .inr (decide_eq_false (by omega)))
theorem mono_upTo {os : List Int} {lim a : Int} (h : Climb 1 lim os) : Mono (upTo os a) os.length := fun i j h1 h2 e => by
  have := h.le (by omega) h1 h2
  have e := of_decide_eq_true e
  exact decide_eq_true (by omega)
theorem cntM_pos {os : List Int} {lim a : Int} (h : Climb 1 lim os) (h0 : 0 < os.length) (ha : 0 ≤ a) : 0 < cntM os a := by
  obtain ⟨-, h2⟩ := lead_spec (upTo os a) os.length
  by_cases g : 0 < cntM os a
  · exact g
  · have e : leadN (upTo os a) os.length = 0 := by unfold cntM at g; omega
    rw [e] at h2
    rcases h2 with h2 | h2
    · omega
    · have := of_decide_eq_false h2
      rw [h.1] at this
      omega
theorem cntM_le (os : List Int) (a : Int) : cntM os a ≤ os.length := lead_le _ _
theorem lossA_last {os ls : List Int} {a : Int} (h : cntM os a = os.length) : lossA os ls a = ls.getD (os.length - 1) 0 := if_pos h
theorem lossA_line {os ls : List Int} {a : Int} {k : Nat} (h : cntM os a = k + 1) (hk : k + 1 < os.length) : lossA os ls a = line (os.getD k 0) (ls.getD k 0) (os.getD (k + 1) 0) (ls.getD (k + 1) 0) a := by
  unfold lossA; rw [h, if_neg (by omega), show k + 1 - 1 = k by omega]
/-- What the model's walk finds at the first offset that is not less. -/
theorem loss_at {os ls : List Int} {lim a : Int} {i : Nat} (h : Climb 1 lim os) (ha : 0 ≤ a) (hi : i + 1 < os.length) (hb : ∀ j, j < i → os.getD (j + 1) 0 < a) (e : a ≤ os.getD (i + 1) 0) :
    line (os.getD i 0) (ls.getD i 0) (os.getD (i + 1) 0) (ls.getD (i + 1) 0) a = lossA os ls a := by
  have hlow : ∀ j, j < i + 1 → os.getD j 0 ≤ a := fun j hj => by
    cases j with
    | zero => rw [h.1]; exact ha
    | succ j => exact Int.le_of_lt (hb j (by omega))
  by_cases g : a < os.getD (i + 1) 0
  · exact (lossA_line (cntM_at (by omega) hlow (.inr g)) hi).symm
  · have ea : a = os.getD (i + 1) 0 := by omega
    have hst := h.lt (i := i) (j := i + 1) (by omega) hi
    have hlow2 : ∀ j, j < i + 1 + 1 → os.getD j 0 ≤ a := fun j hj => by
      by_cases q : j = i + 1
      · rw [q]; omega
      · exact hlow j (by omega)
    rw [line_last (by omega) hst (by omega)]
    by_cases q : i + 1 + 1 = os.length
    · rw [lossA_last (cntM_at (by omega) (by rw [← q]; exact hlow2) (.inl rfl)), ← q]; rfl
    · have hs2 := h.lt (i := i + 1) (j := i + 1 + 1) (by omega) (by omega)
      rw [lossA_line (k := i + 1) (cntM_at (by omega) hlow2 (.inr (by omega))) (by omega), line_first (.inl (by omega))]
theorem loss_end {os ls : List Int} {lim a : Int} (h : Climb 1 lim os) (ha : 0 ≤ a) (hb : ∀ j, j + 1 < os.length → os.getD (j + 1) 0 < a) : ls.getD (os.length - 1) 0 = lossA os ls a :=
  (lossA_last (cntM_at (Nat.le_refl _) (fun j hj => by
    cases j with
    | zero => rw [h.1]; exact ha
    | succ j => exact Int.le_of_lt (hb j hj)) (.inl rfl))).symm
end Go.Proofs.YtnambnddoebeiaaDoor.Msk
