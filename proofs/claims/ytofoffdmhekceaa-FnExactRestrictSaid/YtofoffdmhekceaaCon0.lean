
/-
  Plain facts on problems of assignment: when one is valid, as the model and as the program look at it; a problem behind a pointer. No condition.
-/
import Derived.Test.YtofoffdmhekceaaPrb
import Derived.Test.YtofoffdmhekceaaLead
import Derived.Test.YtofoffdmhekceaaPlain
import Derived.Test.YtofoffdmhekceaaBox
namespace Go.Proofs.Ytofoffdmhekceaa.Con
open Go.RowKit
open Plain
open Prb (T)

theorem allN_true {p : Nat → Bool} {n : Nat} : allN p n = true ↔ ∀ i, i < n → p i = true := ⟨of_allN, allN_all⟩
theorem all_true {α : Type} (d : α) {p : α → Bool} {zs : List α} : zs.all p = true ↔ ∀ i, i < zs.length → p (zs.getD i d) = true := by
  rw [List.all_eq_true]
  constructor
  · intro h i hi
    have := h zs[i] (List.getElem_mem hi)
    simpa [hi] using this
  · intro h x hx
    obtain ⟨i, hi, rfl⟩ := List.getElem_of_mem hx
    have := h i hi
    simpa [hi] using this
/-- The element of a matrix. -/
def at2 (zs : List (List Int)) (i k : Nat) : Int := (zs.getD i []).getD k 0
/-- Whether numbers are from a least to a greatest one, and rise. -/
def riseAt (lo hi : Int) (zs : List Int) (k : Nat) : Bool := inB (zs.getD k 0) lo hi && decide (0 < k → zs.getD (k - 1) 0 < zs.getD k 0)
theorem rise_in {lo hi : Int} {zs : List Int} {k : Nat} (h : inB (zs.getD k 0) lo hi = false) : riseAt lo hi zs k = false := by unfold riseAt; rw [h]; rfl
theorem rise_0 {lo hi : Int} {zs : List Int} (h : inB (zs.getD 0 0) lo hi = true) : riseAt lo hi zs 0 = true := by
  have e : decide (0 < 0 → zs.getD (0 - 1) 0 < zs.getD 0 0) = true := decide_eq_true (fun g => absurd g (by omega))
  unfold riseAt; rw [h, e]; rfl
theorem rise_yes {lo hi : Int} {zs : List Int} {k : Nat} (h : inB (zs.getD (k + 1) 0) lo hi = true) (g : zs.getD k 0 < zs.getD (k + 1) 0) : riseAt lo hi zs (k + 1) = true := by
  unfold riseAt; rw [h]; exact decide_eq_true (fun _ => g)
theorem rise_no {lo hi : Int} {zs : List Int} {k : Nat} (g : ¬ zs.getD k 0 < zs.getD (k + 1) 0) : riseAt lo hi zs (k + 1) = false := by
  have e : decide (0 < k + 1 → zs.getD (k + 1 - 1) 0 < zs.getD (k + 1) 0) = false := decide_eq_false (fun h => g (h (by omega)))
  unfold riseAt; rw [e, Bool.and_false]
def rise (lo hi : Int) (zs : List Int) : Bool := allN (riseAt lo hi zs) zs.length
def ascAt (zs : List Int) (k : Nat) : Bool := decide (0 < k → zs.getD (k - 1) 0 < zs.getD k 0)
theorem asc_0 (zs : List Int) : ascAt zs 0 = true := decide_eq_true (fun g => absurd g (by omega))
theorem asc_yes {zs : List Int} {k : Nat} (g : zs.getD k 0 < zs.getD (k + 1) 0) : ascAt zs (k + 1) = true := decide_eq_true (fun _ => g)
theorem asc_no {zs : List Int} {k : Nat} (g : ¬ zs.getD k 0 < zs.getD (k + 1) 0) : ascAt zs (k + 1) = false := decide_eq_false (fun h => g (h (by omega)))
def ascB (zs : List Int) : Bool := allN (ascAt zs) zs.length
theorem rise_eq (lo hi : Int) (zs : List Int) : rise lo hi zs = (zs.all (fun x => inB x lo hi) && ascB zs) := by
  rw [Bool.eq_iff_iff, Bool.and_eq_true, all_true 0]
  unfold rise ascB
  rw [allN_true, allN_true]
  unfold riseAt ascAt
  constructor
  · intro h
    exact ⟨fun i hi => ((Bool.and_eq_true _ _).mp (h i hi)).1, fun i hi => ((Bool.and_eq_true _ _).mp (h i hi)).2⟩
  · rintro ⟨h1, h2⟩ i hi
    rw [h1 i hi, h2 i hi]; rfl
/-- A domain. -/
def domB (z : List Int) : Bool := inB z.length 1 32 && rise 0 999 z
theorem dom_no {z : List Int} (h : inB z.length 1 32 = false) : domB z = false := by unfold domB; rw [h]; rfl
theorem dom_yes {z : List Int} (h : inB z.length 1 32 = true) : domB z = rise 0 999 z := by unfold domB; rw [h]; rfl
/-- The element i, k of a matrix of constraints, as the model looks at it. -/
def cellB (m : List (List Int)) (i k : Nat) : Bool := inB (at2 m i k) 0 100 && !(decide (k < i) && !decide (at2 m k i = at2 m i k))
theorem cell_in {m : List (List Int)} {i k : Nat} (h : inB (at2 m i k) 0 100 = false) : cellB m i k = false := by unfold cellB; rw [h]; rfl
theorem cell_up {m : List (List Int)} {i k : Nat} (h : inB (at2 m i k) 0 100 = true) (g : ¬ k < i) : cellB m i k = true := by unfold cellB; rw [h, decide_eq_false g]; rfl
theorem cell_eq {m : List (List Int)} {i k : Nat} (h : inB (at2 m i k) 0 100 = true) (g : at2 m k i = at2 m i k) : cellB m i k = true := by unfold cellB; rw [h, decide_eq_true g]; simp
theorem cell_ne {m : List (List Int)} {i k : Nat} (h : k < i) (g : at2 m k i ≠ at2 m i k) : cellB m i k = false := by unfold cellB; rw [decide_eq_true h, decide_eq_false g]; simp
def lineB (N : T) (i : Nat) : Bool := domB (N.f0.getD i []) && (decide ((N.f1.getD i []).length = N.f0.length) && (decide (at2 N.f1 i i = 0) && allN (cellB N.f1 i) N.f0.length))
theorem line_dom {N : T} {i : Nat} (h : domB (N.f0.getD i []) = false) : lineB N i = false := by unfold lineB; rw [h]; rfl
theorem line_len {N : T} {i : Nat} (h : (N.f1.getD i []).length ≠ N.f0.length) : lineB N i = false := by unfold lineB; rw [decide_eq_false h]; simp
theorem line_diag {N : T} {i : Nat} (h : at2 N.f1 i i ≠ 0) : lineB N i = false := by unfold lineB; rw [decide_eq_false h]; simp
theorem line_cell {N : T} {i k : Nat} (hk : k < N.f0.length) (h : cellB N.f1 i k = false) : lineB N i = false := by unfold lineB; rw [allN_bad hk h]; simp
theorem line_yes {N : T} {i : Nat} (h1 : domB (N.f0.getD i []) = true) (h2 : (N.f1.getD i []).length = N.f0.length) (h3 : at2 N.f1 i i = 0) (h4 : AllN (cellB N.f1 i) N.f0.length) : lineB N i = true := by
  unfold lineB; rw [h1, decide_eq_true h2, decide_eq_true h3, allN_all h4]; rfl
theorem of_line {N : T} {i : Nat} (h : lineB N i = true) : domB (N.f0.getD i []) = true ∧ (N.f1.getD i []).length = N.f0.length ∧ at2 N.f1 i i = 0 ∧ ∀ k, k < N.f0.length → cellB N.f1 i k = true := by
  unfold lineB at h
  rw [Bool.and_eq_true, Bool.and_eq_true, Bool.and_eq_true] at h
  exact ⟨h.1, of_decide_eq_true h.2.1, of_decide_eq_true h.2.2.1, of_allN h.2.2.2⟩
/-- Whether a problem is valid, as the model looks at it. -/
def okB (N : T) : Bool := inB N.f0.length 1 24 && (decide (N.f1.length = N.f0.length) && allN (lineB N) N.f0.length)
theorem ok_n {N : T} (h : inB N.f0.length 1 24 = false) : okB N = false := by unfold okB; rw [h]; rfl
theorem ok_len {N : T} (h : N.f1.length ≠ N.f0.length) : okB N = false := by unfold okB; rw [decide_eq_false h]; simp
theorem ok_line {N : T} {i : Nat} (hi : i < N.f0.length) (h : lineB N i = false) : okB N = false := by unfold okB; rw [allN_bad hi h]; simp
theorem ok_yes {N : T} (h1 : inB N.f0.length 1 24 = true) (h2 : N.f1.length = N.f0.length) (h3 : AllN (lineB N) N.f0.length) : okB N = true := by unfold okB; rw [h1, decide_eq_true h2, allN_all h3]; rfl
/-- What a valid problem is. -/
structure Ok (N : T) : Prop where
  n1 : 1 ≤ N.f0.length
  n2 : N.f0.length ≤ 24
  len : N.f1.length = N.f0.length
  dom : ∀ i, i < N.f0.length → domB (N.f0.getD i []) = true
  row : ∀ i, i < N.f0.length → (N.f1.getD i []).length = N.f0.length
  diag : ∀ i, i < N.f0.length → at2 N.f1 i i = 0
  lo : ∀ i k, i < N.f0.length → k < N.f0.length → 0 ≤ at2 N.f1 i k
  hi : ∀ i k, i < N.f0.length → k < N.f0.length → at2 N.f1 i k ≤ 100
  sym : ∀ i k, i < N.f0.length → k < N.f0.length → at2 N.f1 i k = at2 N.f1 k i
theorem of_cell {m : List (List Int)} {i k : Nat} (h : cellB m i k = true) : (0 ≤ at2 m i k ∧ at2 m i k ≤ 100) ∧ (k < i → at2 m k i = at2 m i k) := by
  unfold cellB at h
  rw [Bool.and_eq_true] at h
  refine ⟨of_inB h.1, fun hk => ?_⟩
  have := h.2
  rw [decide_eq_true hk] at this
  simpa using this
theorem ok_of {N : T} (h : okB N = true) : Ok N := by
  unfold okB at h
  rw [Bool.and_eq_true, Bool.and_eq_true] at h
  obtain ⟨h1, h2, h3⟩ := h
  have hn := of_inB h1
  have hl := fun i hi => of_line (of_allN h3 i hi)
  refine ⟨by omega, by omega, of_decide_eq_true h2, fun i hi => (hl i hi).1, fun i hi => (hl i hi).2.1, fun i hi => (hl i hi).2.2.1, fun i k hi hk => (of_cell ((hl i hi).2.2.2 k hk)).1.1, fun i k hi hk => (of_cell ((hl i hi).2.2.2 k hk)).1.2, fun i k hi hk => ?_⟩
  rcases Nat.lt_trichotomy i k with g | g | g
  · exact (of_cell ((hl k hk).2.2.2 i hi)).2 g
  · rw [g]
  · exact ((of_cell ((hl i hi).2.2.2 k hk)).2 g).symm
theorem ok_mk {N : T} (h : Ok N) : okB N = true :=
  ok_yes (inB_yes (by have := h.n1; omega) (by have := h.n2; omega)) h.len fun i hi => line_yes (h.dom i hi) (h.row i hi) (h.diag i hi) fun k hk =>
    cell_eq (inB_yes (h.lo i k hi hk) (h.hi i k hi hk)) (h.sym k i hk hi)
/-- The same, as the program looks at it. -/
def domI (z : List Int) : Bool := inB z.length 1 32 && (z.all (fun x => inB x 0 999) && ascB z)
theorem dom_eq (z : List Int) : domI z = domB z := by unfold domI domB; rw [rise_eq]
def areB (zs : List (List Int)) : Bool := inB zs.length 1 24 && zs.all domB
def rowB (n : Nat) (z : List Int) : Bool := decide (z.length = n) && z.all (fun x => inB x 0 100)
def squareB (zs : List (List Int)) : Bool := inB zs.length 1 24 && zs.all (rowB zs.length)
def pairB (zs : List (List Int)) (i k : Nat) : Bool := decide (at2 zs i k = at2 zs k i)
def mutAt (zs : List (List Int)) (i : Nat) : Bool := decide (at2 zs i i = 0) && allN (pairB zs i) i
def mutB (zs : List (List Int)) : Bool := allN (mutAt zs) zs.length
def okI (N : T) : Bool := areB N.f0 && (decide (N.f1.length = N.f0.length) && (squareB N.f1 && mutB N.f1))
theorem square_len {zs : List (List Int)} (h : squareB zs = true) : ∀ i, i < zs.length → (zs.getD i []).length = zs.length := by
  unfold squareB at h
  rw [Bool.and_eq_true, all_true []] at h
  intro i hi
  have := h.2 i hi
  unfold rowB at this
  rw [Bool.and_eq_true] at this
  exact of_decide_eq_true this.1
theorem ok_eq (N : T) : okI N = okB N := by
  rw [Bool.eq_iff_iff]
  constructor
  · intro h
    unfold okI areB at h
    rw [Bool.and_eq_true, Bool.and_eq_true, Bool.and_eq_true, Bool.and_eq_true, all_true []] at h
    obtain ⟨⟨h1, h2⟩, h3, h4, h5⟩ := h
    have hn := of_inB h1
    have hlen := of_decide_eq_true h3
    have hrow := square_len h4
    unfold squareB at h4
    rw [Bool.and_eq_true, all_true []] at h4
    have hm := of_allN h5
    have hb : ∀ i k, i < N.f0.length → k < N.f0.length → 0 ≤ at2 N.f1 i k ∧ at2 N.f1 i k ≤ 100 := fun i k hi hk => by
      have := h4.2 i (by omega)
      unfold rowB at this
      rw [Bool.and_eq_true, all_true 0] at this
      exact of_inB (this.2 k (by rw [hrow i (by omega)]; omega))
    have hs : ∀ i k, i < N.f0.length → k < i → at2 N.f1 i k = at2 N.f1 k i := fun i k hi hk => by
      have := hm i (by omega)
      unfold mutAt at this
      rw [Bool.and_eq_true] at this
      have := of_allN this.2 k hk
      unfold pairB at this
      exact of_decide_eq_true this
    refine ok_mk ⟨by omega, by omega, hlen, h2, fun i hi => by rw [hrow i (by omega)]; exact hlen, fun i hi => ?_, fun i k hi hk => (hb i k hi hk).1, fun i k hi hk => (hb i k hi hk).2, fun i k hi hk => ?_⟩
    · have := hm i (by omega)
      unfold mutAt at this
      rw [Bool.and_eq_true] at this
      exact of_decide_eq_true this.1
    · rcases Nat.lt_trichotomy i k with g | g | g
      · exact (hs k i hk g).symm
      · rw [g]
      · exact hs i k hi g
  · intro h
    have H := ok_of h
    have hn1 := H.n1
    have hn2 := H.n2
    have hl := H.len
    unfold okI
    rw [Bool.and_eq_true, Bool.and_eq_true, Bool.and_eq_true]
    refine ⟨?_, decide_eq_true H.len, ?_, ?_⟩
    · unfold areB
      rw [inB_yes (by omega) (by omega), (all_true []).2 H.dom]; rfl
    · unfold squareB
      rw [inB_yes (by omega) (by omega), (all_true []).2 fun i hi => ?_]
      · rfl
      · unfold rowB
        rw [decide_eq_true (by rw [H.row i (by omega)]; omega), (all_true 0).2 fun k hk => ?_]
        · rfl
        · exact inB_yes (H.lo i k (by omega) (by rw [H.row i (by omega)] at hk; exact hk)) (H.hi i k (by omega) (by rw [H.row i (by omega)] at hk; exact hk))
    · refine allN_all fun i hi => ?_
      unfold mutAt
      rw [decide_eq_true (H.diag i (by omega)), allN_all fun k hk => ?_]
      · rfl
      · unfold pairB
        exact decide_eq_true (H.sym i k (by omega) (by omega))
theorem okI_are {N : T} (h : areB N.f0 = false) : okB N = false := by rw [← ok_eq]; unfold okI; rw [h]; rfl
theorem okI_len {N : T} (h : N.f1.length ≠ N.f0.length) : okB N = false := ok_len h
theorem okI_sq {N : T} (h : squareB N.f1 = false) : okB N = false := by rw [← ok_eq]; unfold okI; rw [h]; simp
theorem okI_mut {N : T} (h1 : areB N.f0 = true) (h2 : N.f1.length = N.f0.length) (h3 : squareB N.f1 = true) : okB N = mutB N.f1 := by rw [← ok_eq]; unfold okI; rw [h1, decide_eq_true h2, h3]; rfl

/-- A problem behind a pointer to the block g. -/
structure At (w : World) (g : Nat) (N : T) (a0 a1 : Option Addr) (c0 c1 : Nat) : Prop where
  lt : g < w.heap.size
  k0 : w.cell? ⟨g, 0, none⟩ = some (.slice a0 N.f0.length c0)
  k1 : w.cell? ⟨g, 1, none⟩ = some (.slice a1 N.f1.length c1)
  r0 : Mats.Rows w (.slice a0 N.f0.length c0) N.f0
  r1 : Mats.Rows w (.slice a1 N.f1.length c1) N.f1
theorem At.on {w w' : World} {g : Nat} {N : T} {a0 a1 : Option Addr} {c0 c1 : Nat} (h : At w g N a0 a1 c0 c1) (ho : On w w') : At w' g N a0 a1 c0 c1 where
  lt := ho.lts _ h.lt
  k0 := (ho.cell (by exact h.lt)).trans h.k0
  k1 := (ho.cell (by exact h.lt)).trans h.k1
  r0 := h.r0.below ho
  r1 := h.r1.below ho
theorem Is.shape {w : World} {v : Value} {N : T} (h : Prb.Is w v N) : ∃ a0 a1 c0 c1, v = .agg #[.slice a0 N.f0.length c0, .slice a1 N.f1.length c1] ∧ Mats.Rows w (.slice a0 N.f0.length c0) N.f0 ∧ Mats.Rows w (.slice a1 N.f1.length c1) N.f1 := by
  obtain ⟨v0, v1, rfl, h0, h1⟩ := h
  have g0 : Mats.Rows w v0 N.f0 := h0
  have g1 : Mats.Rows w v1 N.f1 := h1
  have g0' := g0
  have g1' := g1
  obtain ⟨a0, c0, rfl, -⟩ := g0
  obtain ⟨a1, c1, rfl, -⟩ := g1
  exact ⟨a0, a1, c0, c1, rfl, g0', g1'⟩
end Go.Proofs.Ytofoffdmhekceaa.Con
