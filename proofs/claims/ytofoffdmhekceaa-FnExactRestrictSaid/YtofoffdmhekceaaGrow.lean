
/-
  A slice of slices of numbers to which rows are appended, each row in a block of its own. No condition.
-/
import Derived.Test.YtofoffdmhekceaaMatX
import Derived.Maps.AppendAt
namespace Go.Proofs.Ytofoffdmhekceaa.Mats
open Go.RowKit

def intCells (zs : List Int) : List Value := zs.map (.int .i64 ·)
/-- The rows zss that have come so far, the value v. -/
def Grow (B : Nat) (w : World) (v : Value) (zss : List (List Int)) : Prop :=
  ∃ (us : List Value) (f : Nat → Nat), w.ownsRow B 32 1 v zss.length us ∧
    (∀ i, i < zss.length → us[i]? = some (.slice (some ⟨f i, 0, none⟩) (zss.getD i []).length (zss.getD i []).length)) ∧
    (∀ i, i < zss.length → B ≤ f i ∧ v.ownBlock ≠ some (f i) ∧ w.heap[f i]? = some (.cells (intCells (zss.getD i [])).toArray 2 (0, 0))) ∧
    ∀ i j, i < j → j < zss.length → f i ≠ f j
theorem Grow.nil (B : Nat) (w : World) : Grow B w (.slice none 0 0) [] :=
  ⟨[], fun _ => 0, ⟨rfl, .inl ⟨rfl, rfl⟩⟩, fun i hi => absurd hi (by simp), fun i hi => absurd hi (by simp), fun i j _ hj => absurd hj (by simp)⟩
theorem Grow.lit {B : Nat} {w : World} {v : Value} (h : w.ownsRow B 32 1 v 0 []) : Grow B w v [] :=
  ⟨[], fun _ => 0, h, fun i hi => absurd hi (by simp), fun i hi => absurd hi (by simp), fun i j _ hj => absurd hj (by simp)⟩
theorem block_lt {w : World} {g : Nat} {o : Obj} (h : w.heap[g]? = some o) : g < w.heap.size := (Array.getElem?_eq_some_iff.1 h).1
theorem Grow.on {B : Nat} {w w' : World} {v : Value} {zss : List (List Int)} (h : Grow B w v zss) (ho : On w w') : Grow B w' v zss := by
  obtain ⟨us, f, h1, h2, h3, h4⟩ := h
  have hb : ∀ g o, w.heap[g]? = some o → w'.heap[g]? = some o := fun g o hg => (Below.block ho g (block_lt hg)).trans hg
  refine ⟨us, f, ⟨h1.1, ?_⟩, h2, fun i hi => ⟨(h3 i hi).1, (h3 i hi).2.1, hb _ _ (h3 i hi).2.2⟩, h4⟩
  rcases h1.2 with hn | ⟨g, cap, cur, rfl, hB, hg, rest⟩
  · exact .inl hn
  · exact .inr ⟨g, cap, cur, rfl, hB, hb _ _ hg, rest⟩
theorem getD_snoc_lt (zss : List (List Int)) (z : List Int) {i : Nat} (h : i < zss.length) : (zss ++ [z]).getD i [] = zss.getD i [] := by
  simp [List.getD_eq_getElem?_getD, List.getElem?_append_left h]
theorem getD_snoc_eq (zss : List (List Int)) (z : List Int) : (zss ++ [z]).getD zss.length [] = z := by simp
/-- A row more. -/
theorem Grow.snoc {B : Nat} {w w4 : World} {v v' : Value} {zss : List (List Int)} {us : List Value} {f : Nat → Nat} {z : List Int} {o2 : Obj}
    (h1 : w.ownsRow B 32 1 v zss.length us)
    (h2 : ∀ i, i < zss.length → us[i]? = some (.slice (some ⟨f i, 0, none⟩) (zss.getD i []).length (zss.getD i []).length))
    (h3 : ∀ i, i < zss.length → B ≤ f i ∧ v.ownBlock ≠ some (f i) ∧ w.heap[f i]? = some (.cells (intCells (zss.getD i [])).toArray 2 (0, 0)))
    (h4 : ∀ i j, i < j → j < zss.length → f i ≠ f j) (hB : B ≤ w.heap.size)
    (hown : w4.ownsRow B 32 1 v' (zss.length + 1) (us ++ [.slice (some ⟨w.heap.size, 0, none⟩) z.length z.length]))
    (hg : ((w.alloc (.cells (intCells z).toArray 2)).alloc o2).grownBy w4 v.ownBlock)
    (hat : v'.ownBlock = v.ownBlock ∨ v'.ownBlock = some ((w.alloc (.cells (intCells z).toArray 2)).alloc o2).heap.size) : Grow B w4 v' (zss ++ [z]) := by
  have hl : us.length = zss.length := by rw [h1.1, Nat.mul_one]
  have hv : ∀ g, v.ownBlock = some g → g < w.heap.size := fun g hg => (h1.lt g hg).2
  have hlen : (zss ++ [z]).length = zss.length + 1 := by simp
  have old : ∀ g o, w.heap[g]? = some o → v.ownBlock ≠ some g → w4.heap[g]? = some o := fun g o hgo hne => by
    have hlt := block_lt hgo
    exact (hg.block g (by simp; omega) (fun e => hne e.symm)).trans ((Below.block (On.alloc (On.refl _) _) g (by simp; omega)).trans ((Below.block (On.alloc (On.refl _) _) g hlt).trans hgo))
  have new : w4.heap[w.heap.size]? = some (.cells (intCells z).toArray 2 (0, 0)) := by
    exact (hg.block _ (by simp; omega) (fun e => absurd (hv _ e.symm) (Nat.lt_irrefl _))).trans ((Below.block (On.alloc (On.refl _) _) _ (by simp)).trans (heap_alloc_new _ _))
  have hne : ∀ i, i < zss.length → v'.ownBlock ≠ some (f i) := fun i hi => by
    rcases hat with e | e
    · rw [e]; exact (h3 i hi).2.1
    · rw [e]
      have := block_lt (h3 i hi).2.2
      intro q
      injection q with q
      simp at q
      omega
  refine ⟨us ++ [.slice (some ⟨w.heap.size, 0, none⟩) z.length z.length], fun i => if i < zss.length then f i else w.heap.size, by rw [hlen]; exact hown, fun i hi => ?_, fun i hi => ?_, fun i j hij hj => ?_⟩
  · rw [hlen] at hi
    dsimp only
    by_cases g : i < zss.length
    · rw [if_pos g, getD_snoc_lt _ _ g, List.getElem?_append_left (by omega)]; exact h2 i g
    · obtain rfl : i = zss.length := by omega
      rw [if_neg g, getD_snoc_eq, ← hl]; simp
  · rw [hlen] at hi
    dsimp only
    by_cases g : i < zss.length
    · rw [if_pos g, getD_snoc_lt _ _ g]; exact ⟨(h3 i g).1, hne i g, old _ _ (h3 i g).2.2 (h3 i g).2.1⟩
    · obtain rfl : i = zss.length := by omega
      rw [if_neg g, getD_snoc_eq]
      refine ⟨hB, ?_, new⟩
      rcases hat with e | e
      · rw [e]; exact fun q => absurd (hv _ q) (Nat.lt_irrefl _)
      · rw [e]; intro q; injection q with q; simp at q; omega
  · rw [hlen] at hj
    show (if i < zss.length then f i else w.heap.size) ≠ (if j < zss.length then f j else w.heap.size)
    rw [if_pos (by omega)]
    by_cases g : j < zss.length
    · rw [if_pos g]; exact h4 i j hij g
    · rw [if_neg g]; have := block_lt (h3 i (by omega)).2.2; omega
theorem cells_at (z : List Int) (k : Nat) (h : k < z.length) : (intCells z).toArray[k]? = some (.int .i64 (z.getD k 0)) := by simp [intCells, h]
theorem Grow.own {B : Nat} {w : World} {v : Value} {zss : List (List Int)} (h : Grow B w v zss) : ∃ a c, v = .slice a zss.length c ∧ OwnX B w.heap.size w (.slice a zss.length c) zss := by
  obtain ⟨us, f, h1, h2, h3, h4⟩ := h
  rcases h1.2 with ⟨rfl, hn⟩ | ⟨g, cap, cur, rfl, hB, hg, hnc, hcm, hcs, htake⟩
  · have : zss = [] := List.eq_nil_of_length_eq_zero hn
    subst this
    exact ⟨none, 0, rfl, OwnX.empty _ _ _ _ _⟩
  · refine ⟨_, _, rfl, _, cap, rfl, fun h0 => ⟨g, 0, f, fun _ => 0, fun i => (zss.getD i []).length, fun i => some ⟨f i, 0, none⟩, rfl, ⟨block_lt hg, hB, block_lt hg, fun i hi => ?_, fun i hi _ => ?_, fun i j hi hj hij _ _ => ?_, fun i hi k _ => ?_⟩, fun i hi k hk => ?_⟩⟩
    · rw [Nat.zero_add, cell_of_row w g i cur _ (0, 0) hg]
      have h5 := h2 i hi
      rw [← htake, List.getElem?_take] at h5
      split at h5
      · simpa using h5
      · cases h5
    · exact ⟨rfl, (h3 i hi).1, block_lt (h3 i hi).2.2, block_lt (h3 i hi).2.2, fun e => (h3 i hi).2.1 (by simp [Value.ownBlock, e])⟩
    · rcases Nat.lt_or_ge i j with q | q
      · exact h4 i j q hj
      · exact fun e => h4 j i (by omega) hi e.symm
    · simp [World.frozen?, (h3 i hi).2.2]
    · rw [Nat.zero_add, cell_of_row w (f i) k _ _ (0, 0) (h3 i hi).2.2]
      exact cells_at _ _ hk
end Go.Proofs.Ytofoffdmhekceaa.Mats
