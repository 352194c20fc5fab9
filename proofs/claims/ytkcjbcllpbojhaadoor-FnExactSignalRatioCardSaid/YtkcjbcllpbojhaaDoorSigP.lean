
/-
  Plain facts on the ratio of a sector to the others, with no program in them.
-/
import Derived.Test.YtkcjbcllpbojhaaDoorSumPlain
import Derived.Test.YtkcjbcllpbojhaaDoorTable
import Derived.OwnWalk
import Derived.Laws.AppendOwn
namespace Go.Proofs.YtkcjbcllpbojhaaDoor.Sig
open Plain
open Go.RowKit

def near (cs : List Int) (s k : Nat) : Nat := (gap (cs.getD k 0) (cs.getD s 0)).toNat
def heard (cs ts : List Int) (s k : Nat) : Bool := decide (k ≠ s) && decide (0 ≤ cs.getD k 0) && decide (near cs s k < ts.length)
def item (ls cs ts : List Int) (s k : Nat) : Int := Turn.gmax (-300000) (ls.getD k 0 - ts.getD (near cs s k) 0)
def others (ls cs ts : List Int) (s : Nat) : Nat → List Int
  | 0 => []
  | k + 1 => if heard cs ts s k = true then others ls cs ts s k ++ [item ls cs ts s k] else others ls cs ts s k
theorem others_yes {ls cs ts : List Int} {s k : Nat} (h : heard cs ts s k = true) : others ls cs ts s (k + 1) = others ls cs ts s k ++ [item ls cs ts s k] := if_pos h
theorem others_no {ls cs ts : List Int} {s k : Nat} (h : heard cs ts s k = false) : others ls cs ts s (k + 1) = others ls cs ts s k := if_neg (by rw [h]; decide)
theorem heard_self (cs ts : List Int) (s : Nat) : heard cs ts s s = false := by unfold heard; simp
theorem heard_neg {cs ts : List Int} {s k : Nat} (h : cs.getD k 0 < 0) : heard cs ts s k = false := by unfold heard; rw [decide_eq_false (show ¬ 0 ≤ cs.getD k 0 by omega)]; simp
theorem heard_far {cs ts : List Int} {s k : Nat} (h : ¬ near cs s k < ts.length) : heard cs ts s k = false := by unfold heard; rw [decide_eq_false h]; simp
theorem heard_yes {cs ts : List Int} {s k : Nat} (h : k ≠ s) (h1 : 0 ≤ cs.getD k 0) (h2 : near cs s k < ts.length) : heard cs ts s k = true := by unfold heard; rw [decide_eq_true h, decide_eq_true h1, decide_eq_true h2]; rfl
theorem others_len (ls cs ts : List Int) (s : Nat) : ∀ k, (others ls cs ts s k).length ≤ k
  | 0 => Nat.le_refl _
  | k + 1 => by
    have := others_len ls cs ts s k
    cases h : heard cs ts s k with
    | true => rw [others_yes h, List.length_append]; simp; omega
    | false => rw [others_no h]; omega
/-- What the arguments keep. -/
structure Good (ls cs ts : List Int) (n : Nat) : Prop where
  n0 : 1 ≤ n
  n1 : n ≤ 24
  ll : ls.length = n
  cl : cs.length = n
  lv : ∀ k, k < n → -300000 ≤ ls.getD k 0 ∧ ls.getD k 0 ≤ 300000
  ch : ∀ k, k < n → -1 ≤ cs.getD k 0 ∧ cs.getD k 0 ≤ 999
  t1 : ts.length ≤ 64
  tb : ∀ k, k < ts.length → 0 ≤ ts.getD k 0 ∧ ts.getD k 0 ≤ 120000
theorem gap_near {cs : List Int} {s k : Nat} : gap (cs.getD k 0) (cs.getD s 0) = (near cs s k : Nat) := by unfold near gap; split <;> omega
theorem gap_any (a b : Int) : 0 ≤ gap a b := by unfold gap; split <;> omega
theorem near_bd {ls cs ts : List Int} {n s k : Nat} (h : Good ls cs ts n) (hk : k < n) (hs : s < n) : near cs s k ≤ 1000 := by
  have := h.ch k hk
  have := h.ch s hs
  unfold near gap
  split <;> omega
theorem item_bd {ls cs ts : List Int} {n s k : Nat} (h : Good ls cs ts n) (hk : k < n) (h2 : near cs s k < ts.length) : -300000 ≤ item ls cs ts s k ∧ item ls cs ts s k ≤ 300000 := by
  have := h.lv k hk
  have := h.tb _ h2
  unfold item Turn.gmax
  split <;> omega
theorem others_lv {ls cs ts : List Int} {n s : Nat} (h : Good ls cs ts n) : ∀ k, k ≤ n → ∀ x ∈ others ls cs ts s k, Sum.lv x = true
  | 0, _, x, hx => by simp [others] at hx
  | k + 1, hk, x, hx => by
    have ih := others_lv (s := s) h k (by omega)
    cases hh : heard cs ts s k with
    | false => rw [others_no hh] at hx; exact ih x hx
    | true =>
      rw [others_yes hh, List.mem_append] at hx
      rcases hx with hx | hx
      · exact ih x hx
      · simp at hx
        subst hx
        have h2 : near cs s k < ts.length := by
          unfold heard at hh
          simp at hh
          exact hh.2
        have := item_bd h (show k < n by omega) h2
        exact inB_yes this.1 this.2
theorem others_code {ls cs ts : List Int} {n s : Nat} (h : Good ls cs ts n) (h0 : 0 < (others ls cs ts s n).length) : Sum.codeOf (others ls cs ts s n) = 0 := by
  have := others_len ls cs ts s n
  have := h.n1
  refine Sum.code_ok ?_ (by omega) h0
  unfold Sum.lvB
  rw [List.all_eq_true]
  exact others_lv h n (Nat.le_refl _)
noncomputable def ratio (ls cs ts : List Int) (s n : Nat) : Int := if (others ls cs ts s n).length = 0 then 200000 else Turn.gmax (-200000) (Turn.smin 200000 (ls.getD s 0 - Sum.sumL (others ls cs ts s n)))
theorem ratio_none {ls cs ts : List Int} {s n : Nat} (h : (others ls cs ts s n).length = 0) : ratio ls cs ts s n = 200000 := if_pos h
theorem ratio_some {ls cs ts : List Int} {s n : Nat} (h : ¬ (others ls cs ts s n).length = 0) : ratio ls cs ts s n = Turn.gmax (-200000) (Turn.smin 200000 (ls.getD s 0 - Sum.sumL (others ls cs ts s n))) := if_neg h
theorem smin_gmin (x : Int) : Turn.gmin x 200000 = Turn.smin 200000 x := by unfold Turn.gmin Turn.smin; split <;> rfl
theorem gmax_comm (a b : Int) : Turn.gmax a b = Turn.gmax b a := by unfold Turn.gmax; split <;> split <;> omega
def chB (cs : List Int) (n : Nat) : Bool := decide (cs.length = n) && cs.all (fun x => inB x (-1) 999)
theorem held2 {W w' : World} {a b : Addr} {x y : Value} (ha : W.cell? a = some x) (hb : W.cell? b = some y) (ho : On W w') : On W w' ∧ w'.cell? a = some x ∧ w'.cell? b = some y :=
  ⟨ho, (ho.cell (World.block_lt_of_cell? W _ ha)).trans ha, (ho.cell (World.block_lt_of_cell? W _ hb)).trans hb⟩
theorem own_on {w w' : World} {B e s n : Nat} {v : Value} {xs : List Value} (h : w.ownsRow B e s v n xs) (ho : On w w') : w'.ownsRow B e s v n xs := by
  refine ⟨h.1, ?_⟩
  rcases h.2 with h | ⟨g, cap, cur, rfl, hb, hg, hr⟩
  · exact .inl h
  · refine .inr ⟨g, cap, cur, rfl, hb, (ho.block g ?_).trans hg, hr⟩
    rcases Nat.lt_or_ge g w.heap.size with h' | h'
    · exact h'
    · simp [Array.getElem?_eq_none h'] at hg
theorem lit0 {G : Nat} (W : World) (t : TypeId) (q : Nat) (hq : q = W.heap.size) (hG : G ≤ W.heap.size) : (W.alloc (.cells #[] t)).ownsRow G t 1 (.slice (some ⟨q, 0, none⟩) 0 0) 0 [] := by
  subst hq
  exact World.ownsRow_lit W #[] 0 hG (by unfold maxLen; omega) rfl
end Go.Proofs.YtkcjbcllpbojhaaDoor.Sig
