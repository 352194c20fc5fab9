
/-
  A problem with fewer channels of an item, in the model and in the program. Condition: at most 1048576 lists of at most 1048576 numbers.
-/
import Derived.Test.YtofoffdmhekceaaCpy
import Derived.Test.YtofoffdmhekceaaDel
import Derived.Deep.RegionHeld3
import Derived.Deep.RegionWith
import Derived.Deep.DeepCutAuto
namespace Go.Proofs.Ytofoffdmhekceaa.Rst
open Go.RowKit
open Plain
open Ints (Ints Own)
open Prb (T)
open Con
open Asg (hasB of_dom)
open Del (kept)
open Mats (OwnX Lay Val block_lt)
open Cpy (RowsK)

def left (N : T) (i : Nat) (ch : List Int) : List Int := kept (hasB ch) (N.f0.getD i []) (N.f0.getD i []).length
def good (N : T) (x : Int) (ch : List Int) : Bool := okB N && (itemB N x && decide (left N x.toNat ch ≠ []))
def rstV (N : T) (x : Int) (ch : List Int) : T := if good N x ch = true then ⟨N.f0.set x.toNat (left N x.toNat ch), N.f1⟩ else ⟨[], []⟩
def rstC (N : T) (x : Int) (ch : List Int) : Int := if okB N = true then (if itemB N x = true then (if left N x.toNat ch = [] then 6 else 0) else 2) else 1
theorem rst_ok {N : T} {x : Int} {ch : List Int} (h : okB N = false) : rstV N x ch = ⟨[], []⟩ ∧ rstC N x ch = 1 := ⟨if_neg (by unfold good; rw [h]; simp), if_neg (by rw [h]; simp)⟩
theorem rst_item {N : T} {x : Int} {ch : List Int} (h : okB N = true) (k : itemB N x = false) : rstV N x ch = ⟨[], []⟩ ∧ rstC N x ch = 2 := ⟨if_neg (by unfold good; rw [k]; simp), by unfold rstC; rw [if_pos h, if_neg (by rw [k]; simp)]⟩
theorem rst_none {N : T} {i : Nat} {ch : List Int} (h : okB N = true) (k : itemB N i = true) (q : left N i ch = []) : rstV N i ch = ⟨[], []⟩ ∧ rstC N i ch = 6 :=
  ⟨if_neg (by unfold good; rw [show ((i : Int)).toNat = i from rfl, decide_eq_false (by rw [q]; simp)]; simp), by unfold rstC; rw [if_pos h, if_pos k, show ((i : Int)).toNat = i from rfl, if_pos q]⟩
theorem rst_yes {N : T} {i : Nat} {ch : List Int} (h : okB N = true) (k : itemB N i = true) (q : left N i ch ≠ []) : rstV N i ch = ⟨N.f0.set i (left N i ch), N.f1⟩ ∧ rstC N i ch = 0 :=
  ⟨if_pos (by unfold good; rw [h, k, show ((i : Int)).toNat = i from rfl, decide_eq_true q]; rfl), by unfold rstC; rw [if_pos h, if_pos k, show ((i : Int)).toNat = i from rfl, if_neg q]⟩
theorem getD_set_eq (zss : List (List Int)) (z : List Int) {i : Nat} (h : i < zss.length) : (zss.set i z).getD i [] = z := by simp [h]
theorem getD_set_ne (zss : List (List Int)) (z : List Int) {i j : Nat} (h : j ≠ i) : (zss.set i z).getD j [] = zss.getD j [] := by
  rw [List.getD_eq_getElem?_getD, List.getD_eq_getElem?_getD, List.getElem?_set_ne (fun e => h e.symm)]
/-- A row put in the place of another one. -/
theorem rows_set {B E b off c i : Nat} {f o e : Nat → Nat} {D : Nat → Option Addr} {zss : List (List Int)} {z : List Int} {u : Value} {w : World}
    (hl : Lay B E b off zss.length (fun i => (zss.getD i []).length) f o e D w) (hv : ∀ i, i < zss.length → Val f o w i (zss.getD i [])) (hi : i < zss.length)
    (hu : Ints (w.setCell ⟨b, off + i, none⟩ u) u z) : Mats.Rows (w.setCell ⟨b, off + i, none⟩ u) (.slice (some ⟨b, off, none⟩) zss.length c) (zss.set i z) := by
  refine ⟨_, c, by rw [List.length_set], fun _ => ⟨b, off, rfl, by simpa using hl.lt, fun j hj => ?_⟩⟩
  rw [List.length_set] at hj
  by_cases g : j = i
  · subst g
    exact ⟨u, World.cell?_setCell_same _ _ _ (hl.out j hj), by rw [getD_set_eq _ _ hj]; exact hu⟩
  · refine ⟨.slice (D j) (zss.getD j []).length (e j), (World.cell?_setCell_other (h := by intro q; injection q with q1 q2; omega) ..).trans (hl.out j hj), ?_⟩
    rw [getD_set_ne _ _ g]
    refine ⟨D j, e j, rfl, fun h0 => ?_⟩
    obtain ⟨h1, h2, h3, h4, h5⟩ := hl.adr j hj h0
    exact ⟨f j, o j, h1, by simpa using h4, fun q hq => (World.cell?_setCell_other (h := by intro q; injection q with q1 q2; exact h5 q1.symm) ..).trans (hv j hj q hq)⟩
theorem own_off {B E : Nat} {w : World} {v : Value} {zss : List (List Int)} (h : OwnX B E w v zss) {p : Addr} (hp : p.block < B ∨ E ≤ p.block) (u : Value) : OwnX B E (w.setCell p u) v zss :=
  h.move (by simp) (fun q _ => World.frozen?_setCell _ _ _ _) fun q _ h1 h2 => World.cell?_setCell_other (h := fun e => by rw [← e] at h1 h2; omega) ..
/-- A row put in the place of another one, in memory of its own. -/
theorem own_put {B E E' b off c i fi oi ei : Nat} {f o e : Nat → Nat} {D : Nat → Option Addr} {zss : List (List Int)} {z : List Int} {w : World}
    (hl : Lay B E b off zss.length (fun i => (zss.getD i []).length) f o e D w) (hv : ∀ j, j < zss.length → j ≠ i → Val f o w j (zss.getD j [])) (hi : i < zss.length) (hE : E ≤ E')
    (h1 : B ≤ fi) (h2 : fi < E') (h3 : fi < w.heap.size) (h4 : fi ≠ b) (h5 : ∀ j, j < zss.length → j ≠ i → 0 < (zss.getD j []).length → f j ≠ fi)
    (h6 : ∀ k, k < z.length → w.frozen? ⟨fi, oi + k, none⟩ = false) (h7 : ∀ k, k < z.length → w.cell? ⟨fi, oi + k, none⟩ = some (.int .i64 (z.getD k 0))) :
    OwnX B E' (w.setCell ⟨b, off + i, none⟩ (.slice (some ⟨fi, oi, none⟩) z.length ei)) (.slice (some ⟨b, off, none⟩) zss.length c) (zss.set i z) := by
  have oth : ∀ (p : Addr), p.block ≠ b → ∀ u, (w.setCell ⟨b, off + i, none⟩ u).cell? p = w.cell? p := fun p hp u => World.cell?_setCell_other (h := fun q => hp (by rw [← q])) ..
  refine ⟨_, c, by rw [List.length_set], fun _ => ⟨b, off, fun j => if j = i then fi else f j, fun j => if j = i then oi else o j, fun j => if j = i then ei else e j, fun j => if j = i then some ⟨fi, oi, none⟩ else D j, rfl, ⟨by simpa using hl.lt, hl.ge, Nat.lt_of_lt_of_le hl.le hE, fun j hj => ?_, fun j hj h0 => ?_, fun j k hj hk hjk g0 g1 => ?_, fun j hj k hk => ?_⟩, fun j hj k hk => ?_⟩⟩
  · rw [List.length_set] at hj
    by_cases g : j = i
    · subst g
      rw [if_pos rfl, if_pos rfl, getD_set_eq _ _ hj]
      exact World.cell?_setCell_same _ _ _ (hl.out j hj)
    · rw [if_neg g, if_neg g, getD_set_ne _ _ g]
      exact (World.cell?_setCell_other (h := by intro q; injection q with q1 q2; omega) ..).trans (hl.out j hj)
  · rw [List.length_set] at hj
    show (if j = i then some ⟨fi, oi, none⟩ else D j) = some ⟨if j = i then fi else f j, if j = i then oi else o j, none⟩ ∧ B ≤ (if j = i then fi else f j) ∧ (if j = i then fi else f j) < E' ∧ (if j = i then fi else f j) < _ ∧ (if j = i then fi else f j) ≠ b
    by_cases g : j = i
    · rw [if_pos g, if_pos g, if_pos g]; exact ⟨rfl, h1, h2, by simpa using h3, h4⟩
    · rw [if_neg g, if_neg g, if_neg g]
      rw [getD_set_ne _ _ g] at h0
      obtain ⟨q1, q2, q3, q4, q5⟩ := hl.adr j hj h0
      exact ⟨q1, q2, Nat.lt_of_lt_of_le q3 hE, by simpa using q4, q5⟩
  · rw [List.length_set] at hj hk
    show (if j = i then fi else f j) ≠ (if k = i then fi else f k)
    by_cases g : j = i
    · rw [if_pos g, if_neg (by omega)]
      rw [getD_set_ne _ _ (show k ≠ i by omega)] at g1
      exact fun q => h5 k hk (by omega) g1 q.symm
    · rw [if_neg g]
      rw [getD_set_ne _ _ g] at g0
      by_cases g' : k = i
      · rw [if_pos g']; exact h5 j hj g g0
      · rw [if_neg g']
        rw [getD_set_ne _ _ g'] at g1
        exact hl.sep j k hj hk hjk g0 g1
  · rw [List.length_set] at hj
    show World.frozen? _ ⟨if j = i then fi else f j, (if j = i then oi else o j) + k, none⟩ = false
    rw [World.frozen?_setCell]
    by_cases g : j = i
    · subst g
      rw [getD_set_eq _ _ hj] at hk
      rw [if_pos rfl, if_pos rfl]; exact h6 k hk
    · rw [getD_set_ne _ _ g] at hk
      rw [if_neg g, if_neg g]; exact hl.unf j hj k hk
  · rw [List.length_set] at hj
    show World.cell? _ ⟨if j = i then fi else f j, (if j = i then oi else o j) + k, none⟩ = _
    by_cases g : j = i
    · subst g
      rw [getD_set_eq _ _ hj] at hk ⊢
      rw [if_pos rfl, if_pos rfl]; exact (oth ⟨fi, oi + k, none⟩ h4 _).trans (h7 k hk)
    · rw [getD_set_ne _ _ g] at hk ⊢
      rw [if_neg g, if_neg g]
      exact (oth ⟨f j, o j + k, none⟩ (hl.adr j hj (by omega)).2.2.2.2 _).trans (hv j hj g k hk)
/-- The boxes of such a walk: the problem's, the result's. -/
structure Ent (g r : Nat) (A0 A1 : Value) (w : World) : Prop where
  lg : g < w.heap.size
  lr : r < w.heap.size
  g0 : w.cell? ⟨g, 0, none⟩ = some A0
  g1 : w.cell? ⟨g, 1, none⟩ = some A1
  r0 : w.cell? ⟨r, 0, none⟩ = some (.slice none 0 0)
  r1 : w.cell? ⟨r, 1, none⟩ = some (.slice none 0 0)
  f0 : w.frozen? ⟨r, 0, none⟩ = false
  f1 : w.frozen? ⟨r, 1, none⟩ = false
theorem Ent.on {g r : Nat} {A0 A1 : Value} {w w' : World} (h : Ent g r A0 A1 w) (ho : On w w') : Ent g r A0 A1 w' :=
  ⟨ho.lts _ h.lg, ho.lts _ h.lr, (ho.cell (by exact h.lg)).trans h.g0, (ho.cell (by exact h.lg)).trans h.g1, (ho.cell (by exact h.lr)).trans h.r0, (ho.cell (by exact h.lr)).trans h.r1, (ho.frozen (by exact h.lr)).trans h.f0, (ho.frozen (by exact h.lr)).trans h.f1⟩
theorem Ent.off {g r : Nat} {A0 A1 : Value} {w : World} (h : Ent g r A0 A1 w) {p : Addr} (h1 : p.block ≠ g) (h2 : p.block ≠ r) (u : Value) : Ent g r A0 A1 (w.setCell p u) where
  lg := by simpa using h.lg
  lr := by simpa using h.lr
  g0 := (World.cell?_setCell_other (h := fun e => h1 (by rw [e])) ..).trans h.g0
  g1 := (World.cell?_setCell_other (h := fun e => h1 (by rw [e])) ..).trans h.g1
  r0 := (World.cell?_setCell_other (h := fun e => h2 (by rw [e])) ..).trans h.r0
  r1 := (World.cell?_setCell_other (h := fun e => h2 (by rw [e])) ..).trans h.r1
  f0 := by rw [World.frozen?_setCell]; exact h.f0
  f1 := by rw [World.frozen?_setCell]; exact h.f1
theorem row_bd {N : T} (hk : Ok N) : (∀ i, i < N.f0.length → 0 < (N.f0.getD i []).length ∧ (N.f0.getD i []).length ≤ 1048576) ∧ ∀ i, i < N.f1.length → 0 < (N.f1.getD i []).length ∧ (N.f1.getD i []).length ≤ 1048576 := by
  have h1 := hk.n1
  have h2 := hk.n2
  refine ⟨fun i hi => ?_, fun i hi => ?_⟩
  · have := (of_dom (hk.dom i hi)).1; omega
  · have := hk.row i (by rw [← hk.len]; exact hi); omega
theorem On.undrew {w w' : World} (h : On w.drew w') : On w w' := by
  have h' : Below w.drew.heap.size w.drew w' := h
  exact ⟨h'.os, h'.tape, h'.output, h'.size, fun k hk => h'.block k hk⟩
theorem held_two {W w' : World} {g : Nat} {v0 v1 : Value} (h0 : W.cell? ⟨g, 0, none⟩ = some v0) (h1 : W.cell? ⟨g, 1, none⟩ = some v1) (h : On W w') :
    On W w' ∧ w'.cell? ⟨g, 0, none⟩ = some v0 ∧ w'.cell? ⟨g, 1, none⟩ = some v1 :=
  ⟨h, (h.cell (World.block_lt_of_cell? _ _ h0)).trans h0, (h.cell (World.block_lt_of_cell? _ _ h1)).trans h1⟩
set_option maxRecDepth 100000 in
set_option maxHeartbeats 4000000 in
/-- The model's own problem. -/
theorem spec_own (gp : Nat) (N : T) (a0 a1 : Option Addr) (c0 c1 : Nat) (w : World) (hk : Ok N) (h : At w gp N a0 a1 c0 c1) :
    Calls Try.prog 53 #[.pointer (some ⟨gp, 0, none⟩)] w fun e w' => ∃ x0 d0 x1 d1 B0 E0 B1 E1, e = .returned (.agg #[.slice x0 N.f0.length d0, .slice x1 N.f1.length d1]) ∧ OwnX B0 E0 w' (.slice x0 N.f0.length d0) N.f0 ∧ OwnX B1 E1 w' (.slice x1 N.f1.length d1) N.f1 ∧
      (E0 ≤ B1 ∨ E1 ≤ B0) ∧ w.heap.size ≤ B0 ∧ w.heap.size ≤ B1 ∧ E0 ≤ w'.heap.size ∧ E1 ≤ w'.heap.size ∧ (∀ g, (Value.slice x0 N.f0.length d0).ownBlock = some g → ∀ j, w'.frozen? ⟨g, j, none⟩ = false) ∧ On w w' := by
  have hb := row_bd hk
  have hn := hk.n2
  have hl := hk.len
  have HNP := Lib.hid hk.n1
  have H0 := Lib.hid (fun w' (hb' : On w w') => Cpy.spec_lists _ N.f0 w' (by omega) hb.1 (h.r0.below hb'))
  have H1 := Lib.hid (fun w' (hb' : On w w') => Cpy.spec_lists _ N.f1 w' (by omega) hb.2 (h.r1.below hb'))
  obtain ⟨W, hW⟩ : ∃ W, W = w.alloc (.cells #[.slice none 0 0, .slice none 0 0] 27) := ⟨_, rfl⟩
  have HW := Lib.hid hW
  have HO := Lib.hid (show On w W by rw [hW]; exact (On.refl w).alloc _)
  have HR := Lib.hid (show W.cell? ⟨w.heap.size, 0, none⟩ = some (.slice none 0 0) ∧ W.cell? ⟨w.heap.size, 1, none⟩ = some (.slice none 0 0) by rw [hW]; exact ⟨by simp [go_sem], by simp [go_sem]⟩)
  have HF := Lib.hid (show ∀ i, W.frozen? ⟨w.heap.size, i, none⟩ = false by rw [hW]; intro i; simp [go_sem])
  have hgp := h.lt
  have HK0 := Lib.hid h.k0
  have HK1 := Lib.hid h.k1
  have y0 : w.heap.size < W.heap.size := by rw [hW]; simp
  have y1 : W.heap.size = w.heap.size + 1 := by rw [hW]; simp
  have HY := Lib.hid y1
  obtain ⟨n0, hn0⟩ : ∃ n, n = N.f0.length := ⟨_, rfl⟩
  obtain ⟨n1, hn1⟩ : ∃ n, n = N.f1.length := ⟨_, rfl⟩
  rw [← hn0] at H0 HK0 ⊢
  rw [← hn1] at H1 HK1 ⊢
  clear h hb hW hn0 hn1 hk hn hl y1
  go_enter Try.func53, Try.ntmps53
  go_upto_region 1 with fail
  rw [← HW.out]
  obtain ⟨r0, r1⟩ := HR.out
  have f0 := HF.out 0
  have f1 := HF.out 1
  go_region_held3 (fun w' => On w w' ∧ w'.cell? ⟨gp, 0, none⟩ = some (.slice a0 n0 c0) ∧ w'.cell? ⟨gp, 1, none⟩ = some (.slice a1 n1 c1))
    ((refine held_two HK0.out HK1.out ?_; repeat (first | with_reducible exact HO.out | with_reducible exact On.refl _ | with_reducible assumption | apply On.alloc | apply On.drew | (obtain ⟨hOW, _⟩ := ‹On w _ ∧ _›; exact hOW) | (refine On.setCell ?_ (by (try simp) <;> omega) _) | (refine On.trans ?_ (by assumption)))))
    (first
      | (go_at_call 75; with_reducible refine (H0.out _ (by repeat (first | with_reducible exact HO.out | with_reducible exact On.refl _ | with_reducible assumption | apply On.alloc | apply On.drew | (obtain ⟨hOW, _⟩ := ‹On w _ ∧ _›; exact hOW) | (refine On.trans ?_ (by assumption))))).mono ?_; rintro e w' ⟨x0, d0, rfl, hown0, hfz0, hcall⟩; (try (with_reducible replace hcall := On.undrew hcall)); obtain ⟨hc0, hf0⟩ := bcell hcall; have hgr0 := hcall.lts; have hsz0 := hcall.size; have hcall0 := hcall; clear hcall; (try simp at hsz0))
      | (go_at_call 75; with_reducible refine (H1.out _ (by repeat (first | with_reducible exact HO.out | with_reducible exact On.refl _ | with_reducible assumption | apply On.alloc | apply On.drew | (obtain ⟨hOW, _⟩ := ‹On w _ ∧ _›; exact hOW) | (refine On.trans ?_ (by assumption))))).mono ?_; rintro e w' ⟨x1, d1, rfl, hown1, -, hcall⟩; (try (with_reducible replace hcall := On.undrew hcall)); obtain ⟨hc1, hf1⟩ := bcell hcall; have hgr1 := hcall.lts; have hsz1 := hcall.size; have hcall1 := hcall; clear hcall; (try simp at hsz1)))
  all_goals
    go_wp2_with fail
    have u0 : w'.cell? ⟨w.heap.size, 0, none⟩ = some (.slice none 0 0) := (hc1 _ _ (hgr0 _ y0)).trans ((hc0 _ _ y0).trans r0)
    have u1 : w'.cell? ⟨w.heap.size, 1, none⟩ = some (.slice none 0 0) := (hc1 _ _ (hgr0 _ y0)).trans ((hc0 _ _ y0).trans r1)
    have hyy := HY.out
    refine bodyPost_ret (v := .agg #[.slice x0 n0 d0, .slice x1 n1 d1]) (by simp [results, Try.results53, go_sem, u0, u1]) rfl ⟨_, _, _, _, W.heap.size, _, _, w'.heap.size, rfl, own_off (own_off (hown0.below hcall1) (.inl (by show w.heap.size < W.heap.size; omega)) _) (.inl (by show w.heap.size < W.heap.size; omega)) _, own_off (own_off hown1 (.inl (by show w.heap.size < _; omega)) _) (.inl (by show w.heap.size < _; omega)) _, .inl (Nat.le_refl _), by omega, by omega, ?_, ?_, ?_, ?_⟩
    · simpa using hsz1
    · simp
    · intro g hg j
      rw [World.frozen?_setCell, World.frozen?_setCell]
      refine (hcall1.frozen (p := ⟨g, j, none⟩) ?_).trans (hfz0 g hg j)
      obtain ⟨a', cap', hv', hc'⟩ := hown0
      cases hv'
      by_cases hn : 0 < N.f0.length
      · obtain ⟨b, off, f, o, ee, D, hx, hlay, -⟩ := hc' hn
        rw [hx] at hg
        simp [Value.ownBlock] at hg
        show g < _
        rw [← hg]; exact hlay.lt
      · exact absurd hn (by have := HNP.out; omega)
    · refine On.setCell (On.setCell (HO.out.trans (hcall0.trans hcall1)) (by exact Nat.le_refl _) _) (by exact Nat.le_refl _) _
end Go.Proofs.Ytofoffdmhekceaa.Rst
