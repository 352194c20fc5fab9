
/-
  Results of their own memory, for the laws' walks: numbers, and lists of numbers, each read, marked and looked at in one form. Conditions: sizes that fit.
-/
import Derived.Test.YtofoffdmhekceaaMatK
namespace Go.Proofs.Ytofoffdmhekceaa.Mats
open Go.RowKit
open Mrk (Kd Nst)
open Go.Proofs.Ytofoffdmhekceaa.Mark (marks marks_length)

def OwnE (B : Nat) (w : World) (v : Value) (zss : List (List Int)) : Prop := ∃ E, OwnX B E w v zss
theorem OwnE.below {B : Nat} {w w' : World} {v : Value} {zss : List (List Int)} (h : OwnE B w v zss) (ho : On w w') : OwnE B w' v zss := by
  obtain ⟨E, h⟩ := h; exact ⟨E, h.below ho⟩
theorem OwnE.mono {B B' : Nat} {w : World} {v : Value} {zss : List (List Int)} (h : OwnE B w v zss) (hb : B' ≤ B) : OwnE B' w v zss := by
  obtain ⟨E, h⟩ := h; exact ⟨E, h.mono hb (Nat.le_refl _)⟩
theorem OwnE.off2 {B : Nat} {w w' : World} {v : Value} {zss : List (List Int)} (h : OwnE B w v zss) (hs : w.heap.size ≤ w'.heap.size) (hf : ∀ p : Addr, p.block < w.heap.size → w'.frozen? p = w.frozen? p)
    (hx : ∀ p : Addr, p.block < w.heap.size → B ≤ p.block → w'.cell? p = w.cell? p) : OwnE B w' v zss := by
  obtain ⟨E, h⟩ := h; exact ⟨E, h.off2 hs hf hx⟩
theorem OwnE.rows {B : Nat} {w : World} {v : Value} {zss : List (List Int)} (h : OwnE B w v zss) : Rows w v zss := by
  obtain ⟨E, h⟩ := h; exact h.rows
theorem markE (B : Nat) (v : Value) (zss : List (List Int)) (w : World) (hn : zss.length ≤ 1048576) (hk : 1 + tot zss ≤ 1048576) (h : OwnE B w v zss) :
    Calls Try.prog 26 #[v, .int .i64 1] w fun e w' => e = .returned (.int .i64 ((1 + tot zss : Nat) : Int)) ∧ Below B w w' ∧ OwnE B w' v (marksM 1 zss) := by
  obtain ⟨E, h⟩ := h
  exact (markX B E 1 v zss w hn hk h).mono fun e w' ⟨h1, h2, h3, _⟩ => ⟨h1, h2, E, h3⟩
theorem heldE (B : Nat) (v : Value) (zss : List (List Int)) (w : World) (hn : zss.length ≤ 1048576) (hk : 1 + tot zss ≤ 1048576) (h : OwnE B w v (marksM 1 zss)) :
    Calls Try.prog 27 #[v, .int .i64 1] w fun e w' => e = .returned (.int .i64 ((1 + tot zss : Nat) : Int)) ∧ On w w' := by
  obtain ⟨E, h⟩ := h
  exact (heldX B E 1 v zss w hn hk h).mono fun e w' ⟨h1, h2⟩ => ⟨h1, h2 ▸ On.refl _⟩
theorem eqI (v u : Value) (rs : List Int) (w : World) (hn : rs.length ≤ 1048576) (h : Ints.Ints w v rs) (k : Ints.Ints w u rs) :
    Calls Try.prog 20 #[v, u] w fun e w' => e = .returned (.bool true) ∧ On w w' :=
  (Ints.eq v u rs w hn h k).mono fun _ _ ⟨h1, _, h2⟩ => ⟨h1, h2 ▸ Ints.below_drewN _ _⟩
theorem markI (B : Nat) (v : Value) (rs : List Int) (w : World) (hn : rs.length ≤ 1048576) (h : Ints.Own B w v rs) :
    Calls Try.prog 25 #[v, .int .i64 1] w fun e w' => e = .returned (.int .i64 ((1 + rs.length : Nat) : Int)) ∧ Below B w w' ∧ Ints.Own B w' v (marks 1 rs.length) :=
  Mark.mark B 1 v rs w hn (by decide) h
theorem heldI (B : Nat) (v : Value) (rs : List Int) (w : World) (hn : rs.length ≤ 1048576) (h : Ints.Own B w v (marks 1 rs.length)) :
    Calls Try.prog 49 #[v, .int .i64 1] w fun e w' => e = .returned (.int .i64 ((1 + rs.length : Nat) : Int)) ∧ On w w' :=
  (Mark.held B 1 rs.length v w hn (by decide) h).mono fun e w' ⟨h1, h2⟩ => ⟨h1, h2 ▸ On.refl _⟩
theorem nst_mono {B B' E E' c : Nat} {w : World} {n : Nat} {v : Value} (h : Nst B E c w n v) (hb : B' ≤ B) (he : E ≤ E') : Nst B' E' c w n v := by
  obtain ⟨a, cap, hv, hc⟩ := h
  refine ⟨a, cap, hv, fun h0 => ?_⟩
  obtain ⟨b, off, ha, h1, h2, h3⟩ := hc h0
  exact ⟨b, off, ha, by omega, by omega, h3⟩
theorem ShpM.mono {B B' E E' : Nat} {w : World} {n : Nat} {v : Value} (h : ShpM B E w n v) (hb : B' ≤ B) (he : E ≤ E') : ShpM B' E' w n v := by
  obtain ⟨a, cap, hv, hc⟩ := h
  refine ⟨a, cap, hv, fun h0 => ?_⟩
  obtain ⟨b, off, ha, h1, h2⟩ := hc h0
  refine ⟨b, off, ha, h1, fun i hi => ?_⟩
  obtain ⟨d, l, e, h3, h4, h5⟩ := h2 i hi
  exact ⟨d, l, e, h3, h4, nst_mono h5 hb he⟩
end Go.Proofs.Ytofoffdmhekceaa.Mats
namespace Go.Proofs.Ytofoffdmhekceaa.Prb
open Go.RowKit
theorem Shp.mono {B B' E E' : Nat} {w : World} {N : T} {v : Value} (h : Shp B E w N v) (hb : B' ≤ B) (he : E ≤ E') : Shp B' E' w N v := by
  obtain ⟨v0, v1, e, h0, h1⟩ := h
  exact ⟨v0, v1, e, h0.mono hb he, h1.mono hb he⟩
end Go.Proofs.Ytofoffdmhekceaa.Prb
