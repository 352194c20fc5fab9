
/-
  Records Terrain of a call's own memory: what the laws' marking of them and the later look at the marks return. Condition: at most 1048576 numbers.
-/
import Derived.Test.YtnambnddoebeiaaMark2
import Derived.Test.YtnambnddoebeiaaTRec0
namespace Go.Proofs.Ytnambnddoebeiaa.TRec
open Go.RowKit
open Ints (Ints Own)
open Go.Proofs.Ytnambnddoebeiaa.Mark (marks marks_length)

theorem In.keep {w w' : World} {g : Nat} {x0 : Int} {x1 : Int} {x2 : Int} {v3 : Value} {v4 : Value} (h : In w g x0 x1 x2 v3 v4) (hc : ∀ i, w'.cell? ⟨g, i, none⟩ = w.cell? ⟨g, i, none⟩) : In w' g x0 x1 x2 v3 v4 :=
  ⟨(hc 0).trans h.1, (hc 1).trans h.2.1, (hc 2).trans h.2.2.1, (hc 3).trans h.2.2.2.1, (hc 4).trans h.2.2.2.2⟩
theorem In.blk {w : World} {g : Nat} {x0 : Int} {x1 : Int} {x2 : Int} {v3 : Value} {v4 : Value} (h : In w g x0 x1 x2 v3 v4) : g < w.heap.size := World.block_lt_of_cell? w _ h.1
/-- A block is none of those that slices lie in. -/
def Off (L : List (Option Addr × Nat)) (g : Nat) : Prop := ∀ e ∈ L, 0 < e.2 → ∀ q, e.1 = some q → g ≠ q.block
theorem own_block {B : Nat} {w : World} {a : Option Addr} {n cap : Nat} {zs : List Int} (hz : zs.length = n) (h : Own B w (.slice a n cap) zs) (h0 : 0 < n) : ∀ q, a = some q → q.block < w.heap.size := by
  subst hz
  intro q hq
  obtain ⟨a', cap', hv, hc⟩ := h
  cases hv
  obtain ⟨b, off, ha, _, hlt, _⟩ := hc h0
  rw [ha] at hq
  cases hq
  exact hlt
theorem own_keep {B : Nat} {w w' : World} {b : Option Addr} {m dap : Nat} {cs : List Int} (hm : cs.length = m) (h : Own B w (.slice b m dap) cs) (hsz : w.heap.size ≤ w'.heap.size) (hf : ∀ p, w'.frozen? p = w.frozen? p)
    (hx : 0 < m → ∀ q, b = some q → ∀ p : Addr, p.block = q.block → w'.cell? p = w.cell? p) : Own B w' (.slice b m dap) cs := by
  subst hm
  obtain ⟨a', cap', hv, hh⟩ := h
  refine ⟨a', cap', hv, fun h0 => ?_⟩
  obtain ⟨g, off, ha, hB, hlt, h1, h2⟩ := hh h0
  cases hv
  exact ⟨g, off, ha, hB, Nat.lt_of_lt_of_le hlt hsz, fun i hi => (hf _).trans (h1 i hi), fun i hi => (hx h0 ⟨g, off, none⟩ ha ⟨g, off + i, none⟩ rfl).trans (h2 i hi)⟩
theorem own_ge {B : Nat} {w : World} {a : Option Addr} {n cap : Nat} {zs : List Int} (hz : zs.length = n) (h : Own B w (.slice a n cap) zs) (h0 : 0 < n) : ∀ q, a = some q → B ≤ q.block := by
  subst hz
  intro q hq
  obtain ⟨a', cap', hv, hc⟩ := h
  cases hv
  obtain ⟨b, off, ha, hB, _⟩ := hc h0
  rw [ha] at hq
  cases hq
  exact hB
/-- A record's slices, in memory of their own, apart from each other. -/
def OwnR (B : Nat) (w : World) (a3 : Option Addr) (n3 c3 : Nat) (a4 : Option Addr) (n4 c4 : Nat) (z3 z4 : List Int) : Prop :=
  z3.length = n3 ∧ z4.length = n4 ∧ Own B w (.slice a3 n3 c3) z3 ∧ Own B w (.slice a4 n4 c4) z4 ∧ (0 < n3 → 0 < n4 → ∀ p q, a3 = some p → a4 = some q → p.block ≠ q.block)
theorem OwnR.below {B : Nat} {w : World} {a3 : Option Addr} {n3 c3 : Nat} {a4 : Option Addr} {n4 c4 : Nat} {z3 z4 : List Int} {w' : World} (h : OwnR B w a3 n3 c3 a4 n4 c4 z3 z4) (hb : Below w.heap.size w w') : OwnR B w' a3 n3 c3 a4 n4 c4 z3 z4 := by
  obtain ⟨l3, l4, o3, o4, d34⟩ := h
  exact ⟨l3, l4, o3.below hb, o4.below hb, d34⟩
theorem OwnR.mono {B : Nat} {w : World} {a3 : Option Addr} {n3 c3 : Nat} {a4 : Option Addr} {n4 c4 : Nat} {z3 z4 : List Int} {B' : Nat} (h : OwnR B w a3 n3 c3 a4 n4 c4 z3 z4) (hb : B' ≤ B) : OwnR B' w a3 n3 c3 a4 n4 c4 z3 z4 := by
  obtain ⟨l3, l4, o3, o4, d34⟩ := h
  exact ⟨l3, l4, o3.mono hb, o4.mono hb, d34⟩
theorem OwnR.off {B : Nat} {w : World} {a3 : Option Addr} {n3 c3 : Nat} {a4 : Option Addr} {n4 c4 : Nat} {z3 z4 : List Int} (h : OwnR B w a3 n3 c3 a4 n4 c4 z3 z4) {g : Nat} (hg : w.heap.size ≤ g) : Off [(a3, n3), (a4, n4)] g := by
  obtain ⟨l3, l4, o3, o4, d34⟩ := h
  intro e he h0 q hq
  simp only [List.mem_cons, List.not_mem_nil, or_false] at he
  rcases he with rfl | rfl
  · have := own_block l3 o3 h0 q hq; omega
  · have := own_block l4 o4 h0 q hq; omega
theorem OwnR.keep {B : Nat} {w : World} {a3 : Option Addr} {n3 c3 : Nat} {a4 : Option Addr} {n4 c4 : Nat} {z3 z4 : List Int} {w' : World} {L : List (Option Addr × Nat)} (h : OwnR B w a3 n3 c3 a4 n4 c4 z3 z4) (hsz : w.heap.size ≤ w'.heap.size) (hf : ∀ p, w'.frozen? p = w.frozen? p) (hx : ∀ p : Addr, Off L p.block → w'.cell? p = w.cell? p) (hB : ∀ g, B ≤ g → Off L g) : OwnR B w' a3 n3 c3 a4 n4 c4 z3 z4 := by
  obtain ⟨l3, l4, o3, o4, d34⟩ := h
  exact ⟨l3, l4, own_keep l3 o3 hsz hf (fun h0 q hq p hp => hx p (by rw [hp]; exact hB _ (own_ge l3 o3 h0 q hq))), own_keep l4 o4 hsz hf (fun h0 q hq p hp => hx p (by rw [hp]; exact hB _ (own_ge l4 o4 h0 q hq))), d34⟩
theorem OwnR.ints3 {B : Nat} {w : World} {a3 : Option Addr} {n3 c3 : Nat} {a4 : Option Addr} {n4 c4 : Nat} {z3 z4 : List Int} (h : OwnR B w a3 n3 c3 a4 n4 c4 z3 z4) : Ints w (.slice a3 n3 c3) z3 := by
  obtain ⟨l3, l4, o3, o4, d34⟩ := h
  exact o3.ints
theorem OwnR.ints4 {B : Nat} {w : World} {a3 : Option Addr} {n3 c3 : Nat} {a4 : Option Addr} {n4 c4 : Nat} {z3 z4 : List Int} (h : OwnR B w a3 n3 c3 a4 n4 c4 z3 z4) : Ints w (.slice a4 n4 c4) z4 := by
  obtain ⟨l3, l4, o3, o4, d34⟩ := h
  exact o4.ints
theorem OwnR.keepL {B : Nat} {w : World} {a3 : Option Addr} {n3 c3 : Nat} {a4 : Option Addr} {n4 c4 : Nat} {z3 z4 : List Int} {w' : World} {L : List (Option Addr × Nat)} (h : OwnR B w a3 n3 c3 a4 n4 c4 z3 z4) (hsz : w.heap.size ≤ w'.heap.size) (hf : ∀ p, p.block < w.heap.size → w'.frozen? p = w.frozen? p) (hx : ∀ p : Addr, p.block < w.heap.size → Off L p.block → w'.cell? p = w.cell? p) (hB : ∀ g, B ≤ g → Off L g) : OwnR B w' a3 n3 c3 a4 n4 c4 z3 z4 := by
  obtain ⟨l3, l4, o3, o4, d34⟩ := h
  have K : ∀ {b : Option Addr} {m dap : Nat} {cs : List Int}, cs.length = m → Own B w (.slice b m dap) cs → Own B w' (.slice b m dap) cs := by
    intro b m dap cs hm ho
    subst hm
    obtain ⟨a', cap', hv, hh⟩ := ho
    refine ⟨a', cap', hv, fun h0 => ?_⟩
    obtain ⟨g, off, ha, hBg, hlt, h1, h2⟩ := hh h0
    exact ⟨g, off, ha, hBg, Nat.lt_of_lt_of_le hlt hsz, fun i hi => (hf ⟨g, off + i, none⟩ hlt).trans (h1 i hi), fun i hi => (hx ⟨g, off + i, none⟩ hlt (hB g hBg)).trans (h2 i hi)⟩
  exact ⟨l3, l4, K l3 o3, K l4 o4, d34⟩
theorem restL_sum (ls : List Nat) : ∀ left, restL left ls = -1 ∨ ∃ r : Nat, restL left ls = (r : Int) ∧ ls.sum + r = left := by
  induction ls with
  | nil => exact fun left => .inr ⟨left, rfl, by simp⟩
  | cons l ls ih =>
    intro left
    by_cases h : l ≤ left
    · rw [restL_yes h]
      rcases ih (left - l) with h1 | ⟨r, h1, h2⟩
      · exact .inl h1
      · exact .inr ⟨r, h1, by rw [List.sum_cons]; omega⟩
    · exact .inl (restL_no h)
set_option maxHeartbeats 1000000 in
theorem markR (B k : Nat) (x0 : Int) (x1 : Int) (x2 : Int) (a3 : Option Addr) (n3 c3 : Nat) (a4 : Option Addr) (n4 c4 : Nat) (z3 z4 : List Int) (w : World) (h1k : 1 ≤ k) (hk : k + n3 + n4 ≤ 1048577) (hB : B ≤ w.heap.size) (h : OwnR B w a3 n3 c3 a4 n4 c4 z3 z4) :
    Calls Try.prog 12 #[.agg #[.int .i64 x0, .int .i64 x1, .int .i64 x2, .slice a3 n3 c3, .slice a4 n4 c4], .int .i64 k] w fun e w' => e = .returned (.int .i64 ((k + n3 + n4 : Nat) : Int)) ∧ Below B w w' ∧ OwnR B w' a3 n3 c3 a4 n4 c4 (marks (k) n3) (marks (k + n3) n4) ∧ (∀ p, p.block < w.heap.size → w'.frozen? p = w.frozen? p) ∧ ∀ p : Addr, p.block < w.heap.size → Off [(a3, n3), (a4, n4)] p.block → w'.cell? p = w.cell? p := by
  obtain ⟨l3, l4, o3, o4, d34⟩ := h
  have HM := Lib.hid (fun w' (hb : On w w') => Mark.markOnly B k a3 c3 z3 w' (by omega) (by omega) (by rw [l3]; exact o3.below hb))
  have hnb := own_block l3 o3
  have HG := Lib.hid o4
  have HGe := Lib.hid (own_block l4 o4)
  have HD := Lib.hid d34
  have HNE := Lib.hid hnb
  have HL := Lib.hid l4
  subst l3
  clear o3 o4 d34 hnb l4
  go_enter Try.func12, Try.ntmps12
  go_wp2_with fail
  refine (HM.out _ (by repeat (first | with_reducible exact On.refl _ | apply On.alloc))).mono ?_
  rintro e w1 ⟨rfl, hb1, ho1, hf1, hx1⟩
  have hA : On w (w.alloc (.cells #[.int .i64 x0, .int .i64 x1, .int .i64 x2, .slice a3 z3.length c3, .slice a4 n4 c4] 26)) := On.alloc (On.refl w) _
  have r4 : w1.cell? ⟨w.heap.size, 4, none⟩ = some (.slice a4 n4 c4) := (hx1 ⟨w.heap.size, 4, none⟩ (fun h0 q hq => by have := HNE.out h0 q hq; show w.heap.size ≠ q.block; omega)).trans (by simp [go_sem])
  have hg1 : Own B w1 (.slice a4 n4 c4) z4 := own_keep HL.out (HG.out.below (by repeat (first | with_reducible exact On.refl _ | apply On.alloc))) hb1.size hf1 (fun h0 q hq p hp => hx1 p (fun h1 q1 hq1 => by rw [hp]; exact Ne.symm (HD.out h1 h0 q1 q hq1 hq)))
  have K1 := Lib.hid (show Below B w w1 by refine Below.trans (Below.mono ?_ hB) hb1; exact On.alloc (On.refl w) _)
  have HO1 := Lib.hid ho1
  have HF1 := Lib.hid (fun (p : Addr) (hp : p.block < w.heap.size) => (hf1 p).trans ((On.alloc (On.refl w) _).frozen hp))
  have HX1 := Lib.hid (fun (p : Addr) (hp : p.block < w.heap.size) (ho : Off [(a3, z3.length), (a4, n4)] p.block) => (hx1 p (fun h0 q hq => ho (a3, z3.length) (by simp) h0 q hq)).trans ((On.alloc (On.refl w) _).cell hp))
  have hs1 : w.heap.size ≤ w1.heap.size := K1.out.size
  have HM2 := Lib.hid (Mark.markOnly B (k + z3.length) a4 c4 z4 w1 (by have := HL.out; omega) (by omega) (by rw [HL.out]; exact hg1))
  rw [HL.out] at HM2
  clear hb1 ho1 hf1 hx1 hg1 hA
  go_wp2_with fail
  refine HM2.out.mono ?_
  rintro e w2 ⟨rfl, hb2, ho2, hf2, hx2⟩
  have HO2 := Lib.hid (show Own B w2 (.slice a3 z3.length c3) (marks k z3.length) from own_keep (marks_length _ _) HO1.out hb2.size hf2 (fun h0 q hq p hp => hx2 p (fun h1 q1 hq1 => by rw [hp]; exact HD.out h0 h1 q q1 hq hq1)))
  have K2 := Lib.hid (Below.trans K1.out hb2)
  have HP2 := Lib.hid ho2
  have HF2 := Lib.hid (fun (p : Addr) (hp : p.block < w.heap.size) => (hf2 p).trans (HF1.out p hp))
  have HX2 := Lib.hid (fun (p : Addr) (hp : p.block < w.heap.size) (ho : Off [(a3, z3.length), (a4, n4)] p.block) => (hx2 p (fun h0 q hq => ho (a4, n4) (by simp) h0 q hq)).trans (HX1.out p hp ho))
  clear hb2 ho2 hf2 hx2
  go_wp2_with fail
  go_ret
  exact ⟨rfl, K2.out, ⟨marks_length _ _, marks_length _ _, HO2.out, HP2.out, HD.out⟩, HF2.out, HX2.out⟩
set_option maxHeartbeats 1000000 in
theorem heldR (B k : Nat) (x0 : Int) (x1 : Int) (x2 : Int) (a3 : Option Addr) (n3 c3 : Nat) (a4 : Option Addr) (n4 c4 : Nat) (w : World) (h1k : 1 ≤ k) (hk : k + n3 + n4 ≤ 1048577) (h : OwnR B w a3 n3 c3 a4 n4 c4 (marks (k) n3) (marks (k + n3) n4)) :
    Calls Try.prog 13 #[.agg #[.int .i64 x0, .int .i64 x1, .int .i64 x2, .slice a3 n3 c3, .slice a4 n4 c4], .int .i64 k] w fun e w' => e = .returned (.int .i64 ((k + n3 + n4 : Nat) : Int)) ∧ On w w' := by
  obtain ⟨-, -, o3, o4, -⟩ := h
  have HM3 := Lib.hid (fun w' (hb : On w w') => Mark.held B (k) n3 _ w' (by omega) (by omega) (o3.below hb))
  have HM4 := Lib.hid (fun w' (hb : On w w') => Mark.held B (k + n3) n4 _ w' (by omega) (by omega) (o4.below hb))
  have q3 : ¬ ((k : Nat) : Int) + (n3 : Int) < 0 := by omega
  have q4 : ¬ (k : Int) + (n3 : Int) + (n4 : Int) < 0 := by omega
  clear o3 o4
  go_enter Try.func13, Try.ntmps13
  go_wp2_with fail
  refine (HM3.out _ (by repeat (first | with_reducible exact On.refl _ | apply On.alloc))).mono ?_
  rintro e w3' ⟨rfl, rfl⟩
  go_wp2_with fail
  refine (HM4.out _ (by repeat (first | with_reducible exact On.refl _ | apply On.alloc))).mono ?_
  rintro e w4' ⟨rfl, rfl⟩
  go_wp2_with fail
  go_ret
  exact ⟨rfl, (by repeat (first | with_reducible exact On.refl _ | apply On.alloc))⟩
end Go.Proofs.Ytnambnddoebeiaa.TRec
