
/-
  Records Antenna of a call's own memory: what the laws' marking of them and the later look at the marks return. Condition: at most 1048576 numbers.
-/
import Derived.Test.YtnambnddoebeiaaMark2
import Derived.Test.YtnambnddoebeiaaAnt0
namespace Go.Proofs.Ytnambnddoebeiaa.Ant
open Go.RowKit
open Ints (Ints Own)
open Go.Proofs.Ytnambnddoebeiaa.Mark (marks marks_length)

theorem In.keep {w w' : World} {g : Nat} {x0 : ByteArray} {x1 : Int} {v2 : Value} {v3 : Value} (h : In w g x0 x1 v2 v3) (hc : ∀ i, w'.cell? ⟨g, i, none⟩ = w.cell? ⟨g, i, none⟩) : In w' g x0 x1 v2 v3 :=
  ⟨(hc 0).trans h.1, (hc 1).trans h.2.1, (hc 2).trans h.2.2.1, (hc 3).trans h.2.2.2⟩
theorem In.blk {w : World} {g : Nat} {x0 : ByteArray} {x1 : Int} {v2 : Value} {v3 : Value} (h : In w g x0 x1 v2 v3) : g < w.heap.size := World.block_lt_of_cell? w _ h.1
/-- A block is none of those that slices lie in. -/
def Off (L : List (Option Addr × Nat)) (g : Nat) : Prop := ∀ e ∈ L, 0 < e.2 → ∀ q, e.1 = some q → g ≠ q.block
theorem own_block {B : Nat} {w : World} {a : Option Addr} {n cap : Nat} {zs : List Int} (hz : zs.length = n) (h : Own B w (.slice a n cap) zs) (h0 : 0 < n) : ∀ q, a = some q → q.block < w.heap.size := by
  subst hz
  intro q hq
  obtain ⟨a', cap', hv, hc⟩ := h
  cases hv
  obtain ⟨b, off, ha, _, hlt, _⟩ := hc h0
  rw [ha] at hq
  cases hq
  exact hlt
theorem own_keep {B : Nat} {w w' : World} {b : Option Addr} {m dap : Nat} {cs : List Int} (hm : cs.length = m) (h : Own B w (.slice b m dap) cs) (hsz : w.heap.size ≤ w'.heap.size) (hf : ∀ p, w'.frozen? p = w.frozen? p)
    (hx : 0 < m → ∀ q, b = some q → ∀ p : Addr, p.block = q.block → w'.cell? p = w.cell? p) : Own B w' (.slice b m dap) cs := by
  subst hm
  obtain ⟨a', cap', hv, hh⟩ := h
  refine ⟨a', cap', hv, fun h0 => ?_⟩
  obtain ⟨g, off, ha, hB, hlt, h1, h2⟩ := hh h0
  cases hv
  exact ⟨g, off, ha, hB, Nat.lt_of_lt_of_le hlt hsz, fun i hi => (hf _).trans (h1 i hi), fun i hi => (hx h0 ⟨g, off, none⟩ ha ⟨g, off + i, none⟩ rfl).trans (h2 i hi)⟩
theorem own_ge {B : Nat} {w : World} {a : Option Addr} {n cap : Nat} {zs : List Int} (hz : zs.length = n) (h : Own B w (.slice a n cap) zs) (h0 : 0 < n) : ∀ q, a = some q → B ≤ q.block := by
  subst hz
  intro q hq
  obtain ⟨a', cap', hv, hc⟩ := h
  cases hv
  obtain ⟨b, off, ha, hB, _⟩ := hc h0
  rw [ha] at hq
  cases hq
  exact hB
/-- A record's slices, in memory of their own, apart from each other. -/
def OwnR (B : Nat) (w : World) (a2 : Option Addr) (n2 c2 : Nat) (a3 : Option Addr) (n3 c3 : Nat) (z2 z3 : List Int) : Prop :=
  z2.length = n2 ∧ z3.length = n3 ∧ Own B w (.slice a2 n2 c2) z2 ∧ Own B w (.slice a3 n3 c3) z3 ∧ (0 < n2 → 0 < n3 → ∀ p q, a2 = some p → a3 = some q → p.block ≠ q.block)
theorem OwnR.below {B : Nat} {w : World} {a2 : Option Addr} {n2 c2 : Nat} {a3 : Option Addr} {n3 c3 : Nat} {z2 z3 : List Int} {w' : World} (h : OwnR B w a2 n2 c2 a3 n3 c3 z2 z3) (hb : Below w.heap.size w w') : OwnR B w' a2 n2 c2 a3 n3 c3 z2 z3 := by
  obtain ⟨l2, l3, o2, o3, d23⟩ := h
  exact ⟨l2, l3, o2.below hb, o3.below hb, d23⟩
theorem OwnR.mono {B : Nat} {w : World} {a2 : Option Addr} {n2 c2 : Nat} {a3 : Option Addr} {n3 c3 : Nat} {z2 z3 : List Int} {B' : Nat} (h : OwnR B w a2 n2 c2 a3 n3 c3 z2 z3) (hb : B' ≤ B) : OwnR B' w a2 n2 c2 a3 n3 c3 z2 z3 := by
  obtain ⟨l2, l3, o2, o3, d23⟩ := h
  exact ⟨l2, l3, o2.mono hb, o3.mono hb, d23⟩
theorem OwnR.off {B : Nat} {w : World} {a2 : Option Addr} {n2 c2 : Nat} {a3 : Option Addr} {n3 c3 : Nat} {z2 z3 : List Int} (h : OwnR B w a2 n2 c2 a3 n3 c3 z2 z3) {g : Nat} (hg : w.heap.size ≤ g) : Off [(a2, n2), (a3, n3)] g := by
  obtain ⟨l2, l3, o2, o3, d23⟩ := h
  intro e he h0 q hq
  simp only [List.mem_cons, List.not_mem_nil, or_false] at he
  rcases he with rfl | rfl
  · have := own_block l2 o2 h0 q hq; omega
  · have := own_block l3 o3 h0 q hq; omega
theorem OwnR.keep {B : Nat} {w : World} {a2 : Option Addr} {n2 c2 : Nat} {a3 : Option Addr} {n3 c3 : Nat} {z2 z3 : List Int} {w' : World} {L : List (Option Addr × Nat)} (h : OwnR B w a2 n2 c2 a3 n3 c3 z2 z3) (hsz : w.heap.size ≤ w'.heap.size) (hf : ∀ p, w'.frozen? p = w.frozen? p) (hx : ∀ p : Addr, Off L p.block → w'.cell? p = w.cell? p) (hB : ∀ g, B ≤ g → Off L g) : OwnR B w' a2 n2 c2 a3 n3 c3 z2 z3 := by
  obtain ⟨l2, l3, o2, o3, d23⟩ := h
  exact ⟨l2, l3, own_keep l2 o2 hsz hf (fun h0 q hq p hp => hx p (by rw [hp]; exact hB _ (own_ge l2 o2 h0 q hq))), own_keep l3 o3 hsz hf (fun h0 q hq p hp => hx p (by rw [hp]; exact hB _ (own_ge l3 o3 h0 q hq))), d23⟩
theorem OwnR.ints2 {B : Nat} {w : World} {a2 : Option Addr} {n2 c2 : Nat} {a3 : Option Addr} {n3 c3 : Nat} {z2 z3 : List Int} (h : OwnR B w a2 n2 c2 a3 n3 c3 z2 z3) : Ints w (.slice a2 n2 c2) z2 := by
  obtain ⟨l2, l3, o2, o3, d23⟩ := h
  exact o2.ints
theorem OwnR.ints3 {B : Nat} {w : World} {a2 : Option Addr} {n2 c2 : Nat} {a3 : Option Addr} {n3 c3 : Nat} {z2 z3 : List Int} (h : OwnR B w a2 n2 c2 a3 n3 c3 z2 z3) : Ints w (.slice a3 n3 c3) z3 := by
  obtain ⟨l2, l3, o2, o3, d23⟩ := h
  exact o3.ints
theorem OwnR.keepL {B : Nat} {w : World} {a2 : Option Addr} {n2 c2 : Nat} {a3 : Option Addr} {n3 c3 : Nat} {z2 z3 : List Int} {w' : World} {L : List (Option Addr × Nat)} (h : OwnR B w a2 n2 c2 a3 n3 c3 z2 z3) (hsz : w.heap.size ≤ w'.heap.size) (hf : ∀ p, p.block < w.heap.size → w'.frozen? p = w.frozen? p) (hx : ∀ p : Addr, p.block < w.heap.size → Off L p.block → w'.cell? p = w.cell? p) (hB : ∀ g, B ≤ g → Off L g) : OwnR B w' a2 n2 c2 a3 n3 c3 z2 z3 := by
  obtain ⟨l2, l3, o2, o3, d23⟩ := h
  have K : ∀ {b : Option Addr} {m dap : Nat} {cs : List Int}, cs.length = m → Own B w (.slice b m dap) cs → Own B w' (.slice b m dap) cs := by
    intro b m dap cs hm ho
    subst hm
    obtain ⟨a', cap', hv, hh⟩ := ho
    refine ⟨a', cap', hv, fun h0 => ?_⟩
    obtain ⟨g, off, ha, hBg, hlt, h1, h2⟩ := hh h0
    exact ⟨g, off, ha, hBg, Nat.lt_of_lt_of_le hlt hsz, fun i hi => (hf ⟨g, off + i, none⟩ hlt).trans (h1 i hi), fun i hi => (hx ⟨g, off + i, none⟩ hlt (hB g hBg)).trans (h2 i hi)⟩
  exact ⟨l2, l3, K l2 o2, K l3 o3, d23⟩
theorem restL_sum (ls : List Nat) : ∀ left, restL left ls = -1 ∨ ∃ r : Nat, restL left ls = (r : Int) ∧ ls.sum + r = left := by
  induction ls with
  | nil => exact fun left => .inr ⟨left, rfl, by simp⟩
  | cons l ls ih =>
    intro left
    by_cases h : l ≤ left
    · rw [restL_yes h]
      rcases ih (left - l) with h1 | ⟨r, h1, h2⟩
      · exact .inl h1
      · exact .inr ⟨r, h1, by rw [List.sum_cons]; omega⟩
    · exact .inl (restL_no h)
set_option maxHeartbeats 1000000 in
theorem markR (B k : Nat) (x0 : ByteArray) (x1 : Int) (a2 : Option Addr) (n2 c2 : Nat) (a3 : Option Addr) (n3 c3 : Nat) (z2 z3 : List Int) (w : World) (h1k : 1 ≤ k) (hk : k + n2 + n3 ≤ 1048577) (hB : B ≤ w.heap.size) (h : OwnR B w a2 n2 c2 a3 n3 c3 z2 z3) :
    Calls Try.prog 22 #[.agg #[.string x0, .int .i64 x1, .slice a2 n2 c2, .slice a3 n3 c3], .int .i64 k] w fun e w' => e = .returned (.int .i64 ((k + n2 + n3 : Nat) : Int)) ∧ Below B w w' ∧ OwnR B w' a2 n2 c2 a3 n3 c3 (marks (k) n2) (marks (k + n2) n3) ∧ (∀ p, p.block < w.heap.size → w'.frozen? p = w.frozen? p) ∧ ∀ p : Addr, p.block < w.heap.size → Off [(a2, n2), (a3, n3)] p.block → w'.cell? p = w.cell? p := by
  obtain ⟨l2, l3, o2, o3, d23⟩ := h
  have HM := Lib.hid (fun w' (hb : On w w') => Mark.markOnly B k a2 c2 z2 w' (by omega) (by omega) (by rw [l2]; exact o2.below hb))
  have hnb := own_block l2 o2
  have HG := Lib.hid o3
  have HGe := Lib.hid (own_block l3 o3)
  have HD := Lib.hid d23
  have HNE := Lib.hid hnb
  have HL := Lib.hid l3
  subst l2
  clear o2 o3 d23 hnb l3
  go_enter Try.func22, Try.ntmps22
  go_wp2_with fail
  refine (HM.out _ (by repeat (first | with_reducible exact On.refl _ | apply On.alloc))).mono ?_
  rintro e w1 ⟨rfl, hb1, ho1, hf1, hx1⟩
  have hA : On w (w.alloc (.cells #[.string x0, .int .i64 x1, .slice a2 z2.length c2, .slice a3 n3 c3] 42)) := On.alloc (On.refl w) _
  have r4 : w1.cell? ⟨w.heap.size, 3, none⟩ = some (.slice a3 n3 c3) := (hx1 ⟨w.heap.size, 3, none⟩ (fun h0 q hq => by have := HNE.out h0 q hq; show w.heap.size ≠ q.block; omega)).trans (by simp [go_sem])
  have hg1 : Own B w1 (.slice a3 n3 c3) z3 := own_keep HL.out (HG.out.below (by repeat (first | with_reducible exact On.refl _ | apply On.alloc))) hb1.size hf1 (fun h0 q hq p hp => hx1 p (fun h1 q1 hq1 => by rw [hp]; exact Ne.symm (HD.out h1 h0 q1 q hq1 hq)))
  have K1 := Lib.hid (show Below B w w1 by refine Below.trans (Below.mono ?_ hB) hb1; exact On.alloc (On.refl w) _)
  have HO1 := Lib.hid ho1
  have HF1 := Lib.hid (fun (p : Addr) (hp : p.block < w.heap.size) => (hf1 p).trans ((On.alloc (On.refl w) _).frozen hp))
  have HX1 := Lib.hid (fun (p : Addr) (hp : p.block < w.heap.size) (ho : Off [(a2, z2.length), (a3, n3)] p.block) => (hx1 p (fun h0 q hq => ho (a2, z2.length) (by simp) h0 q hq)).trans ((On.alloc (On.refl w) _).cell hp))
  have hs1 : w.heap.size ≤ w1.heap.size := K1.out.size
  have HM2 := Lib.hid (Mark.markOnly B (k + z2.length) a3 c3 z3 w1 (by have := HL.out; omega) (by omega) (by rw [HL.out]; exact hg1))
  rw [HL.out] at HM2
  clear hb1 ho1 hf1 hx1 hg1 hA
  go_wp2_with fail
  refine HM2.out.mono ?_
  rintro e w2 ⟨rfl, hb2, ho2, hf2, hx2⟩
  have HO2 := Lib.hid (show Own B w2 (.slice a2 z2.length c2) (marks k z2.length) from own_keep (marks_length _ _) HO1.out hb2.size hf2 (fun h0 q hq p hp => hx2 p (fun h1 q1 hq1 => by rw [hp]; exact HD.out h0 h1 q q1 hq hq1)))
  have K2 := Lib.hid (Below.trans K1.out hb2)
  have HP2 := Lib.hid ho2
  have HF2 := Lib.hid (fun (p : Addr) (hp : p.block < w.heap.size) => (hf2 p).trans (HF1.out p hp))
  have HX2 := Lib.hid (fun (p : Addr) (hp : p.block < w.heap.size) (ho : Off [(a2, z2.length), (a3, n3)] p.block) => (hx2 p (fun h0 q hq => ho (a3, n3) (by simp) h0 q hq)).trans (HX1.out p hp ho))
  clear hb2 ho2 hf2 hx2
  go_wp2_with fail
  go_ret
  exact ⟨rfl, K2.out, ⟨marks_length _ _, marks_length _ _, HO2.out, HP2.out, HD.out⟩, HF2.out, HX2.out⟩
set_option maxHeartbeats 1000000 in
theorem heldR (B k : Nat) (x0 : ByteArray) (x1 : Int) (a2 : Option Addr) (n2 c2 : Nat) (a3 : Option Addr) (n3 c3 : Nat) (w : World) (h1k : 1 ≤ k) (hk : k + n2 + n3 ≤ 1048577) (h : OwnR B w a2 n2 c2 a3 n3 c3 (marks (k) n2) (marks (k + n2) n3)) :
    Calls Try.prog 23 #[.agg #[.string x0, .int .i64 x1, .slice a2 n2 c2, .slice a3 n3 c3], .int .i64 k] w fun e w' => e = .returned (.int .i64 ((k + n2 + n3 : Nat) : Int)) ∧ On w w' := by
  obtain ⟨-, -, o2, o3, -⟩ := h
  have HM2 := Lib.hid (fun w' (hb : On w w') => Mark.held B (k) n2 _ w' (by omega) (by omega) (o2.below hb))
  have HM3 := Lib.hid (fun w' (hb : On w w') => Mark.held B (k + n2) n3 _ w' (by omega) (by omega) (o3.below hb))
  have q2 : ¬ ((k : Nat) : Int) + (n2 : Int) < 0 := by omega
  have q3 : ¬ (k : Int) + (n2 : Int) + (n3 : Int) < 0 := by omega
  clear o2 o3
  go_enter Try.func23, Try.ntmps23
  go_wp2_with fail
  refine (HM2.out _ (by repeat (first | with_reducible exact On.refl _ | apply On.alloc))).mono ?_
  rintro e w2' ⟨rfl, rfl⟩
  go_wp2_with fail
  refine (HM3.out _ (by repeat (first | with_reducible exact On.refl _ | apply On.alloc))).mono ?_
  rintro e w3' ⟨rfl, rfl⟩
  go_wp2_with fail
  go_ret
  exact ⟨rfl, (by repeat (first | with_reducible exact On.refl _ | apply On.alloc))⟩
end Go.Proofs.Ytnambnddoebeiaa.Ant
