
/-
  Records Mask of a call's own memory: what the laws' marking of them and the later look at the marks return. Condition: at most 1048576 numbers.
-/
import Derived.Test.YtjnkfpgglhgkaaaDoorMark2
import Derived.Test.YtjnkfpgglhgkaaaDoorMsk0
namespace Go.Proofs.YtjnkfpgglhgkaaaDoor.Msk
open Go.RowKit
open Ints (Ints Own)
open Go.Proofs.YtjnkfpgglhgkaaaDoor.Mark (marks marks_length)

theorem In.keep {w w' : World} {g : Nat} {v0 : Value} {v1 : Value} (h : In w g v0 v1) (hc : ∀ i, w'.cell? ⟨g, i, none⟩ = w.cell? ⟨g, i, none⟩) : In w' g v0 v1 :=
  ⟨(hc 0).trans h.1, (hc 1).trans h.2⟩
theorem In.blk {w : World} {g : Nat} {v0 : Value} {v1 : Value} (h : In w g v0 v1) : g < w.heap.size := World.block_lt_of_cell? w _ h.1
/-- A block is none of those that slices lie in. -/
def Off (L : List (Option Addr × Nat)) (g : Nat) : Prop := ∀ e ∈ L, 0 < e.2 → ∀ q, e.1 = some q → g ≠ q.block
theorem own_block {B : Nat} {w : World} {a : Option Addr} {n cap : Nat} {zs : List Int} (hz : zs.length = n) (h : Own B w (.slice a n cap) zs) (h0 : 0 < n) : ∀ q, a = some q → q.block < w.heap.size := by
  subst hz
  intro q hq
  obtain ⟨a', cap', hv, hc⟩ := h
  cases hv
  obtain ⟨b, off, ha, _, hlt, _⟩ := hc h0
  rw [ha] at hq
  cases hq
  exact hlt
theorem own_keep {B : Nat} {w w' : World} {b : Option Addr} {m dap : Nat} {cs : List Int} (hm : cs.length = m) (h : Own B w (.slice b m dap) cs) (hsz : w.heap.size ≤ w'.heap.size) (hf : ∀ p, w'.frozen? p = w.frozen? p)
    (hx : 0 < m → ∀ q, b = some q → ∀ p : Addr, p.block = q.block → w'.cell? p = w.cell? p) : Own B w' (.slice b m dap) cs := by
  subst hm
  obtain ⟨a', cap', hv, hh⟩ := h
  refine ⟨a', cap', hv, fun h0 => ?_⟩
  obtain ⟨g, off, ha, hB, hlt, h1, h2⟩ := hh h0
  cases hv
  exact ⟨g, off, ha, hB, Nat.lt_of_lt_of_le hlt hsz, fun i hi => (hf _).trans (h1 i hi), fun i hi => (hx h0 ⟨g, off, none⟩ ha ⟨g, off + i, none⟩ rfl).trans (h2 i hi)⟩
theorem own_ge {B : Nat} {w : World} {a : Option Addr} {n cap : Nat} {zs : List Int} (hz : zs.length = n) (h : Own B w (.slice a n cap) zs) (h0 : 0 < n) : ∀ q, a = some q → B ≤ q.block := by
  subst hz
  intro q hq
  obtain ⟨a', cap', hv, hc⟩ := h
  cases hv
  obtain ⟨b, off, ha, hB, _⟩ := hc h0
  rw [ha] at hq
  cases hq
  exact hB
/-- A record's slices, in memory of their own, apart from each other. -/
def OwnR (B : Nat) (w : World) (a0 : Option Addr) (n0 c0 : Nat) (a1 : Option Addr) (n1 c1 : Nat) (z0 z1 : List Int) : Prop :=
  z0.length = n0 ∧ z1.length = n1 ∧ Own B w (.slice a0 n0 c0) z0 ∧ Own B w (.slice a1 n1 c1) z1 ∧ (0 < n0 → 0 < n1 → ∀ p q, a0 = some p → a1 = some q → p.block ≠ q.block)
theorem OwnR.below {B : Nat} {w : World} {a0 : Option Addr} {n0 c0 : Nat} {a1 : Option Addr} {n1 c1 : Nat} {z0 z1 : List Int} {w' : World} (h : OwnR B w a0 n0 c0 a1 n1 c1 z0 z1) (hb : Below w.heap.size w w') : OwnR B w' a0 n0 c0 a1 n1 c1 z0 z1 := by
  obtain ⟨l0, l1, o0, o1, d01⟩ := h
  exact ⟨l0, l1, o0.below hb, o1.below hb, d01⟩
theorem OwnR.mono {B : Nat} {w : World} {a0 : Option Addr} {n0 c0 : Nat} {a1 : Option Addr} {n1 c1 : Nat} {z0 z1 : List Int} {B' : Nat} (h : OwnR B w a0 n0 c0 a1 n1 c1 z0 z1) (hb : B' ≤ B) : OwnR B' w a0 n0 c0 a1 n1 c1 z0 z1 := by
  obtain ⟨l0, l1, o0, o1, d01⟩ := h
  exact ⟨l0, l1, o0.mono hb, o1.mono hb, d01⟩
theorem OwnR.off {B : Nat} {w : World} {a0 : Option Addr} {n0 c0 : Nat} {a1 : Option Addr} {n1 c1 : Nat} {z0 z1 : List Int} (h : OwnR B w a0 n0 c0 a1 n1 c1 z0 z1) {g : Nat} (hg : w.heap.size ≤ g) : Off [(a0, n0), (a1, n1)] g := by
  obtain ⟨l0, l1, o0, o1, d01⟩ := h
  intro e he h0 q hq
  simp only [List.mem_cons, List.not_mem_nil, or_false] at he
  rcases he with rfl | rfl
  · have := own_block l0 o0 h0 q hq; omega
  · have := own_block l1 o1 h0 q hq; omega
theorem OwnR.keep {B : Nat} {w : World} {a0 : Option Addr} {n0 c0 : Nat} {a1 : Option Addr} {n1 c1 : Nat} {z0 z1 : List Int} {w' : World} {L : List (Option Addr × Nat)} (h : OwnR B w a0 n0 c0 a1 n1 c1 z0 z1) (hsz : w.heap.size ≤ w'.heap.size) (hf : ∀ p, w'.frozen? p = w.frozen? p) (hx : ∀ p : Addr, Off L p.block → w'.cell? p = w.cell? p) (hB : ∀ g, B ≤ g → Off L g) : OwnR B w' a0 n0 c0 a1 n1 c1 z0 z1 := by
  obtain ⟨l0, l1, o0, o1, d01⟩ := h
  exact ⟨l0, l1, own_keep l0 o0 hsz hf (fun h0 q hq p hp => hx p (by rw [hp]; exact hB _ (own_ge l0 o0 h0 q hq))), own_keep l1 o1 hsz hf (fun h0 q hq p hp => hx p (by rw [hp]; exact hB _ (own_ge l1 o1 h0 q hq))), d01⟩
theorem OwnR.ints0 {B : Nat} {w : World} {a0 : Option Addr} {n0 c0 : Nat} {a1 : Option Addr} {n1 c1 : Nat} {z0 z1 : List Int} (h : OwnR B w a0 n0 c0 a1 n1 c1 z0 z1) : Ints w (.slice a0 n0 c0) z0 := by
  obtain ⟨l0, l1, o0, o1, d01⟩ := h
  exact o0.ints
theorem OwnR.ints1 {B : Nat} {w : World} {a0 : Option Addr} {n0 c0 : Nat} {a1 : Option Addr} {n1 c1 : Nat} {z0 z1 : List Int} (h : OwnR B w a0 n0 c0 a1 n1 c1 z0 z1) : Ints w (.slice a1 n1 c1) z1 := by
  obtain ⟨l0, l1, o0, o1, d01⟩ := h
  exact o1.ints
theorem OwnR.keepL {B : Nat} {w : World} {a0 : Option Addr} {n0 c0 : Nat} {a1 : Option Addr} {n1 c1 : Nat} {z0 z1 : List Int} {w' : World} {L : List (Option Addr × Nat)} (h : OwnR B w a0 n0 c0 a1 n1 c1 z0 z1) (hsz : w.heap.size ≤ w'.heap.size) (hf : ∀ p, p.block < w.heap.size → w'.frozen? p = w.frozen? p) (hx : ∀ p : Addr, p.block < w.heap.size → Off L p.block → w'.cell? p = w.cell? p) (hB : ∀ g, B ≤ g → Off L g) : OwnR B w' a0 n0 c0 a1 n1 c1 z0 z1 := by
  obtain ⟨l0, l1, o0, o1, d01⟩ := h
  have K : ∀ {b : Option Addr} {m dap : Nat} {cs : List Int}, cs.length = m → Own B w (.slice b m dap) cs → Own B w' (.slice b m dap) cs := by
    intro b m dap cs hm ho
    subst hm
    obtain ⟨a', cap', hv, hh⟩ := ho
    refine ⟨a', cap', hv, fun h0 => ?_⟩
    obtain ⟨g, off, ha, hBg, hlt, h1, h2⟩ := hh h0
    exact ⟨g, off, ha, hBg, Nat.lt_of_lt_of_le hlt hsz, fun i hi => (hf ⟨g, off + i, none⟩ hlt).trans (h1 i hi), fun i hi => (hx ⟨g, off + i, none⟩ hlt (hB g hBg)).trans (h2 i hi)⟩
  exact ⟨l0, l1, K l0 o0, K l1 o1, d01⟩
theorem restL_sum (ls : List Nat) : ∀ left, restL left ls = -1 ∨ ∃ r : Nat, restL left ls = (r : Int) ∧ ls.sum + r = left := by
  induction ls with
  | nil => exact fun left => .inr ⟨left, rfl, by simp⟩
  | cons l ls ih =>
    intro left
    by_cases h : l ≤ left
    · rw [restL_yes h]
      rcases ih (left - l) with h1 | ⟨r, h1, h2⟩
      · exact .inl h1
      · exact .inr ⟨r, h1, by rw [List.sum_cons]; omega⟩
    · exact .inl (restL_no h)
set_option maxHeartbeats 1000000 in
theorem markR (B k : Nat)  (a0 : Option Addr) (n0 c0 : Nat) (a1 : Option Addr) (n1 c1 : Nat) (z0 z1 : List Int) (w : World) (h1k : 1 ≤ k) (hk : k + n0 + n1 ≤ 1048577) (hB : B ≤ w.heap.size) (h : OwnR B w a0 n0 c0 a1 n1 c1 z0 z1) :
    Calls Tryd.prog 12 #[.agg #[.slice a0 n0 c0, .slice a1 n1 c1], .int .i64 k] w fun e w' => e = .returned (.int .i64 ((k + n0 + n1 : Nat) : Int)) ∧ Below B w w' ∧ OwnR B w' a0 n0 c0 a1 n1 c1 (marks (k) n0) (marks (k + n0) n1) ∧ (∀ p, p.block < w.heap.size → w'.frozen? p = w.frozen? p) ∧ ∀ p : Addr, p.block < w.heap.size → Off [(a0, n0), (a1, n1)] p.block → w'.cell? p = w.cell? p := by
  obtain ⟨l0, l1, o0, o1, d01⟩ := h
  have HM := Lib.hid (fun w' (hb : On w w') => Mark.markOnly B k a0 c0 z0 w' (by omega) (by omega) (by rw [l0]; exact o0.below hb))
  have hnb := own_block l0 o0
  have HG := Lib.hid o1
  have HGe := Lib.hid (own_block l1 o1)
  have HD := Lib.hid d01
  have HNE := Lib.hid hnb
  have HL := Lib.hid l1
  subst l0
  clear o0 o1 d01 hnb l1
  go_enter Tryd.func12, Tryd.ntmps12
  go_wp2_with fail
  refine (HM.out _ (by repeat (first | with_reducible exact On.refl _ | apply On.alloc))).mono ?_
  rintro e w1 ⟨rfl, hb1, ho1, hf1, hx1⟩
  have hA : On w (w.alloc (.cells #[.slice a0 z0.length c0, .slice a1 n1 c1] 27)) := On.alloc (On.refl w) _
  have r4 : w1.cell? ⟨w.heap.size, 1, none⟩ = some (.slice a1 n1 c1) := (hx1 ⟨w.heap.size, 1, none⟩ (fun h0 q hq => by have := HNE.out h0 q hq; show w.heap.size ≠ q.block; omega)).trans (by simp [go_sem])
  have hg1 : Own B w1 (.slice a1 n1 c1) z1 := own_keep HL.out (HG.out.below (by repeat (first | with_reducible exact On.refl _ | apply On.alloc))) hb1.size hf1 (fun h0 q hq p hp => hx1 p (fun h1 q1 hq1 => by rw [hp]; exact Ne.symm (HD.out h1 h0 q1 q hq1 hq)))
  have K1 := Lib.hid (show Below B w w1 by refine Below.trans (Below.mono ?_ hB) hb1; exact On.alloc (On.refl w) _)
  have HO1 := Lib.hid ho1
  have HF1 := Lib.hid (fun (p : Addr) (hp : p.block < w.heap.size) => (hf1 p).trans ((On.alloc (On.refl w) _).frozen hp))
  have HX1 := Lib.hid (fun (p : Addr) (hp : p.block < w.heap.size) (ho : Off [(a0, z0.length), (a1, n1)] p.block) => (hx1 p (fun h0 q hq => ho (a0, z0.length) (by simp) h0 q hq)).trans ((On.alloc (On.refl w) _).cell hp))
  have hs1 : w.heap.size ≤ w1.heap.size := K1.out.size
  have HM2 := Lib.hid (Mark.markOnly B (k + z0.length) a1 c1 z1 w1 (by have := HL.out; omega) (by omega) (by rw [HL.out]; exact hg1))
  rw [HL.out] at HM2
  clear hb1 ho1 hf1 hx1 hg1 hA
  go_wp2_with fail
  refine HM2.out.mono ?_
  rintro e w2 ⟨rfl, hb2, ho2, hf2, hx2⟩
  have HO2 := Lib.hid (show Own B w2 (.slice a0 z0.length c0) (marks k z0.length) from own_keep (marks_length _ _) HO1.out hb2.size hf2 (fun h0 q hq p hp => hx2 p (fun h1 q1 hq1 => by rw [hp]; exact HD.out h0 h1 q q1 hq hq1)))
  have K2 := Lib.hid (Below.trans K1.out hb2)
  have HP2 := Lib.hid ho2
  have HF2 := Lib.hid (fun (p : Addr) (hp : p.block < w.heap.size) => (hf2 p).trans (HF1.out p hp))
  have HX2 := Lib.hid (fun (p : Addr) (hp : p.block < w.heap.size) (ho : Off [(a0, z0.length), (a1, n1)] p.block) => (hx2 p (fun h0 q hq => ho (a1, n1) (by simp) h0 q hq)).trans (HX1.out p hp ho))
  clear hb2 ho2 hf2 hx2
  go_wp2_with fail
  go_ret
  exact ⟨rfl, K2.out, ⟨marks_length _ _, marks_length _ _, HO2.out, HP2.out, HD.out⟩, HF2.out, HX2.out⟩
set_option maxHeartbeats 1000000 in
theorem heldR (B k : Nat)  (a0 : Option Addr) (n0 c0 : Nat) (a1 : Option Addr) (n1 c1 : Nat) (w : World) (h1k : 1 ≤ k) (hk : k + n0 + n1 ≤ 1048577) (h : OwnR B w a0 n0 c0 a1 n1 c1 (marks (k) n0) (marks (k + n0) n1)) :
    Calls Tryd.prog 13 #[.agg #[.slice a0 n0 c0, .slice a1 n1 c1], .int .i64 k] w fun e w' => e = .returned (.int .i64 ((k + n0 + n1 : Nat) : Int)) ∧ On w w' := by
  obtain ⟨-, -, o0, o1, -⟩ := h
  have HM0 := Lib.hid (fun w' (hb : On w w') => Mark.held B (k) n0 _ w' (by omega) (by omega) (o0.below hb))
  have HM1 := Lib.hid (fun w' (hb : On w w') => Mark.held B (k + n0) n1 _ w' (by omega) (by omega) (o1.below hb))
  have q0 : ¬ ((k : Nat) : Int) + (n0 : Int) < 0 := by omega
  have q1 : ¬ (k : Int) + (n0 : Int) + (n1 : Int) < 0 := by omega
  clear o0 o1
  go_enter Tryd.func13, Tryd.ntmps13
  go_wp2_with fail
  refine (HM0.out _ (by repeat (first | with_reducible exact On.refl _ | apply On.alloc))).mono ?_
  rintro e w0' ⟨rfl, rfl⟩
  go_wp2_with fail
  refine (HM1.out _ (by repeat (first | with_reducible exact On.refl _ | apply On.alloc))).mono ?_
  rintro e w1' ⟨rfl, rfl⟩
  go_wp2_with fail
  go_ret
  exact ⟨rfl, (by repeat (first | with_reducible exact On.refl _ | apply On.alloc))⟩
end Go.Proofs.YtjnkfpgglhgkaaaDoor.Msk
