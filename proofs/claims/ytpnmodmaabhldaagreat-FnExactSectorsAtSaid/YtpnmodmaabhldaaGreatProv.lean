
/-
  Whether a network has what some sectors refer to, in the program. Condition: at most 1048576 elements in each list, and bytes in each text.
-/
import Derived.Test.YtpnmodmaabhldaaGreatProv0
import Derived.Test.YtpnmodmaabhldaaGreatReg
namespace Go.Proofs.YtpnmodmaabhldaaGreat.Net
open Go.RowKit

def cur (b : Bool) (x r : Value) : Value := if b then x else r
/-- What holds amid the region: which operations have come up (l), what the slots hold. -/
structure St (w : World) (g9 : Nat) (s0 s1 s2 : ByteArray) (r0 r1 r2 : Value) (xs : List Secs.Z) (k : Nat) (l : Nat → Bool) (w1 : World) (x16 x17 x18 x19 x20 x21 x22 x23 x24 x25 x26 x27 x28 x29 x30 x5 x6 x7 : Value) : Prop where
  on : On w w1
  z9 : g9 < w1.heap.size
  e0 : w1.cell? ⟨g9, 1, none⟩ = some (.string s0)
  e1 : w1.cell? ⟨g9, 2, none⟩ = some (.string s1)
  e2 : w1.cell? ⟨g9, 3, none⟩ = some (.string s2)
  m0 : l 0 = true → x16 = r0
  f0 : l 1 = true → x17 = .pointer (some ⟨g9, 1, none⟩)
  d0 : l 2 = true → x18 = .string s0
  b0 : l 3 = true → l 4 = false → ∃ g, x19 = .slice (some ⟨g, 0, none⟩) 1 1 ∧ w1.cell? ⟨g, 0, none⟩ = some (.string s0) ∧ g < w1.heap.size
  rw0 : Row w1 (w.heap.size + 1) (fun z => z.x1) xs (cur (l 4) x20 r0) (k + (l 4).toNat)
  q0 : ∀ g, (cur (l 4) x20 r0).ownBlock = some g → g ≠ g9
  as0 : l 15 = true → x5 = x20
  ns0 : l 15 = false → x5 = r0
  od0 : l 15 = true → l 0 = true ∧ l 4 = true
  m1 : l 5 = true → x21 = r1
  f1 : l 6 = true → x22 = .pointer (some ⟨g9, 2, none⟩)
  d1 : l 7 = true → x23 = .string s1
  b1 : l 8 = true → l 9 = false → ∃ g, x24 = .slice (some ⟨g, 0, none⟩) 1 1 ∧ w1.cell? ⟨g, 0, none⟩ = some (.string s1) ∧ g < w1.heap.size
  rw1 : Row w1 (w.heap.size + 1) (fun z => z.x2) xs (cur (l 9) x25 r1) (k + (l 9).toNat)
  q1 : ∀ g, (cur (l 9) x25 r1).ownBlock = some g → g ≠ g9
  as1 : l 16 = true → x6 = x25
  ns1 : l 16 = false → x6 = r1
  od1 : l 16 = true → l 5 = true ∧ l 9 = true
  m2 : l 10 = true → x26 = r2
  f2 : l 11 = true → x27 = .pointer (some ⟨g9, 3, none⟩)
  d2 : l 12 = true → x28 = .string s2
  b2 : l 13 = true → l 14 = false → ∃ g, x29 = .slice (some ⟨g, 0, none⟩) 1 1 ∧ w1.cell? ⟨g, 0, none⟩ = some (.string s2) ∧ g < w1.heap.size
  rw2 : Row w1 (w.heap.size + 1) (fun z => z.x3) xs (cur (l 14) x30 r2) (k + (l 14).toNat)
  q2 : ∀ g, (cur (l 14) x30 r2).ownBlock = some g → g ≠ g9
  as2 : l 17 = true → x7 = x30
  ns2 : l 17 = false → x7 = r2
  od2 : l 17 = true → l 10 = true ∧ l 14 = true
  a01 : Apart (cur (l 4) x20 r0) (cur (l 9) x25 r1)
  a02 : Apart (cur (l 4) x20 r0) (cur (l 14) x30 r2)
  a12 : Apart (cur (l 9) x25 r1) (cur (l 14) x30 r2)
  n00 : l 3 = true → l 4 = false → Apart x19 (cur (l 4) x20 r0)
  n01 : l 3 = true → l 4 = false → Apart x19 (cur (l 9) x25 r1)
  n02 : l 3 = true → l 4 = false → Apart x19 (cur (l 14) x30 r2)
  n10 : l 8 = true → l 9 = false → Apart x24 (cur (l 4) x20 r0)
  n11 : l 8 = true → l 9 = false → Apart x24 (cur (l 9) x25 r1)
  n12 : l 8 = true → l 9 = false → Apart x24 (cur (l 14) x30 r2)
  n20 : l 13 = true → l 14 = false → Apart x29 (cur (l 4) x20 r0)
  n21 : l 13 = true → l 14 = false → Apart x29 (cur (l 9) x25 r1)
  n22 : l 13 = true → l 14 = false → Apart x29 (cur (l 14) x30 r2)
theorem St.lt0 {w w1 : World} {g9 : Nat} {s0 s1 s2 : ByteArray} {r0 r1 r2 : Value} {xs : List Secs.Z} {k : Nat} {l : Nat → Bool} {x16 x17 x18 x19 x20 x21 x22 x23 x24 x25 x26 x27 x28 x29 x30 x5 x6 x7 : Value} (h : St w g9 s0 s1 s2 r0 r1 r2 xs k l w1 x16 x17 x18 x19 x20 x21 x22 x23 x24 x25 x26 x27 x28 x29 x30 x5 x6 x7) {g : Nat} (hg : (cur (l 4) x20 r0).ownBlock = some g) : w.heap.size + 1 ≤ g ∧ g < w1.heap.size := h.rw0.lt hg
theorem St.lt1 {w w1 : World} {g9 : Nat} {s0 s1 s2 : ByteArray} {r0 r1 r2 : Value} {xs : List Secs.Z} {k : Nat} {l : Nat → Bool} {x16 x17 x18 x19 x20 x21 x22 x23 x24 x25 x26 x27 x28 x29 x30 x5 x6 x7 : Value} (h : St w g9 s0 s1 s2 r0 r1 r2 xs k l w1 x16 x17 x18 x19 x20 x21 x22 x23 x24 x25 x26 x27 x28 x29 x30 x5 x6 x7) {g : Nat} (hg : (cur (l 9) x25 r1).ownBlock = some g) : w.heap.size + 1 ≤ g ∧ g < w1.heap.size := h.rw1.lt hg
theorem St.lt2 {w w1 : World} {g9 : Nat} {s0 s1 s2 : ByteArray} {r0 r1 r2 : Value} {xs : List Secs.Z} {k : Nat} {l : Nat → Bool} {x16 x17 x18 x19 x20 x21 x22 x23 x24 x25 x26 x27 x28 x29 x30 x5 x6 x7 : Value} (h : St w g9 s0 s1 s2 r0 r1 r2 xs k l w1 x16 x17 x18 x19 x20 x21 x22 x23 x24 x25 x26 x27 x28 x29 x30 x5 x6 x7) {g : Nat} (hg : (cur (l 14) x30 r2).ownBlock = some g) : w.heap.size + 1 ≤ g ∧ g < w1.heap.size := h.rw2.lt hg
theorem St.move0 {w w1 : World} {g9 : Nat} {s0 s1 s2 : ByteArray} {r0 r1 r2 : Value} {xs : List Secs.Z} {k : Nat} {l : Nat → Bool} {x16 x17 x18 x19 x20 x21 x22 x23 x24 x25 x26 x27 x28 x29 x30 x5 x6 x7 : Value} (h : St w g9 s0 s1 s2 r0 r1 r2 xs k l w1 x16 x17 x18 x19 x20 x21 x22 x23 x24 x25 x26 x27 x28 x29 x30 x5 x6 x7) : St w g9 s0 s1 s2 r0 r1 r2 xs k (fun j => j == 0 || l j) w1 r0 x17 x18 x19 x20 x21 x22 x23 x24 x25 x26 x27 x28 x29 x30 x5 x6 x7 :=
  ⟨h.on, h.z9, h.e0, h.e1, h.e2, (fun _ => rfl), h.f0, h.d0, h.b0, h.rw0, h.q0, h.as0, h.ns0, (fun g => ⟨rfl, (h.od0 g).2⟩), h.m1, h.f1, h.d1, h.b1, h.rw1, h.q1, h.as1, h.ns1, h.od1, h.m2, h.f2, h.d2, h.b2, h.rw2, h.q2, h.as2, h.ns2, h.od2, h.a01, h.a02, h.a12, h.n00, h.n01, h.n02, h.n10, h.n11, h.n12, h.n20, h.n21, h.n22⟩
theorem St.field0 {w w1 : World} {g9 : Nat} {s0 s1 s2 : ByteArray} {r0 r1 r2 : Value} {xs : List Secs.Z} {k : Nat} {l : Nat → Bool} {x16 x17 x18 x19 x20 x21 x22 x23 x24 x25 x26 x27 x28 x29 x30 x5 x6 x7 : Value} (h : St w g9 s0 s1 s2 r0 r1 r2 xs k l w1 x16 x17 x18 x19 x20 x21 x22 x23 x24 x25 x26 x27 x28 x29 x30 x5 x6 x7) : St w g9 s0 s1 s2 r0 r1 r2 xs k (fun j => j == 1 || l j) w1 x16 (.pointer (some ⟨g9, 1, none⟩)) x18 x19 x20 x21 x22 x23 x24 x25 x26 x27 x28 x29 x30 x5 x6 x7 :=
  ⟨h.on, h.z9, h.e0, h.e1, h.e2, h.m0, (fun _ => rfl), h.d0, h.b0, h.rw0, h.q0, h.as0, h.ns0, h.od0, h.m1, h.f1, h.d1, h.b1, h.rw1, h.q1, h.as1, h.ns1, h.od1, h.m2, h.f2, h.d2, h.b2, h.rw2, h.q2, h.as2, h.ns2, h.od2, h.a01, h.a02, h.a12, h.n00, h.n01, h.n02, h.n10, h.n11, h.n12, h.n20, h.n21, h.n22⟩
theorem St.load0 {w w1 : World} {g9 : Nat} {s0 s1 s2 : ByteArray} {r0 r1 r2 : Value} {xs : List Secs.Z} {k : Nat} {l : Nat → Bool} {x16 x17 x18 x19 x20 x21 x22 x23 x24 x25 x26 x27 x28 x29 x30 x5 x6 x7 : Value} (h : St w g9 s0 s1 s2 r0 r1 r2 xs k l w1 x16 x17 x18 x19 x20 x21 x22 x23 x24 x25 x26 x27 x28 x29 x30 x5 x6 x7) : St w g9 s0 s1 s2 r0 r1 r2 xs k (fun j => j == 2 || l j) w1 x16 x17 (.string s0) x19 x20 x21 x22 x23 x24 x25 x26 x27 x28 x29 x30 x5 x6 x7 :=
  ⟨h.on, h.z9, h.e0, h.e1, h.e2, h.m0, h.f0, (fun _ => rfl), h.b0, h.rw0, h.q0, h.as0, h.ns0, h.od0, h.m1, h.f1, h.d1, h.b1, h.rw1, h.q1, h.as1, h.ns1, h.od1, h.m2, h.f2, h.d2, h.b2, h.rw2, h.q2, h.as2, h.ns2, h.od2, h.a01, h.a02, h.a12, h.n00, h.n01, h.n02, h.n10, h.n11, h.n12, h.n20, h.n21, h.n22⟩
theorem St.assign0 {w w1 : World} {g9 : Nat} {s0 s1 s2 : ByteArray} {r0 r1 r2 : Value} {xs : List Secs.Z} {k : Nat} {l : Nat → Bool} {x16 x17 x18 x19 x20 x21 x22 x23 x24 x25 x26 x27 x28 x29 x30 x5 x6 x7 : Value} (h : St w g9 s0 s1 s2 r0 r1 r2 xs k l w1 x16 x17 x18 x19 x20 x21 x22 x23 x24 x25 x26 x27 x28 x29 x30 x5 x6 x7) (g0 : l 0 = true) (g1 : l 4 = true) : St w g9 s0 s1 s2 r0 r1 r2 xs k (fun j => j == 15 || l j) w1 x16 x17 x18 x19 x20 x21 x22 x23 x24 x25 x26 x27 x28 x29 x30 x20 x6 x7 :=
  ⟨h.on, h.z9, h.e0, h.e1, h.e2, h.m0, h.f0, h.d0, h.b0, h.rw0, h.q0, (fun _ => rfl), (fun g => by cases g), (fun _ => ⟨g0, g1⟩), h.m1, h.f1, h.d1, h.b1, h.rw1, h.q1, h.as1, h.ns1, h.od1, h.m2, h.f2, h.d2, h.b2, h.rw2, h.q2, h.as2, h.ns2, h.od2, h.a01, h.a02, h.a12, h.n00, h.n01, h.n02, h.n10, h.n11, h.n12, h.n20, h.n21, h.n22⟩
theorem St.build0 {w w1 : World} {g9 : Nat} {s0 s1 s2 : ByteArray} {r0 r1 r2 : Value} {xs : List Secs.Z} {k : Nat} {l : Nat → Bool} {x16 x17 x18 x19 x20 x21 x22 x23 x24 x25 x26 x27 x28 x29 x30 x5 x6 x7 : Value} (h : St w g9 s0 s1 s2 r0 r1 r2 xs k l w1 x16 x17 x18 x19 x20 x21 x22 x23 x24 x25 x26 x27 x28 x29 x30 x5 x6 x7) (t : TypeId) : St w g9 s0 s1 s2 r0 r1 r2 xs k (fun j => j == 3 || l j) (w1.alloc (.cells #[.string s0] t)) x16 x17 x18 (.slice (some ⟨w1.heap.size, 0, none⟩) 1 1) x20 x21 x22 x23 x24 x25 x26 x27 x28 x29 x30 x5 x6 x7 :=
  ⟨(On.alloc h.on _), (by rw [World.size_alloc]; exact Nat.lt_succ_of_lt h.z9), (((On.alloc (On.refl w1) _).cell (by exact h.z9)).trans h.e0), (((On.alloc (On.refl w1) _).cell (by exact h.z9)).trans h.e1), (((On.alloc (On.refl w1) _).cell (by exact h.z9)).trans h.e2), h.m0, h.f0, h.d0, (fun _ _ => ⟨w1.heap.size, rfl, by simp [go_sem], by simp⟩), (h.rw0.alloc _), h.q0, h.as0, h.ns0, h.od0, h.m1, h.f1, h.d1, (fun g0 g1 => by obtain ⟨g, e1, e2, e3⟩ := h.b1 g0 g1; exact ⟨g, e1, ((On.alloc (On.refl w1) _).cell (by exact e3)).trans e2, by rw [World.size_alloc]; exact Nat.lt_succ_of_lt e3⟩), (h.rw1.alloc _), h.q1, h.as1, h.ns1, h.od1, h.m2, h.f2, h.d2, (fun g0 g1 => by obtain ⟨g, e1, e2, e3⟩ := h.b2 g0 g1; exact ⟨g, e1, ((On.alloc (On.refl w1) _).cell (by exact e3)).trans e2, by rw [World.size_alloc]; exact Nat.lt_succ_of_lt e3⟩), (h.rw2.alloc _), h.q2, h.as2, h.ns2, h.od2, h.a01, h.a02, h.a12, (fun _ _ g hg hc => by injection hg with hg; have := (h.lt0 hc).2; simp at hg; omega), (fun _ _ g hg hc => by injection hg with hg; have := (h.lt1 hc).2; simp at hg; omega), (fun _ _ g hg hc => by injection hg with hg; have := (h.lt2 hc).2; simp at hg; omega), h.n10, h.n11, h.n12, h.n20, h.n21, h.n22⟩
theorem St.app0 {w w1 : World} {g9 : Nat} {s0 s1 s2 : ByteArray} {r0 r1 r2 : Value} {xs : List Secs.Z} {k : Nat} {l : Nat → Bool} {x16 x17 x18 x19 x20 x21 x22 x23 x24 x25 x26 x27 x28 x29 x30 x5 x6 x7 : Value} (h : St w g9 s0 s1 s2 r0 r1 r2 xs k l w1 x16 x17 x18 x19 x20 x21 x22 x23 x24 x25 x26 x27 x28 x29 x30 x5 x6 x7) (hl : l 4 = false) {g cap : Nat} {w2 : World} (hrow : Row w2 (w.heap.size + 1) (fun z => z.x1) xs (.slice (some ⟨g, 0, none⟩) (k + 1) cap) (k + 1)) (hgrow : w1.grownBy w2 r0.ownBlock) (hat : r0.ownBlock = some g ∨ g = w1.heap.size) : St w g9 s0 s1 s2 r0 r1 r2 xs k (fun j => j == 4 || l j) w2 x16 x17 x18 x19 (.slice (some ⟨g, 0, none⟩) (k + 1) cap) x21 x22 x23 x24 x25 x26 x27 x28 x29 x30 x5 x6 x7 := by
  have hc : (cur (l 4) x20 r0) = r0 := by rw [hl]; rfl
  exact ⟨(Below.grown h.on hgrow h.on.size (fun q hq => by have := (h.lt0 (by rw [hc]; exact hq)).1; omega)), (Nat.lt_of_lt_of_le h.z9 hgrow.size), ((hgrow.cell_far _ (by exact h.z9) (fun e => h.q0 g9 (by rw [hc]; exact e.symm) rfl)).trans h.e0), ((hgrow.cell_far _ (by exact h.z9) (fun e => h.q0 g9 (by rw [hc]; exact e.symm) rfl)).trans h.e1), ((hgrow.cell_far _ (by exact h.z9) (fun e => h.q0 g9 (by rw [hc]; exact e.symm) rfl)).trans h.e2), h.m0, h.f0, h.d0, (fun _ g1 => by cases g1), (hrow), (fun q e1 => by injection e1 with e1; simp at e1; subst e1; exact hat.elim (fun hat => h.q0 _ (by rw [hc]; exact hat)) (fun hat => by have := h.z9; omega)), (fun g0 => absurd (h.od0 g0).2 (by rw [hl]; simp)), h.ns0, (fun g0 => ⟨(h.od0 g0).1, rfl⟩), h.m1, h.f1, h.d1, (fun g0 g1 => by obtain ⟨q, e1, e2, e3⟩ := h.b1 g0 g1; exact ⟨q, e1, (hgrow.cell_far _ (by exact e3) (fun e => h.n10 g0 g1 q (by rw [e1]; rfl) (by rw [hc]; exact e.symm))).trans e2, Nat.lt_of_lt_of_le e3 hgrow.size⟩), (h.rw1.grown hgrow (fun q hq e => h.a01 q (by rw [hc]; exact e) hq)), h.q1, h.as1, h.ns1, h.od1, h.m2, h.f2, h.d2, (fun g0 g1 => by obtain ⟨q, e1, e2, e3⟩ := h.b2 g0 g1; exact ⟨q, e1, (hgrow.cell_far _ (by exact e3) (fun e => h.n20 g0 g1 q (by rw [e1]; rfl) (by rw [hc]; exact e.symm))).trans e2, Nat.lt_of_lt_of_le e3 hgrow.size⟩), (h.rw2.grown hgrow (fun q hq e => h.a02 q (by rw [hc]; exact e) hq)), h.q2, h.as2, h.ns2, h.od2, (fun q e1 e2 => by injection e1 with e1; simp at e1; subst e1; exact hat.elim (fun hat => h.a01 _ (by rw [hc]; exact hat) e2) (fun hat => by have := (h.lt1 e2).2; omega)), (fun q e1 e2 => by injection e1 with e1; simp at e1; subst e1; exact hat.elim (fun hat => h.a02 _ (by rw [hc]; exact hat) e2) (fun hat => by have := (h.lt2 e2).2; omega)), h.a12, (fun _ g1 => by cases g1), (fun _ g1 => by cases g1), (fun _ g1 => by cases g1), (fun g0 g1 q hq e => by injection e with e; simp at e; subst e; exact hat.elim (fun hat => h.n10 g0 g1 _ hq (by rw [hc]; exact hat)) (fun hat => by obtain ⟨u, e1, e2, e3⟩ := h.b1 g0 g1; rw [e1] at hq; injection hq with hq; simp at hq; omega)), h.n11, h.n12, (fun g0 g1 q hq e => by injection e with e; simp at e; subst e; exact hat.elim (fun hat => h.n20 g0 g1 _ hq (by rw [hc]; exact hat)) (fun hat => by obtain ⟨u, e1, e2, e3⟩ := h.b2 g0 g1; rw [e1] at hq; injection hq with hq; simp at hq; omega)), h.n21, h.n22⟩
theorem St.move1 {w w1 : World} {g9 : Nat} {s0 s1 s2 : ByteArray} {r0 r1 r2 : Value} {xs : List Secs.Z} {k : Nat} {l : Nat → Bool} {x16 x17 x18 x19 x20 x21 x22 x23 x24 x25 x26 x27 x28 x29 x30 x5 x6 x7 : Value} (h : St w g9 s0 s1 s2 r0 r1 r2 xs k l w1 x16 x17 x18 x19 x20 x21 x22 x23 x24 x25 x26 x27 x28 x29 x30 x5 x6 x7) : St w g9 s0 s1 s2 r0 r1 r2 xs k (fun j => j == 5 || l j) w1 x16 x17 x18 x19 x20 r1 x22 x23 x24 x25 x26 x27 x28 x29 x30 x5 x6 x7 :=
  ⟨h.on, h.z9, h.e0, h.e1, h.e2, h.m0, h.f0, h.d0, h.b0, h.rw0, h.q0, h.as0, h.ns0, h.od0, (fun _ => rfl), h.f1, h.d1, h.b1, h.rw1, h.q1, h.as1, h.ns1, (fun g => ⟨rfl, (h.od1 g).2⟩), h.m2, h.f2, h.d2, h.b2, h.rw2, h.q2, h.as2, h.ns2, h.od2, h.a01, h.a02, h.a12, h.n00, h.n01, h.n02, h.n10, h.n11, h.n12, h.n20, h.n21, h.n22⟩
theorem St.field1 {w w1 : World} {g9 : Nat} {s0 s1 s2 : ByteArray} {r0 r1 r2 : Value} {xs : List Secs.Z} {k : Nat} {l : Nat → Bool} {x16 x17 x18 x19 x20 x21 x22 x23 x24 x25 x26 x27 x28 x29 x30 x5 x6 x7 : Value} (h : St w g9 s0 s1 s2 r0 r1 r2 xs k l w1 x16 x17 x18 x19 x20 x21 x22 x23 x24 x25 x26 x27 x28 x29 x30 x5 x6 x7) : St w g9 s0 s1 s2 r0 r1 r2 xs k (fun j => j == 6 || l j) w1 x16 x17 x18 x19 x20 x21 (.pointer (some ⟨g9, 2, none⟩)) x23 x24 x25 x26 x27 x28 x29 x30 x5 x6 x7 :=
  ⟨h.on, h.z9, h.e0, h.e1, h.e2, h.m0, h.f0, h.d0, h.b0, h.rw0, h.q0, h.as0, h.ns0, h.od0, h.m1, (fun _ => rfl), h.d1, h.b1, h.rw1, h.q1, h.as1, h.ns1, h.od1, h.m2, h.f2, h.d2, h.b2, h.rw2, h.q2, h.as2, h.ns2, h.od2, h.a01, h.a02, h.a12, h.n00, h.n01, h.n02, h.n10, h.n11, h.n12, h.n20, h.n21, h.n22⟩
theorem St.load1 {w w1 : World} {g9 : Nat} {s0 s1 s2 : ByteArray} {r0 r1 r2 : Value} {xs : List Secs.Z} {k : Nat} {l : Nat → Bool} {x16 x17 x18 x19 x20 x21 x22 x23 x24 x25 x26 x27 x28 x29 x30 x5 x6 x7 : Value} (h : St w g9 s0 s1 s2 r0 r1 r2 xs k l w1 x16 x17 x18 x19 x20 x21 x22 x23 x24 x25 x26 x27 x28 x29 x30 x5 x6 x7) : St w g9 s0 s1 s2 r0 r1 r2 xs k (fun j => j == 7 || l j) w1 x16 x17 x18 x19 x20 x21 x22 (.string s1) x24 x25 x26 x27 x28 x29 x30 x5 x6 x7 :=
  ⟨h.on, h.z9, h.e0, h.e1, h.e2, h.m0, h.f0, h.d0, h.b0, h.rw0, h.q0, h.as0, h.ns0, h.od0, h.m1, h.f1, (fun _ => rfl), h.b1, h.rw1, h.q1, h.as1, h.ns1, h.od1, h.m2, h.f2, h.d2, h.b2, h.rw2, h.q2, h.as2, h.ns2, h.od2, h.a01, h.a02, h.a12, h.n00, h.n01, h.n02, h.n10, h.n11, h.n12, h.n20, h.n21, h.n22⟩
theorem St.assign1 {w w1 : World} {g9 : Nat} {s0 s1 s2 : ByteArray} {r0 r1 r2 : Value} {xs : List Secs.Z} {k : Nat} {l : Nat → Bool} {x16 x17 x18 x19 x20 x21 x22 x23 x24 x25 x26 x27 x28 x29 x30 x5 x6 x7 : Value} (h : St w g9 s0 s1 s2 r0 r1 r2 xs k l w1 x16 x17 x18 x19 x20 x21 x22 x23 x24 x25 x26 x27 x28 x29 x30 x5 x6 x7) (g0 : l 5 = true) (g1 : l 9 = true) : St w g9 s0 s1 s2 r0 r1 r2 xs k (fun j => j == 16 || l j) w1 x16 x17 x18 x19 x20 x21 x22 x23 x24 x25 x26 x27 x28 x29 x30 x5 x25 x7 :=
  ⟨h.on, h.z9, h.e0, h.e1, h.e2, h.m0, h.f0, h.d0, h.b0, h.rw0, h.q0, h.as0, h.ns0, h.od0, h.m1, h.f1, h.d1, h.b1, h.rw1, h.q1, (fun _ => rfl), (fun g => by cases g), (fun _ => ⟨g0, g1⟩), h.m2, h.f2, h.d2, h.b2, h.rw2, h.q2, h.as2, h.ns2, h.od2, h.a01, h.a02, h.a12, h.n00, h.n01, h.n02, h.n10, h.n11, h.n12, h.n20, h.n21, h.n22⟩
theorem St.build1 {w w1 : World} {g9 : Nat} {s0 s1 s2 : ByteArray} {r0 r1 r2 : Value} {xs : List Secs.Z} {k : Nat} {l : Nat → Bool} {x16 x17 x18 x19 x20 x21 x22 x23 x24 x25 x26 x27 x28 x29 x30 x5 x6 x7 : Value} (h : St w g9 s0 s1 s2 r0 r1 r2 xs k l w1 x16 x17 x18 x19 x20 x21 x22 x23 x24 x25 x26 x27 x28 x29 x30 x5 x6 x7) (t : TypeId) : St w g9 s0 s1 s2 r0 r1 r2 xs k (fun j => j == 8 || l j) (w1.alloc (.cells #[.string s1] t)) x16 x17 x18 x19 x20 x21 x22 x23 (.slice (some ⟨w1.heap.size, 0, none⟩) 1 1) x25 x26 x27 x28 x29 x30 x5 x6 x7 :=
  ⟨(On.alloc h.on _), (by rw [World.size_alloc]; exact Nat.lt_succ_of_lt h.z9), (((On.alloc (On.refl w1) _).cell (by exact h.z9)).trans h.e0), (((On.alloc (On.refl w1) _).cell (by exact h.z9)).trans h.e1), (((On.alloc (On.refl w1) _).cell (by exact h.z9)).trans h.e2), h.m0, h.f0, h.d0, (fun g0 g1 => by obtain ⟨g, e1, e2, e3⟩ := h.b0 g0 g1; exact ⟨g, e1, ((On.alloc (On.refl w1) _).cell (by exact e3)).trans e2, by rw [World.size_alloc]; exact Nat.lt_succ_of_lt e3⟩), (h.rw0.alloc _), h.q0, h.as0, h.ns0, h.od0, h.m1, h.f1, h.d1, (fun _ _ => ⟨w1.heap.size, rfl, by simp [go_sem], by simp⟩), (h.rw1.alloc _), h.q1, h.as1, h.ns1, h.od1, h.m2, h.f2, h.d2, (fun g0 g1 => by obtain ⟨g, e1, e2, e3⟩ := h.b2 g0 g1; exact ⟨g, e1, ((On.alloc (On.refl w1) _).cell (by exact e3)).trans e2, by rw [World.size_alloc]; exact Nat.lt_succ_of_lt e3⟩), (h.rw2.alloc _), h.q2, h.as2, h.ns2, h.od2, h.a01, h.a02, h.a12, h.n00, h.n01, h.n02, (fun _ _ g hg hc => by injection hg with hg; have := (h.lt0 hc).2; simp at hg; omega), (fun _ _ g hg hc => by injection hg with hg; have := (h.lt1 hc).2; simp at hg; omega), (fun _ _ g hg hc => by injection hg with hg; have := (h.lt2 hc).2; simp at hg; omega), h.n20, h.n21, h.n22⟩
theorem St.app1 {w w1 : World} {g9 : Nat} {s0 s1 s2 : ByteArray} {r0 r1 r2 : Value} {xs : List Secs.Z} {k : Nat} {l : Nat → Bool} {x16 x17 x18 x19 x20 x21 x22 x23 x24 x25 x26 x27 x28 x29 x30 x5 x6 x7 : Value} (h : St w g9 s0 s1 s2 r0 r1 r2 xs k l w1 x16 x17 x18 x19 x20 x21 x22 x23 x24 x25 x26 x27 x28 x29 x30 x5 x6 x7) (hl : l 9 = false) {g cap : Nat} {w2 : World} (hrow : Row w2 (w.heap.size + 1) (fun z => z.x2) xs (.slice (some ⟨g, 0, none⟩) (k + 1) cap) (k + 1)) (hgrow : w1.grownBy w2 r1.ownBlock) (hat : r1.ownBlock = some g ∨ g = w1.heap.size) : St w g9 s0 s1 s2 r0 r1 r2 xs k (fun j => j == 9 || l j) w2 x16 x17 x18 x19 x20 x21 x22 x23 x24 (.slice (some ⟨g, 0, none⟩) (k + 1) cap) x26 x27 x28 x29 x30 x5 x6 x7 := by
  have hc : (cur (l 9) x25 r1) = r1 := by rw [hl]; rfl
  exact ⟨(Below.grown h.on hgrow h.on.size (fun q hq => by have := (h.lt1 (by rw [hc]; exact hq)).1; omega)), (Nat.lt_of_lt_of_le h.z9 hgrow.size), ((hgrow.cell_far _ (by exact h.z9) (fun e => h.q1 g9 (by rw [hc]; exact e.symm) rfl)).trans h.e0), ((hgrow.cell_far _ (by exact h.z9) (fun e => h.q1 g9 (by rw [hc]; exact e.symm) rfl)).trans h.e1), ((hgrow.cell_far _ (by exact h.z9) (fun e => h.q1 g9 (by rw [hc]; exact e.symm) rfl)).trans h.e2), h.m0, h.f0, h.d0, (fun g0 g1 => by obtain ⟨q, e1, e2, e3⟩ := h.b0 g0 g1; exact ⟨q, e1, (hgrow.cell_far _ (by exact e3) (fun e => h.n01 g0 g1 q (by rw [e1]; rfl) (by rw [hc]; exact e.symm))).trans e2, Nat.lt_of_lt_of_le e3 hgrow.size⟩), (h.rw0.grown hgrow (fun q hq e => h.a01.symm q (by rw [hc]; exact e) hq)), h.q0, h.as0, h.ns0, h.od0, h.m1, h.f1, h.d1, (fun _ g1 => by cases g1), (hrow), (fun q e1 => by injection e1 with e1; simp at e1; subst e1; exact hat.elim (fun hat => h.q1 _ (by rw [hc]; exact hat)) (fun hat => by have := h.z9; omega)), (fun g0 => absurd (h.od1 g0).2 (by rw [hl]; simp)), h.ns1, (fun g0 => ⟨(h.od1 g0).1, rfl⟩), h.m2, h.f2, h.d2, (fun g0 g1 => by obtain ⟨q, e1, e2, e3⟩ := h.b2 g0 g1; exact ⟨q, e1, (hgrow.cell_far _ (by exact e3) (fun e => h.n21 g0 g1 q (by rw [e1]; rfl) (by rw [hc]; exact e.symm))).trans e2, Nat.lt_of_lt_of_le e3 hgrow.size⟩), (h.rw2.grown hgrow (fun q hq e => h.a12 q (by rw [hc]; exact e) hq)), h.q2, h.as2, h.ns2, h.od2, (fun q e2 e1 => by injection e1 with e1; simp at e1; subst e1; exact hat.elim (fun hat => h.a01.symm _ (by rw [hc]; exact hat) e2) (fun hat => by have := (h.lt0 e2).2; omega)), h.a02, (fun q e1 e2 => by injection e1 with e1; simp at e1; subst e1; exact hat.elim (fun hat => h.a12 _ (by rw [hc]; exact hat) e2) (fun hat => by have := (h.lt2 e2).2; omega)), h.n00, (fun g0 g1 q hq e => by injection e with e; simp at e; subst e; exact hat.elim (fun hat => h.n01 g0 g1 _ hq (by rw [hc]; exact hat)) (fun hat => by obtain ⟨u, e1, e2, e3⟩ := h.b0 g0 g1; rw [e1] at hq; injection hq with hq; simp at hq; omega)), h.n02, (fun _ g1 => by cases g1), (fun _ g1 => by cases g1), (fun _ g1 => by cases g1), h.n20, (fun g0 g1 q hq e => by injection e with e; simp at e; subst e; exact hat.elim (fun hat => h.n21 g0 g1 _ hq (by rw [hc]; exact hat)) (fun hat => by obtain ⟨u, e1, e2, e3⟩ := h.b2 g0 g1; rw [e1] at hq; injection hq with hq; simp at hq; omega)), h.n22⟩
theorem St.move2 {w w1 : World} {g9 : Nat} {s0 s1 s2 : ByteArray} {r0 r1 r2 : Value} {xs : List Secs.Z} {k : Nat} {l : Nat → Bool} {x16 x17 x18 x19 x20 x21 x22 x23 x24 x25 x26 x27 x28 x29 x30 x5 x6 x7 : Value} (h : St w g9 s0 s1 s2 r0 r1 r2 xs k l w1 x16 x17 x18 x19 x20 x21 x22 x23 x24 x25 x26 x27 x28 x29 x30 x5 x6 x7) : St w g9 s0 s1 s2 r0 r1 r2 xs k (fun j => j == 10 || l j) w1 x16 x17 x18 x19 x20 x21 x22 x23 x24 x25 r2 x27 x28 x29 x30 x5 x6 x7 :=
  ⟨h.on, h.z9, h.e0, h.e1, h.e2, h.m0, h.f0, h.d0, h.b0, h.rw0, h.q0, h.as0, h.ns0, h.od0, h.m1, h.f1, h.d1, h.b1, h.rw1, h.q1, h.as1, h.ns1, h.od1, (fun _ => rfl), h.f2, h.d2, h.b2, h.rw2, h.q2, h.as2, h.ns2, (fun g => ⟨rfl, (h.od2 g).2⟩), h.a01, h.a02, h.a12, h.n00, h.n01, h.n02, h.n10, h.n11, h.n12, h.n20, h.n21, h.n22⟩
theorem St.field2 {w w1 : World} {g9 : Nat} {s0 s1 s2 : ByteArray} {r0 r1 r2 : Value} {xs : List Secs.Z} {k : Nat} {l : Nat → Bool} {x16 x17 x18 x19 x20 x21 x22 x23 x24 x25 x26 x27 x28 x29 x30 x5 x6 x7 : Value} (h : St w g9 s0 s1 s2 r0 r1 r2 xs k l w1 x16 x17 x18 x19 x20 x21 x22 x23 x24 x25 x26 x27 x28 x29 x30 x5 x6 x7) : St w g9 s0 s1 s2 r0 r1 r2 xs k (fun j => j == 11 || l j) w1 x16 x17 x18 x19 x20 x21 x22 x23 x24 x25 x26 (.pointer (some ⟨g9, 3, none⟩)) x28 x29 x30 x5 x6 x7 :=
  ⟨h.on, h.z9, h.e0, h.e1, h.e2, h.m0, h.f0, h.d0, h.b0, h.rw0, h.q0, h.as0, h.ns0, h.od0, h.m1, h.f1, h.d1, h.b1, h.rw1, h.q1, h.as1, h.ns1, h.od1, h.m2, (fun _ => rfl), h.d2, h.b2, h.rw2, h.q2, h.as2, h.ns2, h.od2, h.a01, h.a02, h.a12, h.n00, h.n01, h.n02, h.n10, h.n11, h.n12, h.n20, h.n21, h.n22⟩
theorem St.load2 {w w1 : World} {g9 : Nat} {s0 s1 s2 : ByteArray} {r0 r1 r2 : Value} {xs : List Secs.Z} {k : Nat} {l : Nat → Bool} {x16 x17 x18 x19 x20 x21 x22 x23 x24 x25 x26 x27 x28 x29 x30 x5 x6 x7 : Value} (h : St w g9 s0 s1 s2 r0 r1 r2 xs k l w1 x16 x17 x18 x19 x20 x21 x22 x23 x24 x25 x26 x27 x28 x29 x30 x5 x6 x7) : St w g9 s0 s1 s2 r0 r1 r2 xs k (fun j => j == 12 || l j) w1 x16 x17 x18 x19 x20 x21 x22 x23 x24 x25 x26 x27 (.string s2) x29 x30 x5 x6 x7 :=
  ⟨h.on, h.z9, h.e0, h.e1, h.e2, h.m0, h.f0, h.d0, h.b0, h.rw0, h.q0, h.as0, h.ns0, h.od0, h.m1, h.f1, h.d1, h.b1, h.rw1, h.q1, h.as1, h.ns1, h.od1, h.m2, h.f2, (fun _ => rfl), h.b2, h.rw2, h.q2, h.as2, h.ns2, h.od2, h.a01, h.a02, h.a12, h.n00, h.n01, h.n02, h.n10, h.n11, h.n12, h.n20, h.n21, h.n22⟩
theorem St.assign2 {w w1 : World} {g9 : Nat} {s0 s1 s2 : ByteArray} {r0 r1 r2 : Value} {xs : List Secs.Z} {k : Nat} {l : Nat → Bool} {x16 x17 x18 x19 x20 x21 x22 x23 x24 x25 x26 x27 x28 x29 x30 x5 x6 x7 : Value} (h : St w g9 s0 s1 s2 r0 r1 r2 xs k l w1 x16 x17 x18 x19 x20 x21 x22 x23 x24 x25 x26 x27 x28 x29 x30 x5 x6 x7) (g0 : l 10 = true) (g1 : l 14 = true) : St w g9 s0 s1 s2 r0 r1 r2 xs k (fun j => j == 17 || l j) w1 x16 x17 x18 x19 x20 x21 x22 x23 x24 x25 x26 x27 x28 x29 x30 x5 x6 x30 :=
  ⟨h.on, h.z9, h.e0, h.e1, h.e2, h.m0, h.f0, h.d0, h.b0, h.rw0, h.q0, h.as0, h.ns0, h.od0, h.m1, h.f1, h.d1, h.b1, h.rw1, h.q1, h.as1, h.ns1, h.od1, h.m2, h.f2, h.d2, h.b2, h.rw2, h.q2, (fun _ => rfl), (fun g => by cases g), (fun _ => ⟨g0, g1⟩), h.a01, h.a02, h.a12, h.n00, h.n01, h.n02, h.n10, h.n11, h.n12, h.n20, h.n21, h.n22⟩
theorem St.build2 {w w1 : World} {g9 : Nat} {s0 s1 s2 : ByteArray} {r0 r1 r2 : Value} {xs : List Secs.Z} {k : Nat} {l : Nat → Bool} {x16 x17 x18 x19 x20 x21 x22 x23 x24 x25 x26 x27 x28 x29 x30 x5 x6 x7 : Value} (h : St w g9 s0 s1 s2 r0 r1 r2 xs k l w1 x16 x17 x18 x19 x20 x21 x22 x23 x24 x25 x26 x27 x28 x29 x30 x5 x6 x7) (t : TypeId) : St w g9 s0 s1 s2 r0 r1 r2 xs k (fun j => j == 13 || l j) (w1.alloc (.cells #[.string s2] t)) x16 x17 x18 x19 x20 x21 x22 x23 x24 x25 x26 x27 x28 (.slice (some ⟨w1.heap.size, 0, none⟩) 1 1) x30 x5 x6 x7 :=
  ⟨(On.alloc h.on _), (by rw [World.size_alloc]; exact Nat.lt_succ_of_lt h.z9), (((On.alloc (On.refl w1) _).cell (by exact h.z9)).trans h.e0), (((On.alloc (On.refl w1) _).cell (by exact h.z9)).trans h.e1), (((On.alloc (On.refl w1) _).cell (by exact h.z9)).trans h.e2), h.m0, h.f0, h.d0, (fun g0 g1 => by obtain ⟨g, e1, e2, e3⟩ := h.b0 g0 g1; exact ⟨g, e1, ((On.alloc (On.refl w1) _).cell (by exact e3)).trans e2, by rw [World.size_alloc]; exact Nat.lt_succ_of_lt e3⟩), (h.rw0.alloc _), h.q0, h.as0, h.ns0, h.od0, h.m1, h.f1, h.d1, (fun g0 g1 => by obtain ⟨g, e1, e2, e3⟩ := h.b1 g0 g1; exact ⟨g, e1, ((On.alloc (On.refl w1) _).cell (by exact e3)).trans e2, by rw [World.size_alloc]; exact Nat.lt_succ_of_lt e3⟩), (h.rw1.alloc _), h.q1, h.as1, h.ns1, h.od1, h.m2, h.f2, h.d2, (fun _ _ => ⟨w1.heap.size, rfl, by simp [go_sem], by simp⟩), (h.rw2.alloc _), h.q2, h.as2, h.ns2, h.od2, h.a01, h.a02, h.a12, h.n00, h.n01, h.n02, h.n10, h.n11, h.n12, (fun _ _ g hg hc => by injection hg with hg; have := (h.lt0 hc).2; simp at hg; omega), (fun _ _ g hg hc => by injection hg with hg; have := (h.lt1 hc).2; simp at hg; omega), (fun _ _ g hg hc => by injection hg with hg; have := (h.lt2 hc).2; simp at hg; omega)⟩
theorem St.app2 {w w1 : World} {g9 : Nat} {s0 s1 s2 : ByteArray} {r0 r1 r2 : Value} {xs : List Secs.Z} {k : Nat} {l : Nat → Bool} {x16 x17 x18 x19 x20 x21 x22 x23 x24 x25 x26 x27 x28 x29 x30 x5 x6 x7 : Value} (h : St w g9 s0 s1 s2 r0 r1 r2 xs k l w1 x16 x17 x18 x19 x20 x21 x22 x23 x24 x25 x26 x27 x28 x29 x30 x5 x6 x7) (hl : l 14 = false) {g cap : Nat} {w2 : World} (hrow : Row w2 (w.heap.size + 1) (fun z => z.x3) xs (.slice (some ⟨g, 0, none⟩) (k + 1) cap) (k + 1)) (hgrow : w1.grownBy w2 r2.ownBlock) (hat : r2.ownBlock = some g ∨ g = w1.heap.size) : St w g9 s0 s1 s2 r0 r1 r2 xs k (fun j => j == 14 || l j) w2 x16 x17 x18 x19 x20 x21 x22 x23 x24 x25 x26 x27 x28 x29 (.slice (some ⟨g, 0, none⟩) (k + 1) cap) x5 x6 x7 := by
  have hc : (cur (l 14) x30 r2) = r2 := by rw [hl]; rfl
  exact ⟨(Below.grown h.on hgrow h.on.size (fun q hq => by have := (h.lt2 (by rw [hc]; exact hq)).1; omega)), (Nat.lt_of_lt_of_le h.z9 hgrow.size), ((hgrow.cell_far _ (by exact h.z9) (fun e => h.q2 g9 (by rw [hc]; exact e.symm) rfl)).trans h.e0), ((hgrow.cell_far _ (by exact h.z9) (fun e => h.q2 g9 (by rw [hc]; exact e.symm) rfl)).trans h.e1), ((hgrow.cell_far _ (by exact h.z9) (fun e => h.q2 g9 (by rw [hc]; exact e.symm) rfl)).trans h.e2), h.m0, h.f0, h.d0, (fun g0 g1 => by obtain ⟨q, e1, e2, e3⟩ := h.b0 g0 g1; exact ⟨q, e1, (hgrow.cell_far _ (by exact e3) (fun e => h.n02 g0 g1 q (by rw [e1]; rfl) (by rw [hc]; exact e.symm))).trans e2, Nat.lt_of_lt_of_le e3 hgrow.size⟩), (h.rw0.grown hgrow (fun q hq e => h.a02.symm q (by rw [hc]; exact e) hq)), h.q0, h.as0, h.ns0, h.od0, h.m1, h.f1, h.d1, (fun g0 g1 => by obtain ⟨q, e1, e2, e3⟩ := h.b1 g0 g1; exact ⟨q, e1, (hgrow.cell_far _ (by exact e3) (fun e => h.n12 g0 g1 q (by rw [e1]; rfl) (by rw [hc]; exact e.symm))).trans e2, Nat.lt_of_lt_of_le e3 hgrow.size⟩), (h.rw1.grown hgrow (fun q hq e => h.a12.symm q (by rw [hc]; exact e) hq)), h.q1, h.as1, h.ns1, h.od1, h.m2, h.f2, h.d2, (fun _ g1 => by cases g1), (hrow), (fun q e1 => by injection e1 with e1; simp at e1; subst e1; exact hat.elim (fun hat => h.q2 _ (by rw [hc]; exact hat)) (fun hat => by have := h.z9; omega)), (fun g0 => absurd (h.od2 g0).2 (by rw [hl]; simp)), h.ns2, (fun g0 => ⟨(h.od2 g0).1, rfl⟩), h.a01, (fun q e2 e1 => by injection e1 with e1; simp at e1; subst e1; exact hat.elim (fun hat => h.a02.symm _ (by rw [hc]; exact hat) e2) (fun hat => by have := (h.lt0 e2).2; omega)), (fun q e2 e1 => by injection e1 with e1; simp at e1; subst e1; exact hat.elim (fun hat => h.a12.symm _ (by rw [hc]; exact hat) e2) (fun hat => by have := (h.lt1 e2).2; omega)), h.n00, h.n01, (fun g0 g1 q hq e => by injection e with e; simp at e; subst e; exact hat.elim (fun hat => h.n02 g0 g1 _ hq (by rw [hc]; exact hat)) (fun hat => by obtain ⟨u, e1, e2, e3⟩ := h.b0 g0 g1; rw [e1] at hq; injection hq with hq; simp at hq; omega)), h.n10, h.n11, (fun g0 g1 q hq e => by injection e with e; simp at e; subst e; exact hat.elim (fun hat => h.n12 g0 g1 _ hq (by rw [hc]; exact hat)) (fun hat => by obtain ⟨u, e1, e2, e3⟩ := h.b1 g0 g1; rw [e1] at hq; injection hq with hq; simp at hq; omega)), (fun _ g1 => by cases g1), (fun _ g1 => by cases g1), (fun _ g1 => by cases g1)⟩
theorem St.init {w W w1 : World} {g9 : Nat} {s0 s1 s2 : ByteArray} {r0 r1 r2 : Value} {xs : List Secs.Z} {k : Nat} {l : Nat → Bool} {x16 x17 x18 x19 x20 x21 x22 x23 x24 x25 x26 x27 x28 x29 x30 : Value} (hl : ∀ i, i < 18 → l i = false) (on : On w w1) (hg : g9 = W.heap.size) (hW : On W w1) (z9 : g9 < w1.heap.size) (e0 : w1.cell? ⟨g9, 1, none⟩ = some (.string s0)) (e1 : w1.cell? ⟨g9, 2, none⟩ = some (.string s1)) (e2 : w1.cell? ⟨g9, 3, none⟩ = some (.string s2)) (rw0 : Row W (w.heap.size + 1) (fun z => z.x1) xs r0 k) (rw1 : Row W (w.heap.size + 1) (fun z => z.x2) xs r1 k) (rw2 : Row W (w.heap.size + 1) (fun z => z.x3) xs r2 k) (a01 : Apart r0 r1) (a02 : Apart r0 r2) (a12 : Apart r1 r2) : St w g9 s0 s1 s2 r0 r1 r2 xs k l w1 x16 x17 x18 x19 x20 x21 x22 x23 x24 x25 x26 x27 x28 x29 x30 r0 r1 r2 := by
  exact ⟨on, z9, e0, e1, e2, (fun g0 => by rw [hl 0 (by omega)] at g0; cases g0), (fun g0 => by rw [hl 1 (by omega)] at g0; cases g0), (fun g0 => by rw [hl 2 (by omega)] at g0; cases g0), (fun g0 => by rw [hl 3 (by omega)] at g0; cases g0), (by rw [hl 4 (by omega)]; exact rw0.on hW), (fun g hg => by rw [hl 4 (by omega)] at hg; exact fun c => by have := (rw0.lt hg).2; omega), (fun g0 => by rw [hl 15 (by omega)] at g0; cases g0), (fun _ => rfl), (fun g0 => by rw [hl 15 (by omega)] at g0; cases g0), (fun g0 => by rw [hl 5 (by omega)] at g0; cases g0), (fun g0 => by rw [hl 6 (by omega)] at g0; cases g0), (fun g0 => by rw [hl 7 (by omega)] at g0; cases g0), (fun g0 => by rw [hl 8 (by omega)] at g0; cases g0), (by rw [hl 9 (by omega)]; exact rw1.on hW), (fun g hg => by rw [hl 9 (by omega)] at hg; exact fun c => by have := (rw1.lt hg).2; omega), (fun g0 => by rw [hl 16 (by omega)] at g0; cases g0), (fun _ => rfl), (fun g0 => by rw [hl 16 (by omega)] at g0; cases g0), (fun g0 => by rw [hl 10 (by omega)] at g0; cases g0), (fun g0 => by rw [hl 11 (by omega)] at g0; cases g0), (fun g0 => by rw [hl 12 (by omega)] at g0; cases g0), (fun g0 => by rw [hl 13 (by omega)] at g0; cases g0), (by rw [hl 14 (by omega)]; exact rw2.on hW), (fun g hg => by rw [hl 14 (by omega)] at hg; exact fun c => by have := (rw2.lt hg).2; omega), (fun g0 => by rw [hl 17 (by omega)] at g0; cases g0), (fun _ => rfl), (fun g0 => by rw [hl 17 (by omega)] at g0; cases g0), (by rw [hl 4 (by omega), hl 9 (by omega)]; exact a01), (by rw [hl 4 (by omega), hl 14 (by omega)]; exact a02), (by rw [hl 9 (by omega), hl 14 (by omega)]; exact a12), (fun g0 => by rw [hl 3 (by omega)] at g0; cases g0), (fun g0 => by rw [hl 3 (by omega)] at g0; cases g0), (fun g0 => by rw [hl 3 (by omega)] at g0; cases g0), (fun g0 => by rw [hl 8 (by omega)] at g0; cases g0), (fun g0 => by rw [hl 8 (by omega)] at g0; cases g0), (fun g0 => by rw [hl 8 (by omega)] at g0; cases g0), (fun g0 => by rw [hl 13 (by omega)] at g0; cases g0), (fun g0 => by rw [hl 13 (by omega)] at g0; cases g0), (fun g0 => by rw [hl 13 (by omega)] at g0; cases g0)⟩
theorem news_one {w : World} {g : Nat} {u : Value} (h : w.cell? ⟨g, 0, none⟩ = some u) : ∀ (j : Nat) (u' : Value), ([u] : List Value)[j]? = some u' → w.cell? ((⟨g, 0, none⟩ : Addr).add j) = some u' := fun j u' hj => by
  cases j with
  | zero => simp at hj; subst hj; simpa [Addr.add] using h
  | succ j => simp at hj
/-- The rows behind a round. -/
def Own3 (w w1 : World) (xs : List Secs.Z) (k : Nat) (r0 r1 r2 : Value) : Prop := Row w1 (w.heap.size + 1) (fun z => z.x1) xs r0 k ∧ Row w1 (w.heap.size + 1) (fun z => z.x2) xs r1 k ∧ Row w1 (w.heap.size + 1) (fun z => z.x3) xs r2 k ∧ Apart r0 r1 ∧ Apart r0 r2 ∧ Apart r1 r2 ∧ On w w1
theorem St.fin {w w1 : World} {g9 : Nat} {s0 s1 s2 : ByteArray} {r0 r1 r2 : Value} {xs : List Secs.Z} {k : Nat} {l : Nat → Bool} {x16 x17 x18 x19 x20 x21 x22 x23 x24 x25 x26 x27 x28 x29 x30 x5 x6 x7 : Value} (h : St w g9 s0 s1 s2 r0 r1 r2 xs k l w1 x16 x17 x18 x19 x20 x21 x22 x23 x24 x25 x26 x27 x28 x29 x30 x5 x6 x7) (hl : ∀ i, i < 18 → l i = true) : x5 = x20 ∧ x6 = x25 ∧ x7 = x30 ∧ Own3 w w1 xs (k + 1) x5 x6 x7 := by
  have h5 := h.as0 (hl 15 (by omega))
  have h6 := h.as1 (hl 16 (by omega))
  have h7 := h.as2 (hl 17 (by omega))
  have q0 := h.rw0
  have q1 := h.rw1
  have q2 := h.rw2
  have p0 := h.a01
  have p1 := h.a02
  have p2 := h.a12
  rw [hl 4 (by omega)] at q0 p0 p1
  rw [hl 9 (by omega)] at q1 p0 p2
  rw [hl 14 (by omega)] at q2 p1 p2
  refine ⟨h5, h6, h7, ?_⟩
  rw [h5, h6, h7]
  exact ⟨q0, q1, q2, p0, p1, p2, h.on⟩
theorem row_nil (w : World) (B : Nat) (f : Secs.Z → ByteArray) (xs : List Secs.Z) : Row w B f xs (.slice none 0 0) 0 := World.ownsRow_nil _ _ _ _
theorem apart_nil (v : Value) : Apart (.slice none 0 0) v := fun g hg => by cases hg
theorem textsTo_len (f : Secs.Z → ByteArray) (xs : List Secs.Z) : (textsTo f xs).length = xs.length := by unfold textsTo; simp
theorem textsTo_at (f : Secs.Z → ByteArray) (xs : List Secs.Z) {k : Nat} (hk : k < xs.length) : (textsTo f xs).getD k ⟨#[]⟩ = f (xs.getD k Secs.d0) := by unfold textsTo; simp [hk]
theorem Row.strs {w : World} {B : Nat} {f : Secs.Z → ByteArray} {xs : List Secs.Z} {v : Value} (h : Row w B f xs v xs.length) : Strs.Strs w v (textsTo f xs) := by
  rcases Nat.eq_zero_or_pos xs.length with h0 | h0
  · rcases h.2 with ⟨hv, _⟩ | ⟨g, cap, cu, hv, _⟩
    · exact ⟨none, 0, by rw [textsTo_len, h0, hv], fun h => by rw [textsTo_len] at h; omega⟩
    · exact ⟨_, cap, by rw [textsTo_len]; exact hv, fun h => by rw [textsTo_len] at h; omega⟩
  · obtain ⟨g, cap, hv, _, hlt⟩ := World.ownsRow.form h h0
    refine ⟨_, cap, by rw [textsTo_len]; exact hv, fun _ => ⟨g, 0, rfl, hlt, fun i hi => ?_⟩⟩
    rw [textsTo_len] at hi
    subst hv
    rw [Nat.zero_add, World.ownsRow.cellAt h i (by omega), show (textsTo f xs).getD i Strs.noText = f (xs.getD i Secs.d0) from textsTo_at f xs hi]
    unfold cellsTo
    simp [hi]
/-- What all the sectors refer to is there. -/
def refsB (N : T) (xs : List Secs.Z) : Bool := NamM.haveAll Sites.nm Sites.d0 N.f0 (textsTo (fun z => z.x1) xs) && (NamM.haveAll Ants.nm Ants.d0 N.f2 (textsTo (fun z => z.x2) xs) && NamM.haveAll Rads.nm Rads.d0 N.f3 (textsTo (fun z => z.x3) xs))
set_option maxRecDepth 100000 in
set_option maxHeartbeats 8000000 in
theorem provides_some (b off cap : Nat) (xs : List Secs.Z) (v : Value) (N : T) (w : World) (hn : xs.length ≤ 1048576) (hs : ∀ k, k < xs.length → Secs.Small 1048576 (xs.getD k Secs.d0)) (hN : N.Small 1048576) (hlt : b < w.heap.size) (h : Is w v N)
    (hcell : ∀ k, k < xs.length → Secs.El w b (off + k * 9) (xs.getD k Secs.d0)) :
    Calls Tryz.prog 87 #[v, .slice (some ⟨b, off, none⟩) xs.length cap] w fun e w' => e = .returned (.bool (refsB N xs)) ∧ On w w' := by
  obtain ⟨v0, v1, v2, v3, rfl, h0, h1, h2, h3⟩ := h
  have H0 := Lib.hid h0
  have H2 := Lib.hid h2
  have H3 := Lib.hid h3
  obtain ⟨a0, cap0, rfl, -⟩ := h0
  obtain ⟨a1, cap1, rfl, -⟩ := h1
  obtain ⟨a2, cap2, rfl, -⟩ := h2
  obtain ⟨a3, cap3, rfl, -⟩ := h3
  have HC := Lib.hid hcell
  obtain ⟨n, hnn⟩ : ∃ n, n = xs.length := ⟨_, rfl⟩
  have HL := Lib.hid hnn
  have HH1 := Lib.hid (fun w' (ho : On w w') u (hu : Strs.Strs w' u (textsTo (fun z => z.x1) xs)) => Sites.impl_have _ N.f0 u _ w' hN.1.1 hN.1.2 (by rw [textsTo_len]; exact hn) (fun k hk => by rw [textsTo_len] at hk; rw [textsTo_at _ _ hk]; exact (hs k hk).2.1) (H0.out.on ho) hu)
  have HH2 := Lib.hid (fun w' (ho : On w w') u (hu : Strs.Strs w' u (textsTo (fun z => z.x2) xs)) => Ants.impl_have _ N.f2 u _ w' hN.2.2.1.1 hN.2.2.1.2 (by rw [textsTo_len]; exact hn) (fun k hk => by rw [textsTo_len] at hk; rw [textsTo_at _ _ hk]; exact (hs k hk).2.2.1) (H2.out.on ho) hu)
  have HH3 := Lib.hid (fun w' (ho : On w w') u (hu : Strs.Strs w' u (textsTo (fun z => z.x3) xs)) => Rads.impl_have _ N.f3 u _ w' hN.2.2.2.1 hN.2.2.2.2 (by rw [textsTo_len]; exact hn) (fun k hk => by rw [textsTo_len] at hk; rw [textsTo_at _ _ hk]; exact (hs k hk).2.2.2.1) (H3.out.on ho) hu)
  rw [← hnn] at hn ⊢
  clear hcell hnn hs hN
  have hii : (Tryz.prog.info? 9).map (fun i => (i.zero, i.size, i.bytes)) = some (some (.string ⟨#[]⟩), 1, 16) := by kernel_rfl
  obtain ⟨i0, hi, hzz⟩ := Option.map_eq_some_iff.1 hii
  simp only [Prod.mk.injEq] at hzz
  obtain ⟨hz0, hz1, hz2⟩ := hzz
  have HI0 := Lib.hid (And.intro hi (And.intro hz0 (And.intro hz1 hz2)))
  clear hi hz0 hz1 hz2 hii
  go_enter Tryz.func87, Tryz.ntmps87
  go_wp2_with fail
  generalize hWB : w.alloc _ = WB
  have OB := Lib.hid (show On w WB by rw [← hWB]; exact On.alloc (On.refl _) _)
  have HK := Lib.hid (show WB.cell? ⟨w.heap.size, 0, none⟩ = some (.slice a0 N.f0.length cap0) ∧ WB.cell? ⟨w.heap.size, 2, none⟩ = some (.slice a2 N.f2.length cap2) ∧ WB.cell? ⟨w.heap.size, 3, none⟩ = some (.slice a3 N.f3.length cap3) by rw [← hWB]; exact ⟨by simp [go_sem], by simp [go_sem], by simp [go_sem]⟩)
  have hwsb : w.heap.size < WB.heap.size := by rw [← hWB]; simp
  have hbB : b < WB.heap.size := OB.out.lts _ hlt
  clear hWB
  go_loopw [5, 6, 7, 12] (fun r0 r1 r2 i wr => ∃ k : Nat, k ≤ n ∧ i = .int .i64 k ∧ Own3 WB wr xs k r0 r1 r2) (fun _ _ _ i _ => n - (intOf i).toNat)
  case atStart => exact ⟨0, Nat.zero_le _, rfl, row_nil _ _ _ _, row_nil _ _ _ _, row_nil _ _ _ _, apart_nil _, apart_nil _, apart_nil _, On.refl _⟩
  case round =>
    obtain ⟨k, hk, rfl, hown⟩ := hrel
    have HW := Lib.hid hown
    obtain ⟨hr0, hr1, hr2, ap01, ap02, ap12, ho⟩ := hown
    have HB := Lib.hid ho
    have hws : w.heap.size < wr.heap.size := HB.out.lts _ hwsb
    by_cases hlt0 : k < n
    · have hlti : (k : Int) < (n : Int) := by omega
      have hlt2 : k < xs.length := by rw [← HL.out]; exact hlt0
      obtain ⟨z, hz⟩ : ∃ z : Secs.Z, z = xs.getD k Secs.d0 := ⟨_, rfl⟩
      have E : Secs.El wr b (off + k * 9) z := by rw [hz]; exact ((HC.out k hlt2).on OB.out).on HB.out
      have HZ := Lib.hid hz
      have c0 := E.c0
      have c1 := E.c1
      have c2 := E.c2
      have c3 := E.c3
      have c4 := E.c4
      have c5 := E.c5
      have c6 := E.c6
      have c7 := E.c7
      have c8 := E.c8
      clear hz E hr0 hr1 hr2 ap01 ap02 ap12 ho hlt2
      go_wp2_with fail
      obtain ⟨hi, hz0, hz1, hz2⟩ := HI0.out
      refine Reg.wp_region_inv (fun l a w1 => ∃ x16 x17 x18 x19 x20 x21 x22 x23 x24 x25 x26 x27 x28 x29 x30 x5 x6 x7 : Value, a = ⟨#[.agg #[.slice a0 N.f0.length cap0, .slice a1 N.f1.length cap1, .slice a2 N.f2.length cap2, .slice a3 N.f3.length cap3], .slice (some ⟨b, off, none⟩) n cap, .pointer (some ⟨w.heap.size, 0, none⟩), undef, .bool false, x5, x6, x7, undef, .pointer (some ⟨wr.heap.size, 0, none⟩), .slice (some ⟨b, off, none⟩) n cap, .int .i64 n, .int .i64 k, .bool true, .pointer (some ⟨b, off + k * 9, none⟩), .agg #[.string z.x0, .string z.x1, .string z.x2, .string z.x3, .string z.x4, .int .i64 z.x5, .int .i64 z.x6, .int .i64 z.x7, .int .i64 z.x8], x16, x17, x18, x19, x20, x21, x22, x23, x24, x25, x26, x27, x28, x29, x30, u31, undef, undef, undef, undef, undef, undef, undef, undef, undef, undef, undef, undef, undef, undef, undef, undef], []⟩ ∧ St WB wr.heap.size z.x1 z.x2 z.x3 u5 u6 u7 xs k l w1 x16 x17 x18 x19 x20 x21 x22 x23 x24 x25 x26 x27 x28 x29 x30 x5 x6 x7) (by kernel_rfl) ?hback ?init ?step ?fin
      case hback => kernel_rfl
      case init =>
        intro l hl
        obtain ⟨hr0, hr1, hr2, ap01, ap02, ap12, ho⟩ := HW.out
        exact ⟨_, _, _, _, _, _, _, _, _, _, _, _, _, _, _, _, _, _, rfl, St.init (W := wr) hl (by repeat (first | with_reducible exact HB.out | with_reducible apply On.alloc | with_reducible apply On.drewN | with_reducible apply On.drew | with_reducible refine On.setCell ?_ (by (try simp) <;> omega) _)) rfl (by repeat (first | with_reducible exact On.refl _ | with_reducible apply On.alloc | with_reducible apply On.drewN | with_reducible apply On.drew | with_reducible refine On.setCell ?_ (by (try simp) <;> omega) _)) (by simp) (by simp [go_sem]) (by simp [go_sem]) (by simp [go_sem]) hr0 hr1 hr2 ap01 ap02 ap12⟩
      case step =>
        intro l a w1 i o ho hI hl0 hd
        obtain ⟨x16, x17, x18, x19, x20, x21, x22, x23, x24, x25, x26, x27, x28, x29, x30, x5, x6, x7, rfl, hI⟩ := hI
        have hlt18 : i < 18 := by have := (Array.getElem?_eq_some_iff.1 ho).1; simpa using this
        rcases (show i = 0 ∨ i = 1 ∨ i = 2 ∨ i = 3 ∨ i = 4 ∨ i = 5 ∨ i = 6 ∨ i = 7 ∨ i = 8 ∨ i = 9 ∨ i = 10 ∨ i = 11 ∨ i = 12 ∨ i = 13 ∨ i = 14 ∨ i = 15 ∨ i = 16 ∨ i = 17 by omega) with rfl | rfl | rfl | rfl | rfl | rfl | rfl | rfl | rfl | rfl | rfl | rfl | rfl | rfl | rfl | rfl | rfl | rfl <;> (replace ho := Option.some.inj (show some _ = some o from ho); subst ho)
        · -- operation 0
          have e5 : u5 = x5 := (hI.ns0 (by
            cases g : l 15 with
            | false => rfl
            | true => rw [(hI.od0 g).1] at hl0; cases hl0)).symm
          subst e5
          refine wpOp_step rfl (fun K hK => ?_)
          go_simp
          exact hK _ _ ⟨_, _, _, _, _, _, _, _, _, _, _, _, _, _, _, _, _, _, rfl, hI.move0⟩
        · -- operation 1
          refine wpOp_step rfl (fun K hK => ?_)
          go_simp
          exact hK _ _ ⟨_, _, _, _, _, _, _, _, _, _, _, _, _, _, _, _, _, _, rfl, hI.field0⟩
        · -- operation 2
          have d1 : l 1 = true := hd ⟨1, Ground.data⟩ (by simp) (by kernel_rfl)
          have e1 := hI.f0 d1
          subst e1
          have ec := hI.e0
          have ez := hI.z9
          refine wpOp_step rfl (fun K hK => ?_)
          go_simp
          exact hK _ _ ⟨_, _, _, _, _, _, _, _, _, _, _, _, _, _, _, _, _, _, rfl, hI.load0⟩
        · -- operation 3
          have d2 : l 2 = true := hd ⟨2, Ground.data⟩ (by simp) (by kernel_rfl)
          have e1 := hI.d0 d2
          subst e1
          refine wpOp_step rfl (fun K hK => ?_)
          go_simp
          exact hK _ _ ⟨_, _, _, _, _, _, _, _, _, _, _, _, _, _, _, _, _, _, rfl, hI.build0 _⟩
        · -- operation 4
          have d0 : l 0 = true := hd ⟨0, Ground.data⟩ (by simp) (by kernel_rfl)
          have d3 : l 3 = true := hd ⟨3, Ground.data⟩ (by simp) (by kernel_rfl)
          have e1 := (hI.m0 d0).symm
          subst e1
          obtain ⟨gb, e2, e3, e4⟩ := hI.b0 d3 hl0
          subst e2
          have hrow : Row w1 (WB.heap.size + 1) (fun z => z.x1) xs u5 k := by have := hI.rw0; rw [hl0] at this; exact this
          refine wpOp_step rfl (fun K hK => ?_)
          refine step_append_lies _ rfl (.tmp 16) (.tmp 19) 29 rfl (WB.heap.size + 1) 9 i0 _ 1 16 Tryz.underlying29 hi hz0 hz1 hz2 rfl (by decide) _ k _ rfl hrow ⟨gb, 0, none⟩ 1 1 [.string z.x1] rfl rfl (news_one e3) (by simp [Value.oneCell']) (by decide) (by unfold maxLen; omega) (by omega) (by have := HB.out.size; have := hI.z9; omega) w1.heap.size rfl ?_
          intro gg cp w2 hown2 hgrow hat hlt9
          refine hK _ _ ⟨_, _, _, _, _, _, _, _, _, _, _, _, _, _, _, _, _, _, rfl, hI.app0 hl0 ?_ hgrow hat⟩
          show World.ownsRow _ _ _ _ _ _ _
          rw [cellsTo_succ, ← HZ.out]
          exact hown2
        · -- operation 5
          have e5 : u6 = x6 := (hI.ns1 (by
            cases g : l 16 with
            | false => rfl
            | true => rw [(hI.od1 g).1] at hl0; cases hl0)).symm
          subst e5
          refine wpOp_step rfl (fun K hK => ?_)
          go_simp
          exact hK _ _ ⟨_, _, _, _, _, _, _, _, _, _, _, _, _, _, _, _, _, _, rfl, hI.move1⟩
        · -- operation 6
          refine wpOp_step rfl (fun K hK => ?_)
          go_simp
          exact hK _ _ ⟨_, _, _, _, _, _, _, _, _, _, _, _, _, _, _, _, _, _, rfl, hI.field1⟩
        · -- operation 7
          have d6 : l 6 = true := hd ⟨6, Ground.data⟩ (by simp) (by kernel_rfl)
          have e1 := hI.f1 d6
          subst e1
          have ec := hI.e1
          have ez := hI.z9
          refine wpOp_step rfl (fun K hK => ?_)
          go_simp
          exact hK _ _ ⟨_, _, _, _, _, _, _, _, _, _, _, _, _, _, _, _, _, _, rfl, hI.load1⟩
        · -- operation 8
          have d7 : l 7 = true := hd ⟨7, Ground.data⟩ (by simp) (by kernel_rfl)
          have e1 := hI.d1 d7
          subst e1
          refine wpOp_step rfl (fun K hK => ?_)
          go_simp
          exact hK _ _ ⟨_, _, _, _, _, _, _, _, _, _, _, _, _, _, _, _, _, _, rfl, hI.build1 _⟩
        · -- operation 9
          have d5 : l 5 = true := hd ⟨5, Ground.data⟩ (by simp) (by kernel_rfl)
          have d8 : l 8 = true := hd ⟨8, Ground.data⟩ (by simp) (by kernel_rfl)
          have e1 := (hI.m1 d5).symm
          subst e1
          obtain ⟨gb, e2, e3, e4⟩ := hI.b1 d8 hl0
          subst e2
          have hrow : Row w1 (WB.heap.size + 1) (fun z => z.x2) xs u6 k := by have := hI.rw1; rw [hl0] at this; exact this
          refine wpOp_step rfl (fun K hK => ?_)
          refine step_append_lies _ rfl (.tmp 21) (.tmp 24) 29 rfl (WB.heap.size + 1) 9 i0 _ 1 16 Tryz.underlying29 hi hz0 hz1 hz2 rfl (by decide) _ k _ rfl hrow ⟨gb, 0, none⟩ 1 1 [.string z.x2] rfl rfl (news_one e3) (by simp [Value.oneCell']) (by decide) (by unfold maxLen; omega) (by omega) (by have := HB.out.size; have := hI.z9; omega) w1.heap.size rfl ?_
          intro gg cp w2 hown2 hgrow hat hlt9
          refine hK _ _ ⟨_, _, _, _, _, _, _, _, _, _, _, _, _, _, _, _, _, _, rfl, hI.app1 hl0 ?_ hgrow hat⟩
          show World.ownsRow _ _ _ _ _ _ _
          rw [cellsTo_succ, ← HZ.out]
          exact hown2
        · -- operation 10
          have e5 : u7 = x7 := (hI.ns2 (by
            cases g : l 17 with
            | false => rfl
            | true => rw [(hI.od2 g).1] at hl0; cases hl0)).symm
          subst e5
          refine wpOp_step rfl (fun K hK => ?_)
          go_simp
          exact hK _ _ ⟨_, _, _, _, _, _, _, _, _, _, _, _, _, _, _, _, _, _, rfl, hI.move2⟩
        · -- operation 11
          refine wpOp_step rfl (fun K hK => ?_)
          go_simp
          exact hK _ _ ⟨_, _, _, _, _, _, _, _, _, _, _, _, _, _, _, _, _, _, rfl, hI.field2⟩
        · -- operation 12
          have d11 : l 11 = true := hd ⟨11, Ground.data⟩ (by simp) (by kernel_rfl)
          have e1 := hI.f2 d11
          subst e1
          have ec := hI.e2
          have ez := hI.z9
          refine wpOp_step rfl (fun K hK => ?_)
          go_simp
          exact hK _ _ ⟨_, _, _, _, _, _, _, _, _, _, _, _, _, _, _, _, _, _, rfl, hI.load2⟩
        · -- operation 13
          have d12 : l 12 = true := hd ⟨12, Ground.data⟩ (by simp) (by kernel_rfl)
          have e1 := hI.d2 d12
          subst e1
          refine wpOp_step rfl (fun K hK => ?_)
          go_simp
          exact hK _ _ ⟨_, _, _, _, _, _, _, _, _, _, _, _, _, _, _, _, _, _, rfl, hI.build2 _⟩
        · -- operation 14
          have d10 : l 10 = true := hd ⟨10, Ground.data⟩ (by simp) (by kernel_rfl)
          have d13 : l 13 = true := hd ⟨13, Ground.data⟩ (by simp) (by kernel_rfl)
          have e1 := (hI.m2 d10).symm
          subst e1
          obtain ⟨gb, e2, e3, e4⟩ := hI.b2 d13 hl0
          subst e2
          have hrow : Row w1 (WB.heap.size + 1) (fun z => z.x3) xs u7 k := by have := hI.rw2; rw [hl0] at this; exact this
          refine wpOp_step rfl (fun K hK => ?_)
          refine step_append_lies _ rfl (.tmp 26) (.tmp 29) 29 rfl (WB.heap.size + 1) 9 i0 _ 1 16 Tryz.underlying29 hi hz0 hz1 hz2 rfl (by decide) _ k _ rfl hrow ⟨gb, 0, none⟩ 1 1 [.string z.x3] rfl rfl (news_one e3) (by simp [Value.oneCell']) (by decide) (by unfold maxLen; omega) (by omega) (by have := HB.out.size; have := hI.z9; omega) w1.heap.size rfl ?_
          intro gg cp w2 hown2 hgrow hat hlt9
          refine hK _ _ ⟨_, _, _, _, _, _, _, _, _, _, _, _, _, _, _, _, _, _, rfl, hI.app2 hl0 ?_ hgrow hat⟩
          show World.ownsRow _ _ _ _ _ _ _
          rw [cellsTo_succ, ← HZ.out]
          exact hown2
        · -- operation 15
          have d4 : l 4 = true := hd ⟨4, Ground.data⟩ (by simp) (by kernel_rfl)
          have d0 : l 0 = true := hd ⟨0, Ground.phase⟩ (by simp) (by kernel_rfl)
          refine wpOp_step rfl (fun K hK => ?_)
          go_simp
          exact hK _ _ ⟨_, _, _, _, _, _, _, _, _, _, _, _, _, _, _, _, _, _, rfl, hI.assign0 d0 d4⟩
        · -- operation 16
          have d9 : l 9 = true := hd ⟨9, Ground.data⟩ (by simp) (by kernel_rfl)
          have d5 : l 5 = true := hd ⟨5, Ground.phase⟩ (by simp) (by kernel_rfl)
          refine wpOp_step rfl (fun K hK => ?_)
          go_simp
          exact hK _ _ ⟨_, _, _, _, _, _, _, _, _, _, _, _, _, _, _, _, _, _, rfl, hI.assign1 d5 d9⟩
        · -- operation 17
          have d14 : l 14 = true := hd ⟨14, Ground.data⟩ (by simp) (by kernel_rfl)
          have d10 : l 10 = true := hd ⟨10, Ground.phase⟩ (by simp) (by kernel_rfl)
          refine wpOp_step rfl (fun K hK => ?_)
          go_simp
          exact hK _ _ ⟨_, _, _, _, _, _, _, _, _, _, _, _, _, _, _, _, _, _, rfl, hI.assign2 d10 d14⟩
      case fin =>
        intro l a w1 hI hl
        obtain ⟨x16, x17, x18, x19, x20, x21, x22, x23, x24, x25, x26, x27, x28, x29, x30, x5, x6, x7, rfl, hI⟩ := hI
        obtain ⟨q5, q6, q7, hO3⟩ := hI.fin hl
        have HO3 := Lib.hid hO3
        clear hI hO3
        go_wp2_with fail
        go_roundw
        case rel => first | exact ⟨k + 1, by omega, by go_num, HO3.out⟩ | ((repeat apply Exists.intro); exact ⟨⟨k + 1, by omega, by go_num, HO3.out⟩, rfl⟩)
        case measure => simp [intOf]; omega
    · obtain rfl : n = k := by omega
      have hlti : ¬ (n : Int) < (n : Int) := by omega
      have kc0 : wr.cell? ⟨w.heap.size, 0, none⟩ = some (.slice a0 N.f0.length cap0) := (ho.cell (by exact hwsb)).trans HK.out.1
      have hr0' : Strs.Strs wr u5 (textsTo (fun z => z.x1) xs) := Row.strs (by rw [← HL.out]; exact hr0)
      have hr1' : Strs.Strs wr u6 (textsTo (fun z => z.x2) xs) := Row.strs (by rw [← HL.out]; exact hr1)
      have hr2' : Strs.Strs wr u7 (textsTo (fun z => z.x3) xs) := Row.strs (by rw [← HL.out]; exact hr2)
      have S0 := Lib.hid hr0'
      have S1 := Lib.hid hr1'
      have S2 := Lib.hid hr2'
      have en := Lib.hid (show refsB N xs = (NamM.haveAll Sites.nm Sites.d0 N.f0 (textsTo (fun z => z.x1) xs) && (NamM.haveAll Ants.nm Ants.d0 N.f2 (textsTo (fun z => z.x2) xs) && NamM.haveAll Rads.nm Rads.d0 N.f3 (textsTo (fun z => z.x3) xs))) from rfl)
      generalize NamM.haveAll Sites.nm Sites.d0 N.f0 (textsTo (fun z => z.x1) xs) = b0 at *
      generalize NamM.haveAll Ants.nm Ants.d0 N.f2 (textsTo (fun z => z.x2) xs) = b1 at *
      generalize NamM.haveAll Rads.nm Rads.d0 N.f3 (textsTo (fun z => z.x3) xs) = b2 at *
      clear hr0 hr1 hr2 hr0' hr1' hr2' ap01 ap02 ap12 ho
      cases b0 with
      | false =>
        go_wp2_with fail
        refine (HH1.out _ (OB.out.trans HB.out) _ S0.out).mono ?_
        rintro e w1 ⟨rfl, h1⟩
        go_wp2_with fail
        go_ret
        exact ⟨ret_bool (by rw [en.out]; rfl), (OB.out.trans HB.out).trans h1⟩
      | true =>
        go_wp2_with fail
        refine (HH1.out _ (OB.out.trans HB.out) _ S0.out).mono ?_
        rintro e w1 ⟨rfl, h1⟩
        have O1 := Lib.hid ((OB.out.trans HB.out).trans h1)
        have P1 := Lib.hid (HB.out.trans h1)
        have S1' := Lib.hid (S1.out.below h1)
        have S2' := Lib.hid (S2.out.below h1)
        have hw1 := h1.lts _ hws
        have kc2 : w1.cell? ⟨w.heap.size, 2, none⟩ = some (.slice a2 N.f2.length cap2) := (P1.out.cell (by exact hwsb)).trans HK.out.2.1
        clear h1
        cases b1 with
        | false =>
          go_wp2_with fail
          refine (HH2.out _ O1.out _ S1'.out).mono ?_
          rintro e w2 ⟨rfl, h2⟩
          go_wp2_with fail
          go_ret
          exact ⟨ret_bool (by rw [en.out]; rfl), O1.out.trans h2⟩
        | true =>
          go_wp2_with fail
          refine (HH2.out _ O1.out _ S1'.out).mono ?_
          rintro e w2 ⟨rfl, h2⟩
          have O2 := Lib.hid (O1.out.trans h2)
          have P2 := Lib.hid (P1.out.trans h2)
          have S2'' := Lib.hid (S2'.out.below h2)
          have hw2 := h2.lts _ hw1
          have kc3 : w2.cell? ⟨w.heap.size, 3, none⟩ = some (.slice a3 N.f3.length cap3) := (P2.out.cell (by exact hwsb)).trans HK.out.2.2
          clear h2
          go_wp2_with fail
          refine (HH3.out _ O2.out _ S2''.out).mono ?_
          rintro e w3 ⟨rfl, h3⟩
          go_wp2_with fail
          go_ret
          exact ⟨ret_bool (by rw [en.out]; cases b2 <;> rfl), O2.out.trans h3⟩
end Go.Proofs.YtpnmodmaabhldaaGreat.Net
