
/-
  The source of the drawn choices: that its numbers are there, and in their bounds. Condition: at most 1048576 bytes.
-/
import Derived.Test.YtednfkjdidlenaaDoorInts
import Derived.Test.YtednfkjdidlenaaDoorOnH
import Derived.Laws.Bits64
import Derived.Laws.MathBits
namespace Go.Proofs.YtednfkjdidlenaaDoor.Src
open Go.RowKit
open Ints (Ints)

/-- What a list of bytes that came in is. -/
def Code (w : World) (B : Nat) (v : Value) : Prop := ∃ (a : Option Addr) (len cap : Nat), v = .slice a len cap ∧ len ≤ 1048576 ∧ (0 < len → ∃ b off, a = some ⟨b, off, none⟩ ∧ b < B ∧ b < w.heap.size ∧ ∀ i, i < len → ∃ x : Int, 0 ≤ x ∧ x ≤ 255 ∧ w.cell? ⟨b, off + i, none⟩ = some (.int .u8 x))
theorem Code.on {w w' : World} {B : Nat} {v : Value} (h : Code w B v) (ho : On w w') : Code w' B v := by
  obtain ⟨a, len, cap, hv, hl, hc⟩ := h
  refine ⟨a, len, cap, hv, hl, fun h0 => ?_⟩
  obtain ⟨b, off, ha, hb, hs, hcell⟩ := hc h0
  refine ⟨b, off, ha, hb, ho.lts _ hs, fun i hi => ?_⟩
  obtain ⟨x, x0, x1, hx⟩ := hcell i hi
  exact ⟨x, x0, x1, (ho.cell (by exact hs)).trans hx⟩
/-- The source in block g, k bytes of it used at most. -/
def Src (w : World) (g k : Nat) : Prop := ∃ (v : Value) (t : Nat) (seed : Int), w.cell? ⟨g, 0, none⟩ = some v ∧ w.cell? ⟨g, 1, none⟩ = some (.int .i64 (t : Int)) ∧ w.cell? ⟨g, 2, none⟩ = some (.int .u64 seed) ∧ (∀ j, w.frozen? ⟨g, j, none⟩ = false) ∧ t ≤ k ∧ 0 ≤ seed ∧ seed < 18446744073709551616 ∧ Code w g v
theorem Src.lt {w : World} {g k : Nat} (h : Src w g k) : g < w.heap.size := by
  obtain ⟨v, t, seed, h0, _⟩ := h
  exact World.block_lt_of_cell? w _ h0
theorem Src.on {w w' : World} {g k : Nat} (h : Src w g k) (ho : On w w') : Src w' g k := by
  have hg := h.lt
  obtain ⟨v, t, seed, h0, h1, h2, hf, ht, s0, s1, hc⟩ := h
  exact ⟨v, t, seed, (ho.cell (by exact hg)).trans h0, (ho.cell (by exact hg)).trans h1, (ho.cell (by exact hg)).trans h2, fun j => (ho.frozen (by exact hg)).trans (hf j), ht, s0, s1, hc.on ho⟩
theorem Src.more {w : World} {g k k' : Nat} (h : Src w g k) (hk : k ≤ k') : Src w g k' := by
  obtain ⟨v, t, seed, h0, h1, h2, hf, ht, r⟩ := h
  exact ⟨v, t, seed, h0, h1, h2, hf, by omega, r⟩
theorem Code.below {w w' : World} {B : Nat} {v : Value} (h : Code w B v) (ho : Below B w w') : Code w' B v := by
  obtain ⟨a, len, cap, hv, hl, hc⟩ := h
  refine ⟨a, len, cap, hv, hl, fun h0 => ?_⟩
  obtain ⟨b, off, ha, hb, hs, hcell⟩ := hc h0
  refine ⟨b, off, ha, hb, Nat.lt_of_lt_of_le hs ho.size, fun i hi => ?_⟩
  obtain ⟨x, x0, x1, hx⟩ := hcell i hi
  exact ⟨x, x0, x1, (ho.cell (by exact hb)).trans hx⟩
theorem drewN {B : Nat} (w : World) (n : Nat) : Below B w (w.drewN n) := ⟨rfl, rfl, rfl, Nat.le_refl _, fun _ _ => rfl⟩
/-- The world w' is w but for block g and new memory. -/
structure Only (g : Nat) (w w' : World) : Prop where
  os : w'.os = w.os
  tape : w'.tape = w.tape
  output : w'.output = w.output
  size : w.heap.size ≤ w'.heap.size
  block : ∀ b, b ≠ g → b < w.heap.size → w'.heap[b]? = w.heap[b]?
theorem Only.refl (g : Nat) (w : World) : Only g w w := ⟨rfl, rfl, rfl, Nat.le_refl _, fun _ _ _ => rfl⟩
theorem Only.trans {g : Nat} {a b c : World} (h : Only g a b) (k : Only g b c) : Only g a c :=
  ⟨k.os.trans h.os, k.tape.trans h.tape, k.output.trans h.output, Nat.le_trans h.size k.size, fun i hi hs => (k.block i hi (Nat.lt_of_lt_of_le hs h.size)).trans (h.block i hi hs)⟩
theorem Only.of_on {g : Nat} {w w' : World} (h : On w w') : Only g w w' := ⟨h.os, h.tape, h.output, h.size, fun b _ hs => h.block b hs⟩
theorem Only.below {g : Nat} {w w' : World} (h : Only g w w') (hg : g < w.heap.size) : Below g w w' := ⟨h.os, h.tape, h.output, h.size, fun b hb => h.block b (by omega) (by omega)⟩
theorem Only.on {W w w' : World} {g : Nat} (h : On W w) (k : Only g w w') (hg : W.heap.size ≤ g) (hl : g < w.heap.size) : On W w' := Below.trans h (Below.mono (k.below hl) hg)
theorem Only.cell {g : Nat} {w w' : World} (h : Only g w w') {b : Nat} (hb : b ≠ g) (hs : b < w.heap.size) (o : Nat) : w'.cell? ⟨b, o, none⟩ = w.cell? ⟨b, o, none⟩ := World.cell?_of_block (w := w) (h.block b hb hs)
theorem Only.frozen {g : Nat} {w w' : World} (h : Only g w w') {b : Nat} (hb : b ≠ g) (hs : b < w.heap.size) (o : Nat) : w'.frozen? ⟨b, o, none⟩ = w.frozen? ⟨b, o, none⟩ := World.frozen?_of_block (w := w) (h.block b hb hs)
/-- What a step of the source does. -/
theorem moved {w : World} {g k t n m : Nat} {v : Value} {s u : Int} (c0 : w.cell? ⟨g, 0, none⟩ = some v) (c1 : w.cell? ⟨g, 1, none⟩ = some (.int .i64 (t : Int))) (c2 : w.cell? ⟨g, 2, none⟩ = some (.int .u64 u)) (hf : ∀ j, w.frozen? ⟨g, j, none⟩ = false) (ht : t ≤ k) (hc : Code w g v) (s0 : 0 ≤ s) (s1 : s < 18446744073709551616) :
    Only g w ((((w.drewN n).setCell ⟨g, 1, none⟩ (.int .i64 ((t : Int) + 1))).setCell ⟨g, 2, none⟩ (.int .u64 s)).drewN m) ∧ Src ((((w.drewN n).setCell ⟨g, 1, none⟩ (.int .i64 ((t : Int) + 1))).setCell ⟨g, 2, none⟩ (.int .u64 s)).drewN m) g (k + 1) := by
  have hb : Below g w ((((w.drewN n).setCell ⟨g, 1, none⟩ (.int .i64 ((t : Int) + 1))).setCell ⟨g, 2, none⟩ (.int .u64 s)).drewN m) :=
    Below.trans (Below.setCell (p := ⟨g, 2, none⟩) (Below.setCell (p := ⟨g, 1, none⟩) (drewN w n) (Nat.le_refl g) _) (Nat.le_refl g) _) (drewN _ m)
  have ho : Only g w ((((w.drewN n).setCell ⟨g, 1, none⟩ (.int .i64 ((t : Int) + 1))).setCell ⟨g, 2, none⟩ (.int .u64 s)).drewN m) := by
    refine Only.trans (b := (((w.drewN n).setCell ⟨g, 1, none⟩ (.int .i64 ((t : Int) + 1))).setCell ⟨g, 2, none⟩ (.int .u64 s))) ⟨rfl, rfl, rfl, by simp [World.setCell], fun b hn _ => ?_⟩ ⟨rfl, rfl, rfl, Nat.le_refl _, fun _ _ _ => rfl⟩
    rw [Below.heap_setCell _ _ _ _ hn, Below.heap_setCell _ _ _ _ hn]
    rfl
  exact ⟨ho, ⟨v, t + 1, s, by simp [go_sem, c0], by simp [go_sem, c1], by simp [go_sem, c2], fun j => by simp [go_sem, hf], by omega, s0, s1, hc.below hb⟩⟩
theorem wrap_bd (z : Int) : 0 ≤ IntKind.u64.wrap z ∧ IntKind.u64.wrap z < 18446744073709551616 := by rw [IntKind.wrap_u64]; omega
theorem and255' (z : Int) (h0 : 0 ≤ z) (h1 : z < 18446744073709551616) : bits .and .u64 z 255 = z % 256 := by go_bits2
theorem low255 (z : Int) (h0 : 0 ≤ z) (h1 : z < 18446744073709551616) : 0 ≤ wrap64 (bits .and .u64 (z / 1099511627776) 255) ∧ wrap64 (bits .and .u64 (z / 1099511627776) 255) ≤ 255 := by
  rw [and255' (z / 1099511627776) (by omega) (by omega)]
  have : wrap64 (z / 1099511627776 % 256) = z / 1099511627776 % 256 := by unfold wrap64; omega
  rw [this]
  omega
theorem from_ (v : Value) (w : World) (hc : Code w w.heap.size v) :
    Calls Tryd.prog 12 #[v] w fun e w' => e = .returned (.pointer (some ⟨w.heap.size, 0, none⟩)) ∧ On w w' ∧ Src w' w.heap.size 0 := by
  have hc' := hc
  obtain ⟨a, len, cap, rfl, hl, -⟩ := hc
  have HC := Lib.hid hc'
  clear hc'
  go_enter Tryd.func12, Tryd.ntmps12
  go_wp2
  go_ret
  exact ⟨rfl, On.alloc (On.refl _) _, ⟨_, 0, 0, by simp [go_sem], by simp [go_sem], by simp [go_sem], fun j => by simp [go_sem], Nat.le_refl _, by decide, by decide, HC.out.on (On.alloc (On.refl _) _)⟩⟩
set_option maxHeartbeats 2000000 in
theorem next (g k : Nat) (w : World) (h : Src w g k) (hk : k ≤ 1000000000) :
    Calls Tryd.prog 42 #[.pointer (some ⟨g, 0, none⟩)] w fun e w' => ∃ v : Int, e = .returned (.int .i64 v) ∧ 0 ≤ v ∧ v ≤ 255 ∧ Only g w w' ∧ Src w' g (k + 1) := by
  have hg := h.lt
  obtain ⟨v, t, seed, c0, c1, c2, hf, ht, s0, s1, hc⟩ := h
  have HC := Lib.hid hc
  obtain ⟨a, len, cap, rfl, hl, hcell⟩ := hc
  have wt : IntKind.i64.wrap ((t : Int) + 1) = (t : Int) + 1 := IntWalk.i64_in _ (by omega)
  have HK := Lib.hid ht
  by_cases hlt : t < len
  · obtain ⟨b, off, rfl, hbg, hbs, hx⟩ := hcell (by omega)
    obtain ⟨x, x0, x1, hxc⟩ := hx t hlt
    have hlti : (t : Int) < (len : Int) := by omega
    have hle : (t : Int) + 1 ≤ (len : Int) := by omega
    have wx : IntKind.i64.wrap x = x := IntWalk.i64_in _ (by omega)
    clear hcell hx
    go_enter Tryd.func42, Tryd.ntmps42
    go_wp2_with fail
    go_quiet (fail)
    go_wp2_with fail
    go_quiet (fail)
    go_wp2_with fail
    go_quiet (fail)
    go_wp2_with fail
    go_ret
    exact ⟨x, rfl, x0, x1, moved c0 c1 c2 hf HK.out HC.out (wrap_bd _).1 (wrap_bd _).2⟩
  · have hlti : ¬ (t : Int) < (len : Int) := by omega
    have hle : ¬ (t : Int) + 1 ≤ (len : Int) := by omega
    clear hcell
    go_enter Tryd.func42, Tryd.ntmps42
    go_wp2_with fail
    go_quiet (fail)
    go_wp2_with fail
    go_quiet (fail)
    go_wp2_with fail
    go_ret
    exact ⟨_, rfl, (low255 _ (wrap_bd _).1 (wrap_bd _).2).1, (low255 _ (wrap_bd _).1 (wrap_bd _).2).2, moved c0 c1 c2 hf HK.out HC.out (wrap_bd _).1 (wrap_bd _).2⟩
theorem pick (g k : Nat) (n : Int) (w : World) (h : Src w g k) (hk : k ≤ 900000000) (n0 : 2 ≤ n) (n1 : n ≤ 1000000000) :
    Calls Tryd.prog 28 #[.pointer (some ⟨g, 0, none⟩), .int .i64 n] w fun e w' => ∃ v : Int, e = .returned (.int .i64 v) ∧ 0 ≤ v ∧ v < n ∧ Only g w w' ∧ Src w' g (k + 2) := by
  have HS := Lib.hid h
  clear h
  by_cases hn : 200 < n
  · go_enter Tryd.func28, Tryd.ntmps28
    go_wp2_with fail
    refine (next g k _ HS.out (by omega)).mono ?_
    rintro e w1 ⟨x, rfl, x0, x1, o1, s1⟩
    have O1 := Lib.hid o1
    have S1 := Lib.hid s1
    clear o1 s1
    go_wp2_with fail
    refine (next g (k + 1) _ S1.out (by omega)).mono ?_
    rintro e w2 ⟨y, rfl, y0, y1, o2, s2⟩
    have O2 := Lib.hid o2
    have S2 := Lib.hid s2
    clear o2 s2
    go_wp2_with fail
    go_ret
    exact ⟨_, rfl, Int.emod_nonneg _ (by omega), Int.emod_lt_of_pos _ (by omega), O1.out.trans O2.out, S2.out⟩
  · go_enter Tryd.func28, Tryd.ntmps28
    go_wp2_with fail
    refine (next g k _ HS.out (by omega)).mono ?_
    rintro e w1 ⟨x, rfl, x0, x1, o1, s1⟩
    have O1 := Lib.hid o1
    have S1 := Lib.hid s1
    clear o1 s1
    go_wp2_with fail
    go_ret
    exact ⟨_, rfl, Int.emod_nonneg _ (by omega), Int.emod_lt_of_pos _ (by omega), O1.out, S1.out.more (by omega)⟩
theorem one (g k : Nat) (n : Int) (w : World) (h : Src w g k) (hk : k ≤ 900000000) (n0 : 2 ≤ n) (n1 : n ≤ 1000000000) :
    Calls Tryd.prog 18 #[.pointer (some ⟨g, 0, none⟩), .int .i64 n] w fun e w' => ∃ b : Bool, e = .returned (.bool b) ∧ Only g w w' ∧ Src w' g (k + 2) := by
  have HS := Lib.hid h
  clear h
  go_enter Tryd.func18, Tryd.ntmps18
  go_wp2_with fail
  refine (pick g k n _ HS.out hk n0 n1).mono ?_
  rintro e w1 ⟨x, rfl, x0, x1, o1, s1⟩
  have O1 := Lib.hid o1
  have S1 := Lib.hid s1
  clear o1 s1
  go_wp2_with fail
  go_ret
  exact ⟨_, rfl, O1.out, S1.out⟩
theorem getD_mem {l : List Int} {i : Nat} (h : i < l.length) : l.getD i 0 ∈ l := by
  rw [List.getD_eq_getElem?_getD, List.getElem?_eq_getElem h]
  exact List.getElem_mem h
theorem among (g k b cap : Nat) (zs : List Int) (w : World) (h : Src w g k) (hk : k ≤ 900000000) (n0 : 2 ≤ zs.length) (n1 : zs.length ≤ 1000) (hb : b ≠ g) (hl : b < w.heap.size) (hc : ∀ i, i < zs.length → w.cell? ⟨b, i, none⟩ = some (.int .i64 (zs.getD i 0))) :
    Calls Tryd.prog 29 #[.pointer (some ⟨g, 0, none⟩), .slice (some ⟨b, 0, none⟩) zs.length cap] w fun e w' => ∃ z : Int, e = .returned (.int .i64 z) ∧ z ∈ zs ∧ Only g w w' ∧ Src w' g (k + 2) := by
  have HS := Lib.hid h
  have HC := Lib.hid hc
  have HM := Lib.hid (fun i (hi : i < zs.length) => getD_mem hi)
  obtain ⟨n, hn⟩ : ∃ n, n = zs.length := ⟨_, rfl⟩
  rw [← hn] at HC HM n0 n1 ⊢
  clear h hc hn
  go_enter Tryd.func29, Tryd.ntmps29
  go_wp2_with fail
  with_reducible refine (pick g k (n : Int) _ HS.out hk (by omega) (by omega)).mono ?_
  rintro e w1 ⟨x, rfl, x0, x1, o1, s1⟩
  have O1 := Lib.hid o1
  have S1 := Lib.hid s1
  obtain ⟨i, rfl⟩ := Int.eq_ofNat_of_zero_le x0
  have hi : i < n := by omega
  obtain ⟨z, hz⟩ : ∃ z, z = zs.getD i 0 := ⟨_, rfl⟩
  have c1 : w1.cell? ⟨b, i, none⟩ = some (.int .i64 z) := by rw [o1.cell hb hl, hz]; exact HC.out i hi
  have hm : z ∈ zs := by rw [hz]; exact HM.out i hi
  have HZ := Lib.hid hm
  clear o1 s1 hz hm
  go_wp2_with fail
  go_ret
  exact ⟨_, rfl, HZ.out, O1.out, S1.out⟩
end Go.Proofs.YtednfkjdidlenaaDoor.Src
