
/-
  Lists of bands (a slice of structs of a text and four numbers): opened where one comes in; what the laws' copy, comparison and count of them return. Condition: at most 1048576 of them.
-/
import Derived.Test.YtbmhhhhodlfcbaaDoorBnd0
import Derived.Deep.Slices
import Derived.ChangeSame
import Derived.Lib.SmallJoins
import Derived.OpenShut
import Derived.Deep.OwnRows
namespace Go.Proofs.YtbmhhhhodlfcbaaDoor.Five
open Go.ChangeShapes Go.WideShapes Go.Deep Go.RowKit
theorem open_five {H : Type} {enc : TypeId × Value → H} {P : Program} {w : World} {base : Nat} {held : Bool} {t e : TypeId} {f0 f1 f2 f3 f4 : Field} {fuel : Nat} {cs : List Value} {x : DataW H × List MemPlace} (ht : P.underlying t = some (.slice e)) (he : P.underlying e = some (.struct #[f0, f1, f2, f3, f4]))
    (ce : P.cellsOf e = 5) (hoff : (f0.offset, f1.offset, f2.offset, f3.offset, f4.offset, P.cellsOf f0.type, P.cellsOf f1.type, P.cellsOf f2.type, P.cellsOf f3.type, P.cellsOf f4.type) = (0, 1, 2, 3, 4, 1, 1, 1, 1, 1))
    (h : DataW.trod enc P w base (fun _ => true) held fuel t cs = some x) :
    cs = [.slice none 0 0] ∨ ∃ (a : Addr) (len cap : Nat), cs = [.slice (some a) len cap] ∧ len ≤ cap ∧ cap ≤ maxLen ∧ ∀ i, i < cap → ∃ (v0 v1 v2 v3 v4 : Value) (y0 y1 y2 y3 y4 : DataW H × List MemPlace) (n : Nat),
      w.cell? (a.add (i * 5 + 0)) = some v0 ∧ w.cell? (a.add (i * 5 + 1)) = some v1 ∧ w.cell? (a.add (i * 5 + 2)) = some v2 ∧ w.cell? (a.add (i * 5 + 3)) = some v3 ∧ w.cell? (a.add (i * 5 + 4)) = some v4 ∧
      DataW.trod enc P w base (fun _ => true) held n f0.type [v0] = some y0 ∧ DataW.trod enc P w base (fun _ => true) held n f1.type [v1] = some y1 ∧ DataW.trod enc P w base (fun _ => true) held n f2.type [v2] = some y2 ∧ DataW.trod enc P w base (fun _ => true) held n f3.type [v3] = some y3 ∧ DataW.trod enc P w base (fun _ => true) held n f4.type [v4] = some y4 := by
  simp only [Prod.mk.injEq] at hoff
  obtain ⟨o0, o1, o2, o3, o4, c0, c1, c2, c3, c4⟩ := hoff
  rcases open_slice ht h with ⟨h0, _⟩ | ⟨a, len, cap, m, n, D, Pl, rfl, hb, hl, hm, hmm, rfl, hx⟩
  · exact .inl h0
  · have hmc : m = cap := by simpa using hmm
    subst hmc
    refine .inr ⟨a, len, m, rfl, hl, hm, fun i hi => ?_⟩
    obtain ⟨cs', h1, h2⟩ := hx i hi
    rw [ce] at h1
    obtain ⟨_, hlen, hcell⟩ := World.cells?_some h1
    obtain ⟨xs, k, hk, hxy, _, hxl, hf⟩ := DataW.trod_struct he h2
    match xs, hxl, cs', hlen with
    | [y0, y1, y2, y3, y4], _, [v0, v1, v2, v3, v4], _ =>
      have g0 := hf 0 f0 rfl
      have g1 := hf 1 f1 rfl
      have g2 := hf 2 f2 rfl
      have g3 := hf 3 f3 rfl
      have g4 := hf 4 f4 rfl
      simp [o0, o1, o2, o3, o4, c0, c1, c2, c3, c4] at g0 g1 g2 g3 g4
      have e0 := hcell 0 (by omega)
      have e1 := hcell 1 (by omega)
      have e2 := hcell 2 (by omega)
      have e3 := hcell 3 (by omega)
      have e4 := hcell 4 (by omega)
      rw [add_add] at e0 e1 e2 e3 e4
      exact ⟨v0, v1, v2, v3, v4, y0, y1, y2, y3, y4, k, by simpa using e0, by simpa using e1, by simpa using e2, by simpa using e3, by simpa using e4, g0, g1, g2, g3, g4⟩
end Go.Proofs.YtbmhhhhodlfcbaaDoor.Five
namespace Go.Proofs.YtbmhhhhodlfcbaaDoor.Bnds
open Go.RowKit

abbrev B5 := ByteArray × Int × Int × Int × Int
def d5 : B5 := (⟨#[]⟩, 0, 0, 0, 0)
def cellOf (z : B5) : Nat → Value
  | 0 => .string z.1
  | 1 => .int .i64 z.2.1
  | 2 => .int .i64 z.2.2.1
  | 3 => .int .i64 z.2.2.2.1
  | _ => .int .i64 z.2.2.2.2
/-- The value v is a slice that reads as the bands zs in the world w. -/
def Rows (w : World) (v : Value) (zs : List B5) : Prop :=
  ∃ a cap, v = .slice a zs.length cap ∧ (0 < zs.length → ∃ b off, a = some ⟨b, off, none⟩ ∧ b < w.heap.size ∧ ∀ k, k < zs.length → ∀ q, q < 5 → w.cell? ⟨b, off + k * 5 + q, none⟩ = some (cellOf (zs.getD k d5) q))
theorem Rows.below {w w' : World} {v : Value} {zs : List B5} (h : Rows w v zs) (hb : On w w') : Rows w' v zs := by
  obtain ⟨a, cap, hv, hc⟩ := h
  refine ⟨a, cap, hv, fun h0 => ?_⟩
  obtain ⟨b, off, ha, hlt, hcell⟩ := hc h0
  exact ⟨b, off, ha, hb.lts _ hlt, fun k hk q hq => (hb.cell (by exact hlt)).trans (hcell k hk q hq)⟩
theorem Rows.empty (w : World) (a : Option Addr) (cap : Nat) : Rows w (.slice a 0 cap) [] := ⟨a, cap, rfl, fun h => by simp at h⟩
/-- A slice of bands that came in, as the shell opens it. -/
def IsRows (w : World) (a : Option Addr) (len cap : Nat) (zs : List B5) : Prop :=
  (a = none ∧ len = 0 ∧ cap = 0 ∧ zs = []) ∨ ∃ x, a = some x ∧ len ≤ cap ∧ cap ≤ maxLen ∧ zs.length = cap ∧ ∀ i, i < zs.length → (∀ q, q < 5 → w.cell? (x.add (i * 5 + q)) = some (cellOf (zs.getD i d5) q)) ∧ (zs.getD i d5).1.size ≤ maxLen
theorem Rows.of_arg {w : World} {a : Option Addr} {len cap : Nat} {zs : List B5} (h : IsRows w a len cap zs) : Rows w (.slice a len cap) (zs.take len) ∧ (zs.take len).length = len ∧ len ≤ maxLen ∧ ∀ z ∈ zs.take len, z.1.size ≤ maxLen := by
  rcases h with ⟨rfl, rfl, rfl, rfl⟩ | ⟨x, rfl, hl, hm, hz, hcell⟩
  · exact ⟨⟨none, 0, rfl, fun h => by simp at h⟩, rfl, Nat.zero_le _, fun z hz => by simp at hz⟩
  · have e : (zs.take len).length = len := by rw [List.length_take]; omega
    refine ⟨⟨some x, cap, by rw [e], fun h0 => ?_⟩, e, Nat.le_trans hl hm, fun z hz2 => ?_⟩
    · rw [e] at h0
      obtain ⟨b, off, spot⟩ := x
      have hc := (hcell 0 (by omega)).1 0 (by omega)
      have hspot : spot = none := by simpa [Addr.add] using World.cell?_spot hc
      subst hspot
      have ea : ∀ i, (⟨b, off, none⟩ : Addr).add i = ⟨b, off + i, none⟩ := fun i => by cases i <;> simp [Addr.add]
      refine ⟨b, off, rfl, ?_, fun k hk q hq => ?_⟩
      · rw [ea] at hc
        exact World.block_lt_of_cell? w _ hc
      · rw [e] at hk
        have hk2 := (hcell k (by omega)).1 q hq
        rw [ea] at hk2
        rw [Nat.add_assoc, hk2]
        congr 2
        simp [hk]
    · obtain ⟨i, hi, rfl⟩ := List.getElem_of_mem hz2
      rw [e] at hi
      have := (hcell i (by omega)).2
      simpa [List.getD_eq_getElem?_getD, show i < zs.length by omega] using this
theorem slice_of {w : World} {a : Option Addr} {cap : Nat} {zs : List B5} (h : Rows w (.slice a zs.length cap) zs) (h0 : 0 < zs.length) : ∃ b off, a = some ⟨b, off, none⟩ ∧ b < w.heap.size ∧ ∀ k, k < zs.length → ∀ q, q < 5 → w.cell? ⟨b, off + k * 5 + q, none⟩ = some (cellOf (zs.getD k d5) q) := by
  obtain ⟨a', cap', he, hc⟩ := h
  injection he with h1 h2 h3
  subst h1
  exact hc h0
/-- A slice of bands that came in, opened. -/
theorem open_rows {H : Type} {enc : TypeId × Value → H} {w : World} {base fuel : Nat} {c : Value} {x : DataW H × List MemPlace} (h : DataW.trod enc Tryd.prog w base (fun _ => true) true fuel 57 [c] = some x) :
    ∃ a len cap zs, c = .slice a len cap ∧ IsRows w a len cap zs := by
  rcases Five.open_five Tryd.underlying57 Tryd.underlying23 (by kernel_rfl) (by kernel_rfl) h with hcs | ⟨a, len, cap, hcs, hl, hm, hx⟩
  · exact ⟨none, 0, 0, [], by simpa using hcs, .inl ⟨rfl, rfl, rfl, rfl⟩⟩
  · have hp : ∀ i, ∃ z : B5, i < cap → (∀ q, q < 5 → w.cell? (a.add (i * 5 + q)) = some (cellOf z q)) ∧ z.1.size ≤ maxLen := fun i => by
      by_cases hi : i < cap
      · obtain ⟨v0, v1, v2, v3, v4, y0, y1, y2, y3, y4, n, e0, e1, e2, e3, e4, g0, g1, g2, g3, g4⟩ := hx i hi
        obtain ⟨s, gs, -, ws⟩ := DataW.trod_string Tryd.underlying9 g0
        obtain ⟨u1, gu1, -, -⟩ := DataW.trod_int Tryd.underlying2 g1
        obtain ⟨u2, gu2, -, -⟩ := DataW.trod_int Tryd.underlying2 g2
        obtain ⟨u3, gu3, -, -⟩ := DataW.trod_int Tryd.underlying2 g3
        obtain ⟨u4, gu4, -, -⟩ := DataW.trod_int Tryd.underlying2 g4
        obtain rfl : v0 = .string s := by simpa using gs
        obtain rfl : v1 = .int .i64 u1 := by simpa using gu1
        obtain rfl : v2 = .int .i64 u2 := by simpa using gu2
        obtain rfl : v3 = .int .i64 u3 := by simpa using gu3
        obtain rfl : v4 = .int .i64 u4 := by simpa using gu4
        refine ⟨(s, u1, u2, u3, u4), fun _ => ⟨fun q hq => ?_, ws⟩⟩
        rcases (show q = 0 ∨ q = 1 ∨ q = 2 ∨ q = 3 ∨ q = 4 by omega) with rfl | rfl | rfl | rfl | rfl
        · exact e0
        · exact e1
        · exact e2
        · exact e3
        · exact e4
      · exact ⟨d5, fun h => absurd h hi⟩
    refine ⟨some a, len, cap, (List.range cap).map fun i => Classical.choose (hp i), by simpa using hcs, .inr ⟨a, rfl, hl, hm, by simp, fun i hi => ?_⟩⟩
    have hi' : i < cap := by simpa using hi
    have := Classical.choose_spec (hp i) hi'
    simpa [hi'] using this
end Go.Proofs.YtbmhhhhodlfcbaaDoor.Bnds

