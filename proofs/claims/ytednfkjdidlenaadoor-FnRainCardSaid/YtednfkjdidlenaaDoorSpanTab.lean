
/-
  What a row's list of variables gives: the program's spans. No condition but the list itself.
-/
import Derived.Test.YtednfkjdidlenaaDoorRows
import Derived.Test.YtednfkjdidlenaaDoorSpan
import Derived.Lib.LaidTab
import Derived.ProofKit
import Derived.OpenShut
import Derived.Below
import Derived.Stop.LaidErr
import Derived.Lib.SmallJoins
namespace Go.Proofs.YtednfkjdidlenaaDoor.SpanTab
open Go.ChangeShapes Go.WideShapes Go.RowKit Go.Deep Go.WideElems Go.Maps
open Plain
variable {H : Type} {enc : TypeId × Value → H} {P : Program} {w : World} {base : Nat} {spare : Nat → Bool} {held : Bool}

theorem trod_struct2 {t : TypeId} {f0 f1 : Field} {fuel : Nat} {cs : List Value} {x : DataW H × List MemPlace} (ht : P.underlying t = some (.struct #[f0, f1])) (h : DataW.trod enc P w base spare held fuel t cs = some x) :
    ∃ y0 y1 n, x = (.agg [y0.1, y1.1], y0.2 ++ y1.2) ∧ DataW.trod enc P w base spare held n f0.type ((cs.drop f0.offset).take (P.cellsOf f0.type)) = some y0 ∧
      DataW.trod enc P w base spare held n f1.type ((cs.drop f1.offset).take (P.cellsOf f1.type)) = some y1 := by
  obtain ⟨xs, n, _, rfl, hl, hlen, hf⟩ := DataW.trod_struct ht h
  match xs, hlen with
  | [y0, y1], _ => exact ⟨y0, y1, n, by simp, by simpa using hf 0 f0 rfl, by simpa using hf 1 f1 rfl⟩
/-- An array of pairs of integers, as a row lists it. -/
def pairData (zs : List (Int × Int)) : DataW H := .agg (zs.map fun z => .agg [.lit (.int .i64 z.1), .lit (.int .i64 z.2)])
theorem cell_of_pairs {fuel : Nat} {t e ti : TypeId} {n : Nat} {cs : List Value} {zs : List (Int × Int)} {p : List MemPlace} {f0 f1 : Field}
    (ht : P.underlying t = some (.array n e)) (he : P.underlying e = some (.struct #[f0, f1])) (h0 : f0.type = ti) (h1 : f1.type = ti) (o0 : f0.offset = 0) (o1 : f1.offset = 1) (hi : P.underlying ti = some (.int .i64)) (ci : P.cellsOf ti = 1) (ce : P.cellsOf e = 2)
    (h : DataW.trod enc P w base spare held fuel t cs = some (pairData zs, p)) (i : Nat) (z : Int × Int) (hz : zs[i]? = some z) : cs[2 * i]? = some (.int .i64 z.1) ∧ cs[2 * i + 1]? = some (.int .i64 z.2) := by
  cases fuel with
  | zero => simp [DataW.trod] at h
  | succ fuel =>
    simp only [DataW.trod, ht, ce] at h
    split at h
    · obtain ⟨xs, hm, hx⟩ := Option.map_eq_some_iff.1 h
      have hxs : xs.map (·.1) = zs.map fun z => (DataW.agg [.lit (.int .i64 z.1), .lit (.int .i64 z.2)] : DataW H) := by
        have := congrArg Prod.fst hx
        simpa [pairData] using this
      have hxl : xs.length = n := by simpa using Lib.mapM_length hm
      have hzl : zs.length = n := by
        have := congrArg List.length hxs
        simp at this
        omega
      have hin : i < n := by
        have := (List.getElem?_eq_some_iff.1 hz).1
        omega
      obtain ⟨b, hb, hf⟩ := Lib.mapM_at hm i i (by simp [hin])
      obtain ⟨y0, y1, m, rfl, k0, k1⟩ := trod_struct2 he hf
      rw [h0, o0, ci] at k0
      rw [h1, o1, ci] at k1
      obtain ⟨z0, c0, rfl, _⟩ := DataW.trod_int hi k0
      obtain ⟨z1, c1, rfl, _⟩ := DataW.trod_int hi k1
      have h2 : (xs.map (·.1))[i]? = some (DataW.agg [.lit (.int .i64 z0), .lit (.int .i64 z1)] : DataW H) := by simp [hb]
      rw [hxs, List.getElem?_map, hz] at h2
      simp only [Option.map_some, Option.some.injEq, DataW.agg.injEq, List.cons.injEq, DataW.lit.injEq, Lit.int.injEq, true_and, and_true] at h2
      obtain ⟨rfl, rfl⟩ := h2
      have e0 := congrArg (·[0]?) c0
      have e1 := congrArg (·[0]?) c1
      simp [List.getElem?_drop] at e0 e1
      exact ⟨by rw [Nat.mul_comm]; exact e0, by rw [Nat.mul_comm]; exact e1⟩
    · cases h
theorem pairs_of_mem {W : World} {name : String} {zs : List (Int × Int)} {g n : Nat} {t e ti : TypeId} {f0 f1 : Field}
    (hg : P.globalNamed name = some g) (hty : (P.globals[g]?).map (·.type) = some t) (ht : P.underlying t = some (.array n e)) (he : P.underlying e = some (.struct #[f0, f1])) (h0 : f0.type = ti) (h1 : f1.type = ti) (o0 : f0.offset = 0) (o1 : f1.offset = 1) (hi : P.underlying ti = some (.int .i64)) (ci : P.cellsOf ti = 1) (ce : P.cellsOf e = 2) :
    ∀ {l : List (String × DataW Unit)}, laidMet P l W → (name, pairData zs) ∈ l → ∀ i z, zs[i]? = some z → W.cell? ⟨g, 2 * i, none⟩ = some (.int .i64 z.1) ∧ W.cell? ⟨g, 2 * i + 1, none⟩ = some (.int .i64 z.2)
  | [], _, hm => by cases hm
  | x :: r, h, hm => by
    rcases List.mem_cons.1 hm with rfl | hm'
    · intro i z hz
      obtain ⟨ps, ⟨g', t', cs, fuel, p, q, hg', ht', hvar, hd, _, _⟩, _⟩ := h
      obtain rfl := Option.some.inj (hg.symm.trans hg')
      obtain rfl := Option.some.inj (hty.symm.trans ht')
      obtain ⟨c0, c1⟩ := cell_of_pairs ht he h0 h1 o0 o1 hi ci ce hd i z hz
      have v0 := World.var?_cell hg hvar (2 * i)
      have v1 := World.var?_cell hg hvar (2 * i + 1)
      exact ⟨by rw [v0]; simpa using c0, by rw [v1]; simpa using c1⟩
    · exact pairs_of_mem hg hty ht he h0 h1 o0 o1 hi ci ce h.tail hm'
theorem gQ : Tryd.prog.globalNamed "loop.example/g00925/impl.quantitySpans" = some 1 := by kernel_rfl
theorem tQ : (Tryd.prog.globals[1]?).map (·.type) = some 63 := by kernel_rfl
theorem cQ : Tryd.prog.cellsOf 62 = 2 := by kernel_rfl
theorem cI : Tryd.prog.cellsOf 2 = 1 := by kernel_rfl
def pairs : List (Int × Int) := [(1, 100000000), (1, 283000), (-300000, 300000), (-300000, 300000), (0, 300000), (1, 100000), (0, 7), (0, 90000), (0, 200), (0, 1000), (1, 10000), (1, 20), (0, 1000000), (25, 400), (0, 100000)]
theorem eQ : (Rows.laid_loop_example_g00925_impl_quantitySpans : DataW Unit) = pairData pairs := by kernel_rfl
theorem spanG {W : World} {l : List (String × DataW Unit)} (h : laidMet Tryd.prog l W) (hm : ("loop.example/g00925/impl.quantitySpans", Rows.laid_loop_example_g00925_impl_quantitySpans) ∈ l) : Span.SpanG W := by
  have hp := pairs_of_mem gQ tQ Tryd.underlying63 Tryd.underlying62 rfl rfl rfl rfl Tryd.underlying2 cI cQ h (eQ ▸ hm)
  intro j hj
  match j, hj with
  | 0, _ => exact (hp 0 _ rfl).1
  | 1, _ => exact (hp 0 _ rfl).2
  | 2, _ => exact (hp 1 _ rfl).1
  | 3, _ => exact (hp 1 _ rfl).2
  | 4, _ => exact (hp 2 _ rfl).1
  | 5, _ => exact (hp 2 _ rfl).2
  | 6, _ => exact (hp 3 _ rfl).1
  | 7, _ => exact (hp 3 _ rfl).2
  | 8, _ => exact (hp 4 _ rfl).1
  | 9, _ => exact (hp 4 _ rfl).2
  | 10, _ => exact (hp 5 _ rfl).1
  | 11, _ => exact (hp 5 _ rfl).2
  | 12, _ => exact (hp 6 _ rfl).1
  | 13, _ => exact (hp 6 _ rfl).2
  | 14, _ => exact (hp 7 _ rfl).1
  | 15, _ => exact (hp 7 _ rfl).2
  | 16, _ => exact (hp 8 _ rfl).1
  | 17, _ => exact (hp 8 _ rfl).2
  | 18, _ => exact (hp 9 _ rfl).1
  | 19, _ => exact (hp 9 _ rfl).2
  | 20, _ => exact (hp 10 _ rfl).1
  | 21, _ => exact (hp 10 _ rfl).2
  | 22, _ => exact (hp 11 _ rfl).1
  | 23, _ => exact (hp 11 _ rfl).2
  | 24, _ => exact (hp 12 _ rfl).1
  | 25, _ => exact (hp 12 _ rfl).2
  | 26, _ => exact (hp 13 _ rfl).1
  | 27, _ => exact (hp 13 _ rfl).2
  | 28, _ => exact (hp 14 _ rfl).1
  | 29, _ => exact (hp 14 _ rfl).2
  | j + 30, h => exact absurd h (by omega)
end Go.Proofs.YtednfkjdidlenaaDoor.SpanTab
