
/-
  An end of a path (a struct of a struct of two numbers and of a number) that comes in by value, opened. No condition but the closed ones on its type.
-/
import Derived.Test.YtadoaenmmemjdaaDoorProg
import Derived.Lib.SmallJoins
namespace Go.Proofs.YtadoaenmmemjdaaDoor.EndIn
open Go.ChangeShapes Go.WideShapes Go.RowKit Go.Deep Go.WideElems Go.Maps
variable {H : Type} {enc : TypeId × Value → H} {P : Program} {w : World} {base : Nat} {spare : Nat → Bool} {held : Bool}

theorem array3 {α : Type} {cs : Array α} (h : cs.size = 3) : ∃ c0 c1 c2, cs = #[c0, c1, c2] := by
  obtain ⟨l⟩ := cs
  match l, h with
  | [c0, c1, c2], _ => exact ⟨c0, c1, c2, rfl⟩
theorem two_fields {t : TypeId} {f0 f1 : Field} {fuel : Nat} {cs : List Value} {x : DataW H × List MemPlace} (ht : P.underlying t = some (.struct #[f0, f1])) (h : DataW.trod enc P w base spare held fuel t cs = some x) :
    ∃ y0 y1 n, DataW.trod enc P w base spare held n f0.type ((cs.drop f0.offset).take (P.cellsOf f0.type)) = some y0 ∧
      DataW.trod enc P w base spare held n f1.type ((cs.drop f1.offset).take (P.cellsOf f1.type)) = some y1 := by
  obtain ⟨xs, n, _, rfl, hl, hlen, hf⟩ := DataW.trod_struct ht h
  match xs, hlen with
  | [y0, y1], _ => exact ⟨y0, y1, n, by simpa using hf 0 f0 rfl, by simpa using hf 1 f1 rfl⟩
theorem open_end {r : Reach} {b0 : Nat} {t : TypeId} {f0 f1 g0 g1 : Field} {v : Value} {d : DataW H} {p : List MemPlace} (hs : P.underlying t = some (.struct #[f0, f1])) (hg : P.underlying f0.type = some (.struct #[g0, g1])) (hC : P.cellsOf t = 3)
    (ho : (f0.offset, P.cellsOf f0.type, f1.offset, P.cellsOf f1.type) = (0, 2, 2, 1)) (hi : (g0.offset, P.cellsOf g0.type, g1.offset, P.cellsOf g1.type) = (0, 1, 1, 1))
    (hv : Value.okWide P w r b0 t v) (h : DataW.Trod enc P w base spare held t v d p) :
    ∃ (v0 v1 v2 : Value) (y0 y1 y2 : DataW H × List MemPlace) (n m : Nat), v = .agg #[v0, v1, v2] ∧
      DataW.trod enc P w base spare held m g0.type [v0] = some y0 ∧ DataW.trod enc P w base spare held m g1.type [v1] = some y1 ∧ DataW.trod enc P w base spare held n f1.type [v2] = some y2 := by
  obtain ⟨cs, rfl, hsz⟩ := okWide_struct hs hv
  obtain ⟨c0, c1, c2, rfl⟩ := array3 (hsz.trans hC)
  obtain ⟨fuel, hf⟩ := h
  obtain ⟨y0, y1, n, h0, h1⟩ := two_fields hs hf
  simp only [Prod.mk.injEq] at ho hi
  obtain ⟨o1, o2, o3, o4⟩ := ho
  obtain ⟨i1, i2, i3, i4⟩ := hi
  have h0' : DataW.trod enc P w base spare held n f0.type [c0, c1] = some y0 := by simpa [Value.cells, o1, o2] using h0
  obtain ⟨z0, z1, m, g0', g1'⟩ := two_fields hg h0'
  exact ⟨c0, c1, c2, z0, z1, y1, n, m, rfl, by simpa [i1, i2] using g0', by simpa [i3, i4] using g1', by simpa [Value.cells, o3, o4] using h1⟩
end Go.Proofs.YtadoaenmmemjdaaDoor.EndIn
