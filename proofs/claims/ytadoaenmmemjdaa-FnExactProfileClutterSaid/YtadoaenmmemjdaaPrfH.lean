
/-
  What stays of the cells of a terrain and two points in new memory. No program in it.
-/
import Derived.Test.YtadoaenmmemjdaaTRecCopy
import Derived.Test.YtadoaenmmemjdaaOn
namespace Go.Proofs.Ytadoaenmmemjdaa.Prf
theorem held_tp {W w' : World} {g b c : Nat} {x0 x1 x2 : Int} {v3 v4 y0 y1 u0 u1 : Value} (h : TRec.In W g x0 x1 x2 v3 v4) (hp : W.cell? ⟨b, 0, none⟩ = some y0 ∧ W.cell? ⟨b, 1, none⟩ = some y1 ∧ W.cell? ⟨c, 0, none⟩ = some u0 ∧ W.cell? ⟨c, 1, none⟩ = some u1) (hk : On W w') :
    On W w' ∧ w'.cell? ⟨g, 0, none⟩ = some (.int .i64 x0) ∧ w'.cell? ⟨g, 1, none⟩ = some (.int .i64 x1) ∧ w'.cell? ⟨g, 2, none⟩ = some (.int .i64 x2) ∧ w'.cell? ⟨g, 3, none⟩ = some v3 ∧ w'.cell? ⟨g, 4, none⟩ = some v4 ∧ w'.cell? ⟨b, 0, none⟩ = some y0 ∧ w'.cell? ⟨b, 1, none⟩ = some y1 ∧ w'.cell? ⟨c, 0, none⟩ = some u0 ∧ w'.cell? ⟨c, 1, none⟩ = some u1 := by
  obtain ⟨h0, h1, h2, h3, h4⟩ := h.on hk
  obtain ⟨p0, p1, p2, p3⟩ := hp
  have hb := World.block_lt_of_cell? W _ p0
  have hc := World.block_lt_of_cell? W _ p2
  exact ⟨hk, h0, h1, h2, h3, h4, (hk.cell (by exact hb)).trans p0, (hk.cell (by exact hb)).trans p1, (hk.cell (by exact hc)).trans p2, (hk.cell (by exact hc)).trans p3⟩
theorem held_tt {W w' : World} {g b : Nat} {x0 x1 x2 y0 y1 y2 : Int} {v3 v4 u3 u4 : Value} (h : TRec.In W g x0 x1 x2 v3 v4) (hp : TRec.In W b y0 y1 y2 u3 u4) (hk : On W w') :
    On W w' ∧ w'.cell? ⟨g, 0, none⟩ = some (.int .i64 x0) ∧ w'.cell? ⟨g, 1, none⟩ = some (.int .i64 x1) ∧ w'.cell? ⟨g, 2, none⟩ = some (.int .i64 x2) ∧ w'.cell? ⟨g, 3, none⟩ = some v3 ∧ w'.cell? ⟨g, 4, none⟩ = some v4 ∧ w'.cell? ⟨b, 0, none⟩ = some (.int .i64 y0) ∧ w'.cell? ⟨b, 1, none⟩ = some (.int .i64 y1) ∧ w'.cell? ⟨b, 2, none⟩ = some (.int .i64 y2) ∧ w'.cell? ⟨b, 3, none⟩ = some u3 ∧ w'.cell? ⟨b, 4, none⟩ = some u4 := by
  obtain ⟨h0, h1, h2, h3, h4⟩ := h.on hk
  obtain ⟨p0, p1, p2, p3, p4⟩ := hp.on hk
  exact ⟨hk, h0, h1, h2, h3, h4, p0, p1, p2, p3, p4⟩
theorem pts_on {W w' : World} {b c : Nat} {y0 y1 u0 u1 : Value} (hp : W.cell? ⟨b, 0, none⟩ = some y0 ∧ W.cell? ⟨b, 1, none⟩ = some y1 ∧ W.cell? ⟨c, 0, none⟩ = some u0 ∧ W.cell? ⟨c, 1, none⟩ = some u1) (hk : On W w') : w'.cell? ⟨b, 0, none⟩ = some y0 ∧ w'.cell? ⟨b, 1, none⟩ = some y1 ∧ w'.cell? ⟨c, 0, none⟩ = some u0 ∧ w'.cell? ⟨c, 1, none⟩ = some u1 := by
  obtain ⟨p0, p1, p2, p3⟩ := hp
  have hb := World.block_lt_of_cell? W _ p0
  have hc := World.block_lt_of_cell? W _ p2
  exact ⟨(hk.cell (by exact hb)).trans p0, (hk.cell (by exact hb)).trans p1, (hk.cell (by exact hc)).trans p2, (hk.cell (by exact hc)).trans p3⟩
end Go.Proofs.Ytadoaenmmemjdaa.Prf
