
/-
  What a row's list of variables gives: the program's surroundings. No condition but the list itself.
-/
import Derived.Test.YtednfkjdidlenaaDoorSpanTab
import Derived.Test.YtednfkjdidlenaaDoorSurr
namespace Go.Proofs.YtednfkjdidlenaaDoor.SurrTab
open Go.ChangeShapes Go.WideShapes Go.RowKit Go.Deep Go.WideElems Go.Maps
open Plain
open Surr (SurrG names nameV)
variable {H : Type} {enc : TypeId × Value → H} {P : Program} {w : World} {base : Nat} {spare : Nat → Bool} {held : Bool}

theorem trod_struct3 {t : TypeId} {f0 f1 f2 : Field} {fuel : Nat} {cs : List Value} {x : DataW H × List MemPlace} (ht : P.underlying t = some (.struct #[f0, f1, f2])) (h : DataW.trod enc P w base spare held fuel t cs = some x) :
    ∃ y0 y1 y2 n, x = (.agg [y0.1, y1.1, y2.1], y0.2 ++ (y1.2 ++ y2.2)) ∧ DataW.trod enc P w base spare held n f0.type ((cs.drop f0.offset).take (P.cellsOf f0.type)) = some y0 ∧
      DataW.trod enc P w base spare held n f1.type ((cs.drop f1.offset).take (P.cellsOf f1.type)) = some y1 ∧
      DataW.trod enc P w base spare held n f2.type ((cs.drop f2.offset).take (P.cellsOf f2.type)) = some y2 := by
  obtain ⟨xs, n, _, rfl, hl, hlen, hf⟩ := DataW.trod_struct ht h
  match xs, hlen with
  | [y0, y1, y2], _ => exact ⟨y0, y1, y2, n, by simp, by simpa using hf 0 f0 rfl, by simpa using hf 1 f1 rfl, by simpa using hf 2 f2 rfl⟩
/-- A row of a text and two integers each, as a list of variables has it. -/
def row3 (z : List UInt8 × Int × Int) : DataW H := .agg [.lit (.string z.1), .lit (.int .i64 z.2.1), .lit (.int .i64 z.2.2)]
def data3 (zs : List (List UInt8 × Int × Int)) : DataW H := .agg (zs.map row3)
theorem cell_of_data3 {fuel : Nat} {t e ts ti : TypeId} {n : Nat} {cs : List Value} {zs : List (List UInt8 × Int × Int)} {p : List MemPlace} {f0 f1 f2 : Field}
    (ht : P.underlying t = some (.array n e)) (he : P.underlying e = some (.struct #[f0, f1, f2])) (h0 : f0.type = ts) (h1 : f1.type = ti) (h2 : f2.type = ti) (o0 : f0.offset = 0) (o1 : f1.offset = 1) (o2 : f2.offset = 2)
    (hs : P.underlying ts = some .string) (hi : P.underlying ti = some (.int .i64)) (cS : P.cellsOf ts = 1) (ci : P.cellsOf ti = 1) (ce : P.cellsOf e = 3)
    (h : DataW.trod enc P w base spare held fuel t cs = some (data3 zs, p)) (i : Nat) (z : List UInt8 × Int × Int) (hz : zs[i]? = some z) : cs[i * 3]? = some (.string ⟨z.1.toArray⟩) ∧ cs[i * 3 + 1]? = some (.int .i64 z.2.1) ∧ cs[i * 3 + 2]? = some (.int .i64 z.2.2) := by
  cases fuel with
  | zero => simp [DataW.trod] at h
  | succ fuel =>
    simp only [DataW.trod, ht, ce] at h
    split at h
    · obtain ⟨xs, hm, hx⟩ := Option.map_eq_some_iff.1 h
      have hxs : xs.map (·.1) = zs.map (row3 (H := H)) := by
        have := congrArg Prod.fst hx
        simpa [data3] using this
      have hxl : xs.length = n := by simpa using Lib.mapM_length hm
      have hzl : zs.length = n := by
        have := congrArg List.length hxs
        simp at this
        omega
      have hin : i < n := by
        have := (List.getElem?_eq_some_iff.1 hz).1
        omega
      obtain ⟨b, hb, hf⟩ := Lib.mapM_at hm i i (by simp [hin])
      obtain ⟨y0, y1, y2, m, rfl, k0, k1, k2⟩ := trod_struct3 he hf
      rw [h0, o0, cS] at k0
      rw [h1, o1, ci] at k1
      rw [h2, o2, ci] at k2
      obtain ⟨s0, c0, rfl, _⟩ := DataW.trod_string hs k0
      obtain ⟨z1, c1, rfl, _⟩ := DataW.trod_int hi k1
      obtain ⟨z2, c2, rfl, _⟩ := DataW.trod_int hi k2
      have h3 : (xs.map (·.1))[i]? = some (DataW.agg [.lit (.string s0.data.toList), .lit (.int .i64 z1), .lit (.int .i64 z2)] : DataW H) := by simp [hb]
      rw [hxs, List.getElem?_map, hz] at h3
      simp only [row3, Option.map_some, Option.some.injEq, DataW.agg.injEq, List.cons.injEq, DataW.lit.injEq, Lit.int.injEq, Lit.string.injEq, true_and, and_true] at h3
      obtain ⟨g0, g1, g2⟩ := h3
      have e0 := congrArg (·[0]?) c0
      have e1 := congrArg (·[0]?) c1
      have e2 := congrArg (·[0]?) c2
      simp [List.getElem?_drop] at e0 e1 e2
      rw [g0, g1, g2]
      exact ⟨e0, e1, e2⟩
    · cases h
theorem data3_of_mem {W : World} {name : String} {zs : List (List UInt8 × Int × Int)} {g n : Nat} {t e ts ti : TypeId} {f0 f1 f2 : Field}
    (hg : P.globalNamed name = some g) (hty : (P.globals[g]?).map (·.type) = some t) (ht : P.underlying t = some (.array n e)) (he : P.underlying e = some (.struct #[f0, f1, f2])) (h0 : f0.type = ts) (h1 : f1.type = ti) (h2 : f2.type = ti) (o0 : f0.offset = 0) (o1 : f1.offset = 1) (o2 : f2.offset = 2)
    (hs : P.underlying ts = some .string) (hi : P.underlying ti = some (.int .i64)) (cS : P.cellsOf ts = 1) (ci : P.cellsOf ti = 1) (ce : P.cellsOf e = 3) :
    ∀ {l : List (String × DataW Unit)}, laidMet P l W → (name, data3 zs) ∈ l → ∀ i z, zs[i]? = some z → W.cell? ⟨g, i * 3, none⟩ = some (.string ⟨z.1.toArray⟩) ∧ W.cell? ⟨g, i * 3 + 1, none⟩ = some (.int .i64 z.2.1) ∧ W.cell? ⟨g, i * 3 + 2, none⟩ = some (.int .i64 z.2.2)
  | [], _, hm => by cases hm
  | x :: r, h, hm => by
    rcases List.mem_cons.1 hm with rfl | hm'
    · intro i z hz
      obtain ⟨ps, ⟨g', t', cs, fuel, p, q, hg', ht', hvar, hd, _, _⟩, _⟩ := h
      obtain rfl := Option.some.inj (hg.symm.trans hg')
      obtain rfl := Option.some.inj (hty.symm.trans ht')
      obtain ⟨c0, c1, c2⟩ := cell_of_data3 ht he h0 h1 h2 o0 o1 o2 hs hi cS ci ce hd i z hz
      have v0 := World.var?_cell hg hvar (i * 3)
      have v1 := World.var?_cell hg hvar (i * 3 + 1)
      have v2 := World.var?_cell hg hvar (i * 3 + 2)
      exact ⟨by rw [v0]; simpa using c0, by rw [v1]; simpa using c1, by rw [v2]; simpa using c2⟩
    · exact data3_of_mem hg hty ht he h0 h1 h2 o0 o1 o2 hs hi cS ci ce h.tail hm'
theorem gS : Tryd.prog.globalNamed "loop.example/g00925/impl.surroundings" = some 0 := by kernel_rfl
theorem tS : (Tryd.prog.globals[0]?).map (·.type) = some 51 := by kernel_rfl
theorem cE : Tryd.prog.cellsOf 50 = 3 := by kernel_rfl
theorem cS : Tryd.prog.cellsOf 9 = 1 := by kernel_rfl
theorem cI : Tryd.prog.cellsOf 2 = 1 := by kernel_rfl
def rows : List (List UInt8 × Int × Int) := [([111, 112, 101, 110], 0, 0), ([102, 105, 101, 108, 100], 20, 1000), ([119, 97, 116, 101, 114], 10, 500), ([116, 114, 101, 101, 115], 120, 12000), ([118, 105, 108, 108, 97, 103, 101], 70, 8000), ([115, 117, 98, 117, 114, 98], 90, 10000), ([116, 111, 119, 110], 160, 16000), ([99, 105, 116, 121], 240, 20000)]
theorem eS : (Rows.laid_loop_example_g00925_impl_surroundings : DataW Unit) = data3 rows := by kernel_rfl
theorem surrG {W : World} {l : List (String × DataW Unit)} (h : laidMet Tryd.prog l W) (hm : ("loop.example/g00925/impl.surroundings", Rows.laid_loop_example_g00925_impl_surroundings) ∈ l) : SurrG W := by
  have hp := data3_of_mem gS tS Tryd.underlying51 Tryd.underlying50 rfl rfl rfl rfl rfl rfl Tryd.underlying9 Tryd.underlying2 cS cI cE h (eS ▸ hm)
  intro c hc
  match c, hc with
  | 0, _ => exact hp 0 _ rfl
  | 1, _ => exact hp 1 _ rfl
  | 2, _ => exact hp 2 _ rfl
  | 3, _ => exact hp 3 _ rfl
  | 4, _ => exact hp 4 _ rfl
  | 5, _ => exact hp 5 _ rfl
  | 6, _ => exact hp 6 _ rfl
  | 7, _ => exact hp 7 _ rfl
end Go.Proofs.YtednfkjdidlenaaDoor.SurrTab
