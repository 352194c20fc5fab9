
/-
  What a row's list of variables gives: the program's sentinels of errors of a path's arguments, which differ. No condition but the list itself.
-/
import Derived.Test.YtadoaenmmemjdaaDoorRows
import Derived.Test.YtadoaenmmemjdaaDoorErrs
import Derived.ProofKit
import Derived.OpenShut
import Derived.Stop.LaidErr
import Derived.LaidLaws
import Derived.Stop.JoinedAt
import Derived.Stop.Texts
namespace Go.Proofs.YtadoaenmmemjdaaDoor.Sens
open Go.ChangeShapes Go.WideShapes Go.RowKit Go.Kit
open Go.Extern.Stop Go.Stop Go.Extern

theorem sent_of_mem {P : Program} {W : World} {n nm : String} {text : List UInt8} {g : Nat} {ti tp te ts : TypeId} {ms : Array (String × TypeId)} {f : Field}
    (hg : P.globalNamed n = some g) (ht : (P.globals[g]?).map (·.type) = some ti) (hi : P.underlying ti = some (.interface ms)) (hrow : ∀ u, P.typeName? 3 u = some nm → u = tp)
    (hp : P.underlying tp = some (.pointer te)) (he : P.underlying te = some (.struct #[f])) (hft : f.type = ts) (hfo : f.offset = 0) (hs : P.underlying ts = some .string) (hc : P.cellsOf te = 1) (hcs : P.cellsOf ts = 1) :
    ∀ {l : List (String × DataW Unit)}, laidMet P l W → (n, .iface nm (.ptr (.agg [.lit (.string text)]))) ∈ l →
      ∃ (a : Addr) (s : ByteArray) (c : Array Value) (t : TypeId), W.cell? ⟨g, 0, none⟩ = some (.iface tp (.pointer (some a))) ∧ W.cell? a = some (.string s) ∧ s.data.toList = text ∧ W.heap[a.block]? = some (.cells c t (0, 0))
  | [], _, hm => by cases hm
  | x :: r, h, hm => by
    rcases List.mem_cons.1 hm with rfl | hm'
    · obtain ⟨ps, ⟨g0, t0, cs0, f0, p0, q0, hg0, ht0, hv0, hd0, _, e0⟩, _, hrows⟩ := h
      obtain rfl := Option.some.inj (hg.symm.trans hg0)
      obtain rfl := Option.some.inj (ht.symm.trans ht0)
      subst e0
      obtain ⟨l0⟩ := cs0
      have ok0 : ∀ u v, l0 = [.iface u v] → Value.okWide P W .any 0 u v := fun u v e => by
        subst e
        exact (hrows g 0 (by simp [MemPlace.row])).2 u v (by simpa using World.var?_cell hg0 hv0 0)
      obtain ⟨a0, s0, rfl, hc0, hs0, _, rfl⟩ := errorString_of_trod hi hrow hp he hft hfo hs hc hcs hd0 ok0
      obtain ⟨c0, t0, hb0⟩ := (hrows a0.block a0.off (by simp [MemPlace.row])).1
      exact ⟨a0, s0, c0, t0, by simpa using World.var?_cell hg0 hv0 0, hc0, hs0, hb0⟩
    · exact sent_of_mem hg ht hi hrow hp he hft hfo hs hc hcs h.tail hm'
theorem star : "*" ++ "errors.errorString" = "*errors.errorString" := by decide
theorem rowE (u : TypeId) (h : Tryd.prog.typeName? 3 u = some "*errors.errorString") : u = 129 :=
  typeName_ptr_named (nm := "errors.errorString") (by rw [star]; kernel_rfl) (by kernel_rfl) (by decide) u (by rw [star]; exact h)
theorem cE : Tryd.prog.cellsOf 155 = 1 := by kernel_rfl
theorem cS : Tryd.prog.cellsOf 9 = 1 := by kernel_rfl
def txt0 : List UInt8 := [97, 32, 116, 101, 114, 114, 97, 105, 110, 32, 111, 114, 32, 97, 110, 32, 101, 110, 100, 32, 105, 115, 32, 110, 111, 116, 32, 118, 97, 108, 105, 100]
theorem g0 : Tryd.prog.globalNamed "loop.example/g00925/impl.errInvalid" = some 0 := by kernel_rfl
theorem t0 : (Tryd.prog.globals[0]?).map (·.type) = some 59 := by kernel_rfl
theorem e0 : (Rows.laid_loop_example_g00925_impl_errInvalid : DataW Unit) = .iface "*errors.errorString" (.ptr (.agg [.lit (.string txt0)])) := by rfl
theorem s0 {W : World} {l : List (String × DataW Unit)} (h : laidMet Tryd.prog l W) (hm : ("loop.example/g00925/impl.errInvalid", Rows.laid_loop_example_g00925_impl_errInvalid) ∈ l) :
    ∃ (a : Addr) (s : ByteArray) (c : Array Value) (t : TypeId), W.cell? ⟨0, 0, none⟩ = some (.iface 129 (.pointer (some a))) ∧ W.cell? a = some (.string s) ∧ s.data.toList = txt0 ∧ W.heap[a.block]? = some (.cells c t (0, 0)) :=
  sent_of_mem g0 t0 Tryd.underlying59 rowE Tryd.underlying129 Tryd.underlying155 rfl rfl Tryd.underlying9 cE cS h (e0 ▸ hm)
def txt1 : List UInt8 := [97, 32, 112, 108, 97, 99, 101, 32, 105, 115, 32, 110, 111, 116, 32, 105, 110, 32, 116, 104, 101, 32, 116, 101, 114, 114, 97, 105, 110, 44, 32, 111, 114, 32, 97, 32, 110, 117, 109, 98, 101, 114, 32, 105, 115, 32, 110, 111, 116, 32, 97, 115, 32, 115, 116, 97, 116, 101, 100]
theorem g1 : Tryd.prog.globalNamed "loop.example/g00925/impl.errRange" = some 1 := by kernel_rfl
theorem t1 : (Tryd.prog.globals[1]?).map (·.type) = some 59 := by kernel_rfl
theorem e1 : (Rows.laid_loop_example_g00925_impl_errRange : DataW Unit) = .iface "*errors.errorString" (.ptr (.agg [.lit (.string txt1)])) := by rfl
theorem s1 {W : World} {l : List (String × DataW Unit)} (h : laidMet Tryd.prog l W) (hm : ("loop.example/g00925/impl.errRange", Rows.laid_loop_example_g00925_impl_errRange) ∈ l) :
    ∃ (a : Addr) (s : ByteArray) (c : Array Value) (t : TypeId), W.cell? ⟨1, 0, none⟩ = some (.iface 129 (.pointer (some a))) ∧ W.cell? a = some (.string s) ∧ s.data.toList = txt1 ∧ W.heap[a.block]? = some (.cells c t (0, 0)) :=
  sent_of_mem g1 t1 Tryd.underlying59 rowE Tryd.underlying129 Tryd.underlying155 rfl rfl Tryd.underlying9 cE cS h (e1 ▸ hm)
def txt2 : List UInt8 := [116, 104, 101, 114, 101, 32, 97, 114, 101, 32, 116, 111, 111, 32, 109, 97, 110, 121, 32, 101, 110, 100, 115]
theorem g2 : Tryd.prog.globalNamed "loop.example/g00925/impl.errFull" = some 2 := by kernel_rfl
theorem t2 : (Tryd.prog.globals[2]?).map (·.type) = some 59 := by kernel_rfl
theorem e2 : (Rows.laid_loop_example_g00925_impl_errFull : DataW Unit) = .iface "*errors.errorString" (.ptr (.agg [.lit (.string txt2)])) := by rfl
theorem s2 {W : World} {l : List (String × DataW Unit)} (h : laidMet Tryd.prog l W) (hm : ("loop.example/g00925/impl.errFull", Rows.laid_loop_example_g00925_impl_errFull) ∈ l) :
    ∃ (a : Addr) (s : ByteArray) (c : Array Value) (t : TypeId), W.cell? ⟨2, 0, none⟩ = some (.iface 129 (.pointer (some a))) ∧ W.cell? a = some (.string s) ∧ s.data.toList = txt2 ∧ W.heap[a.block]? = some (.cells c t (0, 0)) :=
  sent_of_mem g2 t2 Tryd.underlying59 rowE Tryd.underlying129 Tryd.underlying155 rfl rfl Tryd.underlying9 cE cS h (e2 ▸ hm)
def txt3 : List UInt8 := [116, 104, 101, 114, 101, 32, 105, 115, 32, 110, 111, 32, 112, 97, 116, 104]
theorem g3 : Tryd.prog.globalNamed "loop.example/g00925/impl.errState" = some 3 := by kernel_rfl
theorem t3 : (Tryd.prog.globals[3]?).map (·.type) = some 59 := by kernel_rfl
theorem e3 : (Rows.laid_loop_example_g00925_impl_errState : DataW Unit) = .iface "*errors.errorString" (.ptr (.agg [.lit (.string txt3)])) := by rfl
theorem s3 {W : World} {l : List (String × DataW Unit)} (h : laidMet Tryd.prog l W) (hm : ("loop.example/g00925/impl.errState", Rows.laid_loop_example_g00925_impl_errState) ∈ l) :
    ∃ (a : Addr) (s : ByteArray) (c : Array Value) (t : TypeId), W.cell? ⟨3, 0, none⟩ = some (.iface 129 (.pointer (some a))) ∧ W.cell? a = some (.string s) ∧ s.data.toList = txt3 ∧ W.heap[a.block]? = some (.cells c t (0, 0)) :=
  sent_of_mem g3 t3 Tryd.underlying59 rowE Tryd.underlying129 Tryd.underlying155 rfl rfl Tryd.underlying9 cE cS h (e3 ▸ hm)
theorem differ {W : World} {a b : Addr} {s u : ByteArray} {x y : List UInt8} (ha : W.cell? a = some (.string s)) (hs : s.data.toList = x) (hb : W.cell? b = some (.string u)) (hu : u.data.toList = y) (hne : x ≠ y) : a ≠ b := by
  rintro rfl
  rw [ha] at hb
  simp only [Option.some.injEq, Value.string.injEq] at hb
  exact hne (by rw [← hs, ← hu, hb])
/-- The sentinels of a path's errors. -/
theorem sens {W : World} {l : List (String × DataW Unit)} (h : laidMet Tryd.prog l W)
    (m0 : ("loop.example/g00925/impl.errInvalid", Rows.laid_loop_example_g00925_impl_errInvalid) ∈ l)
    (m1 : ("loop.example/g00925/impl.errRange", Rows.laid_loop_example_g00925_impl_errRange) ∈ l)
    (m2 : ("loop.example/g00925/impl.errFull", Rows.laid_loop_example_g00925_impl_errFull) ∈ l)
    (m3 : ("loop.example/g00925/impl.errState", Rows.laid_loop_example_g00925_impl_errState) ∈ l)
    : ∃ A, Errs.Sens W A := by
  obtain ⟨a0, b0, c0, d0, k0, x0, y0, z0⟩ := s0 h m0
  obtain ⟨a1, b1, c1, d1, k1, x1, y1, z1⟩ := s1 h m1
  obtain ⟨a2, b2, c2, d2, k2, x2, y2, z2⟩ := s2 h m2
  obtain ⟨a3, b3, c3, d3, k3, x3, y3, z3⟩ := s3 h m3
  refine ⟨fun k => match k with | 0 => a0 | 1 => a1 | 2 => a2 | _ => a3, ⟨fun k hk => ?_, fun k hk => ?_, fun i k hi hk hne => ?_⟩⟩
  · match k, hk with
    | 0, _ => exact k0
    | 1, _ => exact k1
    | 2, _ => exact k2
    | 3, _ => exact k3
  · match k, hk with
    | 0, _ => exact ⟨c0, d0, z0⟩
    | 1, _ => exact ⟨c1, d1, z1⟩
    | 2, _ => exact ⟨c2, d2, z2⟩
    | 3, _ => exact ⟨c3, d3, z3⟩
  · match i, k, hi, hk, hne with
    | 0, 0, _, _, h => exact absurd rfl h
    | 0, 1, _, _, _ => exact differ x0 y0 x1 y1 (by decide)
    | 0, 2, _, _, _ => exact differ x0 y0 x2 y2 (by decide)
    | 0, 3, _, _, _ => exact differ x0 y0 x3 y3 (by decide)
    | 1, 0, _, _, _ => exact differ x1 y1 x0 y0 (by decide)
    | 1, 1, _, _, h => exact absurd rfl h
    | 1, 2, _, _, _ => exact differ x1 y1 x2 y2 (by decide)
    | 1, 3, _, _, _ => exact differ x1 y1 x3 y3 (by decide)
    | 2, 0, _, _, _ => exact differ x2 y2 x0 y0 (by decide)
    | 2, 1, _, _, _ => exact differ x2 y2 x1 y1 (by decide)
    | 2, 2, _, _, h => exact absurd rfl h
    | 2, 3, _, _, _ => exact differ x2 y2 x3 y3 (by decide)
    | 3, 0, _, _, _ => exact differ x3 y3 x0 y0 (by decide)
    | 3, 1, _, _, _ => exact differ x3 y3 x1 y1 (by decide)
    | 3, 2, _, _, _ => exact differ x3 y3 x2 y2 (by decide)
    | 3, 3, _, _, h => exact absurd rfl h
end Go.Proofs.YtadoaenmmemjdaaDoor.Sens
