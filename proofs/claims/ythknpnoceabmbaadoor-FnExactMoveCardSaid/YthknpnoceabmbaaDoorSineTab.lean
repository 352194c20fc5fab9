
/-
  What a row's list of variables gives: the program's sines. No condition but the list itself.
-/
import Derived.Test.YthknpnoceabmbaaDoorRows
import Derived.Test.YthknpnoceabmbaaDoorSine
import Derived.Lib.LaidTab
import Derived.ProofKit
import Derived.OpenShut
import Derived.Below
import Derived.Stop.LaidErr
namespace Go.Proofs.YthknpnoceabmbaaDoor.SineTab
open Go.RowKit
open Plain

theorem tabIs_of_mem {P : Program} {W : World} {name : String} {k : IntKind} {zs : List Int} {g : Nat} {t e : TypeId} {n : Nat}
    (hg : P.globalNamed name = some g) (hty : (P.globals[g]?).map (·.type) = some t) (ht : P.underlying t = some (.array n e)) (he : P.underlying e = some (.int k)) (hce : P.cellsOf e = 1) (hct : P.cellsOf t = n) :
    ∀ {l : List (String × DataW Unit)}, laidMet P l W → (name, Lib.tabData k zs) ∈ l → Lib.TabIs P W name k zs
  | [], _, hm => by cases hm
  | x :: r, h, hm => by
    rcases List.mem_cons.1 hm with rfl | hm'
    · exact Lib.tabIs_of_head hg hty ht he hce hct h
    · exact tabIs_of_mem hg hty ht he hce hct h.tail hm'
theorem gS : Tryd.prog.globalNamed "loop.example/g00925/impl.sines" = some 0 := by kernel_rfl
theorem tS : (Tryd.prog.globals[0]?).map (·.type) = some 36 := by kernel_rfl
theorem cS : Tryd.prog.cellsOf 36 = 91 := by kernel_rfl
theorem cI : Tryd.prog.cellsOf 2 = 1 := by kernel_rfl
theorem eS : (Rows.laid_loop_example_g00925_impl_sines : DataW Unit) = Lib.tabData .i64 sines := by kernel_rfl
theorem tabG {W : World} {l : List (String × DataW Unit)} (h : laidMet Tryd.prog l W) (hm : ("loop.example/g00925/impl.sines", Rows.laid_loop_example_g00925_impl_sines) ∈ l) : Sine.TabG W := fun j hj => by
  have h1 := tabIs_of_mem gS tS Tryd.underlying36 Tryd.underlying2 cI cS h (eS ▸ hm)
  exact h1.cell gS j (by rw [show sines.length = 91 by decide]; exact hj)
end Go.Proofs.YthknpnoceabmbaaDoor.SineTab
