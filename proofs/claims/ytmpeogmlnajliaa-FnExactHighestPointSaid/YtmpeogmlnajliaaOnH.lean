
/-
  A region that draws its order and guards some of its operations, whose operations read, or call what only makes memory: what is still to come is kept shut, so that no step looks into it. No condition but the closed test of the region.
-/
import Derived.Test.YtmpeogmlnajliaaOn
import Derived.Deep.RegionWith
namespace Go.Proofs.Ytmpeogmlnajliaa
open Go.RowKit

/-- What is still to come of a region. -/
structure Rest (P : Program) (ops : Array Oper) (C : World → Prop) (Q : Act → Prop) (l : List Oper) (a : Act) : Prop where
  out : wpQuiet P ops C Q l a
theorem rest_nil {P : Program} {ops : Array Oper} {C : World → Prop} {Q : Act → Prop} {a : Act} (h : Q a) : Rest P ops C Q [] a := ⟨wpQuiet_nil h⟩
theorem rest_step {P : Program} {ops : Array Oper} {C : World → Prop} {Q : Act → Prop} {a : Act} {o : Oper} {l : List Oper}
    (h : ∀ K : Act → Prop, (∀ a, Rest P ops C Q l a → K a) → if Region.wanted o (yielded ops a.tmps) then o.quiet P a C K else K (a.put o.dst undef)) : Rest P ops C Q (o :: l) a :=
  ⟨wpQuiet_step fun K hK => h K fun a ha => hK a ha.out⟩
theorem wp_region_onh {P : Program} {id : Nat} {Q : Exit → Act → World → Prop} {a : Act} {w : World} {l : List Oper} (hm : P.follows .mixedOrders = true) (hB : Region.lexB .any l.toArray = true)
    (h : Rest P l.toArray (On w) (fun a' => ∀ w', On w w' → Q .normal a' w') l a) : (Code.region id l.toArray true).wp P Q a w :=
  wp_region_on hm hB h.out
end Go.Proofs.Ytmpeogmlnajliaa
