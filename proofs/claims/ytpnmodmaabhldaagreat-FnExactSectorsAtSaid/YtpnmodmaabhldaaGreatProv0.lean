
/-
  Three rows of texts that grow side by side: what is said of them. No condition.
-/
import Derived.Test.YtpnmodmaabhldaaGreatNetF
import Derived.Test.YtpnmodmaabhldaaGreatHavS
import Derived.Test.YtpnmodmaabhldaaGreatHavA
import Derived.Test.YtpnmodmaabhldaaGreatHavR
import Derived.Deep.AppendLies
namespace Go.Proofs.YtpnmodmaabhldaaGreat.Net
open Go.RowKit

/-- The texts f of the first k records. -/
def cellsTo (f : Secs.Z → ByteArray) (xs : List Secs.Z) (k : Nat) : List Value := (List.range k).map fun j => .string (f (xs.getD j Secs.d0))
theorem cellsTo_succ (f : Secs.Z → ByteArray) (xs : List Secs.Z) (k : Nat) : cellsTo f xs (k + 1) = cellsTo f xs k ++ [.string (f (xs.getD k Secs.d0))] := by unfold cellsTo; rw [List.range_succ, List.map_append]; rfl
theorem cellsTo_len (f : Secs.Z → ByteArray) (xs : List Secs.Z) (k : Nat) : (cellsTo f xs k).length = k := by unfold cellsTo; simp
def textsTo (f : Secs.Z → ByteArray) (xs : List Secs.Z) : List ByteArray := xs.map f
/-- v owns the row of the texts f. -/
def Row (w : World) (B : Nat) (f : Secs.Z → ByteArray) (xs : List Secs.Z) (v : Value) (k : Nat) : Prop := w.ownsRow B 9 1 v k (cellsTo f xs k)
theorem Row.alloc {w : World} {B : Nat} {f : Secs.Z → ByteArray} {xs : List Secs.Z} {v : Value} {k : Nat} (h : Row w B f xs v k) (o : Obj) : Row (w.alloc o) B f xs v k := World.ownsRow.alloc h o
theorem Row.on {w w' : World} {B : Nat} {f : Secs.Z → ByteArray} {xs : List Secs.Z} {v : Value} {k : Nat} (h : Row w B f xs v k) (ho : On w w') : Row w' B f xs v k := by
  obtain ⟨h1, h2⟩ := h
  refine ⟨h1, ?_⟩
  rcases h2 with h2 | ⟨g, cap, cur, e1, e2, e3, e4⟩
  · exact .inl h2
  · have hl : g < w.heap.size := by
      rcases Nat.lt_or_ge g w.heap.size with q | q
      · exact q
      · rw [Array.getElem?_eq_none q] at e3; cases e3
    exact .inr ⟨g, cap, cur, e1, e2, by rw [ho.block g hl]; exact e3, e4⟩
theorem Row.lt {w : World} {B : Nat} {f : Secs.Z → ByteArray} {xs : List Secs.Z} {v : Value} {k : Nat} (h : Row w B f xs v k) {g : Nat} (hg : v.ownBlock = some g) : B ≤ g ∧ g < w.heap.size := World.ownsRow.lt h g hg
theorem Row.grown {w w' : World} {B : Nat} {f : Secs.Z → ByteArray} {xs : List Secs.Z} {v : Value} {k : Nat} (h : Row w B f xs v k) {row : Option Nat} (hg : w.grownBy w' row) (hne : ∀ g, v.ownBlock = some g → row ≠ some g) : Row w' B f xs v k := by
  refine World.ownsRow.kept h hg ?_
  cases e : v.ownBlock with
  | none => exact .inl rfl
  | some g => exact .inr fun c => hne g e c.symm
/-- The rows' blocks differ. -/
def Apart (u v : Value) : Prop := ∀ g, u.ownBlock = some g → v.ownBlock ≠ some g
theorem Apart.symm {u v : Value} (h : Apart u v) : Apart v u := fun g hv hu => h g hu hv
end Go.Proofs.YtpnmodmaabhldaaGreat.Net
