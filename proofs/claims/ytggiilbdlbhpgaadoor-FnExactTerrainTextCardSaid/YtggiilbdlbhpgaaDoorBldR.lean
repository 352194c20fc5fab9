
/-
  A strings.Builder of a function's own: read, and kept where a call only makes memory. No condition.
-/
import Derived.Test.YtggiilbdlbhpgaaDoorBld
import Derived.Test.YtggiilbdlbhpgaaDoorShelfBld
import Derived.Lib.UnsafeStr
namespace Go.Proofs.YtggiilbdlbhpgaaDoor.Bld
open Go.RowKit
open Lib (IsBuilder BuilderAt strCells)

theorem at_on {T e : TypeId} {B b : Nat} {p : Value} {bs : List Value} {w w' : World} (h : BuilderAt T e B b p bs w) (k : On w w') : BuilderAt T e B b p bs w' := by
  have hlt := h.lt
  obtain ⟨hB, v, hb, hown, hne⟩ := h
  refine ⟨hB, v, (k.block b hlt).trans hb, hown.kept (row := none) ⟨k.os, k.tape, k.output, k.size, fun i hi _ => k.block i hi⟩ ?_, hne⟩
  cases h : v.ownBlock with
  | none => exact .inl rfl
  | some _ => exact .inr (by simp)
theorem is_on {T e : TypeId} {B b : Nat} {bs : List Value} {w w' : World} (h : IsBuilder T e B b bs w) (k : On w w') : IsBuilder T e B b bs w' := h.imp (at_on · k) (at_on · k)
theorem is_lt {T e : TypeId} {B b : Nat} {bs : List Value} {w : World} (h : IsBuilder T e B b bs w) : b < w.heap.size := h.elim (·.lt) (·.lt)
theorem cells_append (a b : ByteArray) : strCells (a ++ b) = strCells a ++ strCells b := by
  rw [Lib.strCells_eq, Lib.strCells_eq, Lib.strCells_eq, ← Lib.byteCells_append]; simp
/-- A text read. -/
theorem read (B b : Nat) (s : ByteArray) (w : World) (h : IsBuilder 57 5 B b (strCells s) w) (hBw : B ≤ w.heap.size) :
    Calls Tryd.prog 26 #[.pointer (some ⟨b, 0, none⟩)] w fun e w' => e = .returned (.string s) ∧ Below B w w' := by
  have := Tryd.Builder_String_any B b s.data.toList w h hBw
  rw [Array.toArray_toList] at this
  exact this
/-- A text written behind a text. -/
theorem write_text (B b : Nat) (t s : ByteArray) (w : World) (h : IsBuilder 57 5 B b (strCells t) w) (hl : t.size + s.size ≤ 1099511627776) (hBw : B ≤ w.heap.size) :
    Calls Tryd.prog 24 #[.pointer (some ⟨b, 0, none⟩), .string s] w fun e w' => e = .returned (.tuple #[.int .i64 s.size, .nilIface]) ∧ IsBuilder 57 5 B b (strCells (t ++ s)) w' ∧ Below B w w' := by
  refine (write B b (strCells t) s w h (by rw [Lib.strCells_length]; exact hl) hBw).mono fun e w' ⟨h1, h2, h3⟩ => ⟨h1, ?_, h3⟩
  rw [cells_append]
  exact .inr h2
/-- A new builder. -/
theorem fresh {w : World} {n : Nat} (h : w.heap.size = n) : IsBuilder 57 5 n n (strCells ⟨#[]⟩) (w.alloc (.cells #[.pointer none, .slice none 0 0] 57)) := by
  subst h
  exact Lib.fresh_isBuilder 57 5 w
end Go.Proofs.YtggiilbdlbhpgaaDoor.Bld
