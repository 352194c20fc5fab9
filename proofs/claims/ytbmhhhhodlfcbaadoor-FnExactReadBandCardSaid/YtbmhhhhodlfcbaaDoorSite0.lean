
/-
  A site (a struct of two texts and of a struct of two numbers): opened where it comes in by value; what the laws' copy and count of it return. Conditions: each theorem's own.
-/
import Derived.Test.YtbmhhhhodlfcbaaDoorProg
import Derived.Test.YtbmhhhhodlfcbaaDoorOn
import Derived.Test.YtbmhhhhodlfcbaaDoorPoint
import Derived.Lib.SmallJoins
namespace Go.Proofs.YtbmhhhhodlfcbaaDoor.SiteIn
open Go.ChangeShapes Go.WideShapes Go.RowKit Go.Deep Go.WideElems Go.Maps
variable {H : Type} {enc : TypeId × Value → H} {P : Program} {w : World} {base : Nat} {spare : Nat → Bool} {held : Bool}

theorem array4 {α : Type} {cs : Array α} (h : cs.size = 4) : ∃ c0 c1 c2 c3, cs = #[c0, c1, c2, c3] := by
  obtain ⟨l⟩ := cs
  match l, h with
  | [c0, c1, c2, c3], _ => exact ⟨c0, c1, c2, c3, rfl⟩
theorem two_fields {t : TypeId} {f0 f1 : Field} {fuel : Nat} {cs : List Value} {x : DataW H × List MemPlace} (ht : P.underlying t = some (.struct #[f0, f1])) (h : DataW.trod enc P w base spare held fuel t cs = some x) :
    ∃ y0 y1 n, DataW.trod enc P w base spare held n f0.type ((cs.drop f0.offset).take (P.cellsOf f0.type)) = some y0 ∧
      DataW.trod enc P w base spare held n f1.type ((cs.drop f1.offset).take (P.cellsOf f1.type)) = some y1 := by
  obtain ⟨xs, n, _, rfl, hl, hlen, hf⟩ := DataW.trod_struct ht h
  match xs, hlen with
  | [y0, y1], _ => exact ⟨y0, y1, n, by simpa using hf 0 f0 rfl, by simpa using hf 1 f1 rfl⟩
theorem three_fields {t : TypeId} {f0 f1 f2 : Field} {fuel : Nat} {cs : List Value} {x : DataW H × List MemPlace} (ht : P.underlying t = some (.struct #[f0, f1, f2])) (h : DataW.trod enc P w base spare held fuel t cs = some x) :
    ∃ y0 y1 y2 n, DataW.trod enc P w base spare held n f0.type ((cs.drop f0.offset).take (P.cellsOf f0.type)) = some y0 ∧
      DataW.trod enc P w base spare held n f1.type ((cs.drop f1.offset).take (P.cellsOf f1.type)) = some y1 ∧
      DataW.trod enc P w base spare held n f2.type ((cs.drop f2.offset).take (P.cellsOf f2.type)) = some y2 := by
  obtain ⟨xs, n, _, rfl, hl, hlen, hf⟩ := DataW.trod_struct ht h
  match xs, hlen with
  | [y0, y1, y2], _ => exact ⟨y0, y1, y2, n, by simpa using hf 0 f0 rfl, by simpa using hf 1 f1 rfl, by simpa using hf 2 f2 rfl⟩
theorem open_site {r : Reach} {b0 : Nat} {t : TypeId} {f0 f1 f2 g0 g1 : Field} {v : Value} {d : DataW H} {p : List MemPlace} (hs : P.underlying t = some (.struct #[f0, f1, f2])) (hg : P.underlying f2.type = some (.struct #[g0, g1])) (hC : P.cellsOf t = 4)
    (ho : (f0.offset, P.cellsOf f0.type, f1.offset, P.cellsOf f1.type, f2.offset, P.cellsOf f2.type) = (0, 1, 1, 1, 2, 2)) (hi : (g0.offset, P.cellsOf g0.type, g1.offset, P.cellsOf g1.type) = (0, 1, 1, 1))
    (hv : Value.okWide P w r b0 t v) (h : DataW.Trod enc P w base spare held t v d p) :
    ∃ (v0 v1 v2 v3 : Value) (y0 y1 y2 y3 : DataW H × List MemPlace) (n m : Nat), v = .agg #[v0, v1, v2, v3] ∧
      DataW.trod enc P w base spare held n f0.type [v0] = some y0 ∧ DataW.trod enc P w base spare held n f1.type [v1] = some y1 ∧
      DataW.trod enc P w base spare held m g0.type [v2] = some y2 ∧ DataW.trod enc P w base spare held m g1.type [v3] = some y3 := by
  obtain ⟨cs, rfl, hsz⟩ := okWide_struct hs hv
  obtain ⟨c0, c1, c2, c3, rfl⟩ := array4 (hsz.trans hC)
  obtain ⟨fuel, hf⟩ := h
  obtain ⟨y0, y1, y2, n, h0, h1, h2⟩ := three_fields hs hf
  simp only [Prod.mk.injEq] at ho hi
  obtain ⟨o1, o2, o3, o4, o5, o6⟩ := ho
  obtain ⟨i1, i2, i3, i4⟩ := hi
  have h2' : DataW.trod enc P w base spare held n f2.type [c2, c3] = some y2 := by simpa [Value.cells, o5, o6] using h2
  obtain ⟨z0, z1, m, g0', g1'⟩ := two_fields hg h2'
  exact ⟨c0, c1, c2, c3, y0, y1, z0, z1, n, m, rfl, by simpa [Value.cells, o1, o2] using h0, by simpa [Value.cells, o3, o4] using h1, by simpa [i1, i2] using g0', by simpa [i3, i4] using g1'⟩
end Go.Proofs.YtbmhhhhodlfcbaaDoor.SiteIn
namespace Go.Proofs.YtbmhhhhodlfcbaaDoor.Site
open Go.RowKit
/-- The block g holds the site. -/
def In (w : World) (g : Nat) (s t : ByteArray) (x y : Int) : Prop := w.cell? ⟨g, 0, none⟩ = some (.string s) ∧ w.cell? ⟨g, 1, none⟩ = some (.string t) ∧ w.cell? ⟨g, 2, none⟩ = some (.int .i64 x) ∧ w.cell? ⟨g, 3, none⟩ = some (.int .i64 y)
theorem In.lt {w : World} {g : Nat} {s t : ByteArray} {x y : Int} (hi : In w g s t x y) : g < w.heap.size := World.block_lt_of_cell? w _ hi.1
theorem In.on {w w' : World} {g : Nat} {s t : ByteArray} {x y : Int} (hi : In w g s t x y) (ho : On w w') : In w' g s t x y :=
  ⟨(ho.cell (by exact hi.lt)).trans hi.1, (ho.cell (by exact hi.lt)).trans hi.2.1, (ho.cell (by exact hi.lt)).trans hi.2.2.1, (ho.cell (by exact hi.lt)).trans hi.2.2.2⟩
set_option maxHeartbeats 1000000 in
theorem copy (s t : ByteArray) (x y : Int) (w : World) :
    Calls Tryd.prog 21 #[.agg #[.string s, .string t, .int .i64 x, .int .i64 y]] w fun e w' => e = .returned (.agg #[.string s, .string t, .int .i64 x, .int .i64 y]) ∧ On w w' := by
  go_enter Tryd.func21, Tryd.ntmps21
  go_wp2_with fail
  refine (Point.laws_toPoint _ _ _).mono ?_
  rintro e w1 ⟨rfl, h1⟩
  obtain ⟨hc1, hf1⟩ := bcell h1
  have z1 : w.heap.size + 2 < w1.heap.size := by have := h1.size; simp at this; omega
  have z2 : w.heap.size + 1 < w1.heap.size := by omega
  have z3 : w.heap.size < w1.heap.size := by omega
  go_wp2_with fail
  refine bodyPost_ret (v := .agg #[.string s, .string t, .int .i64 x, .int .i64 y]) (by simp [results, Tryd.results21, go_sem, hc1]) rfl ⟨rfl, ?_⟩
  iterate 6 refine On.setCell ?_ (by (try simp) <;> omega) _
  refine On.trans ?_ h1
  repeat (first | with_reducible exact On.refl _ | with_reducible apply On.alloc | with_reducible refine On.setCell ?_ (by (try simp) <;> omega) _)
/-- What is left of a count behind two texts. -/
def left2 (a b : Nat) : Int := if a ≤ 1048576 then (if b ≤ 1048576 - a then ((1048576 - a - b : Nat) : Int) else -1) else -1
theorem left2_or (a b : Nat) : left2 a b = -1 ∨ ∃ k : Nat, left2 a b = (k : Int) ∧ a ≤ 1048576 ∧ b ≤ 1048576 := by
  unfold left2
  by_cases h : a ≤ 1048576
  · rw [if_pos h]
    by_cases h2 : b ≤ 1048576 - a
    · exact .inr ⟨_, if_pos h2, h, by omega⟩
    · exact .inl (if_neg h2)
  · exact .inl (if_neg h)
set_option maxHeartbeats 1000000 in
theorem count (s t : ByteArray) (x y : Int) (w : World) (hs : s.size ≤ maxLen) (ht : t.size ≤ maxLen) :
    Calls Tryd.prog 19 #[.agg #[.string s, .string t, .int .i64 x, .int .i64 y], .int .i64 1048576] w fun e w' => e = .returned (.int .i64 (left2 s.size t.size)) ∧ On w w' := by
  unfold maxLen at hs ht
  by_cases hle : s.size ≤ 1048576
  · obtain ⟨k, hk⟩ : ∃ k, k = 1048576 - s.size := ⟨_, rfl⟩
    have g0 : ¬ (1048576 : Int) - (s.size : Int) < 0 := by omega
    have e0 : (1048576 : Int) - (s.size : Int) = (k : Int) := by omega
    have e1 : ¬ (k : Int) < 0 := by omega
    by_cases h2 : t.size ≤ k
    · have en := Lib.hid (show (k : Int) - (t.size : Int) = left2 s.size t.size by unfold left2; rw [if_pos hle, ← hk, if_pos h2]; omega)
      have g1 : ¬ (k : Int) - (t.size : Int) < 0 := by omega
      clear hk
      go_enter Tryd.func19, Tryd.ntmps19
      go_wp2_with fail
      go_ret
      exact ⟨ret_int en.out, by repeat (first | with_reducible exact On.refl _ | apply On.alloc | apply On.drewN | apply On.drew | refine On.setCell ?_ (by (try simp) <;> omega) _)⟩
    · have en := Lib.hid (show (-1 : Int) = left2 s.size t.size by unfold left2; rw [if_pos hle, ← hk, if_neg h2])
      have g1 : (k : Int) - (t.size : Int) < 0 := by omega
      clear hk
      go_enter Tryd.func19, Tryd.ntmps19
      go_wp2_with fail
      go_ret
      exact ⟨ret_int en.out, by repeat (first | with_reducible exact On.refl _ | apply On.alloc | apply On.drewN | apply On.drew | refine On.setCell ?_ (by (try simp) <;> omega) _)⟩
  · have en := Lib.hid (show (-1 : Int) = left2 s.size t.size by unfold left2; rw [if_neg hle])
    have g0 : (1048576 : Int) - (s.size : Int) < 0 := by omega
    go_enter Tryd.func19, Tryd.ntmps19
    go_wp2_with fail
    go_ret
    exact ⟨ret_int en.out, by repeat (first | with_reducible exact On.refl _ | apply On.alloc | apply On.drewN | apply On.drew | refine On.setCell ?_ (by (try simp) <;> omega) _)⟩
end Go.Proofs.YtbmhhhhodlfcbaaDoor.Site
