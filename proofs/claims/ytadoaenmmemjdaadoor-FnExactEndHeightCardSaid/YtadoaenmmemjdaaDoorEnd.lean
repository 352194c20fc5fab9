
/-
  What the validity of an end of a path is, in the model and in the program, and the laws' copy of an end. No condition.
-/
import Derived.Test.YtadoaenmmemjdaaDoorPoint
namespace Go.Proofs.YtadoaenmmemjdaaDoor.EndOk
open Go.RowKit
open Plain
open Point (okB)

def okE (x y a : Int) : Bool := okB x y && inB a 1 3000
theorem okE_no {x y : Int} (a : Int) (h : okB x y = false) : okE x y a = false := by unfold okE; rw [h]; rfl
theorem okE_yes {x y : Int} (a : Int) (h : okB x y = true) : okE x y a = inB a 1 3000 := by unfold okE; rw [h]; rfl
theorem of_okE {x y a : Int} (h : okE x y a = true) : okB x y = true ∧ 1 ≤ a ∧ a ≤ 3000 := by
  unfold okE at h
  rw [Bool.and_eq_true] at h
  exact ⟨h.1, of_inB h.2⟩
/-- The cells of an end. -/
def EIn (w : World) (b : Nat) (x y a : Int) : Prop := w.cell? ⟨b, 0, none⟩ = some (.int .i64 x) ∧ w.cell? ⟨b, 1, none⟩ = some (.int .i64 y) ∧ w.cell? ⟨b, 2, none⟩ = some (.int .i64 a)
theorem EIn.on {w w' : World} {b : Nat} {x y a : Int} (h : EIn w b x y a) (ho : On w w') : EIn w' b x y a := by
  obtain ⟨h0, h1, h2⟩ := h
  have hb := World.block_lt_of_cell? w _ h0
  exact ⟨(ho.cell (by exact hb)).trans h0, (ho.cell (by exact hb)).trans h1, (ho.cell (by exact hb)).trans h2⟩
set_option maxHeartbeats 1000000 in
theorem laws_toEnd (x y a : Int) (w : World) :
    Calls Tryd.prog 9 #[.agg #[.int .i64 x, .int .i64 y, .int .i64 a]] w fun e w' => e = .returned (.agg #[.int .i64 x, .int .i64 y, .int .i64 a]) ∧ On w w' := by
  go_enter Tryd.func9, Tryd.ntmps9
  go_wp2_with fail
  refine (Point.laws_toPoint _ _ _).mono ?_
  rintro e w1 ⟨rfl, h1⟩
  obtain ⟨hc1, hf1⟩ := bcell h1
  have z1 : w.heap.size + 2 < w1.heap.size := by have := h1.size; simp at this; omega
  have z2 : w.heap.size + 1 < w1.heap.size := by omega
  have z3 : w.heap.size < w1.heap.size := by omega
  go_wp2_with fail
  refine bodyPost_ret (v := .agg #[.int .i64 x, .int .i64 y, .int .i64 a]) (by simp [results, Tryd.results9, go_sem, hc1]) rfl ⟨rfl, ?_⟩
  iterate 6 refine On.setCell ?_ (by (try simp) <;> omega) _
  exact On.trans (On.alloc (On.alloc (On.alloc (On.refl _) _) _) _) h1
set_option maxHeartbeats 1000000 in
theorem spec_l12End (x y a : Int) (w : World) :
    Calls Tryd.prog 22 #[.agg #[.int .i64 x, .int .i64 y, .int .i64 a]] w fun e w' => e = .returned (.bool (okE x y a)) ∧ On w w' := by
  cases h0 : okB x y with
  | false =>
    have en := Lib.hid (okE_no a h0)
    have HP := Lib.hid (fun w => Point.spec_ok x y w)
    rw [h0] at HP
    go_enter Tryd.func22, Tryd.ntmps22
    go_wp2_with fail
    refine (HP.out _).mono ?_
    rintro e w1 ⟨rfl, h1⟩
    go_wp2_with fail
    go_ret
    exact ⟨ret_bool en.out.symm, by refine On.trans ?_ h1; repeat (first | with_reducible exact On.refl _ | apply On.alloc)⟩
  | true =>
    have en := Lib.hid (okE_yes a h0)
    have HP := Lib.hid (fun w => Point.spec_ok x y w)
    rw [h0] at HP
    go_enter Tryd.func22, Tryd.ntmps22
    go_wp2_with fail
    refine (HP.out _).mono ?_
    rintro e w1 ⟨rfl, h1⟩
    obtain ⟨hc1, hf1⟩ := bcell h1
    have z1 : w.heap.size < w1.heap.size := by have := h1.size; simp at this; omega
    go_wp2_with fail
    refine (Arith.l00In _ _ _ _).mono ?_
    rintro e w2 ⟨rfl, rfl⟩
    go_wp2_with fail
    go_ret
    exact ⟨ret_bool en.out.symm, by refine On.trans ?_ h1; repeat (first | with_reducible exact On.refl _ | apply On.alloc)⟩
set_option maxHeartbeats 1000000 in
theorem impl_ValidEnd (x y a : Int) (w : World) :
    Calls Tryd.prog 47 #[.agg #[.int .i64 x, .int .i64 y, .int .i64 a]] w fun e w' => e = .returned (.bool (okE x y a)) ∧ On w w' := by
  cases h0 : okB x y with
  | false =>
    have en := Lib.hid (okE_no a h0)
    have HP := Lib.hid (fun w => Point.impl_ok x y w)
    rw [h0] at HP
    go_enter Tryd.func47, Tryd.ntmps47
    go_wp2_with fail
    refine (HP.out _).mono ?_
    rintro e w1 ⟨rfl, h1⟩
    go_wp2_with fail
    go_ret
    exact ⟨ret_bool en.out.symm, by refine On.trans ?_ h1; repeat (first | with_reducible exact On.refl _ | apply On.alloc)⟩
  | true =>
    have en := Lib.hid (okE_yes a h0)
    have HP := Lib.hid (fun w => Point.impl_ok x y w)
    rw [h0] at HP
    go_enter Tryd.func47, Tryd.ntmps47
    go_wp2_with fail
    refine (HP.out _).mono ?_
    rintro e w1 ⟨rfl, h1⟩
    obtain ⟨hc1, hf1⟩ := bcell h1
    have z1 : w.heap.size < w1.heap.size := by have := h1.size; simp at this; omega
    go_wp2_with fail
    refine (Arith.within _ _ _ _).mono ?_
    rintro e w2 ⟨rfl, rfl⟩
    go_wp2_with fail
    go_ret
    exact ⟨ret_bool en.out.symm, by refine On.trans ?_ h1; repeat (first | with_reducible exact On.refl _ | apply On.alloc)⟩
end Go.Proofs.YtadoaenmmemjdaaDoor.EndOk
