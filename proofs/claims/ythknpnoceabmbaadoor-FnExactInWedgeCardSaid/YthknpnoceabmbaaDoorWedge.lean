
/-
  What InWedge is, in the model and in the program. Condition: the program's variable of sines holds what its text lays.
-/
import Derived.Test.YthknpnoceabmbaaDoorWedge0
namespace Go.Proofs.YthknpnoceabmbaaDoor.Bear
open Go.RowKit
open Plain
open Sine (TabG TabAt)
open Point

set_option maxHeartbeats 1000000 in
theorem spec_wedge (x y a b u v : Int) (w : World) :
    Calls Tryd.prog 18 #[.agg #[.int .i64 x, .int .i64 y], .int .i64 a, .int .i64 b, .agg #[.int .i64 u, .int .i64 v]] w fun r w' => r = .returned (.bool (wedge x y a b u v)) ∧ On w w' := by
  cases k1 : okB x y with
  | false =>
    have H := Lib.hid (wedge_1 (a := a) (b := b) (u := u) (v := v) k1)
    go_enter Tryd.func18, Tryd.ntmps18
    go_wp2_with fail
    refine (spec_ok x y _).mono ?_
    rintro r w1 ⟨rfl, h1⟩
    obtain ⟨hc1, hf1⟩ := bcell h1
    obtain ⟨z1, z1'⟩ : w.heap.size < w1.heap.size ∧ w.heap.size + 1 < w1.heap.size := by have := h1.size; (try simp at this); omega
    go_wp2_with fail
    go_ret
    exact ⟨ret_bool H.out.symm, by repeat (first | exact On.refl _ | apply On.alloc | apply On.drewN | refine On.trans ?_ (by assumption))⟩
  | true =>
    cases k2 : okB u v with
    | false =>
      have H := Lib.hid (wedge_2 (a := a) (b := b) k1 k2)
      go_enter Tryd.func18, Tryd.ntmps18
      go_wp2_with fail
      refine (spec_ok x y _).mono ?_
      rintro r w1 ⟨rfl, h1⟩
      obtain ⟨hc1, hf1⟩ := bcell h1
      obtain ⟨z1, z1'⟩ : w.heap.size < w1.heap.size ∧ w.heap.size + 1 < w1.heap.size := by have := h1.size; (try simp at this); omega
      go_wp2_with fail
      refine (spec_ok u v _).mono ?_
      rintro r w2 ⟨rfl, h2⟩
      obtain ⟨hc2, hf2⟩ := bcell h2
      obtain ⟨z2, z2'⟩ : w.heap.size < w2.heap.size ∧ w.heap.size + 1 < w2.heap.size := by have := h2.size; (try simp at this); omega
      go_wp2_with fail
      go_ret
      exact ⟨ret_bool H.out.symm, by repeat (first | exact On.refl _ | apply On.alloc | apply On.drewN | refine On.trans ?_ (by assumption))⟩
    | true =>
      cases k3 : inB b 0 360 with
      | false =>
        have H := Lib.hid (wedge_3 (a := a) k1 k2 k3)
        go_enter Tryd.func18, Tryd.ntmps18
        go_wp2_with fail
        refine (spec_ok x y _).mono ?_
        rintro r w1 ⟨rfl, h1⟩
        obtain ⟨hc1, hf1⟩ := bcell h1
        obtain ⟨z1, z1'⟩ : w.heap.size < w1.heap.size ∧ w.heap.size + 1 < w1.heap.size := by have := h1.size; (try simp at this); omega
        go_wp2_with fail
        refine (spec_ok u v _).mono ?_
        rintro r w2 ⟨rfl, h2⟩
        obtain ⟨hc2, hf2⟩ := bcell h2
        obtain ⟨z2, z2'⟩ : w.heap.size < w2.heap.size ∧ w.heap.size + 1 < w2.heap.size := by have := h2.size; (try simp at this); omega
        go_wp2_with (go_at_call 25; refine (Arith.l00In _ _ _ _).mono ?_; rintro e w' ⟨rfl, rfl⟩)
        go_ret
        exact ⟨ret_bool H.out.symm, by repeat (first | exact On.refl _ | apply On.alloc | apply On.drewN | refine On.trans ?_ (by assumption))⟩
      | true =>
        by_cases he : x = u ∧ y = v
        · obtain ⟨rfl, rfl⟩ := he
          have H := Lib.hid (wedge_4 (a := a) k1 k3)
          go_enter Tryd.func18, Tryd.ntmps18
          go_wp2_with fail
          refine (spec_ok x y _).mono ?_
          rintro r w1 ⟨rfl, h1⟩
          obtain ⟨hc1, hf1⟩ := bcell h1
          obtain ⟨z1, z1'⟩ : w.heap.size < w1.heap.size ∧ w.heap.size + 1 < w1.heap.size := by have := h1.size; (try simp at this); omega
          go_wp2_with fail
          refine (spec_ok x y _).mono ?_
          rintro r w2 ⟨rfl, h2⟩
          obtain ⟨hc2, hf2⟩ := bcell h2
          obtain ⟨z2, z2'⟩ : w.heap.size < w2.heap.size ∧ w.heap.size + 1 < w2.heap.size := by have := h2.size; (try simp at this); omega
          go_wp2_with (go_at_call 25; refine (Arith.l00In _ _ _ _).mono ?_; rintro e w' ⟨rfl, rfl⟩)
          go_ret
          exact ⟨ret_bool H.out.symm, by repeat (first | exact On.refl _ | apply On.alloc | apply On.drewN | refine On.trans ?_ (by assumption))⟩
        · have H := Lib.hid (wedge_5 (a := a) k1 k2 k3 he)
          have hl := (fun w => spec_l03Bearing x y u v w k1 k2)
          obtain ⟨bb, hbb⟩ : ∃ d, d = bearing (u - x) (v - y) := ⟨_, rfl⟩
          rw [← hbb] at hl H
          have HL := Lib.hid hl
          obtain ⟨t, htt⟩ : ∃ t, t = turn bb a := ⟨_, rfl⟩
          obtain ⟨t0, t1⟩ := turn_bd bb a
          rw [← htt] at H t0 t1
          clear hl hbb
          have HTT := Lib.hid htt
          clear htt
          by_cases hx : x = u
          · subst hx
            have hy : ¬ y = v := fun h => he ⟨rfl, h⟩
            have hy2 : ¬ v = y := fun h => hy h.symm
            have hy3 : (y == v) = false := beq_eq_false_iff_ne.2 hy
            have hy4 : (v == y) = false := beq_eq_false_iff_ne.2 hy2
            clear he
            go_enter Tryd.func18, Tryd.ntmps18
            go_wp2_with fail
            refine (spec_ok x y _).mono ?_
            rintro r w1 ⟨rfl, h1⟩
            obtain ⟨hc1, hf1⟩ := bcell h1
            obtain ⟨z1, z1'⟩ : w.heap.size < w1.heap.size ∧ w.heap.size + 1 < w1.heap.size := by have := h1.size; (try simp at this); omega
            go_wp2_with fail
            refine (spec_ok x v _).mono ?_
            rintro r w2 ⟨rfl, h2⟩
            obtain ⟨hc2, hf2⟩ := bcell h2
            obtain ⟨z2, z2'⟩ : w.heap.size < w2.heap.size ∧ w.heap.size + 1 < w2.heap.size := by have := h2.size; (try simp at this); omega
            go_wp2_with (go_at_call 25; refine (Arith.l00In _ _ _ _).mono ?_; rintro e w' ⟨rfl, rfl⟩)
            refine (HL.out _).mono ?_
            rintro r w3 ⟨rfl, h3⟩
            go_wp2_with fail
            refine (Turn.spec_l03Turn _ _ _).mono ?_
            rintro r w4 ⟨rfl, rfl⟩
            rw [← HTT.out]
            go_wp2_with fail
            go_ret
            exact ⟨ret_bool H.out.symm, by repeat (first | exact On.refl _ | apply On.alloc | apply On.drewN | refine On.trans ?_ (by assumption))⟩
          · have hx2 : ¬ u = x := fun h => hx h.symm
            have hx3 : (x == u) = false := beq_eq_false_iff_ne.2 hx
            have hx4 : (u == x) = false := beq_eq_false_iff_ne.2 hx2
            clear he
            go_enter Tryd.func18, Tryd.ntmps18
            go_wp2_with fail
            refine (spec_ok x y _).mono ?_
            rintro r w1 ⟨rfl, h1⟩
            obtain ⟨hc1, hf1⟩ := bcell h1
            obtain ⟨z1, z1'⟩ : w.heap.size < w1.heap.size ∧ w.heap.size + 1 < w1.heap.size := by have := h1.size; (try simp at this); omega
            go_wp2_with fail
            refine (spec_ok u v _).mono ?_
            rintro r w2 ⟨rfl, h2⟩
            obtain ⟨hc2, hf2⟩ := bcell h2
            obtain ⟨z2, z2'⟩ : w.heap.size < w2.heap.size ∧ w.heap.size + 1 < w2.heap.size := by have := h2.size; (try simp at this); omega
            go_wp2_with (go_at_call 25; refine (Arith.l00In _ _ _ _).mono ?_; rintro e w' ⟨rfl, rfl⟩)
            refine (HL.out _).mono ?_
            rintro r w3 ⟨rfl, h3⟩
            go_wp2_with fail
            refine (Turn.spec_l03Turn _ _ _).mono ?_
            rintro r w4 ⟨rfl, rfl⟩
            rw [← HTT.out]
            go_wp2_with fail
            go_ret
            exact ⟨ret_bool H.out.symm, by repeat (first | exact On.refl _ | apply On.alloc | apply On.drewN | refine On.trans ?_ (by assumption))⟩
set_option maxHeartbeats 1000000 in
theorem impl_wedge (x y a b u v : Int) (w : World) (ht : TabG w) :
    Calls Tryd.prog 19 #[.agg #[.int .i64 x, .int .i64 y], .int .i64 a, .int .i64 b, .agg #[.int .i64 u, .int .i64 v]] w fun r w' => r = .returned (.bool (wedge x y a b u v)) ∧ On w w' := by
  cases k1 : okB x y with
  | false =>
    have H := Lib.hid (wedge_1 (a := a) (b := b) (u := u) (v := v) k1)
    go_enter Tryd.func19, Tryd.ntmps19
    go_wp2_with fail
    refine (impl_ok x y _).mono ?_
    rintro r w1 ⟨rfl, h1⟩
    obtain ⟨hc1, hf1⟩ := bcell h1
    obtain ⟨z1, z1'⟩ : w.heap.size < w1.heap.size ∧ w.heap.size + 1 < w1.heap.size := by have := h1.size; (try simp at this); omega
    go_wp2_with fail
    go_ret
    exact ⟨ret_bool H.out.symm, by repeat (first | exact On.refl _ | apply On.alloc | apply On.drewN | refine On.trans ?_ (by assumption))⟩
  | true =>
    cases k2 : okB u v with
    | false =>
      have H := Lib.hid (wedge_2 (a := a) (b := b) k1 k2)
      go_enter Tryd.func19, Tryd.ntmps19
      go_wp2_with fail
      refine (impl_ok x y _).mono ?_
      rintro r w1 ⟨rfl, h1⟩
      obtain ⟨hc1, hf1⟩ := bcell h1
      obtain ⟨z1, z1'⟩ : w.heap.size < w1.heap.size ∧ w.heap.size + 1 < w1.heap.size := by have := h1.size; (try simp at this); omega
      go_wp2_with fail
      refine (impl_ok u v _).mono ?_
      rintro r w2 ⟨rfl, h2⟩
      obtain ⟨hc2, hf2⟩ := bcell h2
      obtain ⟨z2, z2'⟩ : w.heap.size < w2.heap.size ∧ w.heap.size + 1 < w2.heap.size := by have := h2.size; (try simp at this); omega
      go_wp2_with fail
      go_ret
      exact ⟨ret_bool H.out.symm, by repeat (first | exact On.refl _ | apply On.alloc | apply On.drewN | refine On.trans ?_ (by assumption))⟩
    | true =>
      cases k3 : inB b 0 360 with
      | false =>
        have H := Lib.hid (wedge_3 (a := a) k1 k2 k3)
        go_enter Tryd.func19, Tryd.ntmps19
        go_wp2_with fail
        refine (impl_ok x y _).mono ?_
        rintro r w1 ⟨rfl, h1⟩
        obtain ⟨hc1, hf1⟩ := bcell h1
        obtain ⟨z1, z1'⟩ : w.heap.size < w1.heap.size ∧ w.heap.size + 1 < w1.heap.size := by have := h1.size; (try simp at this); omega
        go_wp2_with fail
        refine (impl_ok u v _).mono ?_
        rintro r w2 ⟨rfl, h2⟩
        obtain ⟨hc2, hf2⟩ := bcell h2
        obtain ⟨z2, z2'⟩ : w.heap.size < w2.heap.size ∧ w.heap.size + 1 < w2.heap.size := by have := h2.size; (try simp at this); omega
        go_wp2_with (go_at_call 28; refine (Arith.within _ _ _ _).mono ?_; rintro e w' ⟨rfl, rfl⟩)
        go_ret
        exact ⟨ret_bool H.out.symm, by repeat (first | exact On.refl _ | apply On.alloc | apply On.drewN | refine On.trans ?_ (by assumption))⟩
      | true =>
        by_cases he : x = u ∧ y = v
        · obtain ⟨rfl, rfl⟩ := he
          have H := Lib.hid (wedge_4 (a := a) k1 k3)
          go_enter Tryd.func19, Tryd.ntmps19
          go_wp2_with fail
          refine (impl_ok x y _).mono ?_
          rintro r w1 ⟨rfl, h1⟩
          obtain ⟨hc1, hf1⟩ := bcell h1
          obtain ⟨z1, z1'⟩ : w.heap.size < w1.heap.size ∧ w.heap.size + 1 < w1.heap.size := by have := h1.size; (try simp at this); omega
          go_wp2_with fail
          refine (impl_ok x y _).mono ?_
          rintro r w2 ⟨rfl, h2⟩
          obtain ⟨hc2, hf2⟩ := bcell h2
          obtain ⟨z2, z2'⟩ : w.heap.size < w2.heap.size ∧ w.heap.size + 1 < w2.heap.size := by have := h2.size; (try simp at this); omega
          go_wp2_with (go_at_call 28; refine (Arith.within _ _ _ _).mono ?_; rintro e w' ⟨rfl, rfl⟩)
          go_ret
          exact ⟨ret_bool H.out.symm, by repeat (first | exact On.refl _ | apply On.alloc | apply On.drewN | refine On.trans ?_ (by assumption))⟩
        · have H := Lib.hid (wedge_5 (a := a) k1 k2 k3 he)
          have hl := (fun (w1 : World) (h : On w w1) => impl_bearing_ok x y u v w1 k1 k2 (TabAt.on ht h))
          obtain ⟨bb, hbb⟩ : ∃ d, d = bearing (u - x) (v - y) := ⟨_, rfl⟩
          rw [← hbb] at hl H
          have HL := Lib.hid hl
          obtain ⟨t, htt⟩ : ∃ t, t = turn bb a := ⟨_, rfl⟩
          obtain ⟨t0, t1⟩ := turn_bd bb a
          rw [← htt] at H t0 t1
          clear hl hbb
          have HTT := Lib.hid htt
          clear htt ht
          by_cases hx : x = u
          · subst hx
            have hy : ¬ y = v := fun h => he ⟨rfl, h⟩
            have hy2 : ¬ v = y := fun h => hy h.symm
            have hy3 : (y == v) = false := beq_eq_false_iff_ne.2 hy
            have hy4 : (v == y) = false := beq_eq_false_iff_ne.2 hy2
            clear he
            go_enter Tryd.func19, Tryd.ntmps19
            go_wp2_with fail
            refine (impl_ok x y _).mono ?_
            rintro r w1 ⟨rfl, h1⟩
            obtain ⟨hc1, hf1⟩ := bcell h1
            obtain ⟨z1, z1'⟩ : w.heap.size < w1.heap.size ∧ w.heap.size + 1 < w1.heap.size := by have := h1.size; (try simp at this); omega
            go_wp2_with fail
            refine (impl_ok x v _).mono ?_
            rintro r w2 ⟨rfl, h2⟩
            obtain ⟨hc2, hf2⟩ := bcell h2
            obtain ⟨z2, z2'⟩ : w.heap.size < w2.heap.size ∧ w.heap.size + 1 < w2.heap.size := by have := h2.size; (try simp at this); omega
            go_wp2_with (go_at_call 28; refine (Arith.within _ _ _ _).mono ?_; rintro e w' ⟨rfl, rfl⟩)
            refine (HL.out _ (by repeat (first | exact On.refl _ | apply On.alloc | apply On.drewN | refine On.trans ?_ (by assumption)))).mono ?_
            rintro r w3 ⟨rfl, h3⟩
            go_wp2_with fail
            refine (Turn.impl_turn _ _ _).mono ?_
            rintro r w4 ⟨rfl, rfl⟩
            rw [← HTT.out]
            go_wp2_with fail
            go_ret
            exact ⟨ret_bool H.out.symm, by repeat (first | exact On.refl _ | apply On.alloc | apply On.drewN | refine On.trans ?_ (by assumption))⟩
          · have hx2 : ¬ u = x := fun h => hx h.symm
            have hx3 : (x == u) = false := beq_eq_false_iff_ne.2 hx
            have hx4 : (u == x) = false := beq_eq_false_iff_ne.2 hx2
            clear he
            go_enter Tryd.func19, Tryd.ntmps19
            go_wp2_with fail
            refine (impl_ok x y _).mono ?_
            rintro r w1 ⟨rfl, h1⟩
            obtain ⟨hc1, hf1⟩ := bcell h1
            obtain ⟨z1, z1'⟩ : w.heap.size < w1.heap.size ∧ w.heap.size + 1 < w1.heap.size := by have := h1.size; (try simp at this); omega
            go_wp2_with fail
            refine (impl_ok u v _).mono ?_
            rintro r w2 ⟨rfl, h2⟩
            obtain ⟨hc2, hf2⟩ := bcell h2
            obtain ⟨z2, z2'⟩ : w.heap.size < w2.heap.size ∧ w.heap.size + 1 < w2.heap.size := by have := h2.size; (try simp at this); omega
            go_wp2_with (go_at_call 28; refine (Arith.within _ _ _ _).mono ?_; rintro e w' ⟨rfl, rfl⟩)
            refine (HL.out _ (by repeat (first | exact On.refl _ | apply On.alloc | apply On.drewN | refine On.trans ?_ (by assumption)))).mono ?_
            rintro r w3 ⟨rfl, h3⟩
            go_wp2_with fail
            refine (Turn.impl_turn _ _ _).mono ?_
            rintro r w4 ⟨rfl, rfl⟩
            rw [← HTT.out]
            go_wp2_with fail
            go_ret
            exact ⟨ret_bool H.out.symm, by repeat (first | exact On.refl _ | apply On.alloc | apply On.drewN | refine On.trans ?_ (by assumption))⟩
end Go.Proofs.YthknpnoceabmbaaDoor.Bear
