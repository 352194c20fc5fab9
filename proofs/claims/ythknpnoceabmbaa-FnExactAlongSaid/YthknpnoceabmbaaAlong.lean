
/-
  What Along is, in the model and in the program. No condition.
-/
import Derived.Test.YthknpnoceabmbaaWay
namespace Go.Proofs.Ythknpnoceabmbaa.Way
open Go.RowKit
open Plain
open Point

/-- The answer: a point and a code. -/
def ans (x y c : Int) : Value := .tuple #[.agg #[.int .i64 x, .int .i64 y], .int .i64 c]
def alongR (x y u v i n : Int) : Value :=
  if okB x y = true ∧ okB u v = true then (if inB n 1 1000 = true ∧ inB i 0 n = true then ans (alongX x u i n) (alongX y v i n) 0 else ans 0 0 2) else ans 0 0 1
theorem alongR_1 {x y u v i n : Int} (h : okB x y = false) : alongR x y u v i n = ans 0 0 1 := if_neg (by rw [h]; simp)
theorem alongR_2 {x y u v i n : Int} (h : okB u v = false) : alongR x y u v i n = ans 0 0 1 := if_neg (by rw [h]; simp)
theorem alongR_3 {x y u v i n : Int} (h1 : okB x y = true) (h2 : okB u v = true) (h : inB n 1 1000 = false) : alongR x y u v i n = ans 0 0 2 := by
  unfold alongR; rw [if_pos ⟨h1, h2⟩, if_neg (by rw [h]; simp)]
theorem alongR_4 {x y u v i n : Int} (h1 : okB x y = true) (h2 : okB u v = true) (h : inB i 0 n = false) : alongR x y u v i n = ans 0 0 2 := by
  unfold alongR; rw [if_pos ⟨h1, h2⟩, if_neg (by rw [h]; simp)]
theorem alongR_5 {x y u v i n : Int} (h1 : okB x y = true) (h2 : okB u v = true) (h3 : inB n 1 1000 = true) (h4 : inB i 0 n = true) : alongR x y u v i n = ans (alongX x u i n) (alongX y v i n) 0 := by
  unfold alongR; rw [if_pos ⟨h1, h2⟩, if_pos ⟨h3, h4⟩]
set_option maxHeartbeats 1000000 in
theorem spec_along (x y u v i n : Int) (w : World) :
    Calls Try.prog 17 #[.agg #[.int .i64 x, .int .i64 y], .agg #[.int .i64 u, .int .i64 v], .int .i64 i, .int .i64 n] w fun e w' => e = .returned (alongR x y u v i n) ∧ On w w' := by
  cases k1 : okB x y with
  | false =>
    have H := Lib.hid (alongR_1 (u := u) (v := v) (i := i) (n := n) k1)
    go_enter Try.func17, Try.ntmps17
    go_wp2_with fail
    refine (spec_ok x y _).mono ?_
    rintro e w1 ⟨rfl, h1⟩
    obtain ⟨hc1, hf1⟩ := bcell h1
    obtain ⟨z1, z1', z1''⟩ : w.heap.size < w1.heap.size ∧ w.heap.size + 1 < w1.heap.size ∧ w.heap.size + 1 + 1 < w1.heap.size := by have := h1.size; (try simp at this); omega
    go_wp2_with fail
    refine bodyPost_ret (v := .tuple #[.agg #[.int .i64 0, .int .i64 0], .int .i64 1]) (by simp [results, Try.results17, go_sem, hc1]) rfl ⟨by rw [H.out]; rfl, ?_⟩
    repeat (first | exact On.refl _ | apply On.alloc | apply On.drewN | refine On.trans ?_ (by assumption) | refine On.setCell ?_ (by (try simp) <;> omega) _)
  | true =>
    cases k2 : okB u v with
    | false =>
      have H := Lib.hid (alongR_2 (x := x) (y := y) (i := i) (n := n) k2)
      go_enter Try.func17, Try.ntmps17
      go_wp2_with fail
      refine (spec_ok x y _).mono ?_
      rintro e w1 ⟨rfl, h1⟩
      obtain ⟨hc1, hf1⟩ := bcell h1
      obtain ⟨z1, z1', z1''⟩ : w.heap.size < w1.heap.size ∧ w.heap.size + 1 < w1.heap.size ∧ w.heap.size + 1 + 1 < w1.heap.size := by have := h1.size; (try simp at this); omega
      go_wp2_with fail
      refine (spec_ok u v _).mono ?_
      rintro e w2 ⟨rfl, h2⟩
      obtain ⟨hc2, hf2⟩ := bcell h2
      obtain ⟨z2, z2', z2''⟩ : w.heap.size < w2.heap.size ∧ w.heap.size + 1 < w2.heap.size ∧ w.heap.size + 1 + 1 < w2.heap.size := by have := h2.size; (try simp at this); omega
      go_wp2_with fail
      refine bodyPost_ret (v := .tuple #[.agg #[.int .i64 0, .int .i64 0], .int .i64 1]) (by simp [results, Try.results17, go_sem, hc1, hc2, z1'']) rfl ⟨by rw [H.out]; rfl, ?_⟩
      repeat (first | exact On.refl _ | apply On.alloc | apply On.drewN | refine On.trans ?_ (by assumption) | refine On.setCell ?_ (by (try simp) <;> omega) _)
    | true =>
      cases k3 : inB n 1 1000 with
      | false =>
        have H := Lib.hid (alongR_3 (i := i) k1 k2 k3)
        go_enter Try.func17, Try.ntmps17
        go_wp2_with fail
        refine (spec_ok x y _).mono ?_
        rintro e w1 ⟨rfl, h1⟩
        obtain ⟨hc1, hf1⟩ := bcell h1
        obtain ⟨z1, z1', z1''⟩ : w.heap.size < w1.heap.size ∧ w.heap.size + 1 < w1.heap.size ∧ w.heap.size + 1 + 1 < w1.heap.size := by have := h1.size; (try simp at this); omega
        go_wp2_with fail
        refine (spec_ok u v _).mono ?_
        rintro e w2 ⟨rfl, h2⟩
        obtain ⟨hc2, hf2⟩ := bcell h2
        obtain ⟨z2, z2', z2''⟩ : w.heap.size < w2.heap.size ∧ w.heap.size + 1 < w2.heap.size ∧ w.heap.size + 1 + 1 < w2.heap.size := by have := h2.size; (try simp at this); omega
        go_wp2_with (go_at_call 38; refine (Arith.l00In _ _ _ _).mono ?_; rintro e w' ⟨rfl, rfl⟩)
        refine bodyPost_ret (v := .tuple #[.agg #[.int .i64 0, .int .i64 0], .int .i64 2]) (by simp [results, Try.results17, go_sem, hc1, hc2, z1'']) rfl ⟨by rw [H.out]; rfl, ?_⟩
        repeat (first | exact On.refl _ | apply On.alloc | apply On.drewN | refine On.trans ?_ (by assumption) | refine On.setCell ?_ (by (try simp) <;> omega) _)
      | true =>
        cases k4 : inB i 0 n with
        | false =>
          have H := Lib.hid (alongR_4 k1 k2 k4)
          go_enter Try.func17, Try.ntmps17
          go_wp2_with fail
          refine (spec_ok x y _).mono ?_
          rintro e w1 ⟨rfl, h1⟩
          obtain ⟨hc1, hf1⟩ := bcell h1
          obtain ⟨z1, z1', z1''⟩ : w.heap.size < w1.heap.size ∧ w.heap.size + 1 < w1.heap.size ∧ w.heap.size + 1 + 1 < w1.heap.size := by have := h1.size; (try simp at this); omega
          go_wp2_with fail
          refine (spec_ok u v _).mono ?_
          rintro e w2 ⟨rfl, h2⟩
          obtain ⟨hc2, hf2⟩ := bcell h2
          obtain ⟨z2, z2', z2''⟩ : w.heap.size < w2.heap.size ∧ w.heap.size + 1 < w2.heap.size ∧ w.heap.size + 1 + 1 < w2.heap.size := by have := h2.size; (try simp at this); omega
          go_wp2_with (go_at_call 38; refine (Arith.l00In _ _ _ _).mono ?_; rintro e w' ⟨rfl, rfl⟩)
          refine bodyPost_ret (v := .tuple #[.agg #[.int .i64 0, .int .i64 0], .int .i64 2]) (by simp [results, Try.results17, go_sem, hc1, hc2, z1'']) rfl ⟨by rw [H.out]; rfl, ?_⟩
          repeat (first | exact On.refl _ | apply On.alloc | apply On.drewN | refine On.trans ?_ (by assumption) | refine On.setCell ?_ (by (try simp) <;> omega) _)
        | true =>
          have H := Lib.hid (alongR_5 k1 k2 k3 k4)
          have a3 := of_inB k3
          have a4 := of_inB k4
          have HL := Lib.hid (fun w => spec_l03Along x y u v i n w (of_okB k1) (of_okB k2) a4.1 (by omega) a3.1 a3.2)
          clear a3 a4
          go_enter Try.func17, Try.ntmps17
          go_wp2_with fail
          refine (spec_ok x y _).mono ?_
          rintro e w1 ⟨rfl, h1⟩
          obtain ⟨hc1, hf1⟩ := bcell h1
          obtain ⟨z1, z1', z1''⟩ : w.heap.size < w1.heap.size ∧ w.heap.size + 1 < w1.heap.size ∧ w.heap.size + 1 + 1 < w1.heap.size := by have := h1.size; (try simp at this); omega
          go_wp2_with fail
          refine (spec_ok u v _).mono ?_
          rintro e w2 ⟨rfl, h2⟩
          obtain ⟨hc2, hf2⟩ := bcell h2
          obtain ⟨z2, z2', z2''⟩ : w.heap.size < w2.heap.size ∧ w.heap.size + 1 < w2.heap.size ∧ w.heap.size + 1 + 1 < w2.heap.size := by have := h2.size; (try simp at this); omega
          go_wp2_with (go_at_call 38; refine (Arith.l00In _ _ _ _).mono ?_; rintro e w' ⟨rfl, rfl⟩)
          refine (HL.out _).mono ?_
          rintro e w3 ⟨rfl, h3⟩
          obtain ⟨hc3, hf3⟩ := bcell h3
          go_wp2_with fail
          refine bodyPost_ret (v := .tuple #[.agg #[.int .i64 (alongX x u i n), .int .i64 (alongX y v i n)], .int .i64 0]) (by simp [results, Try.results17, go_sem, hc1, hc2, hc3, z1'', z2'']) rfl ⟨by rw [H.out]; rfl, ?_⟩
          repeat (first | exact On.refl _ | apply On.alloc | apply On.drewN | refine On.trans ?_ (by assumption) | refine On.setCell ?_ (by (try simp) <;> omega) _)
set_option maxHeartbeats 1000000 in
theorem impl_along (x y u v i n : Int) (w : World) :
    Calls Try.prog 18 #[.agg #[.int .i64 x, .int .i64 y], .agg #[.int .i64 u, .int .i64 v], .int .i64 i, .int .i64 n] w fun e w' => e = .returned (alongR x y u v i n) ∧ On w w' := by
  cases k1 : okB x y with
  | false =>
    have H := Lib.hid (alongR_1 (u := u) (v := v) (i := i) (n := n) k1)
    go_enter Try.func18, Try.ntmps18
    go_wp2_with fail
    refine (impl_ok x y _).mono ?_
    rintro e w1 ⟨rfl, h1⟩
    obtain ⟨hc1, hf1⟩ := bcell h1
    obtain ⟨z1, z1', z1''⟩ : w.heap.size < w1.heap.size ∧ w.heap.size + 1 < w1.heap.size ∧ w.heap.size + 1 + 1 < w1.heap.size := by have := h1.size; (try simp at this); omega
    go_wp2_with fail
    refine bodyPost_ret (v := .tuple #[.agg #[.int .i64 0, .int .i64 0], .int .i64 1]) (by simp [results, Try.results18, go_sem, hc1]) rfl ⟨by rw [H.out]; rfl, ?_⟩
    repeat (first | exact On.refl _ | apply On.alloc | apply On.drewN | refine On.trans ?_ (by assumption) | refine On.setCell ?_ (by (try simp) <;> omega) _)
  | true =>
    cases k2 : okB u v with
    | false =>
      have H := Lib.hid (alongR_2 (x := x) (y := y) (i := i) (n := n) k2)
      go_enter Try.func18, Try.ntmps18
      go_wp2_with fail
      refine (impl_ok x y _).mono ?_
      rintro e w1 ⟨rfl, h1⟩
      obtain ⟨hc1, hf1⟩ := bcell h1
      obtain ⟨z1, z1', z1''⟩ : w.heap.size < w1.heap.size ∧ w.heap.size + 1 < w1.heap.size ∧ w.heap.size + 1 + 1 < w1.heap.size := by have := h1.size; (try simp at this); omega
      go_wp2_with fail
      refine (impl_ok u v _).mono ?_
      rintro e w2 ⟨rfl, h2⟩
      obtain ⟨hc2, hf2⟩ := bcell h2
      obtain ⟨z2, z2', z2''⟩ : w.heap.size < w2.heap.size ∧ w.heap.size + 1 < w2.heap.size ∧ w.heap.size + 1 + 1 < w2.heap.size := by have := h2.size; (try simp at this); omega
      go_wp2_with fail
      refine bodyPost_ret (v := .tuple #[.agg #[.int .i64 0, .int .i64 0], .int .i64 1]) (by simp [results, Try.results18, go_sem, hc1, hc2, z1'']) rfl ⟨by rw [H.out]; rfl, ?_⟩
      repeat (first | exact On.refl _ | apply On.alloc | apply On.drewN | refine On.trans ?_ (by assumption) | refine On.setCell ?_ (by (try simp) <;> omega) _)
    | true =>
      cases k3 : inB n 1 1000 with
      | false =>
        have H := Lib.hid (alongR_3 (i := i) k1 k2 k3)
        go_enter Try.func18, Try.ntmps18
        go_wp2_with fail
        refine (impl_ok x y _).mono ?_
        rintro e w1 ⟨rfl, h1⟩
        obtain ⟨hc1, hf1⟩ := bcell h1
        obtain ⟨z1, z1', z1''⟩ : w.heap.size < w1.heap.size ∧ w.heap.size + 1 < w1.heap.size ∧ w.heap.size + 1 + 1 < w1.heap.size := by have := h1.size; (try simp at this); omega
        go_wp2_with fail
        refine (impl_ok u v _).mono ?_
        rintro e w2 ⟨rfl, h2⟩
        obtain ⟨hc2, hf2⟩ := bcell h2
        obtain ⟨z2, z2', z2''⟩ : w.heap.size < w2.heap.size ∧ w.heap.size + 1 < w2.heap.size ∧ w.heap.size + 1 + 1 < w2.heap.size := by have := h2.size; (try simp at this); omega
        go_wp2_with (go_at_call 30; refine (Arith.within _ _ _ _).mono ?_; rintro e w' ⟨rfl, rfl⟩)
        refine bodyPost_ret (v := .tuple #[.agg #[.int .i64 0, .int .i64 0], .int .i64 2]) (by simp [results, Try.results18, go_sem, hc1, hc2, z1'']) rfl ⟨by rw [H.out]; rfl, ?_⟩
        repeat (first | exact On.refl _ | apply On.alloc | apply On.drewN | refine On.trans ?_ (by assumption) | refine On.setCell ?_ (by (try simp) <;> omega) _)
      | true =>
        cases k4 : inB i 0 n with
        | false =>
          have H := Lib.hid (alongR_4 k1 k2 k4)
          go_enter Try.func18, Try.ntmps18
          go_wp2_with fail
          refine (impl_ok x y _).mono ?_
          rintro e w1 ⟨rfl, h1⟩
          obtain ⟨hc1, hf1⟩ := bcell h1
          obtain ⟨z1, z1', z1''⟩ : w.heap.size < w1.heap.size ∧ w.heap.size + 1 < w1.heap.size ∧ w.heap.size + 1 + 1 < w1.heap.size := by have := h1.size; (try simp at this); omega
          go_wp2_with fail
          refine (impl_ok u v _).mono ?_
          rintro e w2 ⟨rfl, h2⟩
          obtain ⟨hc2, hf2⟩ := bcell h2
          obtain ⟨z2, z2', z2''⟩ : w.heap.size < w2.heap.size ∧ w.heap.size + 1 < w2.heap.size ∧ w.heap.size + 1 + 1 < w2.heap.size := by have := h2.size; (try simp at this); omega
          go_wp2_with (go_at_call 30; refine (Arith.within _ _ _ _).mono ?_; rintro e w' ⟨rfl, rfl⟩)
          refine bodyPost_ret (v := .tuple #[.agg #[.int .i64 0, .int .i64 0], .int .i64 2]) (by simp [results, Try.results18, go_sem, hc1, hc2, z1'']) rfl ⟨by rw [H.out]; rfl, ?_⟩
          repeat (first | exact On.refl _ | apply On.alloc | apply On.drewN | refine On.trans ?_ (by assumption) | refine On.setCell ?_ (by (try simp) <;> omega) _)
        | true =>
          have H := Lib.hid (alongR_5 k1 k2 k3 k4)
          have a3 := of_inB k3
          have a4 := of_inB k4
          obtain ⟨x0, x1, y0, y1⟩ := of_okB k1
          obtain ⟨u0, u1, v0, v1⟩ := of_okB k2
          obtain ⟨p1, p2⟩ := prod_in (a := u - x) (i := i) (by omega) (by omega) a4.1 (by omega)
          obtain ⟨q1, q2⟩ := prod_in (a := v - y) (i := i) (by omega) (by omega) a4.1 (by omega)
          have s1 := near_le ((u - x) * i) n (by omega) 200000000 (by omega) (by omega)
          have s2 := near_le ((v - y) * i) n (by omega) 200000000 (by omega) (by omega)
          have HW := Lib.hid (fun w => impl_wayTo x y u v w (by omega) (by omega) (by omega) (by omega))
          have HS := Lib.hid (fun w => impl_scaled (u - x) (v - y) i n w (by omega) (by omega) (by omega) (by omega) (by omega) (by omega) (by omega))
          have HM := Lib.hid (fun w => impl_moved x y (near ((u - x) * i) n) (near ((v - y) * i) n) w (by omega) (by omega) (by omega) (by omega))
          clear a3 a4 p1 p2 q1 q2 s1 s2 x0 x1 y0 y1 u0 u1 v0 v1
          go_enter Try.func18, Try.ntmps18
          go_wp2_with fail
          refine (impl_ok x y _).mono ?_
          rintro e w1 ⟨rfl, h1⟩
          obtain ⟨hc1, hf1⟩ := bcell h1
          obtain ⟨z1, z1', z1''⟩ : w.heap.size < w1.heap.size ∧ w.heap.size + 1 < w1.heap.size ∧ w.heap.size + 1 + 1 < w1.heap.size := by have := h1.size; (try simp at this); omega
          go_wp2_with fail
          refine (impl_ok u v _).mono ?_
          rintro e w2 ⟨rfl, h2⟩
          obtain ⟨hc2, hf2⟩ := bcell h2
          obtain ⟨z2, z2', z2''⟩ : w.heap.size < w2.heap.size ∧ w.heap.size + 1 < w2.heap.size ∧ w.heap.size + 1 + 1 < w2.heap.size := by have := h2.size; (try simp at this); omega
          go_wp2_with (go_at_call 30; refine (Arith.within _ _ _ _).mono ?_; rintro e w' ⟨rfl, rfl⟩)
          refine wp_region_on_tail 8 (by kernel_rfl) (by kernel_rfl) ?_
          simp only [List.take_succ_cons, List.take_zero, List.drop_succ_cons, List.drop_zero]
          repeat (refine wpQuiet_step (fun K hK => ?_); go_simp; first | (refine hK _ ?_; clear hK K) | (apply Exists.intro; refine ⟨fun v1 hv1 => ?_, hK _ ?_⟩; (first | with_reducible exact rfl | with_reducible exact ⟨rfl, rfl⟩ | with_reducible exact Calls.on hv1 (HW.out _) | with_reducible exact Calls.on hv1 (HS.out _) | with_reducible exact Calls.on hv1 (HM.out _) | (obtain ⟨hc, hf⟩ := bcell hv1; go_simp; first | exact rfl | exact ⟨rfl, rfl⟩)); clear hK K))
          refine wpQuiet_nil ?_
          intro w3 h3
          obtain ⟨hc3, hf3⟩ := bcell h3
          go_wp2_with fail
          refine bodyPost_ret (v := .tuple #[.agg #[.int .i64 (alongX x u i n), .int .i64 (alongX y v i n)], .int .i64 0]) (by simp [results, Try.results18, go_sem, hc1, hc2, hc3, z1'', z2'', alongX]) rfl ⟨by rw [H.out]; rfl, ?_⟩
          repeat (first | exact On.refl _ | apply On.alloc | apply On.drewN | refine On.trans ?_ (by assumption) | refine On.setCell ?_ (by (try simp) <;> omega) _)
theorem alongR_form (x y u v i n : Int) : ∃ p q c : Int, alongR x y u v i n = .tuple #[.agg #[.int .i64 p, .int .i64 q], .int .i64 c] := by
  unfold alongR
  split
  · split
    · exact ⟨_, _, _, rfl⟩
    · exact ⟨_, _, _, rfl⟩
  · exact ⟨_, _, _, rfl⟩
theorem laws_eqPoint (x y : Int) (w : World) :
    Calls Try.prog 19 #[.agg #[.int .i64 x, .int .i64 y], .agg #[.int .i64 x, .int .i64 y]] w fun e w' => e = .returned (.bool true) ∧ On w w' := by
  go_enter Try.func19, Try.ntmps19
  go_wp2
  go_ret
  exact ⟨rfl, by repeat (first | exact On.refl _ | apply On.alloc)⟩
end Go.Proofs.Ythknpnoceabmbaa.Way
