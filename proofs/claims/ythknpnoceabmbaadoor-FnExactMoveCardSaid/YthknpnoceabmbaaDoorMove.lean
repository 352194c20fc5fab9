
/-
  What Move is, in the model and in the program. Condition: the program's variable of sines holds what its text lays.
-/
import Derived.Test.YthknpnoceabmbaaDoorSine
import Derived.Test.YthknpnoceabmbaaDoorWay
import Derived.Test.YthknpnoceabmbaaDoorHeld
namespace Go.Proofs.YthknpnoceabmbaaDoor.Move
open Go.RowKit
open Plain
open Sine (TabG TabAt)
open Point

/-- The answer: a point and a code. -/
def ans (x y c : Int) : Value := .tuple #[.agg #[.int .i64 x, .int .i64 y], .int .i64 c]
def mX (x b d : Int) : Int := x + near (d * sine b) 1000000
def mY (y b d : Int) : Int := y + near (d * cosine b) 1000000
def moveR (x y b d : Int) : Value :=
  if okB x y = true then (if inB d 0 400000 = true then (if okB (mX x b d) (mY y b d) = true then ans (mX x b d) (mY y b d) 0 else ans 0 0 6) else ans 0 0 2) else ans 0 0 1
theorem moveR_1 {x y b d : Int} (h : okB x y = false) : moveR x y b d = ans 0 0 1 := if_neg (by rw [h]; simp)
theorem moveR_2 {x y b d : Int} (h1 : okB x y = true) (h : inB d 0 400000 = false) : moveR x y b d = ans 0 0 2 := by unfold moveR; rw [if_pos h1, if_neg (by rw [h]; simp)]
theorem moveR_3 {x y b d : Int} (h1 : okB x y = true) (h2 : inB d 0 400000 = true) (h : okB (mX x b d) (mY y b d) = false) : moveR x y b d = ans 0 0 6 := by unfold moveR; rw [if_pos h1, if_pos h2, if_neg (by rw [h]; simp)]
theorem moveR_4 {x y b d : Int} (h1 : okB x y = true) (h2 : inB d 0 400000 = true) (h : okB (mX x b d) (mY y b d) = true) : moveR x y b d = ans (mX x b d) (mY y b d) 0 := by unfold moveR; rw [if_pos h1, if_pos h2, if_pos h]
theorem moveR_form (x y b d : Int) : ∃ p q c : Int, moveR x y b d = .tuple #[.agg #[.int .i64 p, .int .i64 q], .int .i64 c] := by
  unfold moveR
  split
  · split
    · split
      · exact ⟨_, _, _, rfl⟩
      · exact ⟨_, _, _, rfl⟩
    · exact ⟨_, _, _, rfl⟩
  · exact ⟨_, _, _, rfl⟩
theorem prod_d {d s : Int} (d0 : 0 ≤ d) (d1 : d ≤ 400000) (s0 : -1000000 ≤ s) (s1 : s ≤ 1000000) : -400000000000 ≤ d * s ∧ d * s ≤ 400000000000 := by
  have p1 : d * -1000000 ≤ d * s := Int.mul_le_mul_of_nonneg_left s0 d0
  have p2 : d * s ≤ d * 1000000 := Int.mul_le_mul_of_nonneg_left s1 d0
  omega
theorem heldM {W w' : World} {b g : Nat} {u v x y : Value} (h0 : W.cell? ⟨b, 0, none⟩ = some u) (h1 : W.cell? ⟨b, 1, none⟩ = some v) (h2 : W.cell? ⟨g, 0, none⟩ = some x) (h3 : W.cell? ⟨g, 1, none⟩ = some y) (h : On W w') :
    On W w' ∧ w'.cell? ⟨b, 0, none⟩ = some u ∧ w'.cell? ⟨b, 1, none⟩ = some v ∧ w'.cell? ⟨g, 0, none⟩ = some x ∧ w'.cell? ⟨g, 1, none⟩ = some y :=
  ⟨h, (h.cell (World.block_lt_of_cell? W _ h0)).trans h0, (h.cell (World.block_lt_of_cell? W _ h1)).trans h1, (h.cell (World.block_lt_of_cell? W _ h2)).trans h2, (h.cell (World.block_lt_of_cell? W _ h3)).trans h3⟩
set_option maxHeartbeats 2000000 in
theorem spec_move (x y b d : Int) (w : World) :
    Calls Tryd.prog 12 #[.agg #[.int .i64 x, .int .i64 y], .int .i64 b, .int .i64 d] w fun e w' => e = .returned (moveR x y b d) ∧ On w w' := by
  cases k1 : okB x y with
  | false =>
    have H := Lib.hid (moveR_1 (b := b) (d := d) k1)
    go_enter Tryd.func12, Tryd.ntmps12
    go_wp2_with fail
    refine (spec_ok x y _).mono ?_
    rintro e w1 ⟨rfl, h1⟩
    obtain ⟨hc1, hf1⟩ := bcell h1
    obtain ⟨z1, z1'⟩ : w.heap.size < w1.heap.size ∧ w.heap.size + 1 < w1.heap.size := by have := h1.size; (try simp at this); omega
    go_wp2_with fail
    refine bodyPost_ret (v := .tuple #[.agg #[.int .i64 0, .int .i64 0], .int .i64 1]) (by simp [results, Tryd.results12, go_sem, hc1]) rfl ⟨by rw [H.out]; rfl, ?_⟩
    repeat (first | exact On.refl _ | apply On.alloc | apply On.drewN | refine On.trans ?_ (by assumption) | refine On.setCell ?_ (by (try simp) <;> omega) _)
  | true =>
    cases k2 : inB d 0 400000 with
    | false =>
      have H := Lib.hid (moveR_2 (b := b) k1 k2)
      go_enter Tryd.func12, Tryd.ntmps12
      go_wp2_with fail
      refine (spec_ok x y _).mono ?_
      rintro e w1 ⟨rfl, h1⟩
      obtain ⟨hc1, hf1⟩ := bcell h1
      obtain ⟨z1, z1'⟩ : w.heap.size < w1.heap.size ∧ w.heap.size + 1 < w1.heap.size := by have := h1.size; (try simp at this); omega
      go_wp2_with (go_at_call 25; refine (Arith.l00In _ _ _ _).mono ?_; rintro e w' ⟨rfl, rfl⟩)
      refine bodyPost_ret (v := .tuple #[.agg #[.int .i64 0, .int .i64 0], .int .i64 2]) (by simp [results, Tryd.results12, go_sem, hc1]) rfl ⟨by rw [H.out]; rfl, ?_⟩
      repeat (first | exact On.refl _ | apply On.alloc | apply On.drewN | refine On.trans ?_ (by assumption) | refine On.setCell ?_ (by (try simp) <;> omega) _)
    | true =>
      cases k3 : okB (mX x b d) (mY y b d) with
      | false =>
        have H := Lib.hid (moveR_3 k1 k2 k3)
        have a2 := of_inB k2
        obtain ⟨x0, x1, y0, y1⟩ := of_okB k1
        obtain ⟨s0, s1⟩ := sine_bd b
        obtain ⟨c0, c1⟩ := cosine_bd b
        obtain ⟨p0, p1⟩ := prod_d a2.1 a2.2 s0 s1
        obtain ⟨q0, q1⟩ := prod_d a2.1 a2.2 c0 c1
        have n1 := near_le (d * sine b) 1000000 (by omega) 400000000000 (by omega) (by omega)
        have n2 := near_le (d * cosine b) 1000000 (by omega) 400000000000 (by omega) (by omega)
        obtain ⟨X, hX⟩ : ∃ X, X = mX x b d := ⟨_, rfl⟩
        obtain ⟨Y, hY⟩ : ∃ Y, Y = mY y b d := ⟨_, rfl⟩
        have HK := Lib.hid (fun w => spec_ok X Y w)
        rw [← hX, ← hY] at k3
        rw [k3] at HK
        have xX : x + near (d * sine b) 1000000 = X := hX.symm
        have yY : y + near (d * cosine b) 1000000 = Y := hY.symm
        have D1 := Lib.hid (fun w => Arith.l01Div (d * sine b) 1000000 w (by omega) (by omega) (by omega) (by omega) (by omega))
        have D2 := Lib.hid (fun w => Arith.l01Div (d * cosine b) 1000000 w (by omega) (by omega) (by omega) (by omega) (by omega))
        have e1 : IntKind.i64.wrap (d * sine b) = d * sine b := IntWalk.i64_in _ (by omega)
        have e2 : IntKind.i64.wrap (d * cosine b) = d * cosine b := IntWalk.i64_in _ (by omega)
        have e3 : IntKind.i64.wrap (x + near (d * sine b) 1000000) = X := by rw [xX]; exact IntWalk.i64_in _ (by omega)
        have e4 : IntKind.i64.wrap (y + near (d * cosine b) 1000000) = Y := by rw [yY]; exact IntWalk.i64_in _ (by omega)
        have d0 := a2.1
        have d9 := a2.2
        clear a2 x0 x1 y0 y1 s0 s1 c0 c1 p0 p1 q0 q1 n1 n2 hX hY xX yY k3
        go_enter Tryd.func12, Tryd.ntmps12
        go_wp2_with fail
        refine (spec_ok x y _).mono ?_
        rintro e w1 ⟨rfl, h1⟩
        obtain ⟨hc1, hf1⟩ := bcell h1
        obtain ⟨z1, z1'⟩ : w.heap.size < w1.heap.size ∧ w.heap.size + 1 < w1.heap.size := by have := h1.size; (try simp at this); omega
        have k0 : w1.cell? ⟨w.heap.size, 0, none⟩ = some (.int .i64 x) := (hc1 _ _ (by simp; omega)).trans (by simp [go_sem])
        have k9 : w1.cell? ⟨w.heap.size, 1, none⟩ = some (.int .i64 y) := (hc1 _ _ (by simp; omega)).trans (by simp [go_sem])
        have K0 := Lib.hid k0
        have K1 := Lib.hid k9
        clear k0 k9
        go_upto_region 5 with (go_at_call 25; refine (Arith.l00In _ _ _ _).mono ?_; rintro e w' ⟨rfl, rfl⟩)
        go_cut [8] (fun sa wx => ∃ g : Nat, sa = .pointer (some ⟨g, 0, none⟩) ∧ w1.heap.size ≤ g ∧ g < wx.heap.size ∧ wx.cell? ⟨g, 0, none⟩ = some (.int .i64 X) ∧ wx.cell? ⟨g, 1, none⟩ = some (.int .i64 Y) ∧ On w1 wx)
        case first =>
          go_region_held3 (fun w' => On w1 w' ∧ w'.cell? ⟨w.heap.size, 0, none⟩ = some (.int .i64 x) ∧ w'.cell? ⟨w.heap.size, 1, none⟩ = some (.int .i64 y))
            ((refine held1 K0.out K1.out ?_; repeat (first | exact On.refl _ | assumption | apply On.alloc | apply On.drew | (obtain ⟨hOW, _⟩ := ‹On w1 _ ∧ _›; exact hOW) | (refine On.setCell ?_ (by (try simp) <;> omega) _) | (refine On.trans ?_ (by assumption)))))
            (first
              | (go_at_call 8; refine (Sine.spec_sine b _).mono ?_; rintro e w' ⟨rfl, hcall⟩; (try (with_reducible replace hcall := On.undrew hcall)); obtain ⟨hc, hf⟩ := bcell hcall; have hgr := hcall.lts; (try (have hl1 := hgr _ (by assumption))); (try (have hl0 := On.last hcall)); have hsz := hcall.size; (try simp at hsz))
              | (go_at_call 10; refine (Sine.spec_cosine b _).mono ?_; rintro e w' ⟨rfl, hcall⟩; (try (with_reducible replace hcall := On.undrew hcall)); obtain ⟨hc, hf⟩ := bcell hcall; have hgr := hcall.lts; (try (have hl1 := hgr _ (by assumption))); (try (have hl0 := On.last hcall)); have hsz := hcall.size; (try simp at hsz))
              | (go_at_call 26; ((with_reducible refine (D1.out _).mono ?_); rintro e w' ⟨rfl, rfl⟩))
              | (go_at_call 26; ((with_reducible refine (D2.out _).mono ?_); rintro e w' ⟨rfl, rfl⟩)))
          all_goals
            go_wp2_with fail
            go_meet
            refine ⟨_, rfl, ?_, ?_, ?_, ?_, ?_⟩
            · (try simp) <;> omega
            · (try simp) <;> omega
            · go_simp
            · go_simp
            · repeat (first | exact On.refl _ | assumption | apply On.alloc | apply On.drew | (obtain ⟨hOW, _⟩ := ‹On w1 _ ∧ _›; exact hOW) | (refine On.setCell ?_ (by (try simp) <;> omega) _) | (refine On.trans ?_ (by assumption)))
        case rest =>
          obtain ⟨g, rfl, hg1, hg2, d2, d3, hO⟩ := hcut
          obtain ⟨hc2, hf2⟩ := bcell hO
          obtain ⟨z2, z2'⟩ : w.heap.size < wc.heap.size ∧ w.heap.size + 1 < wc.heap.size := by have := hO.size; omega
          go_wp2_with fail
          refine (HK.out _).mono ?_
          rintro e w3 ⟨rfl, h3⟩
          obtain ⟨hc3, hf3⟩ := bcell h3
          go_wp2_with fail
          refine bodyPost_ret (v := .tuple #[.agg #[.int .i64 0, .int .i64 0], .int .i64 6]) (by simp [results, Tryd.results12, go_sem, hc1, hc2, hc3, z1', z2']) rfl ⟨by rw [H.out]; rfl, ?_⟩
          repeat (first | exact On.refl _ | apply On.alloc | apply On.drewN | refine On.trans ?_ (by assumption) | refine On.setCell ?_ (by (try simp) <;> omega) _)
      | true =>
        have H := Lib.hid (moveR_4 k1 k2 k3)
        have a2 := of_inB k2
        obtain ⟨x0, x1, y0, y1⟩ := of_okB k1
        obtain ⟨s0, s1⟩ := sine_bd b
        obtain ⟨c0, c1⟩ := cosine_bd b
        obtain ⟨p0, p1⟩ := prod_d a2.1 a2.2 s0 s1
        obtain ⟨q0, q1⟩ := prod_d a2.1 a2.2 c0 c1
        have n1 := near_le (d * sine b) 1000000 (by omega) 400000000000 (by omega) (by omega)
        have n2 := near_le (d * cosine b) 1000000 (by omega) 400000000000 (by omega) (by omega)
        obtain ⟨X, hX⟩ : ∃ X, X = mX x b d := ⟨_, rfl⟩
        obtain ⟨Y, hY⟩ : ∃ Y, Y = mY y b d := ⟨_, rfl⟩
        have HK := Lib.hid (fun w => spec_ok X Y w)
        rw [← hX, ← hY] at k3
        rw [k3] at HK
        rw [← hX, ← hY] at H
        have xX : x + near (d * sine b) 1000000 = X := hX.symm
        have yY : y + near (d * cosine b) 1000000 = Y := hY.symm
        have D1 := Lib.hid (fun w => Arith.l01Div (d * sine b) 1000000 w (by omega) (by omega) (by omega) (by omega) (by omega))
        have D2 := Lib.hid (fun w => Arith.l01Div (d * cosine b) 1000000 w (by omega) (by omega) (by omega) (by omega) (by omega))
        have e1 : IntKind.i64.wrap (d * sine b) = d * sine b := IntWalk.i64_in _ (by omega)
        have e2 : IntKind.i64.wrap (d * cosine b) = d * cosine b := IntWalk.i64_in _ (by omega)
        have e3 : IntKind.i64.wrap (x + near (d * sine b) 1000000) = X := by rw [xX]; exact IntWalk.i64_in _ (by omega)
        have e4 : IntKind.i64.wrap (y + near (d * cosine b) 1000000) = Y := by rw [yY]; exact IntWalk.i64_in _ (by omega)
        have d0 := a2.1
        have d9 := a2.2
        clear a2 x0 x1 y0 y1 s0 s1 c0 c1 p0 p1 q0 q1 n1 n2 hX hY xX yY k3
        go_enter Tryd.func12, Tryd.ntmps12
        go_wp2_with fail
        refine (spec_ok x y _).mono ?_
        rintro e w1 ⟨rfl, h1⟩
        obtain ⟨hc1, hf1⟩ := bcell h1
        obtain ⟨z1, z1'⟩ : w.heap.size < w1.heap.size ∧ w.heap.size + 1 < w1.heap.size := by have := h1.size; (try simp at this); omega
        have k0 : w1.cell? ⟨w.heap.size, 0, none⟩ = some (.int .i64 x) := (hc1 _ _ (by simp; omega)).trans (by simp [go_sem])
        have k9 : w1.cell? ⟨w.heap.size, 1, none⟩ = some (.int .i64 y) := (hc1 _ _ (by simp; omega)).trans (by simp [go_sem])
        have K0 := Lib.hid k0
        have K1 := Lib.hid k9
        clear k0 k9
        go_upto_region 5 with (go_at_call 25; refine (Arith.l00In _ _ _ _).mono ?_; rintro e w' ⟨rfl, rfl⟩)
        go_cut [8] (fun sa wx => ∃ g : Nat, sa = .pointer (some ⟨g, 0, none⟩) ∧ w1.heap.size ≤ g ∧ g < wx.heap.size ∧ wx.cell? ⟨g, 0, none⟩ = some (.int .i64 X) ∧ wx.cell? ⟨g, 1, none⟩ = some (.int .i64 Y) ∧ On w1 wx)
        case first =>
          go_region_held3 (fun w' => On w1 w' ∧ w'.cell? ⟨w.heap.size, 0, none⟩ = some (.int .i64 x) ∧ w'.cell? ⟨w.heap.size, 1, none⟩ = some (.int .i64 y))
            ((refine held1 K0.out K1.out ?_; repeat (first | exact On.refl _ | assumption | apply On.alloc | apply On.drew | (obtain ⟨hOW, _⟩ := ‹On w1 _ ∧ _›; exact hOW) | (refine On.setCell ?_ (by (try simp) <;> omega) _) | (refine On.trans ?_ (by assumption)))))
            (first
              | (go_at_call 8; refine (Sine.spec_sine b _).mono ?_; rintro e w' ⟨rfl, hcall⟩; (try (with_reducible replace hcall := On.undrew hcall)); obtain ⟨hc, hf⟩ := bcell hcall; have hgr := hcall.lts; (try (have hl1 := hgr _ (by assumption))); (try (have hl0 := On.last hcall)); have hsz := hcall.size; (try simp at hsz))
              | (go_at_call 10; refine (Sine.spec_cosine b _).mono ?_; rintro e w' ⟨rfl, hcall⟩; (try (with_reducible replace hcall := On.undrew hcall)); obtain ⟨hc, hf⟩ := bcell hcall; have hgr := hcall.lts; (try (have hl1 := hgr _ (by assumption))); (try (have hl0 := On.last hcall)); have hsz := hcall.size; (try simp at hsz))
              | (go_at_call 26; ((with_reducible refine (D1.out _).mono ?_); rintro e w' ⟨rfl, rfl⟩))
              | (go_at_call 26; ((with_reducible refine (D2.out _).mono ?_); rintro e w' ⟨rfl, rfl⟩)))
          all_goals
            go_wp2_with fail
            go_meet
            refine ⟨_, rfl, ?_, ?_, ?_, ?_, ?_⟩
            · (try simp) <;> omega
            · (try simp) <;> omega
            · go_simp
            · go_simp
            · repeat (first | exact On.refl _ | assumption | apply On.alloc | apply On.drew | (obtain ⟨hOW, _⟩ := ‹On w1 _ ∧ _›; exact hOW) | (refine On.setCell ?_ (by (try simp) <;> omega) _) | (refine On.trans ?_ (by assumption)))
        case rest =>
          obtain ⟨g, rfl, hg1, hg2, d2, d3, hO⟩ := hcut
          obtain ⟨hc2, hf2⟩ := bcell hO
          obtain ⟨z2, z2'⟩ : w.heap.size < wc.heap.size ∧ w.heap.size + 1 < wc.heap.size := by have := hO.size; omega
          go_wp2_with fail
          refine (HK.out _).mono ?_
          rintro e w3 ⟨rfl, h3⟩
          obtain ⟨hc3, hf3⟩ := bcell h3
          go_wp2_with fail
          refine bodyPost_ret (v := .tuple #[.agg #[.int .i64 X, .int .i64 Y], .int .i64 0]) (by simp [results, Tryd.results12, go_sem, hc1, hc2, hc3, z1', z2']) rfl ⟨by rw [H.out]; rfl, ?_⟩
          repeat (first | exact On.refl _ | apply On.alloc | apply On.drewN | refine On.trans ?_ (by assumption) | refine On.setCell ?_ (by (try simp) <;> omega) _)
set_option maxHeartbeats 2000000 in
theorem impl_move (x y b d : Int) (w : World) (ht : TabG w) :
    Calls Tryd.prog 14 #[.agg #[.int .i64 x, .int .i64 y], .int .i64 b, .int .i64 d] w fun e w' => e = .returned (moveR x y b d) ∧ On w w' := by
  cases k1 : okB x y with
  | false =>
    have H := Lib.hid (moveR_1 (b := b) (d := d) k1)
    go_enter Tryd.func14, Tryd.ntmps14
    go_wp2_with fail
    refine (impl_ok x y _).mono ?_
    rintro e w1 ⟨rfl, h1⟩
    obtain ⟨hc1, hf1⟩ := bcell h1
    obtain ⟨z1, z1'⟩ : w.heap.size < w1.heap.size ∧ w.heap.size + 1 < w1.heap.size := by have := h1.size; (try simp at this); omega
    go_wp2_with fail
    refine bodyPost_ret (v := .tuple #[.agg #[.int .i64 0, .int .i64 0], .int .i64 1]) (by simp [results, Tryd.results14, go_sem, hc1]) rfl ⟨by rw [H.out]; rfl, ?_⟩
    repeat (first | exact On.refl _ | apply On.alloc | apply On.drewN | refine On.trans ?_ (by assumption) | refine On.setCell ?_ (by (try simp) <;> omega) _)
  | true =>
    cases k2 : inB d 0 400000 with
    | false =>
      have H := Lib.hid (moveR_2 (b := b) k1 k2)
      go_enter Tryd.func14, Tryd.ntmps14
      go_wp2_with fail
      refine (impl_ok x y _).mono ?_
      rintro e w1 ⟨rfl, h1⟩
      obtain ⟨hc1, hf1⟩ := bcell h1
      obtain ⟨z1, z1'⟩ : w.heap.size < w1.heap.size ∧ w.heap.size + 1 < w1.heap.size := by have := h1.size; (try simp at this); omega
      go_wp2_with (go_at_call 28; refine (Arith.within _ _ _ _).mono ?_; rintro e w' ⟨rfl, rfl⟩)
      refine bodyPost_ret (v := .tuple #[.agg #[.int .i64 0, .int .i64 0], .int .i64 2]) (by simp [results, Tryd.results14, go_sem, hc1]) rfl ⟨by rw [H.out]; rfl, ?_⟩
      repeat (first | exact On.refl _ | apply On.alloc | apply On.drewN | refine On.trans ?_ (by assumption) | refine On.setCell ?_ (by (try simp) <;> omega) _)
    | true =>
      cases k3 : okB (mX x b d) (mY y b d) with
      | false =>
        have H := Lib.hid (moveR_3 k1 k2 k3)
        have a2 := of_inB k2
        obtain ⟨x0, x1, y0, y1⟩ := of_okB k1
        obtain ⟨s0, s1⟩ := sine_bd b
        obtain ⟨c0, c1⟩ := cosine_bd b
        obtain ⟨p0, p1⟩ := prod_d a2.1 a2.2 s0 s1
        obtain ⟨q0, q1⟩ := prod_d a2.1 a2.2 c0 c1
        have n1 := near_le (d * sine b) 1000000 (by omega) 400000000000 (by omega) (by omega)
        have n2 := near_le (d * cosine b) 1000000 (by omega) 400000000000 (by omega) (by omega)
        obtain ⟨X, hX⟩ : ∃ X, X = mX x b d := ⟨_, rfl⟩
        obtain ⟨Y, hY⟩ : ∃ Y, Y = mY y b d := ⟨_, rfl⟩
        have HK := Lib.hid (fun w => impl_ok X Y w)
        rw [← hX, ← hY] at k3
        rw [k3] at HK
        have xX : x + near (d * sine b) 1000000 = X := hX.symm
        have yY : y + near (d * cosine b) 1000000 = Y := hY.symm
        have m1 : sine b * d = d * sine b := Int.mul_comm _ _
        have m2 : cosine b * d = d * cosine b := Int.mul_comm _ _
        have hs := fun w => Way.impl_scaled (sine b) (cosine b) d 1000000 w (by omega) (by omega) (by omega) (by omega) (by omega) (by omega) (by omega)
        rw [m1, m2] at hs
        have hm := fun w => Way.impl_moved x y (near (d * sine b) 1000000) (near (d * cosine b) 1000000) w (by omega) (by omega) (by omega) (by omega)
        rw [xX, yY] at hm
        have HS := Lib.hid hs
        have HM := Lib.hid hm
        have HT := Lib.hid ht
        have d0 := a2.1
        have d9 := a2.2
        clear a2 x0 x1 y0 y1 s0 s1 c0 c1 p0 p1 q0 q1 n1 n2 hX hY xX yY k3 m1 m2 hs hm ht
        go_enter Tryd.func14, Tryd.ntmps14
        go_wp2_with fail
        refine (impl_ok x y _).mono ?_
        rintro e w1 ⟨rfl, h1⟩
        obtain ⟨hc1, hf1⟩ := bcell h1
        obtain ⟨z1, z1'⟩ : w.heap.size < w1.heap.size ∧ w.heap.size + 1 < w1.heap.size := by have := h1.size; (try simp at this); omega
        have hO1 : On w w1 := by repeat (first | exact On.refl _ | apply On.alloc | apply On.drewN | refine On.trans ?_ (by assumption) | refine On.setCell ?_ (by (try simp) <;> omega) _)
        have HT1 := Lib.hid (TabAt.on HT.out hO1)
        go_wp2_with (go_at_call 28; refine (Arith.within _ _ _ _).mono ?_; rintro e w' ⟨rfl, rfl⟩)
        refine (Sine.impl_sine b _ HT1.out).mono ?_
        rintro e w2 ⟨rfl, rfl⟩
        go_wp2_with fail
        refine (Sine.impl_cosine b _ HT1.out).mono ?_
        rintro e w2 ⟨rfl, rfl⟩
        obtain ⟨V, hV⟩ : ∃ V, V = w1.alloc (.cells #[.int .i64 (sine b), .int .i64 (cosine b)] 41) := ⟨_, rfl⟩
        have k0 : V.cell? ⟨w.heap.size, 0, none⟩ = some (.int .i64 x) := by rw [hV]; simp [go_sem, hc1, z1]
        have k9 : V.cell? ⟨w.heap.size, 1, none⟩ = some (.int .i64 y) := by rw [hV]; simp [go_sem, hc1, z1]
        have k4 : V.cell? ⟨w1.heap.size, 0, none⟩ = some (.int .i64 (sine b)) := by rw [hV]; simp [go_sem]
        have k5 : V.cell? ⟨w1.heap.size, 1, none⟩ = some (.int .i64 (cosine b)) := by rw [hV]; simp [go_sem]
        have hV1 : On w1 V := by rw [hV]; exact (On.refl _).alloc _
        have K0 := Lib.hid k0
        have K1 := Lib.hid k9
        have K4 := Lib.hid k4
        have K5 := Lib.hid k5
        have HV := Lib.hid hV
        have HV1 := Lib.hid hV1
        clear k0 k9 k4 k5 hV hV1
        go_upto_region 6 with fail
        rw [← HV.out]
        go_cut [9] (fun sa wx => ∃ g : Nat, sa = .pointer (some ⟨g, 0, none⟩) ∧ V.heap.size ≤ g ∧ g < wx.heap.size ∧ wx.cell? ⟨g, 0, none⟩ = some (.int .i64 X) ∧ wx.cell? ⟨g, 1, none⟩ = some (.int .i64 Y) ∧ On V wx)
        case first =>
          go_region_held3 (fun w' => On V w' ∧ w'.cell? ⟨w.heap.size, 0, none⟩ = some (.int .i64 x) ∧ w'.cell? ⟨w.heap.size, 1, none⟩ = some (.int .i64 y) ∧ w'.cell? ⟨w1.heap.size, 0, none⟩ = some (.int .i64 (sine b)) ∧ w'.cell? ⟨w1.heap.size, 1, none⟩ = some (.int .i64 (cosine b)))
            ((refine heldM K0.out K1.out K4.out K5.out ?_; repeat (first | exact On.refl _ | assumption | apply On.alloc | apply On.drew | (obtain ⟨hOW, _⟩ := ‹On V _ ∧ _›; exact hOW) | (refine On.setCell ?_ (by (try simp) <;> omega) _) | (refine On.trans ?_ (by assumption)))))
            (first
              | (go_at_call 30; refine (HS.out _).mono ?_; rintro e w' ⟨rfl, hcall⟩; (try (with_reducible replace hcall := On.undrew hcall)); obtain ⟨hc, hf⟩ := bcell hcall; have hgr := hcall.lts; (try (have hl1 := hgr _ (by assumption))); (try (have hl0 := On.last hcall)); have hsz := hcall.size; (try simp at hsz))
              | (go_at_call 29; refine (HM.out _).mono ?_; rintro e w' ⟨rfl, hcall⟩; (try (with_reducible replace hcall := On.undrew hcall)); obtain ⟨hc, hf⟩ := bcell hcall; have hgr := hcall.lts; (try (have hl1 := hgr _ (by assumption))); (try (have hl0 := On.last hcall)); have hsz := hcall.size; (try simp at hsz)))
          all_goals
            go_wp2_with fail
            go_meet
            refine ⟨_, rfl, ?_, ?_, ?_, ?_, ?_⟩
            · (try simp) <;> omega
            · (try simp) <;> omega
            · go_simp
            · go_simp
            · repeat (first | exact On.refl _ | assumption | apply On.alloc | apply On.drew | (obtain ⟨hOW, _⟩ := ‹On V _ ∧ _›; exact hOW) | (refine On.setCell ?_ (by (try simp) <;> omega) _) | (refine On.trans ?_ (by assumption)))
        case rest =>
          obtain ⟨g, rfl, hg1, hg2, d2, d3, hO⟩ := hcut
          have hO2 := On.trans HV1.out hO
          clear hO
          obtain ⟨hc2, hf2⟩ := bcell hO2
          obtain ⟨z2, z2'⟩ : w.heap.size < wc.heap.size ∧ w.heap.size + 1 < wc.heap.size := by have := hO2.size; omega
          go_wp2_with fail
          refine (HK.out _).mono ?_
          rintro e w3 ⟨rfl, h3⟩
          obtain ⟨hc3, hf3⟩ := bcell h3
          go_wp2_with fail
          refine bodyPost_ret (v := .tuple #[.agg #[.int .i64 0, .int .i64 0], .int .i64 6]) (by simp [results, Tryd.results14, go_sem, hc1, hc2, hc3, z1', z2']) rfl ⟨by rw [H.out]; rfl, ?_⟩
          repeat (first | exact On.refl _ | apply On.alloc | apply On.drewN | refine On.trans ?_ (by assumption) | refine On.setCell ?_ (by (try simp) <;> omega) _)
      | true =>
        have H := Lib.hid (moveR_4 k1 k2 k3)
        have a2 := of_inB k2
        obtain ⟨x0, x1, y0, y1⟩ := of_okB k1
        obtain ⟨s0, s1⟩ := sine_bd b
        obtain ⟨c0, c1⟩ := cosine_bd b
        obtain ⟨p0, p1⟩ := prod_d a2.1 a2.2 s0 s1
        obtain ⟨q0, q1⟩ := prod_d a2.1 a2.2 c0 c1
        have n1 := near_le (d * sine b) 1000000 (by omega) 400000000000 (by omega) (by omega)
        have n2 := near_le (d * cosine b) 1000000 (by omega) 400000000000 (by omega) (by omega)
        obtain ⟨X, hX⟩ : ∃ X, X = mX x b d := ⟨_, rfl⟩
        obtain ⟨Y, hY⟩ : ∃ Y, Y = mY y b d := ⟨_, rfl⟩
        have HK := Lib.hid (fun w => impl_ok X Y w)
        rw [← hX, ← hY] at k3
        rw [k3] at HK
        rw [← hX, ← hY] at H
        have xX : x + near (d * sine b) 1000000 = X := hX.symm
        have yY : y + near (d * cosine b) 1000000 = Y := hY.symm
        have m1 : sine b * d = d * sine b := Int.mul_comm _ _
        have m2 : cosine b * d = d * cosine b := Int.mul_comm _ _
        have hs := fun w => Way.impl_scaled (sine b) (cosine b) d 1000000 w (by omega) (by omega) (by omega) (by omega) (by omega) (by omega) (by omega)
        rw [m1, m2] at hs
        have hm := fun w => Way.impl_moved x y (near (d * sine b) 1000000) (near (d * cosine b) 1000000) w (by omega) (by omega) (by omega) (by omega)
        rw [xX, yY] at hm
        have HS := Lib.hid hs
        have HM := Lib.hid hm
        have HT := Lib.hid ht
        have d0 := a2.1
        have d9 := a2.2
        clear a2 x0 x1 y0 y1 s0 s1 c0 c1 p0 p1 q0 q1 n1 n2 hX hY xX yY k3 m1 m2 hs hm ht
        go_enter Tryd.func14, Tryd.ntmps14
        go_wp2_with fail
        refine (impl_ok x y _).mono ?_
        rintro e w1 ⟨rfl, h1⟩
        obtain ⟨hc1, hf1⟩ := bcell h1
        obtain ⟨z1, z1'⟩ : w.heap.size < w1.heap.size ∧ w.heap.size + 1 < w1.heap.size := by have := h1.size; (try simp at this); omega
        have hO1 : On w w1 := by repeat (first | exact On.refl _ | apply On.alloc | apply On.drewN | refine On.trans ?_ (by assumption) | refine On.setCell ?_ (by (try simp) <;> omega) _)
        have HT1 := Lib.hid (TabAt.on HT.out hO1)
        go_wp2_with (go_at_call 28; refine (Arith.within _ _ _ _).mono ?_; rintro e w' ⟨rfl, rfl⟩)
        refine (Sine.impl_sine b _ HT1.out).mono ?_
        rintro e w2 ⟨rfl, rfl⟩
        go_wp2_with fail
        refine (Sine.impl_cosine b _ HT1.out).mono ?_
        rintro e w2 ⟨rfl, rfl⟩
        obtain ⟨V, hV⟩ : ∃ V, V = w1.alloc (.cells #[.int .i64 (sine b), .int .i64 (cosine b)] 41) := ⟨_, rfl⟩
        have k0 : V.cell? ⟨w.heap.size, 0, none⟩ = some (.int .i64 x) := by rw [hV]; simp [go_sem, hc1, z1]
        have k9 : V.cell? ⟨w.heap.size, 1, none⟩ = some (.int .i64 y) := by rw [hV]; simp [go_sem, hc1, z1]
        have k4 : V.cell? ⟨w1.heap.size, 0, none⟩ = some (.int .i64 (sine b)) := by rw [hV]; simp [go_sem]
        have k5 : V.cell? ⟨w1.heap.size, 1, none⟩ = some (.int .i64 (cosine b)) := by rw [hV]; simp [go_sem]
        have hV1 : On w1 V := by rw [hV]; exact (On.refl _).alloc _
        have K0 := Lib.hid k0
        have K1 := Lib.hid k9
        have K4 := Lib.hid k4
        have K5 := Lib.hid k5
        have HV := Lib.hid hV
        have HV1 := Lib.hid hV1
        clear k0 k9 k4 k5 hV hV1
        go_upto_region 6 with fail
        rw [← HV.out]
        go_cut [9] (fun sa wx => ∃ g : Nat, sa = .pointer (some ⟨g, 0, none⟩) ∧ V.heap.size ≤ g ∧ g < wx.heap.size ∧ wx.cell? ⟨g, 0, none⟩ = some (.int .i64 X) ∧ wx.cell? ⟨g, 1, none⟩ = some (.int .i64 Y) ∧ On V wx)
        case first =>
          go_region_held3 (fun w' => On V w' ∧ w'.cell? ⟨w.heap.size, 0, none⟩ = some (.int .i64 x) ∧ w'.cell? ⟨w.heap.size, 1, none⟩ = some (.int .i64 y) ∧ w'.cell? ⟨w1.heap.size, 0, none⟩ = some (.int .i64 (sine b)) ∧ w'.cell? ⟨w1.heap.size, 1, none⟩ = some (.int .i64 (cosine b)))
            ((refine heldM K0.out K1.out K4.out K5.out ?_; repeat (first | exact On.refl _ | assumption | apply On.alloc | apply On.drew | (obtain ⟨hOW, _⟩ := ‹On V _ ∧ _›; exact hOW) | (refine On.setCell ?_ (by (try simp) <;> omega) _) | (refine On.trans ?_ (by assumption)))))
            (first
              | (go_at_call 30; refine (HS.out _).mono ?_; rintro e w' ⟨rfl, hcall⟩; (try (with_reducible replace hcall := On.undrew hcall)); obtain ⟨hc, hf⟩ := bcell hcall; have hgr := hcall.lts; (try (have hl1 := hgr _ (by assumption))); (try (have hl0 := On.last hcall)); have hsz := hcall.size; (try simp at hsz))
              | (go_at_call 29; refine (HM.out _).mono ?_; rintro e w' ⟨rfl, hcall⟩; (try (with_reducible replace hcall := On.undrew hcall)); obtain ⟨hc, hf⟩ := bcell hcall; have hgr := hcall.lts; (try (have hl1 := hgr _ (by assumption))); (try (have hl0 := On.last hcall)); have hsz := hcall.size; (try simp at hsz)))
          all_goals
            go_wp2_with fail
            go_meet
            refine ⟨_, rfl, ?_, ?_, ?_, ?_, ?_⟩
            · (try simp) <;> omega
            · (try simp) <;> omega
            · go_simp
            · go_simp
            · repeat (first | exact On.refl _ | assumption | apply On.alloc | apply On.drew | (obtain ⟨hOW, _⟩ := ‹On V _ ∧ _›; exact hOW) | (refine On.setCell ?_ (by (try simp) <;> omega) _) | (refine On.trans ?_ (by assumption)))
        case rest =>
          obtain ⟨g, rfl, hg1, hg2, d2, d3, hO⟩ := hcut
          have hO2 := On.trans HV1.out hO
          clear hO
          obtain ⟨hc2, hf2⟩ := bcell hO2
          obtain ⟨z2, z2'⟩ : w.heap.size < wc.heap.size ∧ w.heap.size + 1 < wc.heap.size := by have := hO2.size; omega
          go_wp2_with fail
          refine (HK.out _).mono ?_
          rintro e w3 ⟨rfl, h3⟩
          obtain ⟨hc3, hf3⟩ := bcell h3
          go_wp2_with fail
          refine bodyPost_ret (v := .tuple #[.agg #[.int .i64 X, .int .i64 Y], .int .i64 0]) (by simp [results, Tryd.results14, go_sem, hc1, hc2, hc3, z1', z2']) rfl ⟨by rw [H.out]; rfl, ?_⟩
          repeat (first | exact On.refl _ | apply On.alloc | apply On.drewN | refine On.trans ?_ (by assumption) | refine On.setCell ?_ (by (try simp) <;> omega) _)
theorem laws_eqPoint (x y : Int) (w : World) :
    Calls Tryd.prog 15 #[.agg #[.int .i64 x, .int .i64 y], .agg #[.int .i64 x, .int .i64 y]] w fun e w' => e = .returned (.bool true) ∧ On w w' := by
  go_enter Tryd.func15, Tryd.ntmps15
  go_wp2
  go_ret
  exact ⟨rfl, by repeat (first | exact On.refl _ | apply On.alloc)⟩
end Go.Proofs.YthknpnoceabmbaaDoor.Move
