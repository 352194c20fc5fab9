
/-
  Clutter, in the model and in the program. Condition: the program's variable of surroundings holds what its text lays.
-/
import Derived.Test.YtednfkjdidlenaaDoorSurr
import Derived.Test.YtednfkjdidlenaaDoorSpan
import Derived.Test.YtednfkjdidlenaaDoorFree
import Derived.Test.YtednfkjdidlenaaDoorTabI
namespace Go.Proofs.YtednfkjdidlenaaDoor.Clut
open Go.RowKit
open Plain
open Surr (SurrG nameV)
open Tab (ret_int)

theorem eight {c : Nat} (h : c < 8) : c = 0 ∨ c = 1 ∨ c = 2 ∨ c = 3 ∨ c = 4 ∨ c = 5 ∨ c = 6 ∨ c = 7 := by omega
theorem highs_at {c : Nat} (h : c < 8) : ([Value.int .i64 0, .int .i64 20, .int .i64 10, .int .i64 120, .int .i64 70, .int .i64 90, .int .i64 160, .int .i64 240] : List Value)[c]'(by simpa using h) = .int .i64 (highV c) := by
  rcases eight h with rfl | rfl | rfl | rfl | rfl | rfl | rfl | rfl <;> rfl
theorem losts_at {c : Nat} (h : c < 8) : ([Value.int .i64 0, .int .i64 1000, .int .i64 500, .int .i64 12000, .int .i64 8000, .int .i64 10000, .int .i64 16000, .int .i64 20000] : List Value)[c]'(by simpa using h) = .int .i64 (lostV c) := by
  rcases eight h with rfl | rfl | rfl | rfl | rfl | rfl | rfl | rfl <;> rfl
theorem impl_share (f : Int) (w : World) :
    Calls Tryd.prog 35 #[.int .i64 f] w fun e w' => e = .returned (.int .i64 (shareV f)) ∧ w = w' := by
  by_cases h0 : f ≤ 300000
  · have es := Lib.hid (show shareV f = 50 from by unfold shareV; rw [if_pos h0])
    have g0 : ¬ 300000 < f := by omega
    have g1 : ¬ 1000000 < f := by omega
    have g2 : ¬ 3000000 < f := by omega
    have g3 : ¬ 10000000 < f := by omega
    clear h0
    go_enter Tryd.func35, Tryd.ntmps35
    go_wp2
    go_ret
    exact ⟨ret_int es.out.symm, rfl⟩
  · skip
    by_cases h1 : f ≤ 1000000
    · have es := Lib.hid (show shareV f = 75 from by unfold shareV; rw [if_neg h0]; rw [if_pos h1])
      have g0 : 300000 < f := by omega
      have g1 : ¬ 1000000 < f := by omega
      have g2 : ¬ 3000000 < f := by omega
      have g3 : ¬ 10000000 < f := by omega
      clear h0 h1
      go_enter Tryd.func35, Tryd.ntmps35
      go_wp2
      go_ret
      exact ⟨ret_int es.out.symm, rfl⟩
    · skip
      by_cases h2 : f ≤ 3000000
      · have es := Lib.hid (show shareV f = 100 from by unfold shareV; rw [if_neg h0]; rw [if_neg h1]; rw [if_pos h2])
        have g0 : 300000 < f := by omega
        have g1 : 1000000 < f := by omega
        have g2 : ¬ 3000000 < f := by omega
        have g3 : ¬ 10000000 < f := by omega
        clear h0 h1 h2
        go_enter Tryd.func35, Tryd.ntmps35
        go_wp2
        go_ret
        exact ⟨ret_int es.out.symm, rfl⟩
      · skip
        by_cases h3 : f ≤ 10000000
        · have es := Lib.hid (show shareV f = 125 from by unfold shareV; rw [if_neg h0]; rw [if_neg h1]; rw [if_neg h2]; rw [if_pos h3])
          have g0 : 300000 < f := by omega
          have g1 : 1000000 < f := by omega
          have g2 : 3000000 < f := by omega
          have g3 : ¬ 10000000 < f := by omega
          clear h0 h1 h2 h3
          go_enter Tryd.func35, Tryd.ntmps35
          go_wp2
          go_ret
          exact ⟨ret_int es.out.symm, rfl⟩
        · skip
          have es := Lib.hid (show shareV f = 150 from by unfold shareV; rw [if_neg h0]; rw [if_neg h1]; rw [if_neg h2]; rw [if_neg h3])
          have g0 : 300000 < f := by omega
          have g1 : 1000000 < f := by omega
          have g2 : 3000000 < f := by omega
          have g3 : 10000000 < f := by omega
          clear h0 h1 h2 h3
          go_enter Tryd.func35, Tryd.ntmps35
          go_wp2
          go_ret
          exact ⟨ret_int es.out.symm, rfl⟩
set_option maxHeartbeats 2000000 in
theorem impl_clutter (c : Nat) (f a : Int) (w : World) (hc : c < 8) (a0 : 0 ≤ a) (a1 : a ≤ 90000) (hg : SurrG w) :
    Calls Tryd.prog 23 #[.int .i64 f, .int .i64 c, .int .i64 a] w fun e w' => e = .returned (.int .i64 (clutV c f a)) ∧ On w w' := by
  obtain ⟨d0, d1, d2⟩ := hg c hc
  have hb := World.block_lt_of_cell? w _ d0
  have hci : (c : Int) < 8 := by omega
  obtain ⟨g0, g1⟩ := high_bd hc
  by_cases hh : highV c ≤ a
  · have en := Lib.hid (clut_no (f := f) hh)
    generalize highV c = H at *
    generalize lostV c = L at *
    go_enter Tryd.func23, Tryd.ntmps23
    go_wp2_with fail
    go_ret
    exact ⟨ret_int en.out.symm, by repeat (first | with_reducible exact On.refl _ | apply On.drewN | apply On.drew | apply On.alloc | refine On.setCell ?_ (by (try simp) <;> omega) _)⟩
  · have en := Lib.hid (clut_yes (f := f) hh)
    obtain ⟨⟨p0, p1⟩, q0, q1⟩ := clut_prod (f := f) hc a0 hh
    obtain ⟨l0, l1⟩ := lost_bd hc
    obtain ⟨s0, s1⟩ := share_bd f
    have HS := Lib.hid (fun w => impl_share f w)
    generalize highV c = H at *
    generalize lostV c = L at *
    generalize shareV f = S at *
    have HD := Lib.hid (fun w => Arith.nearest (S * L * (H - a)) (100 * H) w (by omega) (by omega) (by omega) (by omega) (by omega))
    have wa : IntKind.i64.wrap (S * L) = S * L := IntWalk.i64_in _ (by omega)
    have wb : IntKind.i64.wrap (H - a) = H - a := IntWalk.i64_in _ (by omega)
    have wc : IntKind.i64.wrap (S * L * (H - a)) = S * L * (H - a) := IntWalk.i64_in _ (by omega)
    have wd : IntKind.i64.wrap (100 * H) = 100 * H := IntWalk.i64_in _ (by omega)
    go_enter Tryd.func23, Tryd.ntmps23
    go_wp2_with fail
    refine wp_region_onh (by kernel_rfl) (by kernel_rfl) ?_
    repeat (refine rest_step (fun K hK => ?_); go_simp; first | (refine hK _ ?_; clear hK K) | (apply Exists.intro; refine ⟨fun v1 hv1 => ?_, hK _ ?_⟩; (first | with_reducible exact rfl | with_reducible exact ⟨rfl, rfl⟩ | with_reducible exact Calls.on_same hv1 (HS.out _) | with_reducible exact Calls.on_drew hv1 (HD.out _) | (obtain ⟨hc, hf⟩ := bcell hv1; go_simp; first | with_reducible exact rfl | with_reducible exact ⟨rfl, rfl⟩ | exact rfl | exact ⟨rfl, rfl⟩)); clear hK K))
    refine rest_nil ?_
    intro w9 hw9
    go_wp2_with fail
    go_ret
    refine ⟨ret_int en.out.symm, On.trans ?_ hw9⟩
    repeat (first | with_reducible exact On.refl _ | apply On.drewN | apply On.drew | apply On.alloc | refine On.setCell ?_ (by (try simp) <;> omega) _)
end Go.Proofs.YtednfkjdidlenaaDoor.Clut
