/-
  For every two problems SameProblem of the program returns what the model returns, and leaves the problems as they were: the statement FnExactSameProblem. No condition.
-/
import Derived.Test.YtofoffdmhekceaaRows
import Derived.Test.YtofoffdmhekceaaSmP
import Derived.Test.YtofoffdmhekceaaPrbI
import Derived.Test.YtofoffdmhekceaaBox
import Derived.Deep.DeepCutAuto
import Derived.Deep.RegionWith
import Derived.WalkKit
import Derived.ProofKit
import Derived.OpenShut
import Derived.ShutString
import Derived.Below
import Derived.Lib.SmallJoins
namespace Go.Proofs.Ytofoffdmhekceaa.fnExactSameProblem
open Go.ChangeShapes Go.WideShapes Go.ChangeAt Go.RowKit
open Go.ChangeMaps (open_string shut_string)
set_option linter.unusedVariables false

theorem own : ownKnob Try.prog.godebug = none := by kernel_rfl
theorem laidOut : laidOutB Try.prog = true := by kernel_rfl

set_option maxRecDepth 100000 in
set_option maxHeartbeats 4000000 in
/-- The walk. -/
theorem walk (w : World) (a0_0 : Option Addr) (cap0_0 : Nat) (z0_0 : List Mts.Z) (w0_0 : Mts.Arg w a0_0 cap0_0 z0_0) (a0_1 : Option Addr) (cap0_1 : Nat) (z0_1 : List Mts.Z) (w0_1 : Mts.Arg w a0_1 cap0_1 z0_1) (a1_0 : Option Addr) (cap1_0 : Nat) (z1_0 : List Mts.Z) (w1_0 : Mts.Arg w a1_0 cap1_0 z1_0) (a1_1 : Option Addr) (cap1_1 : Nat) (z1_1 : List Mts.Z) (w1_1 : Mts.Arg w a1_1 cap1_1 z1_1) :
    Calls Try.prog 4 #[.agg #[.slice a0_0 z0_0.length cap0_0, .slice a0_1 z0_1.length cap0_1], .agg #[.slice a1_0 z1_0.length cap1_0, .slice a1_1 z1_1.length cap1_1]] w fun e w' => e = .returned (.bool true) ∧ Below w.heap.size w w' := by
  have hI0 : Prb.Is w (.agg #[.slice a0_0 z0_0.length cap0_0, .slice a0_1 z0_1.length cap0_1]) ⟨z0_0, z0_1⟩ := ⟨_, _, rfl, w0_0.1, w0_1.1⟩
  have hS0 : Prb.T.Small maxLen ⟨z0_0, z0_1⟩ := ⟨w0_0.2, w0_1.2⟩
  obtain ⟨N0, hN0⟩ : ∃ N : Prb.T, N = ⟨z0_0, z0_1⟩ := ⟨_, rfl⟩
  have e0_0 : z0_0.length = N0.f0.length := by rw [hN0]
  have e0_1 : z0_1.length = N0.f1.length := by rw [hN0]
  rw [← hN0] at hI0 hS0
  rw [e0_0, e0_1] at hI0 ⊢
  have HI0 := Lib.hid hI0
  clear hN0 hI0 w0_0 e0_0 w0_1 e0_1
  have hI1 : Prb.Is w (.agg #[.slice a1_0 z1_0.length cap1_0, .slice a1_1 z1_1.length cap1_1]) ⟨z1_0, z1_1⟩ := ⟨_, _, rfl, w1_0.1, w1_1.1⟩
  have hS1 : Prb.T.Small maxLen ⟨z1_0, z1_1⟩ := ⟨w1_0.2, w1_1.2⟩
  obtain ⟨N1, hN1⟩ : ∃ N : Prb.T, N = ⟨z1_0, z1_1⟩ := ⟨_, rfl⟩
  have e1_0 : z1_0.length = N1.f0.length := by rw [hN1]
  have e1_1 : z1_1.length = N1.f1.length := by rw [hN1]
  rw [← hN1] at hI1 hS1
  rw [e1_0, e1_1] at hI1 ⊢
  have HI1 := Lib.hid hI1
  clear hN1 hI1 w1_0 e1_0 w1_1 e1_1
  go_enter Try.func4, Try.ntmps4
  go_wp2_with fail
  generalize hW0 : (w.alloc (.cells #[.slice a0_0 N0.f0.length cap0_0, .slice a0_1 N0.f1.length cap0_1] 24)).alloc (.cells #[.slice a1_0 N1.f0.length cap1_0, .slice a1_1 N1.f1.length cap1_1] 24) = w0
  have O0 := Lib.hid (show On w w0 by rw [← hW0]; repeat (first | with_reducible exact On.refl _ | with_reducible apply On.alloc | with_reducible apply On.drewN | with_reducible apply On.drew | with_reducible refine On.setCell ?_ (by (try simp) <;> omega) _))
  have Ba0_0 := Lib.hid (show Bx.Box w0 (w.heap.size) [.slice a0_0 N0.f0.length cap0_0, .slice a0_1 N0.f1.length cap0_1] from by rw [← hW0]; exact (Bx.Box.new _ _ _).on (On.alloc (On.refl _) _))
  have Ba1_0 := Lib.hid (show Bx.Box w0 (w.heap.size + 1) [.slice a1_0 N1.f0.length cap1_0, .slice a1_1 N1.f1.length cap1_1] from by rw [← hW0]; have := Bx.Box.new (w.alloc (.cells #[.slice a0_0 N0.f0.length cap0_0, .slice a0_1 N0.f1.length cap0_1] 24)) [.slice a1_0 N1.f0.length cap1_0, .slice a1_1 N1.f1.length cap1_1] 24; simpa using this)
  clear hW0
  have za0 := Ba0_0.out.1
  have ka00 := Ba0_0.out.2 0 _ rfl
  have ka01 := Ba0_0.out.2 1 _ rfl
  have za1 := Ba1_0.out.1
  have ka10 := Ba1_0.out.2 0 _ rfl
  have ka11 := Ba1_0.out.2 1 _ rfl
  refine (Prb.count0 _ N0 _ hS0 (HI0.out.on O0.out)).mono ?_
  rintro e w1 ⟨r, rfl, h1, hr⟩
  rcases hr with hr | ⟨c0, rfl, hc0, hs0⟩
  · go_wp2_with fail
    go_ret
    exact ⟨rfl, O0.out.trans h1⟩
  have hr0 : ¬ (c0 : Int) < 0 := by omega
  have HS0 := Lib.hid hs0
  clear hs0 hS0
  have g1 : On w0 w1 := by refine On.trans ?_ h1; repeat (first | with_reducible exact On.refl _ | with_reducible apply On.alloc | with_reducible apply On.drewN | with_reducible apply On.drew | with_reducible refine On.setCell ?_ (by (try simp) <;> omega) _)
  have O1 := Lib.hid (O0.out.trans g1)
  have Ba0_1 := Lib.hid (Ba0_0.out.on g1)
  have Ba1_1 := Lib.hid (Ba1_0.out.on g1)
  clear za0 ka00 ka01 za1 ka10 ka11
  clear h1 g1
  have za0 := Ba0_1.out.1
  have ka00 := Ba0_1.out.2 0 _ rfl
  have ka01 := Ba0_1.out.2 1 _ rfl
  have za1 := Ba1_1.out.1
  have ka10 := Ba1_1.out.2 0 _ rfl
  have ka11 := Ba1_1.out.2 1 _ rfl
  go_wp2_with fail
  refine (Prb.count c0 _ N1 _ hc0 hS1 (HI1.out.on O1.out)).mono ?_
  rintro e w2 ⟨r, rfl, h2, hr⟩
  rcases hr with hr | ⟨c1, rfl, hc1, hs1⟩
  · go_wp2_with fail
    go_ret
    exact ⟨rfl, O1.out.trans h2⟩
  have hr1 : ¬ (c1 : Int) < 0 := by omega
  have HS1 := Lib.hid hs1
  clear hs1 hS1
  have g2 : On w1 w2 := by refine On.trans ?_ h2; repeat (first | with_reducible exact On.refl _ | with_reducible apply On.alloc | with_reducible apply On.drewN | with_reducible apply On.drew | with_reducible refine On.setCell ?_ (by (try simp) <;> omega) _)
  have O2 := Lib.hid (O1.out.trans g2)
  have Ba0_2 := Lib.hid (Ba0_1.out.on g2)
  have Ba1_2 := Lib.hid (Ba1_1.out.on g2)
  clear za0 ka00 ka01 za1 ka10 ka11
  clear h2 g2
  have za0 := Ba0_2.out.1
  have ka00 := Ba0_2.out.2 0 _ rfl
  have ka01 := Ba0_2.out.2 1 _ rfl
  have za1 := Ba1_2.out.1
  have ka10 := Ba1_2.out.2 0 _ rfl
  have ka11 := Ba1_2.out.2 1 _ rfl
  go_upto_region 8 with fail
  go_cut [6] (fun s wx => s = .bool (SmP.sameB N0 N1) ∧ On w2 wx)
  case first =>
    go_region_with (first
      | (go_at_call 12; refine (Prb.copy _ N1 _ HS1.out (HI1.out.on (O2.out.trans (‹On w2 wa›.trans (by repeat (first | with_reducible exact On.refl _ | with_reducible apply On.drew | with_reducible apply On.drewN)))))).mono ?_; rintro e wb ⟨vb, rfl, hob, hb⟩; have Jb := Lib.hid hob.is; (have gb : On wa wb := by refine On.trans ?_ hb; repeat (first | with_reducible exact On.refl _ | with_reducible apply On.drew | with_reducible apply On.drewN)); clear hob hb)
      | (go_at_call 12; refine (Prb.copy _ N0 _ HS0.out (HI0.out.on (O2.out.trans (by repeat (first | with_reducible exact On.refl _ | with_reducible apply On.drew | with_reducible apply On.drewN))))).mono ?_; rintro e wa ⟨va, rfl, hoa, ha⟩; have Ja := Lib.hid hoa.is; (have ga : On w2 wa := by refine On.trans ?_ ha; repeat (first | with_reducible exact On.refl _ | with_reducible apply On.drew | with_reducible apply On.drewN)); have Xa0 := Lib.hid (Ba0_2.out.on ga); have ca00 := Xa0.out.2 0 _ rfl; have ca01 := Xa0.out.2 1 _ rfl; have ca0z := Xa0.out.1; have Xa1 := Lib.hid (Ba1_2.out.on ga); have ca10 := Xa1.out.2 0 _ rfl; have ca11 := Xa1.out.2 1 _ rfl; have ca1z := Xa1.out.1; clear hoa ha)
      | (go_at_call 15; refine (SmP.spec_SameProblem _ _ N0 N1 _ HS0.out (Ja.out.on (‹On wa wb›.trans (by repeat (first | with_reducible exact On.refl _ | with_reducible apply On.drew | with_reducible apply On.drewN)))) (Jb.out.on (by repeat (first | with_reducible exact On.refl _ | with_reducible apply On.drew | with_reducible apply On.drewN)))).mono ?_; rintro e wc ⟨rfl, hz⟩))
    all_goals
      go_wp2_with fail
      go_meet
      exact ⟨rfl, ‹On w2 wa›.trans (‹On wa wb›.trans (On.trans (by repeat (first | with_reducible exact On.refl _ | with_reducible apply On.drew | with_reducible apply On.drewN)) hz))⟩
  case rest =>
    obtain ⟨rfl, g3⟩ := hcut
    rename World => w3
    have O3 := Lib.hid (O2.out.trans g3)
    have Ba0_3 := Lib.hid (Ba0_2.out.on g3)
    have Ba1_3 := Lib.hid (Ba1_2.out.on g3)
    clear za0 ka00 ka01 za1 ka10 ka11
    have za0 := Ba0_3.out.1
    have ka00 := Ba0_3.out.2 0 _ rfl
    have ka01 := Ba0_3.out.2 1 _ rfl
    have za1 := Ba1_3.out.1
    have ka10 := Ba1_3.out.2 0 _ rfl
    have ka11 := Ba1_3.out.2 1 _ rfl
    go_wp2_with fail
    refine (Prb.copy _ N0 _ HS0.out (HI0.out.on (O3.out.trans (by repeat (first | with_reducible exact On.refl _ | with_reducible apply On.alloc | with_reducible apply On.drewN | with_reducible apply On.drew | with_reducible refine On.setCell ?_ (by (try simp) <;> omega) _))))).mono ?_
    rintro e w4 ⟨vx0, rfl, ho, h4⟩
    have g4 : On w3 w4 := by refine On.trans ?_ h4; repeat (first | with_reducible exact On.refl _ | with_reducible apply On.alloc | with_reducible apply On.drewN | with_reducible apply On.drew | with_reducible refine On.setCell ?_ (by (try simp) <;> omega) _)
    have O4 := Lib.hid (O3.out.trans g4)
    have Ba0_4 := Lib.hid (Ba0_3.out.on g4)
    have Ba1_4 := Lib.hid (Ba1_3.out.on g4)
    clear za0 ka00 ka01 za1 ka10 ka11
    have Ix0_4 := Lib.hid ho.is
    clear ho h4 g4
    obtain ⟨bx0_0, bx0_1, dx0_0, dx0_1, hvx0⟩ := Ix0_4.out.shape
    subst hvx0
    have za0 := Ba0_4.out.1
    have ka00 := Ba0_4.out.2 0 _ rfl
    have ka01 := Ba0_4.out.2 1 _ rfl
    have za1 := Ba1_4.out.1
    have ka10 := Ba1_4.out.2 0 _ rfl
    have ka11 := Ba1_4.out.2 1 _ rfl
    go_wp2_with fail
    refine (Prb.copy _ N1 _ HS1.out (HI1.out.on (O4.out.trans (by repeat (first | with_reducible exact On.refl _ | with_reducible apply On.alloc | with_reducible apply On.drewN | with_reducible apply On.drew | with_reducible refine On.setCell ?_ (by (try simp) <;> omega) _))))).mono ?_
    rintro e w5 ⟨vx1, rfl, ho, h5⟩
    have g5 : On w4 w5 := by refine On.trans ?_ h5; repeat (first | with_reducible exact On.refl _ | with_reducible apply On.alloc | with_reducible apply On.drewN | with_reducible apply On.drew | with_reducible refine On.setCell ?_ (by (try simp) <;> omega) _)
    have O5 := Lib.hid (O4.out.trans g5)
    have Ba0_5 := Lib.hid (Ba0_4.out.on g5)
    have Ba1_5 := Lib.hid (Ba1_4.out.on g5)
    clear za0 ka00 ka01 za1 ka10 ka11
    have Ix0_5 := Lib.hid (Ix0_4.out.on g5)
    have Bx0_5 := Lib.hid (show Bx.Box w5 (w4.heap.size) [.slice bx0_0 N0.f0.length dx0_0, .slice bx0_1 N0.f1.length dx0_1] from (Bx.Box.new _ _ _).on h5)
    have Ix1_5 := Lib.hid ho.is
    clear ho h5 g5
    obtain ⟨bx1_0, bx1_1, dx1_0, dx1_1, hvx1⟩ := Ix1_5.out.shape
    subst hvx1
    have za0 := Ba0_5.out.1
    have ka00 := Ba0_5.out.2 0 _ rfl
    have ka01 := Ba0_5.out.2 1 _ rfl
    have za1 := Ba1_5.out.1
    have ka10 := Ba1_5.out.2 0 _ rfl
    have ka11 := Ba1_5.out.2 1 _ rfl
    have zx0 := Bx0_5.out.1
    have kx00 := Bx0_5.out.2 0 _ rfl
    have kx01 := Bx0_5.out.2 1 _ rfl
    go_wp2_with fail
    refine (SmP.impl_SameProblem _ _ N0 N1 _ HS0.out (Ix0_5.out.on (by repeat (first | with_reducible exact On.refl _ | with_reducible apply On.alloc | with_reducible apply On.drewN | with_reducible apply On.drew | with_reducible refine On.setCell ?_ (by (try simp) <;> omega) _))) (Ix1_5.out.on (by repeat (first | with_reducible exact On.refl _ | with_reducible apply On.alloc | with_reducible apply On.drewN | with_reducible apply On.drew | with_reducible refine On.setCell ?_ (by (try simp) <;> omega) _)))).mono ?_
    rintro e w6 ⟨rfl, h6⟩
    have g6 : On w5 w6 := by refine On.trans ?_ h6; repeat (first | with_reducible exact On.refl _ | with_reducible apply On.alloc | with_reducible apply On.drewN | with_reducible apply On.drew | with_reducible refine On.setCell ?_ (by (try simp) <;> omega) _)
    have O6 := Lib.hid (O5.out.trans g6)
    have Ba0_6 := Lib.hid (Ba0_5.out.on g6)
    have Ba1_6 := Lib.hid (Ba1_5.out.on g6)
    have Bx0_6 := Lib.hid (Bx0_5.out.on g6)
    clear za0 ka00 ka01 za1 ka10 ka11 zx0 kx00 kx01
    have Bx1_6 := Lib.hid (show Bx.Box w6 (w5.heap.size) [.slice bx1_0 N1.f0.length dx1_0, .slice bx1_1 N1.f1.length dx1_1] from (Bx.Box.new _ _ _).on h6)
    have Ix0_6 := Lib.hid (Ix0_5.out.on g6)
    have Ix1_6 := Lib.hid (Ix1_5.out.on g6)
    clear h6 g6
    have za0 := Ba0_6.out.1
    have ka00 := Ba0_6.out.2 0 _ rfl
    have ka01 := Ba0_6.out.2 1 _ rfl
    have za1 := Ba1_6.out.1
    have ka10 := Ba1_6.out.2 0 _ rfl
    have ka11 := Ba1_6.out.2 1 _ rfl
    have zx0 := Bx0_6.out.1
    have kx00 := Bx0_6.out.2 0 _ rfl
    have kx01 := Bx0_6.out.2 1 _ rfl
    have zx1 := Bx1_6.out.1
    have kx10 := Bx1_6.out.2 0 _ rfl
    have kx11 := Bx1_6.out.2 1 _ rfl
    have hcc : ((SmP.sameB N0 N1) != (SmP.sameB N0 N1)) = false := bne_self_eq_false _
    generalize (SmP.sameB N0 N1) = ok at *
    go_upto_region 14 with fail
    go_cut [39] (fun s wx => s = .bool false ∧ On w6 wx)
    case first =>
      go_region_with (first
        | (go_at_call 12; refine (Prb.copy _ N0 _ HS0.out (HI0.out.on (O6.out.trans (by repeat (first | with_reducible exact On.refl _ | with_reducible apply On.drew | with_reducible apply On.drewN))))).mono ?_; rintro e wy ⟨vy, rfl, hoy, hy⟩; have JY := Lib.hid hoy.is; (have gy : On w6 wy := by refine On.trans ?_ hy; repeat (first | with_reducible exact On.refl _ | with_reducible apply On.drew | with_reducible apply On.drewN)); have BY := Lib.hid (Bx0_6.out.on gy); have y0 := BY.out.2 0 _ rfl; have y1 := BY.out.2 1 _ rfl; have yz := BY.out.1; clear hoy)
        | (go_at_call 14; refine (Prb.eq _ _ N0 _ HS0.out (Ix0_6.out.on ((‹On w6 _›).trans (by repeat (first | with_reducible exact On.refl _ | with_reducible apply On.drew | with_reducible apply On.drewN)))) (JY.out.on (by repeat (first | with_reducible exact On.refl _ | with_reducible apply On.drew | with_reducible apply On.drewN)))).mono ?_; rintro e wz ⟨rfl, hz⟩))
      all_goals
        go_wp2_with fail
        go_meet
        exact ⟨rfl, On.trans ‹On w6 wy› (On.trans (by repeat (first | with_reducible exact On.refl _ | with_reducible apply On.drew | with_reducible apply On.drewN)) ‹On _ wz›)⟩
    case rest =>
      obtain ⟨rfl, g8⟩ := hcut
      rename World => w8
      have O8 := Lib.hid (O6.out.trans g8)
      have Ba0_8 := Lib.hid (Ba0_6.out.on g8)
      have Ba1_8 := Lib.hid (Ba1_6.out.on g8)
      have Bx0_8 := Lib.hid (Bx0_6.out.on g8)
      have Bx1_8 := Lib.hid (Bx1_6.out.on g8)
      have Ix0_8 := Lib.hid (Ix0_6.out.on g8)
      have Ix1_8 := Lib.hid (Ix1_6.out.on g8)
      clear za0 ka00 ka01 za1 ka10 ka11 zx0 kx00 kx01 zx1 kx10 kx11
      have za0 := Ba0_8.out.1
      have ka00 := Ba0_8.out.2 0 _ rfl
      have ka01 := Ba0_8.out.2 1 _ rfl
      have za1 := Ba1_8.out.1
      have ka10 := Ba1_8.out.2 0 _ rfl
      have ka11 := Ba1_8.out.2 1 _ rfl
      have zx0 := Bx0_8.out.1
      have kx00 := Bx0_8.out.2 0 _ rfl
      have kx01 := Bx0_8.out.2 1 _ rfl
      have zx1 := Bx1_8.out.1
      have kx10 := Bx1_8.out.2 0 _ rfl
      have kx11 := Bx1_8.out.2 1 _ rfl
      go_wp2_with fail
      go_region_with (first
        | (go_at_call 12; refine (Prb.copy _ N1 _ HS1.out (HI1.out.on (O8.out.trans (by repeat (first | with_reducible exact On.refl _ | with_reducible apply On.drew | with_reducible apply On.drewN))))).mono ?_; rintro e wy ⟨vy, rfl, hoy, hy⟩; have JY := Lib.hid hoy.is; (have gy : On w8 wy := by refine On.trans ?_ hy; repeat (first | with_reducible exact On.refl _ | with_reducible apply On.drew | with_reducible apply On.drewN)); have BY := Lib.hid (Bx1_8.out.on gy); have y0 := BY.out.2 0 _ rfl; have y1 := BY.out.2 1 _ rfl; have yz := BY.out.1; clear hoy)
        | (go_at_call 14; refine (Prb.eq _ _ N1 _ HS1.out (Ix1_8.out.on ((‹On w8 _›).trans (by repeat (first | with_reducible exact On.refl _ | with_reducible apply On.drew | with_reducible apply On.drewN)))) (JY.out.on (by repeat (first | with_reducible exact On.refl _ | with_reducible apply On.drew | with_reducible apply On.drewN)))).mono ?_; rintro e wz ⟨rfl, hz⟩))
      all_goals
        go_wp2_with fail
        go_ret
        exact ⟨rfl, On.trans O8.out (On.trans ‹On w8 wy› (On.trans (by repeat (first | with_reducible exact On.refl _ | with_reducible apply On.drew | with_reducible apply On.drewN)) ‹On _ wz›))⟩

set_option maxRecDepth 100000 in
/-- The row's step. -/
theorem lifted (os : Os) (started : os.Started) (H : Type) (enc : TypeId × Value → H) :
    ReturnsInHanded {} Try.checked os 4 .any (Rows.fnExactSameProblemSpec.pre6 enc Try.prog Try.f4 Rows.fnExactSameProblemRow.domain false) (Rows.fnExactSameProblemSpec.post enc Try.prog Try.f4 false true false false) := by
  refine returnsInHanded_of_change (C := Try.checked) own started (by kernel_rfl) Try.func4
    (ChangeSpec.witness6 (enc := enc) (C := Try.checked) false ⟨#[], #[.agg #[.slice none 0 0, .slice none 0 0], .agg #[.slice none 0 0, .slice none 0 0]], []⟩ 8 (by kernel_rfl) (by kernel_rfl) (by kernel_rfl) (by kernel_rfl)) ?_
  intro W base args ds gs before hval0 hW hcnd _
  have hval : ∀ (j : Nat) t v, Try.f4.params[j]? = some t → args[j]? = some v → Value.okWide Try.prog W .any base t v := hval0
  have hW' := hW
  obtain ⟨p, q, hA0, hV, rfl, hfz, hnd⟩ := hW
  have hA : DataW.TrodAll enc Try.prog W 0 (fun _ => true) true Try.f4.params.toList args.toList ds p := hA0
  rw [Try.params4] at hA hval
  obtain ⟨v0, vs0, d0, ds0, p0, q0, hargs, rfl, rfl, h0, r0⟩ := trodAll_cons hA
  obtain ⟨v1, vs1, d1, ds1, p1, q1, rfl, rfl, rfl, h1, r1⟩ := trodAll_cons r0
  obtain ⟨rfl, rfl, rfl⟩ := trodAll_nil r1
  obtain rfl : args = #[v0, v1] := by cases args; simp_all
  obtain ⟨rfl, rfl⟩ := trodVars_none hV
  have k0 := h0
  have lt0 : ∀ x ∈ p0, x.block < W.heap.size := by obtain ⟨m, hm⟩ := k0; exact DataW.trod_lt m _ _ _ hm
  obtain ⟨c0_0, c0_1, y0_0, y0_1, n0, rfl, -, -, e0_0, e0_1⟩ := Joins.open_agg2 Try.underlying24 (by kernel_rfl) (by kernel_rfl) (hval 0 24 v0 rfl rfl) h0
  obtain ⟨a0_0, cap0_0, z0_0, hc0_0, w0_0⟩ := Mts.open_rows e0_0
  subst hc0_0
  obtain ⟨a0_1, cap0_1, z0_1, hc0_1, w0_1⟩ := Mts.open_rows e0_1
  subst hc0_1
  have k1 := h1
  have lt1 : ∀ x ∈ p1, x.block < W.heap.size := by obtain ⟨m, hm⟩ := k1; exact DataW.trod_lt m _ _ _ hm
  obtain ⟨c1_0, c1_1, y1_0, y1_1, n1, rfl, -, -, e1_0, e1_1⟩ := Joins.open_agg2 Try.underlying24 (by kernel_rfl) (by kernel_rfl) (hval 1 24 v1 rfl rfl) h1
  obtain ⟨a1_0, cap1_0, z1_0, hc1_0, w1_0⟩ := Mts.open_rows e1_0
  subst hc1_0
  obtain ⟨a1_1, cap1_1, z1_1, hc1_1, w1_1⟩ := Mts.open_rows e1_1
  subst hc1_1
  clear hA0
  refine (walk W a0_0 cap0_0 z0_0 w0_0 a0_1 cap0_1 z0_1 w0_1 a1_0 cap1_0 z1_0 w1_0 a1_1 cap1_1 z1_1 w1_1 ).mono fun e W' ⟨he, bel⟩ => ?_
  subst he
  exact ⟨_, rfl, _, _, _, [], _, [], hW', trodAll_mk1 (shut_bool Try.underlying4 _), (trodAll_cons_mk (Below.trod laidOut (by kernel_rfl) (of_decide_eq_true (by kernel_rfl)) k0 bel lt0) (trodAll_cons_mk (Below.trod laidOut (by kernel_rfl) (of_decide_eq_true (by kernel_rfl)) k1 bel lt1) trodAll_mk0)), rfl, bel.frame _, fun h => by cases h⟩

theorem proved : Rows.FnExactSameProblemSaid :=
  OpenClaim.holds_of_wide 4 Try.f4 rfl rfl rfl rfl rfl rfl rfl ⟨rfl, rfl, rfl, rfl, rfl⟩ rfl rfl rfl rfl rfl (by kernel_rfl) Try.func4 (by kernel_rfl)
    (of_decide_eq_true (by kernel_rfl)) (by unfold Func.isWrapper; first | (rw [if_pos (by decide +kernel)]; kernel_rfl) | (rw [if_neg (by decide +kernel)]; exact ⟨rfl, rfl⟩))
    (fun os started H enc _ => lifted os started H enc)
end Go.Proofs.Ytofoffdmhekceaa.fnExactSameProblem
