/-
  For every problem and list of numbers ValidAssignment of the program returns what the model returns, and leaves both as they were: the statement FnExactValidAssignment. No condition.
-/
import Derived.Test.YtofoffdmhekceaaRows
import Derived.Test.YtofoffdmhekceaaAsg
import Derived.Test.YtofoffdmhekceaaPrbI
import Derived.Test.YtofoffdmhekceaaBox
import Derived.Deep.DeepCutAuto
import Derived.Deep.RegionWith
import Derived.WalkKit
import Derived.ProofKit
import Derived.OpenShut
import Derived.ShutString
import Derived.Below
import Derived.Lib.SmallJoins
namespace Go.Proofs.Ytofoffdmhekceaa.fnExactValidAssignment
open Go.ChangeShapes Go.WideShapes Go.ChangeAt Go.RowKit
open Go.ChangeMaps (open_string shut_string)
set_option linter.unusedVariables false

theorem own : ownKnob Try.prog.godebug = none := by kernel_rfl
theorem laidOut : laidOutB Try.prog = true := by kernel_rfl

/-- What the walk is told of a slice of integers that came in: it is nil; or it leads to a row of 'cap' cells, the numbers 'zs' (the first 'len' are its elements), each fitting its kind. -/
def IsRow (k : IntKind) (w : World) (a : Option Addr) (len cap : Nat) (zs : List Int) : Prop :=
  (a = none ∧ len = 0 ∧ cap = 0 ∧ zs = []) ∨
  ∃ x, a = some x ∧ len ≤ cap ∧ cap ≤ maxLen ∧ zs.length = cap ∧ (∀ i, i < zs.length → w.cell? (x.add i) = some (.int k (zs.getD i 0))) ∧ ∀ n ∈ zs, (Lit.int k n).wf = true

set_option maxRecDepth 100000 in
set_option maxHeartbeats 4000000 in
/-- The walk. -/
theorem walk (w : World) (a0_0 : Option Addr) (cap0_0 : Nat) (z0_0 : List Mts.Z) (w0_0 : Mts.Arg w a0_0 cap0_0 z0_0) (a0_1 : Option Addr) (cap0_1 : Nat) (z0_1 : List Mts.Z) (w0_1 : Mts.Arg w a0_1 cap0_1 z0_1) (a1 : Option Addr) (len1 cap1 : Nat) (z1 : List Int) (w1 : IsRow .i64 w a1 len1 cap1 z1) :
    Calls Try.prog 5 #[.agg #[.slice a0_0 z0_0.length cap0_0, .slice a0_1 z0_1.length cap0_1], .slice a1 len1 cap1] w fun e w' => e = .returned (.bool true) ∧ Below w.heap.size w w' := by
  have hI0 : Prb.Is w (.agg #[.slice a0_0 z0_0.length cap0_0, .slice a0_1 z0_1.length cap0_1]) ⟨z0_0, z0_1⟩ := ⟨_, _, rfl, w0_0.1, w0_1.1⟩
  have hS0 : Prb.T.Small maxLen ⟨z0_0, z0_1⟩ := ⟨w0_0.2, w0_1.2⟩
  obtain ⟨N0, hN0⟩ : ∃ N : Prb.T, N = ⟨z0_0, z0_1⟩ := ⟨_, rfl⟩
  have e0_0 : z0_0.length = N0.f0.length := by rw [hN0]
  have e0_1 : z0_1.length = N0.f1.length := by rw [hN0]
  rw [← hN0] at hI0 hS0
  rw [e0_0, e0_1] at hI0 ⊢
  have HI0 := Lib.hid hI0
  clear hN0 hI0 w0_0 e0_0 w0_1 e0_1
  obtain ⟨hi1, hl1⟩ := Ints.Ints.of_arg w1
  have mm1 : len1 ≤ maxLen := by
    rcases w1 with ⟨_, h, _, _⟩ | ⟨_, _, h1, h2, _⟩
    · rw [h]; exact Nat.zero_le _
    · exact Nat.le_trans h1 h2
  unfold maxLen at mm1
  clear w1
  by_cases hsz1 : len1 ≤ 1048576
  case neg =>
    have hszi : (1048576 : Int) < (len1 : Int) := by omega
    go_enter Try.func5, Try.ntmps5
    go_wp2_with fail
    go_ret
    exact ⟨rfl, show On w _ by repeat (first | with_reducible exact On.refl _ | with_reducible apply On.alloc | with_reducible apply On.drewN | with_reducible apply On.drew | with_reducible refine On.setCell ?_ (by (try simp) <;> omega) _)⟩
  have hszi1 : ¬ (1048576 : Int) < (len1 : Int) := by omega
  obtain ⟨zz1, hz1⟩ : ∃ z, z = z1.take len1 := ⟨_, rfl⟩
  rw [← hz1] at hi1 hl1
  clear hz1
  subst hl1
  have HZ1 := Lib.hid hi1
  have HL1 := Lib.hid hsz1
  clear hi1 hsz1
  go_enter Try.func5, Try.ntmps5
  go_wp2_with fail
  generalize hW0 : w.alloc (.cells #[.slice a0_0 N0.f0.length cap0_0, .slice a0_1 N0.f1.length cap0_1] 24) = w0
  have O0 := Lib.hid (show On w w0 by rw [← hW0]; repeat (first | with_reducible exact On.refl _ | with_reducible apply On.alloc | with_reducible apply On.drewN | with_reducible apply On.drew | with_reducible refine On.setCell ?_ (by (try simp) <;> omega) _))
  have Ba0_0 := Lib.hid (show Bx.Box w0 (w.heap.size) [.slice a0_0 N0.f0.length cap0_0, .slice a0_1 N0.f1.length cap0_1] from by rw [← hW0]; exact Bx.Box.new _ _ _)
  clear hW0
  have za0 := Ba0_0.out.1
  have ka00 := Ba0_0.out.2 0 _ rfl
  have ka01 := Ba0_0.out.2 1 _ rfl
  refine (Prb.count0 _ N0 _ hS0 (HI0.out.on O0.out)).mono ?_
  rintro e w1 ⟨r, rfl, h1, hr⟩
  rcases hr with hr | ⟨c0, rfl, hc0, hs0⟩
  · go_wp2_with fail
    go_ret
    exact ⟨rfl, O0.out.trans h1⟩
  have hr0 : ¬ (c0 : Int) < 0 := by omega
  have HS0 := Lib.hid hs0
  clear hs0 hS0
  have g1 : On w0 w1 := by refine On.trans ?_ h1; repeat (first | with_reducible exact On.refl _ | with_reducible apply On.alloc | with_reducible apply On.drewN | with_reducible apply On.drew | with_reducible refine On.setCell ?_ (by (try simp) <;> omega) _)
  have O1 := Lib.hid (O0.out.trans g1)
  have Ba0_1 := Lib.hid (Ba0_0.out.on g1)
  clear za0 ka00 ka01
  clear h1 g1
  have za0 := Ba0_1.out.1
  have ka00 := Ba0_1.out.2 0 _ rfl
  have ka01 := Ba0_1.out.2 1 _ rfl
  go_wp2_with fail
  refine (Prb.copy _ N0 _ HS0.out (HI0.out.on O1.out)).mono ?_
  rintro e w2 ⟨vs0, rfl, ho, h2⟩
  have g2 : On w1 w2 := by refine On.trans ?_ h2; repeat (first | with_reducible exact On.refl _ | with_reducible apply On.alloc | with_reducible apply On.drewN | with_reducible apply On.drew | with_reducible refine On.setCell ?_ (by (try simp) <;> omega) _)
  have O2 := Lib.hid (O1.out.trans g2)
  have Ba0_2 := Lib.hid (Ba0_1.out.on g2)
  clear za0 ka00 ka01
  have Is0_2 := Lib.hid ho.is
  clear ho h2 g2
  have za0 := Ba0_2.out.1
  have ka00 := Ba0_2.out.2 0 _ rfl
  have ka01 := Ba0_2.out.2 1 _ rfl
  go_wp2_with fail
  refine (Ints.copy _ zz1 _ HL1.out (HZ1.out.below O2.out)).mono ?_
  rintro e w3 ⟨vs1, rfl, ho, h3⟩
  have g3 : On w2 w3 := by refine On.trans ?_ h3; repeat (first | with_reducible exact On.refl _ | with_reducible apply On.alloc | with_reducible apply On.drewN | with_reducible apply On.drew | with_reducible refine On.setCell ?_ (by (try simp) <;> omega) _)
  have O3 := Lib.hid (O2.out.trans g3)
  have Ba0_3 := Lib.hid (Ba0_2.out.on g3)
  have Is0_3 := Lib.hid (Is0_2.out.on g3)
  clear za0 ka00 ka01
  have Is1_3 := Lib.hid ho
  clear ho h3 g3
  have za0 := Ba0_3.out.1
  have ka00 := Ba0_3.out.2 0 _ rfl
  have ka01 := Ba0_3.out.2 1 _ rfl
  go_wp2_with fail
  refine (Asg.spec_ValidAssignment _ N0 _ zz1 _ HS0.out HL1.out Is0_3.out Is1_3.out).mono ?_
  rintro e w4 ⟨rfl, h4⟩
  have g4 : On w3 w4 := by refine On.trans ?_ h4; repeat (first | with_reducible exact On.refl _ | with_reducible apply On.alloc | with_reducible apply On.drewN | with_reducible apply On.drew | with_reducible refine On.setCell ?_ (by (try simp) <;> omega) _)
  have O4 := Lib.hid (O3.out.trans g4)
  have Ba0_4 := Lib.hid (Ba0_3.out.on g4)
  clear za0 ka00 ka01
  clear h4 g4
  have za0 := Ba0_4.out.1
  have ka00 := Ba0_4.out.2 0 _ rfl
  have ka01 := Ba0_4.out.2 1 _ rfl
  go_wp2_with fail
  refine (Prb.copy _ N0 _ HS0.out (HI0.out.on O4.out)).mono ?_
  rintro e w5 ⟨vx0, rfl, ho, h5⟩
  have g5 : On w4 w5 := by refine On.trans ?_ h5; repeat (first | with_reducible exact On.refl _ | with_reducible apply On.alloc | with_reducible apply On.drewN | with_reducible apply On.drew | with_reducible refine On.setCell ?_ (by (try simp) <;> omega) _)
  have O5 := Lib.hid (O4.out.trans g5)
  have Ba0_5 := Lib.hid (Ba0_4.out.on g5)
  clear za0 ka00 ka01
  have Ix0_5 := Lib.hid ho.is
  clear ho h5 g5
  obtain ⟨bx0_0, bx0_1, dx0_0, dx0_1, hvx0⟩ := Ix0_5.out.shape
  subst hvx0
  have za0 := Ba0_5.out.1
  have ka00 := Ba0_5.out.2 0 _ rfl
  have ka01 := Ba0_5.out.2 1 _ rfl
  go_wp2_with fail
  refine (Ints.copy _ zz1 _ HL1.out (HZ1.out.below (O5.out.trans (by repeat (first | with_reducible exact On.refl _ | with_reducible apply On.alloc | with_reducible apply On.drewN | with_reducible apply On.drew | with_reducible refine On.setCell ?_ (by (try simp) <;> omega) _))))).mono ?_
  rintro e w6 ⟨vx1, rfl, ho, h6⟩
  have g6 : On w5 w6 := by refine On.trans ?_ h6; repeat (first | with_reducible exact On.refl _ | with_reducible apply On.alloc | with_reducible apply On.drewN | with_reducible apply On.drew | with_reducible refine On.setCell ?_ (by (try simp) <;> omega) _)
  have O6 := Lib.hid (O5.out.trans g6)
  have Ba0_6 := Lib.hid (Ba0_5.out.on g6)
  have Ix0_6 := Lib.hid (Ix0_5.out.on g6)
  clear za0 ka00 ka01
  have Bx0_6 := Lib.hid (show Bx.Box w6 (w5.heap.size) [.slice bx0_0 N0.f0.length dx0_0, .slice bx0_1 N0.f1.length dx0_1] from (Bx.Box.new _ _ _).on h6)
  have Ix1_6 := Lib.hid ho
  clear ho h6 g6
  have za0 := Ba0_6.out.1
  have ka00 := Ba0_6.out.2 0 _ rfl
  have ka01 := Ba0_6.out.2 1 _ rfl
  have zx0 := Bx0_6.out.1
  have kx00 := Bx0_6.out.2 0 _ rfl
  have kx01 := Bx0_6.out.2 1 _ rfl
  go_wp2_with fail
  refine (Asg.impl_ValidAssignment _ N0 _ zz1 _ HS0.out HL1.out (Ix0_6.out.on (by repeat (first | with_reducible exact On.refl _ | with_reducible apply On.alloc | with_reducible apply On.drewN | with_reducible apply On.drew | with_reducible refine On.setCell ?_ (by (try simp) <;> omega) _))) (Ix1_6.out.below (show On _ _ from by repeat (first | with_reducible exact On.refl _ | with_reducible apply On.alloc | with_reducible apply On.drewN | with_reducible apply On.drew | with_reducible refine On.setCell ?_ (by (try simp) <;> omega) _)))).mono ?_
  rintro e w7 ⟨rfl, h7⟩
  have g7 : On w6 w7 := by refine On.trans ?_ h7; repeat (first | with_reducible exact On.refl _ | with_reducible apply On.alloc | with_reducible apply On.drewN | with_reducible apply On.drew | with_reducible refine On.setCell ?_ (by (try simp) <;> omega) _)
  have O7 := Lib.hid (O6.out.trans g7)
  have Ba0_7 := Lib.hid (Ba0_6.out.on g7)
  have Bx0_7 := Lib.hid (Bx0_6.out.on g7)
  have Ix0_7 := Lib.hid (Ix0_6.out.on g7)
  have Ix1_7 := Lib.hid (Ix1_6.out.below g7)
  clear za0 ka00 ka01 zx0 kx00 kx01
  clear h7 g7
  have za0 := Ba0_7.out.1
  have ka00 := Ba0_7.out.2 0 _ rfl
  have ka01 := Ba0_7.out.2 1 _ rfl
  have zx0 := Bx0_7.out.1
  have kx00 := Bx0_7.out.2 0 _ rfl
  have kx01 := Bx0_7.out.2 1 _ rfl
  have hcc0 : ((Asg.asgB N0 zz1) != (Asg.asgB N0 zz1)) = false := bne_self_eq_false _
  generalize (Asg.asgB N0 zz1) = ok0 at *
  go_upto_region 13 with fail
  go_cut [37] (fun s wx => s = .bool false ∧ On w7 wx)
  case first =>
    go_region_with (first
      | (go_at_call 12; refine (Prb.copy _ N0 _ HS0.out (HI0.out.on (O7.out.trans (by repeat (first | with_reducible exact On.refl _ | with_reducible apply On.drew | with_reducible apply On.drewN))))).mono ?_; rintro e wy ⟨vy, rfl, hoy, hy⟩; have JY := Lib.hid hoy.is; (have gy : On w7 wy := by refine On.trans ?_ hy; repeat (first | with_reducible exact On.refl _ | with_reducible apply On.drew | with_reducible apply On.drewN)); have BY := Lib.hid (Bx0_7.out.on gy); have y0 := BY.out.2 0 _ rfl; have y1 := BY.out.2 1 _ rfl; have yz := BY.out.1; clear hoy)
      | (go_at_call 14; refine (Prb.eq _ _ N0 _ HS0.out (Ix0_7.out.on ((‹On w7 _›).trans (by repeat (first | with_reducible exact On.refl _ | with_reducible apply On.drew | with_reducible apply On.drewN)))) (JY.out.on (by repeat (first | with_reducible exact On.refl _ | with_reducible apply On.drew | with_reducible apply On.drewN)))).mono ?_; rintro e wz ⟨rfl, hz⟩))
    all_goals
      go_wp2_with fail
      go_meet
      exact ⟨rfl, On.trans ‹On w7 wy› (On.trans (by repeat (first | with_reducible exact On.refl _ | with_reducible apply On.drew | with_reducible apply On.drewN)) ‹On _ wz›)⟩
  case rest =>
    obtain ⟨rfl, g9⟩ := hcut
    rename World => w9
    have O9 := Lib.hid (O7.out.trans g9)
    have Ba0_9 := Lib.hid (Ba0_7.out.on g9)
    have Bx0_9 := Lib.hid (Bx0_7.out.on g9)
    have Ix0_9 := Lib.hid (Ix0_7.out.on g9)
    have Ix1_9 := Lib.hid (Ix1_7.out.below g9)
    clear za0 ka00 ka01 zx0 kx00 kx01
    clear g9
    have za0 := Ba0_9.out.1
    have ka00 := Ba0_9.out.2 0 _ rfl
    have ka01 := Ba0_9.out.2 1 _ rfl
    have zx0 := Bx0_9.out.1
    have kx00 := Bx0_9.out.2 0 _ rfl
    have kx01 := Bx0_9.out.2 1 _ rfl
    go_wp2_with fail
    refine (Ints.copy _ zz1 _ HL1.out (HZ1.out.below O9.out)).mono ?_
    rintro e w10 ⟨vy1, rfl, ho, h10⟩
    have g10 : On w9 w10 := by refine On.trans ?_ h10; repeat (first | with_reducible exact On.refl _ | with_reducible apply On.alloc | with_reducible apply On.drewN | with_reducible apply On.drew | with_reducible refine On.setCell ?_ (by (try simp) <;> omega) _)
    have O10 := Lib.hid (O9.out.trans g10)
    have Ba0_10 := Lib.hid (Ba0_9.out.on g10)
    have Bx0_10 := Lib.hid (Bx0_9.out.on g10)
    have Ix0_10 := Lib.hid (Ix0_9.out.on g10)
    have Ix1_10 := Lib.hid (Ix1_9.out.below g10)
    clear za0 ka00 ka01 zx0 kx00 kx01
    have Iy1_10 := Lib.hid ho
    clear ho h10 g10
    have za0 := Ba0_10.out.1
    have ka00 := Ba0_10.out.2 0 _ rfl
    have ka01 := Ba0_10.out.2 1 _ rfl
    have zx0 := Bx0_10.out.1
    have kx00 := Bx0_10.out.2 0 _ rfl
    have kx01 := Bx0_10.out.2 1 _ rfl
    go_wp2_with fail
    refine (Ints.eq _ _ zz1 _ HL1.out Ix1_10.out Iy1_10.out).mono ?_
    rintro e w11 ⟨rfl, nn11, rfl⟩
    go_wp2_with fail
    go_ret
    exact ⟨rfl, O10.out.trans (by repeat (first | with_reducible exact On.refl _ | with_reducible apply On.drew | with_reducible apply On.drewN))⟩

set_option maxRecDepth 100000 in
/-- The row's step. -/
theorem lifted (os : Os) (started : os.Started) (H : Type) (enc : TypeId × Value → H) :
    ReturnsInHanded {} Try.checked os 5 .any (Rows.fnExactValidAssignmentSpec.pre6 enc Try.prog Try.f5 Rows.fnExactValidAssignmentRow.domain false) (Rows.fnExactValidAssignmentSpec.post enc Try.prog Try.f5 false true false false) := by
  refine returnsInHanded_of_change (C := Try.checked) own started (by kernel_rfl) Try.func5
    (ChangeSpec.witness6 (enc := enc) (C := Try.checked) false ⟨#[], #[.agg #[.slice none 0 0, .slice none 0 0], .slice none 0 0], []⟩ 8 (by kernel_rfl) (by kernel_rfl) (by kernel_rfl) (by kernel_rfl)) ?_
  intro W base args ds gs before hval0 hW hcnd _
  have hval : ∀ (j : Nat) t v, Try.f5.params[j]? = some t → args[j]? = some v → Value.okWide Try.prog W .any base t v := hval0
  have hW' := hW
  obtain ⟨p, q, hA0, hV, rfl, hfz, hnd⟩ := hW
  have hA : DataW.TrodAll enc Try.prog W 0 (fun _ => true) true Try.f5.params.toList args.toList ds p := hA0
  rw [Try.params5] at hA hval
  obtain ⟨v0, vs0, d0, ds0, p0, q0, hargs, rfl, rfl, h0, r0⟩ := trodAll_cons hA
  obtain ⟨v1, vs1, d1, ds1, p1, q1, rfl, rfl, rfl, h1, r1⟩ := trodAll_cons r0
  obtain ⟨rfl, rfl, rfl⟩ := trodAll_nil r1
  obtain rfl : args = #[v0, v1] := by cases args; simp_all
  obtain ⟨rfl, rfl⟩ := trodVars_none hV
  have k0 := h0
  have lt0 : ∀ x ∈ p0, x.block < W.heap.size := by obtain ⟨m, hm⟩ := k0; exact DataW.trod_lt m _ _ _ hm
  obtain ⟨c0_0, c0_1, y0_0, y0_1, n0, rfl, -, -, e0_0, e0_1⟩ := Joins.open_agg2 Try.underlying24 (by kernel_rfl) (by kernel_rfl) (hval 0 24 v0 rfl rfl) h0
  obtain ⟨a0_0, cap0_0, z0_0, hc0_0, w0_0⟩ := Mts.open_rows e0_0
  subst hc0_0
  obtain ⟨a0_1, cap0_1, z0_1, hc0_1, w0_1⟩ := Mts.open_rows e0_1
  subst hc0_1
  obtain ⟨a1, len1, cap1, rfl⟩ := okWide_slice Try.underlying32 (hval 1 32 v1 rfl rfl)
  have k1 := h1
  have lt1 : ∀ x ∈ p1, x.block < W.heap.size := by obtain ⟨m, hm⟩ := k1; exact DataW.trod_lt m _ _ _ hm
  obtain ⟨z1, w1⟩ : ∃ zs, IsRow .i64 W a1 len1 cap1 zs := by
    obtain ⟨fuel, hf⟩ := h1
    rcases open_ints Try.underlying32 Try.underlying2 (by kernel_rfl) hf with ⟨hcs, _⟩ | ⟨x, l, c, zs, hcs, _, hl, hm, hz, _, hcell, hwz⟩
    · simp [Value.cells] at hcs
      obtain ⟨rfl, rfl, rfl⟩ := hcs
      exact ⟨[], .inl ⟨rfl, rfl, rfl, rfl⟩⟩
    · simp [Value.cells] at hcs
      obtain ⟨rfl, rfl, rfl⟩ := hcs
      exact ⟨zs, .inr ⟨_, rfl, hl, hm, by simpa using hz, hcell, hwz⟩⟩
  clear hA0
  refine (walk W a0_0 cap0_0 z0_0 w0_0 a0_1 cap0_1 z0_1 w0_1 a1 len1 cap1 z1 w1 ).mono fun e W' ⟨he, bel⟩ => ?_
  subst he
  exact ⟨_, rfl, _, _, _, [], _, [], hW', trodAll_mk1 (shut_bool Try.underlying4 _), (trodAll_cons_mk (Below.trod laidOut (by kernel_rfl) (of_decide_eq_true (by kernel_rfl)) k0 bel lt0) (trodAll_cons_mk (Below.trod laidOut (by kernel_rfl) (of_decide_eq_true (by kernel_rfl)) k1 bel lt1) trodAll_mk0)), rfl, bel.frame _, fun h => by cases h⟩

theorem proved : Rows.FnExactValidAssignmentSaid :=
  OpenClaim.holds_of_wide 5 Try.f5 rfl rfl rfl rfl rfl rfl rfl ⟨rfl, rfl, rfl, rfl, rfl⟩ rfl rfl rfl rfl rfl (by kernel_rfl) Try.func5 (by kernel_rfl)
    (of_decide_eq_true (by kernel_rfl)) (by unfold Func.isWrapper; first | (rw [if_pos (by decide +kernel)]; kernel_rfl) | (rw [if_neg (by decide +kernel)]; exact ⟨rfl, rfl⟩))
    (fun os started H enc _ => lifted os started H enc)
end Go.Proofs.Ytofoffdmhekceaa.fnExactValidAssignment
