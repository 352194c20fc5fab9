/-
  For every network and text EndOf of the program returns what the model returns, and leaves the network as it was: the statement FnExactEndOf. No condition.
-/
import Derived.Test.YtpnmodmaabhldaaGreatRows
import Derived.Test.YtpnmodmaabhldaaGreatNetE
import Derived.Test.YtpnmodmaabhldaaGreatBox
import Derived.WalkKit
import Derived.ProofKit
import Derived.OpenShut
import Derived.ShutString
import Derived.Below
import Derived.Lib.SmallJoins
namespace Go.Proofs.YtpnmodmaabhldaaGreat.fnExactEndOf
open Go.ChangeShapes Go.WideShapes Go.ChangeAt Go.RowKit
open Go.ChangeMaps (open_string shut_string)
set_option linter.unusedVariables false

theorem own : ownKnob Tryz.prog.godebug = none := by kernel_rfl
theorem laidOut : laidOutB Tryz.prog = true := by kernel_rfl

set_option maxRecDepth 100000 in
set_option maxHeartbeats 4000000 in
/-- The walk. -/
theorem walk (w : World) (a0_0 : Option Addr) (cap0_0 : Nat) (z0_0 : List Sites.Z) (w0_0 : Sites.Arg w a0_0 cap0_0 z0_0) (a0_1 : Option Addr) (cap0_1 : Nat) (z0_1 : List Secs.Z) (w0_1 : Secs.Arg w a0_1 cap0_1 z0_1) (a0_2 : Option Addr) (cap0_2 : Nat) (z0_2 : List Ants.Z) (w0_2 : Ants.Arg w a0_2 cap0_2 z0_2) (a0_3 : Option Addr) (cap0_3 : Nat) (z0_3 : List Rads.Z) (w0_3 : Rads.Arg w a0_3 cap0_3 z0_3) (a1 : ByteArray) (w1 : a1.size ≤ maxLen) :
    Calls Tryz.prog 4 #[.agg #[.slice a0_0 z0_0.length cap0_0, .slice a0_1 z0_1.length cap0_1, .slice a0_2 z0_2.length cap0_2, .slice a0_3 z0_3.length cap0_3], .string a1] w fun e w' => e = .returned (.bool true) ∧ Below w.heap.size w w' := by
  have hI0 : Net.Is w (.agg #[.slice a0_0 z0_0.length cap0_0, .slice a0_1 z0_1.length cap0_1, .slice a0_2 z0_2.length cap0_2, .slice a0_3 z0_3.length cap0_3]) ⟨z0_0, z0_1, z0_2, z0_3⟩ := ⟨_, _, _, _, rfl, w0_0.1, w0_1.1, w0_2.1, w0_3.1⟩
  have hS0 : Net.T.Small maxLen ⟨z0_0, z0_1, z0_2, z0_3⟩ := ⟨w0_0.2, w0_1.2, w0_2.2, w0_3.2⟩
  obtain ⟨N0, hN0⟩ : ∃ N : Net.T, N = ⟨z0_0, z0_1, z0_2, z0_3⟩ := ⟨_, rfl⟩
  have e0_0 : z0_0.length = N0.f0.length := by rw [hN0]
  have e0_1 : z0_1.length = N0.f1.length := by rw [hN0]
  have e0_2 : z0_2.length = N0.f2.length := by rw [hN0]
  have e0_3 : z0_3.length = N0.f3.length := by rw [hN0]
  rw [← hN0] at hI0 hS0
  rw [e0_0, e0_1, e0_2, e0_3] at hI0 ⊢
  have HI0 := Lib.hid hI0
  clear hN0 hI0 w0_0 w0_1 w0_2 w0_3 e0_0 e0_1 e0_2 e0_3
  by_cases hsz1 : a1.size ≤ 1048576
  case neg =>
    have hszi : (1048576 : Int) < (a1.size : Int) := by omega
    go_enter Tryz.func4, Tryz.ntmps4
    go_wp2_with fail
    go_ret
    exact ⟨rfl, show On w _ by repeat (first | with_reducible exact On.refl _ | with_reducible apply On.alloc | with_reducible apply On.drewN | with_reducible apply On.drew | with_reducible refine On.setCell ?_ (by (try simp) <;> omega) _)⟩
  have hszi1 : ¬ (1048576 : Int) < (a1.size : Int) := by omega
  have HSZ1 := Lib.hid hsz1
  clear hsz1 w1
  obtain ⟨⟨⟨p, q, r⟩, c⟩, ez⟩ : ∃ s, s = Net.endOf N0 a1 := ⟨_, rfl⟩
  have EZ := Lib.hid ez
  clear ez
  go_enter Tryz.func4, Tryz.ntmps4
  go_wp2_with fail
  generalize hW0 : w.alloc (.cells #[.slice a0_0 N0.f0.length cap0_0, .slice a0_1 N0.f1.length cap0_1, .slice a0_2 N0.f2.length cap0_2, .slice a0_3 N0.f3.length cap0_3] 27) = w0
  have O0 := Lib.hid (show On w w0 by rw [← hW0]; repeat (first | with_reducible exact On.refl _ | with_reducible apply On.alloc | with_reducible apply On.drewN | with_reducible apply On.drew | with_reducible refine On.setCell ?_ (by (try simp) <;> omega) _))
  have Ba0_0 := Lib.hid (show Bx.Box w0 (w.heap.size) [.slice a0_0 N0.f0.length cap0_0, .slice a0_1 N0.f1.length cap0_1, .slice a0_2 N0.f2.length cap0_2, .slice a0_3 N0.f3.length cap0_3] from by rw [← hW0]; exact Bx.Box.new _ _ _)
  clear hW0
  have za0 := Ba0_0.out.1
  have ka00 := Ba0_0.out.2 0 _ rfl
  have ka01 := Ba0_0.out.2 1 _ rfl
  have ka02 := Ba0_0.out.2 2 _ rfl
  have ka03 := Ba0_0.out.2 3 _ rfl
  refine (Net.count0 _ N0 _ hS0 (HI0.out.on O0.out)).mono ?_
  rintro e w1 ⟨r, rfl, h1, hr⟩
  rcases hr with hr | ⟨c0, rfl, hc0, hs0⟩
  · go_wp2_with fail
    go_ret
    exact ⟨rfl, O0.out.trans h1⟩
  have hr0 : ¬ (c0 : Int) < 0 := by omega
  have HS0 := Lib.hid hs0
  clear hs0 hS0
  have g1 : On w0 w1 := by refine On.trans ?_ h1; repeat (first | with_reducible exact On.refl _ | with_reducible apply On.alloc | with_reducible apply On.drewN | with_reducible apply On.drew | with_reducible refine On.setCell ?_ (by (try simp) <;> omega) _)
  have O1 := Lib.hid (O0.out.trans g1)
  have Ba0_1 := Lib.hid (Ba0_0.out.on g1)
  clear za0 ka00 ka01 ka02 ka03
  clear h1 g1
  have za0 := Ba0_1.out.1
  have ka00 := Ba0_1.out.2 0 _ rfl
  have ka01 := Ba0_1.out.2 1 _ rfl
  have ka02 := Ba0_1.out.2 2 _ rfl
  have ka03 := Ba0_1.out.2 3 _ rfl
  go_wp2_with fail
  refine (Net.copy _ N0 _ HS0.out (HI0.out.on O1.out)).mono ?_
  rintro e w2 ⟨vs0, rfl, ho, h2⟩
  have g2 : On w1 w2 := by refine On.trans ?_ h2; repeat (first | with_reducible exact On.refl _ | with_reducible apply On.alloc | with_reducible apply On.drewN | with_reducible apply On.drew | with_reducible refine On.setCell ?_ (by (try simp) <;> omega) _)
  have O2 := Lib.hid (O1.out.trans g2)
  have Ba0_2 := Lib.hid (Ba0_1.out.on g2)
  clear za0 ka00 ka01 ka02 ka03
  have Is0_2 := Lib.hid ho.is
  clear ho h2 g2
  have za0 := Ba0_2.out.1
  have ka00 := Ba0_2.out.2 0 _ rfl
  have ka01 := Ba0_2.out.2 1 _ rfl
  have ka02 := Ba0_2.out.2 2 _ rfl
  have ka03 := Ba0_2.out.2 3 _ rfl
  go_wp2_with fail
  refine (Net.spec_EndOf _ a1 N0 _ HS0.out Is0_2.out).mono ?_
  rintro e w3 ⟨p2, q2, r2, c2, rfl, e2, h3⟩
  obtain ⟨e3, rfl⟩ : (p, q, r) = (p2, q2, r2) ∧ c = c2 := Prod.mk.inj (EZ.out.trans e2)
  obtain ⟨rfl, e4⟩ : p = p2 ∧ (q, r) = (q2, r2) := Prod.mk.inj e3
  obtain ⟨rfl, rfl⟩ : q = q2 ∧ r = r2 := Prod.mk.inj e4
  clear e2 e3 e4
  have g3 : On w2 w3 := by refine On.trans ?_ h3; repeat (first | with_reducible exact On.refl _ | with_reducible apply On.alloc | with_reducible apply On.drewN | with_reducible apply On.drew | with_reducible refine On.setCell ?_ (by (try simp) <;> omega) _)
  have O3 := Lib.hid (O2.out.trans g3)
  have Ba0_3 := Lib.hid (Ba0_2.out.on g3)
  clear za0 ka00 ka01 ka02 ka03
  clear h3 g3
  have za0 := Ba0_3.out.1
  have ka00 := Ba0_3.out.2 0 _ rfl
  have ka01 := Ba0_3.out.2 1 _ rfl
  have ka02 := Ba0_3.out.2 2 _ rfl
  have ka03 := Ba0_3.out.2 3 _ rfl
  go_wp2_with fail
  refine (Net.copy _ N0 _ HS0.out (HI0.out.on (O3.out.trans (by repeat (first | with_reducible exact On.refl _ | with_reducible apply On.alloc | with_reducible apply On.drewN | with_reducible apply On.drew | with_reducible refine On.setCell ?_ (by (try simp) <;> omega) _))))).mono ?_
  rintro e w4 ⟨vx0, rfl, ho, h4⟩
  have g4 : On w3 w4 := by refine On.trans ?_ h4; repeat (first | with_reducible exact On.refl _ | with_reducible apply On.alloc | with_reducible apply On.drewN | with_reducible apply On.drew | with_reducible refine On.setCell ?_ (by (try simp) <;> omega) _)
  have O4 := Lib.hid (O3.out.trans g4)
  have Ba0_4 := Lib.hid (Ba0_3.out.on g4)
  clear za0 ka00 ka01 ka02 ka03
  have Br_4 := Lib.hid (show Bx.Box w4 (w3.heap.size) [.int .i64 p, .int .i64 q, .int .i64 r] from (Bx.Box.new _ _ _).on h4)
  have Ix0_4 := Lib.hid ho.is
  clear ho h4 g4
  obtain ⟨bx0_0, bx0_1, bx0_2, bx0_3, dx0_0, dx0_1, dx0_2, dx0_3, hvx0⟩ := Ix0_4.out.shape
  subst hvx0
  have za0 := Ba0_4.out.1
  have ka00 := Ba0_4.out.2 0 _ rfl
  have ka01 := Ba0_4.out.2 1 _ rfl
  have ka02 := Ba0_4.out.2 2 _ rfl
  have ka03 := Ba0_4.out.2 3 _ rfl
  have zr := Br_4.out.1
  have kr0 := Br_4.out.2 0 _ rfl
  have kr1 := Br_4.out.2 1 _ rfl
  have kr2 := Br_4.out.2 2 _ rfl
  go_wp2_with fail
  refine (Net.impl_EndOf _ a1 N0 _ HS0.out (Ix0_4.out.on (by repeat (first | with_reducible exact On.refl _ | with_reducible apply On.alloc | with_reducible apply On.drewN | with_reducible apply On.drew | with_reducible refine On.setCell ?_ (by (try simp) <;> omega) _)))).mono ?_
  rintro e w5 ⟨p2, q2, r2, c2, rfl, e2, h5⟩
  obtain ⟨e3, rfl⟩ : (p, q, r) = (p2, q2, r2) ∧ c = c2 := Prod.mk.inj (EZ.out.trans e2)
  obtain ⟨rfl, e4⟩ : p = p2 ∧ (q, r) = (q2, r2) := Prod.mk.inj e3
  obtain ⟨rfl, rfl⟩ : q = q2 ∧ r = r2 := Prod.mk.inj e4
  clear e2 e3 e4
  have g5 : On w4 w5 := by refine On.trans ?_ h5; repeat (first | with_reducible exact On.refl _ | with_reducible apply On.alloc | with_reducible apply On.drewN | with_reducible apply On.drew | with_reducible refine On.setCell ?_ (by (try simp) <;> omega) _)
  have O5 := Lib.hid (O4.out.trans g5)
  have Ba0_5 := Lib.hid (Ba0_4.out.on g5)
  have Br_5 := Lib.hid (Br_4.out.on g5)
  clear za0 ka00 ka01 ka02 ka03 zr kr0 kr1 kr2
  have Bx0_5 := Lib.hid (show Bx.Box w5 (w4.heap.size) [.slice bx0_0 N0.f0.length dx0_0, .slice bx0_1 N0.f1.length dx0_1, .slice bx0_2 N0.f2.length dx0_2, .slice bx0_3 N0.f3.length dx0_3] from (Bx.Box.new _ _ _).on h5)
  have Ix0_5 := Lib.hid (Ix0_4.out.on g5)
  clear h5 g5
  have za0 := Ba0_5.out.1
  have ka00 := Ba0_5.out.2 0 _ rfl
  have ka01 := Ba0_5.out.2 1 _ rfl
  have ka02 := Ba0_5.out.2 2 _ rfl
  have ka03 := Ba0_5.out.2 3 _ rfl
  have zr := Br_5.out.1
  have kr0 := Br_5.out.2 0 _ rfl
  have kr1 := Br_5.out.2 1 _ rfl
  have kr2 := Br_5.out.2 2 _ rfl
  have zx0 := Bx0_5.out.1
  have kx00 := Bx0_5.out.2 0 _ rfl
  have kx01 := Bx0_5.out.2 1 _ rfl
  have kx02 := Bx0_5.out.2 2 _ rfl
  have kx03 := Bx0_5.out.2 3 _ rfl
  go_wp2_with fail
  refine (Net.eqEnd p q r _).mono ?_
  rintro e w6 ⟨rfl, h6⟩
  have g6 : On w5 w6 := by refine On.trans ?_ h6; repeat (first | with_reducible exact On.refl _ | with_reducible apply On.alloc | with_reducible apply On.drewN | with_reducible apply On.drew | with_reducible refine On.setCell ?_ (by (try simp) <;> omega) _)
  have O6 := Lib.hid (O5.out.trans g6)
  have Ba0_6 := Lib.hid (Ba0_5.out.on g6)
  have Br_6 := Lib.hid (Br_5.out.on g6)
  have Bx0_6 := Lib.hid (Bx0_5.out.on g6)
  clear za0 ka00 ka01 ka02 ka03 zr kr0 kr1 kr2 zx0 kx00 kx01 kx02 kx03
  have Bg_6 := Lib.hid (show Bx.Box w6 (w5.heap.size) [.int .i64 p, .int .i64 q, .int .i64 r] from (Bx.Box.new _ _ _).on h6)
  have Ix0_6 := Lib.hid (Ix0_5.out.on g6)
  clear h6 g6
  have za0 := Ba0_6.out.1
  have ka00 := Ba0_6.out.2 0 _ rfl
  have ka01 := Ba0_6.out.2 1 _ rfl
  have ka02 := Ba0_6.out.2 2 _ rfl
  have ka03 := Ba0_6.out.2 3 _ rfl
  have zr := Br_6.out.1
  have kr0 := Br_6.out.2 0 _ rfl
  have kr1 := Br_6.out.2 1 _ rfl
  have kr2 := Br_6.out.2 2 _ rfl
  have zx0 := Bx0_6.out.1
  have kx00 := Bx0_6.out.2 0 _ rfl
  have kx01 := Bx0_6.out.2 1 _ rfl
  have kx02 := Bx0_6.out.2 2 _ rfl
  have kx03 := Bx0_6.out.2 3 _ rfl
  have zg := Bg_6.out.1
  have kg0 := Bg_6.out.2 0 _ rfl
  have kg1 := Bg_6.out.2 1 _ rfl
  have kg2 := Bg_6.out.2 2 _ rfl
  go_wp2_with fail
  go_region_with (first
    | (go_at_call 13; refine (Net.copy _ N0 _ HS0.out (HI0.out.on (O6.out.trans (by repeat (first | with_reducible exact On.refl _ | with_reducible apply On.drew | with_reducible apply On.drewN))))).mono ?_; rintro e w7 ⟨vy, rfl, hoy, hy⟩; have JY := Lib.hid hoy.is; (have gy : On w6 w7 := by refine On.trans ?_ hy; repeat (first | with_reducible exact On.refl _ | with_reducible apply On.drew | with_reducible apply On.drewN)); have BY := Lib.hid (Bx0_6.out.on gy); have y0 := BY.out.2 0 _ rfl; have y1 := BY.out.2 1 _ rfl; have y2 := BY.out.2 2 _ rfl; have y3 := BY.out.2 3 _ rfl; have yz := BY.out.1; clear hoy)
    | (go_at_call 16; refine (Net.eq _ _ N0 _ HS0.out (Ix0_6.out.on ((‹On w6 _›).trans (by repeat (first | with_reducible exact On.refl _ | with_reducible apply On.drew | with_reducible apply On.drewN)))) (JY.out.on (by repeat (first | with_reducible exact On.refl _ | with_reducible apply On.drew | with_reducible apply On.drewN)))).mono ?_; rintro e w8 ⟨rfl, hz⟩))
  all_goals
    go_wp2_with fail
    go_ret
    exact ⟨rfl, On.trans O6.out (On.trans ‹On w6 _› (On.trans (by repeat (first | with_reducible exact On.refl _ | with_reducible apply On.drew | with_reducible apply On.drewN)) ‹On _ w8›))⟩

set_option maxRecDepth 100000 in
/-- The row's step. -/
theorem lifted (os : Os) (started : os.Started) (H : Type) (enc : TypeId × Value → H) :
    ReturnsInHanded {} Tryz.checked os 4 .any (Rows.fnExactEndOfSpec.pre6 enc Tryz.prog Tryz.f4 Rows.fnExactEndOfRow.domain false) (Rows.fnExactEndOfSpec.post enc Tryz.prog Tryz.f4 false true false false) := by
  refine returnsInHanded_of_change (C := Tryz.checked) own started (by kernel_rfl) Tryz.func4
    (ChangeSpec.witness6 (enc := enc) (C := Tryz.checked) false ⟨#[], #[.agg #[.slice none 0 0, .slice none 0 0, .slice none 0 0, .slice none 0 0], .string ByteArray.empty], []⟩ 8 (by kernel_rfl) (by kernel_rfl) (by kernel_rfl) (by kernel_rfl)) ?_
  intro W base args ds gs before hval0 hW hcnd _
  have hval : ∀ (j : Nat) t v, Tryz.f4.params[j]? = some t → args[j]? = some v → Value.okWide Tryz.prog W .any base t v := hval0
  have hW' := hW
  obtain ⟨p, q, hA0, hV, rfl, hfz, hnd⟩ := hW
  have hA : DataW.TrodAll enc Tryz.prog W 0 (fun _ => true) true Tryz.f4.params.toList args.toList ds p := hA0
  rw [Tryz.params4] at hA hval
  obtain ⟨v0, vs0, d0, ds0, p0, q0, hargs, rfl, rfl, h0, r0⟩ := trodAll_cons hA
  obtain ⟨v1, vs1, d1, ds1, p1, q1, rfl, rfl, rfl, h1, r1⟩ := trodAll_cons r0
  obtain ⟨rfl, rfl, rfl⟩ := trodAll_nil r1
  obtain rfl : args = #[v0, v1] := by cases args; simp_all
  obtain ⟨rfl, rfl⟩ := trodVars_none hV
  have k0 := h0
  have lt0 : ∀ x ∈ p0, x.block < W.heap.size := by obtain ⟨m, hm⟩ := k0; exact DataW.trod_lt m _ _ _ hm
  obtain ⟨c0_0, c0_1, c0_2, c0_3, y0_0, y0_1, y0_2, y0_3, n0, rfl, -, -, e0_0, e0_1, e0_2, e0_3⟩ := Joins.open_agg4 Tryz.underlying27 (by kernel_rfl) (by kernel_rfl) (hval 0 27 v0 rfl rfl) h0
  obtain ⟨a0_0, cap0_0, z0_0, hc0_0, w0_0⟩ := Sites.open_rows e0_0
  subst hc0_0
  obtain ⟨a0_1, cap0_1, z0_1, hc0_1, w0_1⟩ := Secs.open_rows e0_1
  subst hc0_1
  obtain ⟨a0_2, cap0_2, z0_2, hc0_2, w0_2⟩ := Ants.open_rows e0_2
  subst hc0_2
  obtain ⟨a0_3, cap0_3, z0_3, hc0_3, w0_3⟩ := Rads.open_rows e0_3
  subst hc0_3
  obtain ⟨a1, rfl, rfl, rfl, w1⟩ := open_string Tryz.underlying9 (hval 1 9 v1 rfl rfl) h1
  clear hA0
  refine (walk W a0_0 cap0_0 z0_0 w0_0 a0_1 cap0_1 z0_1 w0_1 a0_2 cap0_2 z0_2 w0_2 a0_3 cap0_3 z0_3 w0_3 a1 w1 ).mono fun e W' ⟨he, bel⟩ => ?_
  subst he
  exact ⟨_, rfl, _, _, _, [], _, [], hW', trodAll_mk1 (shut_bool Tryz.underlying4 _), (trodAll_cons_mk (Below.trod laidOut (by kernel_rfl) (of_decide_eq_true (by kernel_rfl)) k0 bel lt0) (trodAll_cons_mk (shut_string Tryz.underlying9 w1) trodAll_mk0)), rfl, bel.frame _, fun h => by cases h⟩

theorem proved : Rows.FnExactEndOfSaid :=
  OpenClaim.holds_of_wide 4 Tryz.f4 rfl rfl rfl rfl rfl rfl rfl ⟨rfl, rfl, rfl, rfl, rfl⟩ rfl rfl rfl rfl rfl (by kernel_rfl) Tryz.func4 (by kernel_rfl)
    (of_decide_eq_true (by kernel_rfl)) (by unfold Func.isWrapper; first | (rw [if_pos (by decide +kernel)]; kernel_rfl) | (rw [if_neg (by decide +kernel)]; exact ⟨rfl, rfl⟩))
    (fun os started H enc _ => lifted os started H enc)
end Go.Proofs.YtpnmodmaabhldaaGreat.fnExactEndOf
