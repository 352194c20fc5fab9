/-
  For every profile and every frequency EdgesOf of the program returns what the model returns, a slice of its own memory, the same at a second call, and leaves the profile alone: the statement FnExactEdgesOf, with no condition (a profile of more than 1048576 heights is let pass by the statement itself).
-/
import Derived.Test.YtmmhekakihimfaaRows
import Derived.Test.YtmmhekakihimfaaEdgesOf
import Derived.Test.YtmmhekakihimfaaPRecOwn
import Derived.Test.YtmmhekakihimfaaOwnOff
import Derived.Deep.DeepCutAuto
import Derived.WalkKit
import Derived.ProofKit
import Derived.OpenShut
import Derived.ShutString
import Derived.Below
import Derived.Lib.SmallJoins
namespace Go.Proofs.Ytmmhekakihimfaa.fnExactEdgesOf
open Go.ChangeShapes Go.WideShapes Go.ChangeAt Go.RowKit
open Go.ChangeMaps (open_string shut_string)
set_option linter.unusedVariables false

theorem own : ownKnob Try.prog.godebug = none := by kernel_rfl
theorem laidOut : laidOutB Try.prog = true := by kernel_rfl

/-- What the walk is told of a slice of integers that came in: it is nil; or it leads to a row of 'cap' cells, the numbers 'zs' (the first 'len' are its elements), each fitting its kind. -/
def IsRow (k : IntKind) (w : World) (a : Option Addr) (len cap : Nat) (zs : List Int) : Prop :=
  (a = none ∧ len = 0 ∧ cap = 0 ∧ zs = []) ∨
  ∃ x, a = some x ∧ len ≤ cap ∧ cap ≤ maxLen ∧ zs.length = cap ∧ (∀ i, i < zs.length → w.cell? (x.add i) = some (.int k (zs.getD i 0))) ∧ ∀ n ∈ zs, (Lit.int k n).wf = true

set_option maxRecDepth 100000 in
set_option maxHeartbeats 4000000 in
/-- The walk. -/
theorem walk (w : World) (x0_0 : Int) (wx0_0 : (Lit.int .i64 x0_0).wf = true) (x0_1 : Int) (wx0_1 : (Lit.int .i64 x0_1).wf = true) (x0_2 : Int) (wx0_2 : (Lit.int .i64 x0_2).wf = true) (a0_3 : Option Addr) (len0_3 cap0_3 : Nat) (z0_3 : List Int) (w0_3 : IsRow .i64 w a0_3 len0_3 cap0_3 z0_3) (a1 : Int) (w1 : (Lit.int .i64 a1).wf = true) :
    Calls Try.prog 5 #[.agg #[.int .i64 x0_0, .int .i64 x0_1, .int .i64 x0_2, .slice a0_3 len0_3 cap0_3], .int .i64 a1] w fun e w' => e = .returned (.bool true) ∧ Below w.heap.size w w' := by
  obtain ⟨hi3, hl3⟩ := Ints.Ints.of_arg w0_3
  have m3 : len0_3 ≤ maxLen := by
    rcases w0_3 with ⟨_, h, _, _⟩ | ⟨_, _, h1, h2, _⟩
    · rw [h]; exact Nat.zero_le _
    · exact Nat.le_trans h1 h2
  have hz := fun w => PRec.count 1048576 x0_0 x0_1 x0_2 a0_3 len0_3 cap0_3 w (by omega) m3
  rw [show (((1048576 : Nat) : Int)) = 1048576 from rfl] at hz
  clear w0_3 wx0_0 wx0_1 wx0_2 m3 w1
  rcases PRec.restL_sum [len0_3] 1048576 with hr | ⟨r, hr, hsum⟩
  · rw [hr] at hz
    have HZ := Lib.hid hz
    clear hz hr hi3 hl3
    go_enter Try.func5, Try.ntmps5
    go_wp2_with fail
    refine (HZ.out _).mono ?_
    rintro e w1 ⟨rfl, h1⟩
    go_wp2_with fail
    go_ret
    exact ⟨rfl, by repeat (first | with_reducible exact On.refl _ | apply On.alloc | refine On.trans ?_ h1)⟩
  · rw [hr] at hz
    simp only [List.sum_cons, List.sum_nil, Nat.add_zero] at hsum
    have hn : len0_3 ≤ 1048576 := by omega
    have hr0 : ¬ ((r : Int) < 0) := by omega
    have HZ := Lib.hid hz
    clear hz hr
    obtain ⟨z3, hz3⟩ : ∃ z, z = z0_3.take len0_3 := ⟨_, rfl⟩
    rw [← hz3] at hi3 hl3
    clear hz3
    subst hl3
    have H3 := Lib.hid hi3
    clear hi3
    have hsx : 1 + z3.length ≤ 1048577 := by omega
    clear hsum
    have hS := fun (w' : World) (sa : Option Addr) (cap : Nat) (i3 : Ints.Ints w' (.slice sa z3.length cap) z3) => Nu.spec_EdgesOf x0_0 x0_1 x0_2 a1 sa cap z3 _ hn i3
    have hI := fun (w' : World) (sa : Option Addr) (cap : Nat) (i3 : Ints.Ints w' (.slice sa z3.length cap) z3) => Nu.impl_EdgesOf x0_0 x0_1 x0_2 a1 sa cap z3 _ hn i3
    have hbd : (Nu.edV x0_0 x0_1 x0_2 a1 z3).length ≤ z3.length := Nu.ed_len
    generalize Nu.edV x0_0 x0_1 x0_2 a1 z3 = rs at *
    generalize Nu.seeC x0_0 x0_1 x0_2 z3 a1 = co at *
    have hr : rs.length ≤ 1048576 := by omega
    have hco : (co != co) = false := bne_self_eq_false co
    obtain ⟨q, hq⟩ : ∃ q : Int, q = ((1 + rs.length : Nat) : Int) := ⟨_, rfl⟩
    have hq0 : ¬ q < 0 := by omega
    have hM := fun (B : Nat) (v : Value) (w : World) (h : Ints.Own B w v rs) => Mark.mark B 1 v rs w hr (by decide) h
    have hH := fun (B : Nat) (v : Value) (w : World) (h : Ints.Own B w v (Mark.marks 1 rs.length)) => Mark.held B 1 rs.length v w hr (by decide) h
    rw [← hq] at hM hH
    have HM := Lib.hid hM
    have HH := Lib.hid hH
    have HS := Lib.hid hS
    have HI := Lib.hid hI
    obtain ⟨qx, hqx⟩ : ∃ q : Int, q = ((1 + z3.length : Nat) : Int) := ⟨_, rfl⟩
    have hqx0 : ¬ qx < 0 := by omega
    have hX := fun (B : Nat) (a3 : Option Addr) (c3 : Nat) (w : World) hB h => PRec.markR B 1 x0_0 x0_1 x0_2 a3 z3.length c3 z3 w (Nat.le_refl _) (by omega) hB h
    rw [← hqx] at hX
    have HX := Lib.hid hX
    clear hX hqx hsx hS hI hM hH hq hbd
    go_enter Try.func5, Try.ntmps5
    go_wp2_with fail
    refine (HZ.out _).mono ?_
    rintro e w1 ⟨rfl, h1⟩
    have P1 := Lib.hid (show PRec.In w1 w.heap.size x0_0 x0_1 x0_2 (.slice a0_3 z3.length cap0_3) from PRec.In.on ⟨by simp [go_sem], by simp [go_sem], by simp [go_sem], by simp [go_sem]⟩ h1)
    have h01 : On w w1 := On.trans (On.alloc (On.refl w) _) h1
    have O1 := Lib.hid h01
    have HA := Lib.hid (fun w' (h : On w1 w') => H3.out.below (On.trans h01 h))
    obtain ⟨pa0, pa1, pa2, pa3⟩ := P1.out
    have ay := P1.out.blk
    clear h1 h01 HZ
    go_wp2_with fail
    refine (PRec.copy x0_0 x0_1 x0_2 _ z3 _ hn (HA.out _ (On.refl _))).mono ?_
    rintro e w2 ⟨y3, yc3, rfl, -, oy3, h2⟩
    have Y3 := Lib.hid oy3.ints
    have K2 := Lib.hid (show On w1 w2 from h2)
    clear h2 oy3 pa0 pa1 pa2 pa3 ay
    go_wp2_with fail
    refine (HS.out _ _ _ Y3.out).mono ?_
    rintro e w3 ⟨u0, rfl, hu, h3⟩
    have U3 := Lib.hid hu
    have K3 := Lib.hid (On.trans K2.out h3)
    obtain ⟨pa0, pa1, pa2, pa3⟩ := P1.out.on K3.out
    have ay := (P1.out.on K3.out).blk
    clear h3 hu Y3 K2
    go_wp2_with fail
    refine (PRec.copy x0_0 x0_1 x0_2 _ z3 _ hn (HA.out _ K3.out)).mono ?_
    rintro e w4 ⟨x3, xc3, rfl, -, ox3, h4⟩
    have K4 := Lib.hid (On.trans K3.out h4)
    have J4 := Lib.hid (show On w3 w4 from h4)
    have OX0 : PRec.OwnR w3.heap.size w4 x3 z3.length xc3 z3 := ⟨rfl, ox3⟩
    have HoffX := Lib.hid (fun g (hg : w4.heap.size ≤ g) => OX0.off hg)
    have OX := Lib.hid OX0
    have s31 := Lib.hid (show w1.heap.size ≤ w3.heap.size from K3.out.size)
    have s34 := Lib.hid (show w3.heap.size ≤ w4.heap.size from h4.size)
    clear h4 ox3 OX0 pa0 pa1 pa2 pa3 ay
    go_wp2_with fail
    refine (HI.out _ _ _ (OX.out.ints3.below (by repeat (first | with_reducible exact On.refl _ | with_reducible exact Below.refl _ _ | apply On.alloc | refine On.setCell ?_ (by (try simp) <;> omega) _)))).mono ?_
    rintro e w5 ⟨g0, rfl, og, h5⟩
    have PX0 : PRec.In w5 w4.heap.size x0_0 x0_1 x0_2 (.slice x3 z3.length xc3) := PRec.In.on ⟨by simp [go_sem], by simp [go_sem], by simp [go_sem], by simp [go_sem]⟩ h5
    have h5t : On w4 w5 := by refine On.trans ?_ h5; repeat (first | with_reducible exact On.refl _ | apply On.drew | apply On.alloc | refine On.setCell ?_ (by (try simp) <;> omega) _)
    have og1 := og.mono (B' := w4.heap.size + 1) (by simp)
    have G5 := Lib.hid og1
    have PX5 := Lib.hid PX0
    have OX5 := Lib.hid (OX.out.below h5t)
    have K5 := Lib.hid (On.trans K4.out h5t)
    have J5 := Lib.hid (On.trans J4.out h5t)
    have s45 := Lib.hid (show w4.heap.size + 1 ≤ w5.heap.size from Nat.succ_le_of_lt PX0.blk)
    clear og og1 PX0 h5t h5 OX K4 J4
    go_wp2_with fail
    refine (Ints.eq _ _ rs _ hr G5.out.ints (U3.out.below J5.out)).mono ?_
    rintro e w6 ⟨rfl, n6, hw6⟩
    have h6 : On w5 w6 := by rw [hw6]; exact Ints.below_drewN _ _
    have G6 := Lib.hid (G5.out.below h6)
    have PX6 := Lib.hid (PX5.out.on h6)
    have OX6 := Lib.hid (OX5.out.below h6)
    have K6 := Lib.hid (On.trans K5.out h6)
    have J6 := Lib.hid (On.trans J5.out h6)
    have s56 := Lib.hid h6.size
    clear hw6 h6 G5 PX5 OX5 K5 J5
    obtain ⟨pa0, pa1, pa2, pa3⟩ := P1.out.on K6.out
    have ay := (P1.out.on K6.out).blk
    obtain ⟨b0, b1, b2, b3⟩ := PX6.out
    have bY := PX6.out.blk
    go_upto_region 10 with fail
    go_cut [49] (fun s wx => s = .bool false ∧ On w6 wx)
    case first =>
      go_region_with (first
        | (go_at_call 17; refine (PRec.copy x0_0 x0_1 x0_2 _ z3 _ hn ((HA.out _ K6.out).below (by repeat (first | with_reducible exact On.refl _ | with_reducible exact Below.refl _ _ | apply On.drew | apply On.alloc)))).mono ?_; rintro e w7 ⟨t3, tc3, rfl, -, ot3, h7⟩; (have h67 : On w6 w7 := by refine On.trans ?_ h7; repeat (first | exact On.refl _ | apply On.drew)); obtain ⟨e0, e1, e2, e3⟩ := PX6.out.on h67; have T3 := Lib.hid ot3.ints; clear ot3 h7)
        | (go_at_call 19; refine (PRec.eq x0_0 x0_1 x0_2 _ _ z3 _ hn (((OX6.out.below ‹On w6 w7›).ints3).below (by repeat (first | with_reducible exact On.refl _ | with_reducible exact Below.refl _ _ | apply On.drew | apply On.alloc))) (T3.out.below (by repeat (first | with_reducible exact On.refl _ | with_reducible exact Below.refl _ _ | apply On.drew | apply On.alloc)))).mono ?_; rintro e w8 ⟨rfl, h8⟩; (have h78 : On w7 w8 := by refine On.trans ?_ h8; repeat (first | exact On.refl _ | apply On.drew)); clear h8))
      all_goals
        go_wp2_with fail
        go_meet
        exact ⟨rfl, On.trans ‹On w6 w7› ‹On w7 w8›⟩
    case rest =>
      obtain ⟨rfl, hC⟩ := hcut
      clear pa0 pa1 pa2 pa3 ay b0 b1 b2 b3 bY
      have PX8 := PX6.out.on hC
      have G8 := Lib.hid (G6.out.below hC)
      have OX8 := Lib.hid (OX6.out.below hC)
      have K8 := Lib.hid (On.trans K6.out hC)
      have J8 := Lib.hid (On.trans J6.out hC)
      have s68 := Lib.hid hC.size
      have sX := Lib.hid (show w3.heap.size ≤ _ from Nat.le_trans s34.out (Nat.le_trans (Nat.le_of_lt s45.out) (Nat.le_trans s56.out hC.size)))
      obtain ⟨b0, b1, b2, b3⟩ := PX8
      clear hC G6 OX6 K6 J6 PX6
      go_wp2_with fail
      refine (HX.out w3.heap.size _ _ _ sX.out OX8.out).mono ?_
      rintro e w9 ⟨rfl, b9, -, f9, x9⟩
      have G9 := Lib.hid (G8.out.off2 b9.size f9 (fun p hp hB => x9 p hp (HoffX.out _ (by omega))))
      have K9 := Lib.hid (show On w1 w9 from Below.trans K8.out (Below.mono b9 s31.out))
      have J9 := Lib.hid (show On w3 w9 from Below.trans J8.out b9)
      have s89 := Lib.hid b9.size
      clear b9 f9 x9 G8 K8 J8 OX8 b0 b1 b2 b3
      go_wp2_with fail
      refine (Ints.eq _ _ rs _ hr G9.out.ints (U3.out.below J9.out)).mono ?_
      rintro e w10 ⟨rfl, n10, hw10⟩
      have h10 : On w9 w10 := by rw [hw10]; exact Ints.below_drewN _ _
      have GA := Lib.hid (G9.out.below h10)
      have KA := Lib.hid (On.trans K9.out h10)
      have JA := Lib.hid (On.trans J9.out h10)
      clear hw10 h10 G9 K9 J9
      go_wp2_with fail
      refine (HM.out _ _ _ GA.out).mono ?_
      rintro e w11 ⟨rfl, b11, om⟩
      have GB := Lib.hid om
      have KB := Lib.hid (show On w1 w11 from Below.trans KA.out (Below.mono b11 (by have := s31.out; have := s34.out; omega)))
      have JB := Lib.hid (show On w3 w11 from Below.trans JA.out (Below.mono b11 (by have := s34.out; omega)))
      clear b11 om GA KA JA
      go_wp2_with fail
      refine (HH.out _ _ _ GB.out).mono ?_
      rintro e w12 ⟨rfl, rfl⟩
      obtain ⟨pa0, pa1, pa2, pa3⟩ := P1.out.on KB.out
      have ay := (P1.out.on KB.out).blk
      go_wp2_with fail
      refine (PRec.copy x0_0 x0_1 x0_2 _ z3 _ hn (HA.out _ KB.out)).mono ?_
      rintro e w13 ⟨t3, tc3, rfl, -, ot3, h13⟩
      have T3 := Lib.hid ot3.ints
      have GC := Lib.hid (GB.out.below h13)
      have KC := Lib.hid (On.trans KB.out h13)
      have JC := Lib.hid (On.trans JB.out h13)
      clear ot3 h13 GB KB JB pa0 pa1 pa2 pa3 ay
      go_wp2_with fail
      refine (HI.out _ _ _ T3.out).mono ?_
      rintro e w14 ⟨h0, rfl, oh, h14⟩
      have OH := Lib.hid oh
      have GD := Lib.hid (GC.out.below h14)
      have KD := Lib.hid (On.trans KC.out h14)
      have JD := Lib.hid (On.trans JC.out h14)
      clear oh h14 GC KC JC T3
      go_wp2_with fail
      refine (Ints.eq _ _ rs _ hr OH.out.ints (U3.out.below JD.out)).mono ?_
      rintro e w15 ⟨rfl, n15, hw15⟩
      have h15 : On w14 w15 := by rw [hw15]; exact Ints.below_drewN _ _
      have GE := Lib.hid (GD.out.below h15)
      have KE := Lib.hid (On.trans KD.out h15)
      clear hw15 h15 GD KD JD OH
      go_wp2_with fail
      refine (HH.out _ _ _ GE.out).mono ?_
      rintro e w16 ⟨rfl, rfl⟩
      go_wp2_with fail
      go_ret
      exact ⟨rfl, On.trans O1.out KE.out⟩

set_option maxRecDepth 100000 in
/-- The row's step. -/
theorem lifted (os : Os) (started : os.Started) (H : Type) (enc : TypeId × Value → H) :
    ReturnsInHanded {} Try.checked os 5 .any (Rows.fnExactEdgesOfSpec.pre6 enc Try.prog Try.f5 Rows.fnExactEdgesOfRow.domain false) (Rows.fnExactEdgesOfSpec.post enc Try.prog Try.f5 false true false false) := by
  refine returnsInHanded_of_change (C := Try.checked) own started (by kernel_rfl) Try.func5
    (ChangeSpec.witness6 (enc := enc) (C := Try.checked) false ⟨#[], #[.agg #[.int .i64 0, .int .i64 0, .int .i64 0, .slice none 0 0], .int .i64 0], []⟩ 8 (by kernel_rfl) (by kernel_rfl) (by kernel_rfl) (by kernel_rfl)) ?_
  intro W base args ds gs before hval0 hW hcnd _
  have hval : ∀ (j : Nat) t v, Try.f5.params[j]? = some t → args[j]? = some v → Value.okWide Try.prog W .any base t v := hval0
  have hW' := hW
  obtain ⟨p, q, hA0, hV, rfl, hfz, hnd⟩ := hW
  have hA : DataW.TrodAll enc Try.prog W 0 (fun _ => true) true Try.f5.params.toList args.toList ds p := hA0
  rw [Try.params5] at hA hval
  obtain ⟨v0, vs0, d0, ds0, p0, q0, hargs, rfl, rfl, h0, r0⟩ := trodAll_cons hA
  obtain ⟨v1, vs1, d1, ds1, p1, q1, rfl, rfl, rfl, h1, r1⟩ := trodAll_cons r0
  obtain ⟨rfl, rfl, rfl⟩ := trodAll_nil r1
  obtain rfl : args = #[v0, v1] := by cases args; simp_all
  obtain ⟨rfl, rfl⟩ := trodVars_none hV
  have k0 := h0
  have lt0 : ∀ x ∈ p0, x.block < W.heap.size := by obtain ⟨m, hm⟩ := k0; exact DataW.trod_lt m _ _ _ hm
  obtain ⟨c0_0, c0_1, c0_2, c0_3, y0_0, y0_1, y0_2, y0_3, n0, rfl, -, -, e0_0, e0_1, e0_2, e0_3⟩ := Joins.open_agg4 Try.underlying26 (by kernel_rfl) (by kernel_rfl) (hval 0 26 v0 rfl rfl) h0
  obtain ⟨x0_0, g0_0, -, wx0_0⟩ := DataW.trod_int Try.underlying2 e0_0
  obtain rfl : c0_0 = .int .i64 x0_0 := by simpa using g0_0
  obtain ⟨x0_1, g0_1, -, wx0_1⟩ := DataW.trod_int Try.underlying2 e0_1
  obtain rfl : c0_1 = .int .i64 x0_1 := by simpa using g0_1
  obtain ⟨x0_2, g0_2, -, wx0_2⟩ := DataW.trod_int Try.underlying2 e0_2
  obtain rfl : c0_2 = .int .i64 x0_2 := by simpa using g0_2
  obtain ⟨a0_3, len0_3, cap0_3, z0_3, hc0_3, w0_3⟩ : ∃ a len cap zs, c0_3 = .slice a len cap ∧ IsRow .i64 W a len cap zs := by
    rcases open_ints Try.underlying24 Try.underlying2 (by kernel_rfl) e0_3 with ⟨hcs, _⟩ | ⟨x, l, c, zs, hcs, _, hl, hm, hz, _, hcell, hwz⟩
    · exact ⟨none, 0, 0, [], by simpa using hcs, .inl ⟨rfl, rfl, rfl, rfl⟩⟩
    · exact ⟨some x, l, c, zs, by simpa using hcs, .inr ⟨_, rfl, hl, hm, by simpa using hz, hcell, hwz⟩⟩
  subst hc0_3
  obtain ⟨a1, rfl, rfl, rfl, w1⟩ := open_int Try.underlying2 (hval 1 2 v1 rfl rfl) h1
  clear hA0
  refine (walk W x0_0 wx0_0 x0_1 wx0_1 x0_2 wx0_2 a0_3 len0_3 cap0_3 z0_3 w0_3 a1 w1 ).mono fun e W' ⟨he, bel⟩ => ?_
  subst he
  exact ⟨_, rfl, _, _, _, [], _, [], hW', trodAll_mk1 (shut_bool Try.underlying4 _), (trodAll_cons_mk (Below.trod laidOut (by kernel_rfl) (of_decide_eq_true (by kernel_rfl)) k0 bel lt0) (trodAll_cons_mk (shut_int Try.underlying2 w1) trodAll_mk0)), rfl, bel.frame _, fun h => by cases h⟩

theorem proved : Rows.FnExactEdgesOfSaid :=
  OpenClaim.holds_of_wide 5 Try.f5 rfl rfl rfl rfl rfl rfl rfl ⟨rfl, rfl, rfl, rfl, rfl⟩ rfl rfl rfl rfl rfl (by kernel_rfl) Try.func5 (by kernel_rfl)
    (of_decide_eq_true (by kernel_rfl)) (by unfold Func.isWrapper; first | (rw [if_pos (by decide +kernel)]; kernel_rfl) | (rw [if_neg (by decide +kernel)]; exact ⟨rfl, rfl⟩))
    (fun os started H enc _ => lifted os started H enc)
end Go.Proofs.Ytmmhekakihimfaa.fnExactEdgesOf
