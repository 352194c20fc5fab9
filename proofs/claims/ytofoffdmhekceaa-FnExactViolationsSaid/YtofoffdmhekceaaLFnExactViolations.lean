/-
  For every problem and list of numbers Violations of the program returns what the model returns, lists of their own memory, the same at a second call, and leaves both arguments as they were: the statement FnExactViolations. No condition.
-/
import Derived.Test.YtofoffdmhekceaaRows
import Derived.Test.YtofoffdmhekceaaAsg
import Derived.Test.YtofoffdmhekceaaPrbI
import Derived.Test.YtofoffdmhekceaaBox
import Derived.Test.YtofoffdmhekceaaOwnG
import Derived.Deep.DeepCutAuto
import Derived.Deep.RegionWith
import Derived.WalkKit
import Derived.ProofKit
import Derived.OpenShut
import Derived.ShutString
import Derived.Below
import Derived.Lib.SmallJoins
namespace Go.Proofs.Ytofoffdmhekceaa.fnExactViolations
open Go.ChangeShapes Go.WideShapes Go.ChangeAt Go.RowKit
open Go.ChangeMaps (open_string shut_string)
set_option linter.unusedVariables false

theorem own : ownKnob Try.prog.godebug = none := by kernel_rfl
theorem laidOut : laidOutB Try.prog = true := by kernel_rfl

/-- What the walk is told of a slice of integers that came in: it is nil; or it leads to a row of 'cap' cells, the numbers 'zs' (the first 'len' are its elements), each fitting its kind. -/
def IsRow (k : IntKind) (w : World) (a : Option Addr) (len cap : Nat) (zs : List Int) : Prop :=
  (a = none ∧ len = 0 ∧ cap = 0 ∧ zs = []) ∨
  ∃ x, a = some x ∧ len ≤ cap ∧ cap ≤ maxLen ∧ zs.length = cap ∧ (∀ i, i < zs.length → w.cell? (x.add i) = some (.int k (zs.getD i 0))) ∧ ∀ n ∈ zs, (Lit.int k n).wf = true

set_option maxRecDepth 100000 in
set_option maxHeartbeats 8000000 in
/-- The walk. -/
theorem walk (w : World) (a0_0 : Option Addr) (cap0_0 : Nat) (z0_0 : List Mts.Z) (w0_0 : Mts.Arg w a0_0 cap0_0 z0_0) (a0_1 : Option Addr) (cap0_1 : Nat) (z0_1 : List Mts.Z) (w0_1 : Mts.Arg w a0_1 cap0_1 z0_1) (a1 : Option Addr) (len1 cap1 : Nat) (z1 : List Int) (w1 : IsRow .i64 w a1 len1 cap1 z1) :
    Calls Try.prog 6 #[.agg #[.slice a0_0 z0_0.length cap0_0, .slice a0_1 z0_1.length cap0_1], .slice a1 len1 cap1] w fun e w' => e = .returned (.bool true) ∧ Below w.heap.size w w' := by
  have hI0 : Prb.Is w (.agg #[.slice a0_0 z0_0.length cap0_0, .slice a0_1 z0_1.length cap0_1]) ⟨z0_0, z0_1⟩ := ⟨_, _, rfl, w0_0.1, w0_1.1⟩
  have hS0 : Prb.T.Small maxLen ⟨z0_0, z0_1⟩ := ⟨w0_0.2, w0_1.2⟩
  obtain ⟨N0, hN0⟩ : ∃ N : Prb.T, N = ⟨z0_0, z0_1⟩ := ⟨_, rfl⟩
  have e0_0 : z0_0.length = N0.f0.length := by rw [hN0]
  have e0_1 : z0_1.length = N0.f1.length := by rw [hN0]
  rw [← hN0] at hI0 hS0
  rw [e0_0, e0_1] at hI0 ⊢
  have HI0 := Lib.hid hI0
  clear hN0 hI0 w0_0 e0_0 w0_1 e0_1
  obtain ⟨hi1, hl1⟩ := Ints.Ints.of_arg w1
  have mm1 : len1 ≤ maxLen := by
    rcases w1 with ⟨_, h, _, _⟩ | ⟨_, _, h1, h2, _⟩
    · rw [h]; exact Nat.zero_le _
    · exact Nat.le_trans h1 h2
  unfold maxLen at mm1
  clear w1
  by_cases hsz1 : len1 ≤ 1048576
  case neg =>
    have hszi : (1048576 : Int) < (len1 : Int) := by omega
    go_enter Try.func6, Try.ntmps6
    go_wp2_with fail
    go_ret
    exact ⟨rfl, show On w _ by repeat (first | with_reducible exact On.refl _ | with_reducible apply On.alloc | with_reducible apply On.drewN | with_reducible apply On.drew | with_reducible refine On.setCell ?_ (by (try simp) <;> omega) _)⟩
  have hszi1 : ¬ (1048576 : Int) < (len1 : Int) := by omega
  obtain ⟨zz1, hz1⟩ : ∃ z, z = z1.take len1 := ⟨_, rfl⟩
  rw [← hz1] at hi1 hl1
  clear hz1
  subst hl1
  have HZ1 := Lib.hid hi1
  have HL1 := Lib.hid hsz1
  clear hi1 hsz1
  go_enter Try.func6, Try.ntmps6
  go_wp2_with fail
  generalize hW0 : w.alloc (.cells #[.slice a0_0 N0.f0.length cap0_0, .slice a0_1 N0.f1.length cap0_1] 24) = w0
  have O0 := Lib.hid (show On w w0 by rw [← hW0]; repeat (first | with_reducible exact On.refl _ | with_reducible apply On.alloc | with_reducible apply On.drewN | with_reducible apply On.drew | with_reducible refine On.setCell ?_ (by (try simp) <;> omega) _))
  have BA := Lib.hid (show Bx.Box w0 w.heap.size [.slice a0_0 N0.f0.length cap0_0, .slice a0_1 N0.f1.length cap0_1] by rw [← hW0]; exact Bx.Box.new _ _ _)
  clear hW0
  have za := (BA.out).1
  have ka0 := (BA.out).2 0 _ rfl
  have ka1 := (BA.out).2 1 _ rfl
  refine (Prb.count0 _ N0 _ hS0 (HI0.out.on O0.out)).mono ?_
  rintro e w1 ⟨r, rfl, h1, hrr⟩
  rcases hrr with hrr | ⟨c0, rfl, hc0, hs0⟩
  · go_wp2_with fail
    go_ret
    exact ⟨rfl, O0.out.trans h1⟩
  have hr0 : ¬ (c0 : Int) < 0 := by omega
  have HS0 := Lib.hid hs0
  have P1 := Lib.hid (show On w0 w1 from h1)
  have hS := fun (w' : World) (v' : Value) (h' : Prb.Is w' v' N0) (v1' : Value) (h1' : Ints.Ints w' v1' zz1) => Asg.spec_Violations v' N0 v1' zz1 w' hs0 HL1.out h' h1'
  have hI := fun (w' : World) (v' : Value) (h' : Prb.Is w' v' N0) (v1' : Value) (h1' : Ints.Ints w' v1' zz1) => Asg.impl_Violations v' N0 v1' zz1 w' hs0 HL1.out h' h1'
  have hr := (show (Asg.vioV N0 zz1).length ≤ 1048576 ∧ 1 + Mats.tot (Asg.vioV N0 zz1) ≤ 1048576 ∧ ∀ i, i < (Asg.vioV N0 zz1).length → ((Asg.vioV N0 zz1).getD i []).length ≤ 1048576 from by have := Asg.vio_tot N0 zz1; exact ⟨by omega, by omega, this.2.2⟩)
  generalize Asg.vioV N0 zz1 = rs at *
  generalize Asg.vioC N0 zz1 = co at *
  have hco : (co != co) = false := bne_self_eq_false co
  obtain ⟨q, hq⟩ : ∃ q : Int, q = ((1 + Mats.tot rs : Nat) : Int) := ⟨_, rfl⟩
  have hq0 : ¬ q < 0 := by omega
  have hM := fun (B : Nat) (v : Value) (w : World) (h : Mats.OwnE B w v rs) => Mats.markE B v rs w hr.1 hr.2.1 h
  have hH := fun (B : Nat) (v : Value) (w : World) (h : Mats.OwnE B w v (Mats.marksM 1 rs)) => Mats.heldE B v rs w hr.1 hr.2.1 h
  rw [← hq] at hM hH
  have HM := Lib.hid hM
  have HH := Lib.hid hH
  have HS := Lib.hid hS
  have HI := Lib.hid hI
  have HX := Lib.hid (fun (B E : Nat) (v : Value) (w : World) hB h => Prb.mark B E 1 v N0 w hs0 (by decide) hB h)
  have HRR := Lib.hid hr
  clear hS hI hM hH hq hs0 hS0 h1 hc0 hr
  clear za ka0 ka1
  have za := (BA.out.on P1.out).1
  have ka0 := (BA.out.on P1.out).2 0 _ rfl
  have ka1 := (BA.out.on P1.out).2 1 _ rfl
  go_wp2_with fail
  refine (Prb.copy _ N0 _ HS0.out (HI0.out.on (O0.out.trans P1.out))).mono ?_
  rintro e w2 ⟨vs, rfl, ho, h2⟩
  have P2 := Lib.hid (show On w0 w2 by refine On.trans P1.out (On.trans ?_ h2); repeat (first | with_reducible exact On.refl _ | with_reducible apply On.alloc | with_reducible apply On.drewN | with_reducible apply On.drew | with_reducible refine On.setCell ?_ (by (try simp) <;> omega) _))
  have IS_2 := Lib.hid ho.is
  clear ho h2
  clear za ka0 ka1
  have za := (BA.out.on P2.out).1
  have ka0 := (BA.out.on P2.out).2 0 _ rfl
  have ka1 := (BA.out.on P2.out).2 1 _ rfl
  go_wp2_with fail
  refine (Ints.copy _ zz1 _ HL1.out (HZ1.out.below (O0.out.trans P2.out))).mono ?_
  rintro e w3 ⟨vs1, rfl, ho, h3⟩
  have g3 : On w2 w3 := by refine On.trans ?_ h3; repeat (first | with_reducible exact On.refl _ | with_reducible apply On.alloc | with_reducible apply On.drewN | with_reducible apply On.drew | with_reducible refine On.setCell ?_ (by (try simp) <;> omega) _)
  have P3 := Lib.hid (P2.out.trans g3)
  have IS_3 := Lib.hid (IS_2.out.on g3)
  have IS1_3 := Lib.hid ho
  clear ho h3 g3 IS_2
  clear za ka0 ka1
  have za := (BA.out.on P3.out).1
  have ka0 := (BA.out.on P3.out).2 0 _ rfl
  have ka1 := (BA.out.on P3.out).2 1 _ rfl
  go_wp2_with fail
  refine (HS.out _ _ IS_3.out _ IS1_3.out).mono ?_
  rintro e w4 ⟨ua, uc, rfl, hu, h4⟩
  have U4 := Lib.hid hu
  have P4 := Lib.hid (show On w0 w4 by refine On.trans P3.out (On.trans ?_ h4); repeat (first | with_reducible exact On.refl _ | with_reducible apply On.alloc | with_reducible apply On.drewN | with_reducible apply On.drew | with_reducible refine On.setCell ?_ (by (try simp) <;> omega) _))
  clear hu h4 IS_3 HS
  clear za ka0 ka1
  have za := (BA.out.on P4.out).1
  have ka0 := (BA.out.on P4.out).2 0 _ rfl
  have ka1 := (BA.out.on P4.out).2 1 _ rfl
  go_wp2_with fail
  refine (Prb.copy _ N0 _ HS0.out (HI0.out.on (O0.out.trans P4.out))).mono ?_
  rintro e w5 ⟨vx, rfl, ho, h5⟩
  obtain ⟨b0, b1, d0, d1, hv⟩ := ho.is.shape
  subst hv
  have X_5 := Lib.hid (Prb.Shp.of_is ho HS0.out)
  have J5 := Lib.hid (show On w4 w5 from h5)
  have P5 := Lib.hid (P4.out.trans h5)
  have IX_5 := Lib.hid ho.is
  clear ho h5
  clear za ka0 ka1
  have za := (BA.out.on P5.out).1
  have ka0 := (BA.out.on P5.out).2 0 _ rfl
  have ka1 := (BA.out.on P5.out).2 1 _ rfl
  go_wp2_with fail
  refine (Ints.copyOwn _ zz1 _ HL1.out (HZ1.out.below (O0.out.trans (P5.out.trans (by repeat (first | with_reducible exact On.refl _ | with_reducible apply On.alloc | with_reducible apply On.drewN | with_reducible apply On.drew | with_reducible refine On.setCell ?_ (by (try simp) <;> omega) _)))))).mono ?_
  rintro e w6 ⟨vx1, rfl, ho, h6⟩
  have g6 : On w5 w6 := by refine On.trans ?_ h6; repeat (first | with_reducible exact On.refl _ | with_reducible apply On.alloc | with_reducible apply On.drewN | with_reducible apply On.drew | with_reducible refine On.setCell ?_ (by (try simp) <;> omega) _)
  have BX := Lib.hid (show Bx.Box w6 w5.heap.size [.slice b0 N0.f0.length d0, .slice b1 N0.f1.length d1] from (Bx.Box.new _ _ _).on h6)
  have J6 := Lib.hid (J5.out.trans g6)
  have P6 := Lib.hid (P5.out.trans g6)
  have IX_6 := Lib.hid (IX_5.out.on g6)
  have X_6 := Lib.hid ((X_5.out.kd (Mrk.Kd.of_on g6 J5.out.size)).mono (Nat.le_refl _) g6.size)
  have X1_6 := Lib.hid (Mats.nst_mono (B' := w4.heap.size) (Mats.nst_own ho) (by have := J5.out.size; simp; omega) (Nat.le_refl _))
  have IX1_6 := Lib.hid ho.ints
  clear ho h6 g6
  clear za ka0 ka1
  have za := (BA.out.on P6.out).1
  have ka0 := (BA.out.on P6.out).2 0 _ rfl
  have ka1 := (BA.out.on P6.out).2 1 _ rfl
  have zx := (BX.out).1
  have kx0 := (BX.out).2 0 _ rfl
  have kx1 := (BX.out).2 1 _ rfl
  go_wp2_with fail
  refine (HI.out _ _ (IX_6.out.on (by repeat (first | with_reducible exact On.refl _ | with_reducible apply On.alloc | with_reducible apply On.drewN | with_reducible apply On.drew | with_reducible refine On.setCell ?_ (by (try simp) <;> omega) _))) _ (IX1_6.out.below (show On _ _ from by repeat (first | with_reducible exact On.refl _ | with_reducible apply On.alloc | with_reducible apply On.drewN | with_reducible apply On.drew | with_reducible refine On.setCell ?_ (by (try simp) <;> omega) _)))).mono ?_
  rintro e w7 ⟨ga, gc, rfl, og, h7⟩
  have g7 : On w6 w7 := by refine On.trans ?_ h7; repeat (first | with_reducible exact On.refl _ | with_reducible apply On.alloc | with_reducible apply On.drewN | with_reducible apply On.drew | with_reducible refine On.setCell ?_ (by (try simp) <;> omega) _)
  have BX := Lib.hid (BX.out.on g7)
  have G7 := Lib.hid (Mats.OwnE.mono (B' := w6.heap.size) ⟨_, og⟩ (by simp))
  have J7 := Lib.hid (J6.out.trans g7)
  have P7 := Lib.hid (P6.out.trans g7)
  have Q7 := Lib.hid g7
  clear og h7 g7
  clear za ka0 ka1
  clear zx kx0 kx1
  have za := (BA.out.on P7.out).1
  have ka0 := (BA.out.on P7.out).2 0 _ rfl
  have ka1 := (BA.out.on P7.out).2 1 _ rfl
  have zx := (BX.out).1
  have kx0 := (BX.out).2 0 _ rfl
  have kx1 := (BX.out).2 1 _ rfl
  go_wp2_with fail
  refine (Mats.eqS _ _ rs _ HRR.out.1 HRR.out.2.2 G7.out.rows (U4.out.rows.below J7.out)).mono ?_
  rintro e w8 ⟨rfl, h8⟩
  have J8 := Lib.hid (J7.out.trans h8)
  have P8 := Lib.hid (P7.out.trans h8)
  have Q8 := Lib.hid (Q7.out.trans h8)
  have G8 := Lib.hid (G7.out.below h8)
  have BX := Lib.hid (BX.out.on h8)
  clear h8
  clear za ka0 ka1
  clear zx kx0 kx1
  have za := (BA.out.on P8.out).1
  have ka0 := (BA.out.on P8.out).2 0 _ rfl
  have ka1 := (BA.out.on P8.out).2 1 _ rfl
  have zx := (BX.out).1
  have kx0 := (BX.out).2 0 _ rfl
  have kx1 := (BX.out).2 1 _ rfl
  go_upto_region 13 with fail
  go_cut [56] (fun s wx => s = .bool false ∧ On w8 wx)
  case first =>
    go_region_with (first
      | (go_at_call 12; refine (Prb.copy _ N0 _ HS0.out (HI0.out.on (O0.out.trans (P8.out.trans (by repeat (first | with_reducible exact On.refl _ | with_reducible apply On.drew | with_reducible apply On.drewN)))))).mono ?_; rintro e wy ⟨vy, rfl, hoy, hy⟩; have JY := Lib.hid hoy.is; (have gy : On w8 wy := by refine On.trans ?_ hy; repeat (first | with_reducible exact On.refl _ | with_reducible apply On.drew | with_reducible apply On.drewN)); have BY := Lib.hid (BX.out.on gy); have y0 := BY.out.2 0 _ rfl; have y1 := BY.out.2 1 _ rfl; have yz := BY.out.1; clear hoy)
      | (go_at_call 14; refine (Prb.eq _ _ N0 _ HS0.out (IX_6.out.on (Q8.out.trans ((‹On w8 _›).trans (by repeat (first | with_reducible exact On.refl _ | with_reducible apply On.drew | with_reducible apply On.drewN))))) (JY.out.on (by repeat (first | with_reducible exact On.refl _ | with_reducible apply On.drew | with_reducible apply On.drewN)))).mono ?_; rintro e wz ⟨rfl, hz⟩))
    all_goals
      go_wp2_with fail
      go_meet
      exact ⟨rfl, On.trans ‹On w8 wy› (On.trans (by repeat (first | with_reducible exact On.refl _ | with_reducible apply On.drew | with_reducible apply On.drewN)) ‹On _ wz›)⟩
  case rest =>
    obtain ⟨rfl, hC⟩ := hcut
    rename World => w10
    have G10 := Lib.hid (G8.out.below hC)
    have J10 := Lib.hid (J8.out.trans hC)
    have P10 := Lib.hid (P8.out.trans hC)
    have Q10 := Lib.hid (Q8.out.trans hC)
    have BX := Lib.hid (BX.out.on hC)
    clear hC
    clear za ka0 ka1
    clear zx kx0 kx1
    have za := (BA.out.on P10.out).1
    have ka0 := (BA.out.on P10.out).2 0 _ rfl
    have ka1 := (BA.out.on P10.out).2 1 _ rfl
    have zx := (BX.out).1
    have kx0 := (BX.out).2 0 _ rfl
    have kx1 := (BX.out).2 1 _ rfl
    go_wp2_with fail
    refine (Ints.copy _ zz1 _ HL1.out (HZ1.out.below (O0.out.trans P10.out))).mono ?_
    rintro e w11 ⟨vy1, rfl, ho, h11⟩
    have IY := Lib.hid ho
    have J11 := Lib.hid (J10.out.trans h11)
    have P11 := Lib.hid (P10.out.trans h11)
    have Q11 := Lib.hid (Q10.out.trans h11)
    have G11 := Lib.hid (G10.out.below h11)
    have BX := Lib.hid (BX.out.on h11)
    clear ho h11
    clear za ka0 ka1
    clear zx kx0 kx1
    have za := (BA.out.on P11.out).1
    have ka0 := (BA.out.on P11.out).2 0 _ rfl
    have ka1 := (BA.out.on P11.out).2 1 _ rfl
    have zx := (BX.out).1
    have kx0 := (BX.out).2 0 _ rfl
    have kx1 := (BX.out).2 1 _ rfl
    go_wp2_with fail
    refine (Mats.eqI _ _ zz1 _ HL1.out (IX1_6.out.below Q11.out) IY.out).mono ?_
    rintro e w12 ⟨rfl, h12⟩
    have J12 := Lib.hid (J11.out.trans h12)
    have P12 := Lib.hid (P11.out.trans h12)
    have Q12 := Lib.hid (Q11.out.trans h12)
    have G12 := Lib.hid (G11.out.below h12)
    have BX := Lib.hid (BX.out.on h12)
    clear h12 IY
    clear za ka0 ka1
    clear zx kx0 kx1
    have za := (BA.out.on P12.out).1
    have ka0 := (BA.out.on P12.out).2 0 _ rfl
    have ka1 := (BA.out.on P12.out).2 1 _ rfl
    have zx := (BX.out).1
    have kx0 := (BX.out).2 0 _ rfl
    have kx1 := (BX.out).2 1 _ rfl
    go_wp2_with fail
    refine (HX.out w4.heap.size w6.heap.size _ _ J12.out.size (X_6.out.kd (Mrk.Kd.of_on Q12.out J6.out.size))).mono ?_
    rintro e w13 ⟨r9, rfl, hr9, kd⟩
    have KD := Lib.hid ((Mrk.Kd.of_on (B := w4.heap.size) (E := w6.heap.size) Q12.out J6.out.size).trans kd)
    have hr9i : ¬ (r9 : Int) < 0 := by omega
    have G13 := Lib.hid (Mats.OwnE.off2 G12.out kd.size kd.frozen (fun p hp hB => World.cell?_of_block (kd.out p.block hB hp)))
    have J13 := Lib.hid (show On w4 w13 from Below.trans J12.out kd.below)
    have P13 := Lib.hid (show On w0 w13 from P4.out.trans J13.out)
    have s13 := Lib.hid (show w6.heap.size ≤ w13.heap.size from Nat.le_trans (Q12.out.size) kd.size)
    clear kd
    clear za ka0 ka1
    clear zx kx0 kx1
    have za := (BA.out.on P13.out).1
    have ka0 := (BA.out.on P13.out).2 0 _ rfl
    have ka1 := (BA.out.on P13.out).2 1 _ rfl
    go_wp2_with fail
    refine (Mrk.markInts w4.heap.size w6.heap.size _ zz1.length _ _ HL1.out (by omega) J13.out.size (X1_6.out.kd KD.out)).mono ?_
    rintro e w14 ⟨rfl, kd⟩
    have KD := Lib.hid (KD.out.trans kd)
    clear hr9i
    have hr9i : ¬ ((r9 : Int) + (zz1.length : Int)) < 0 := by omega
    have G14 := Lib.hid (Mats.OwnE.off2 G13.out kd.size kd.frozen (fun p hp hB => World.cell?_of_block (kd.out p.block hB hp)))
    have J14 := Lib.hid (show On w4 w14 from Below.trans J13.out kd.below)
    have P14 := Lib.hid (show On w0 w14 from P4.out.trans J14.out)
    have s14 := Lib.hid (show w6.heap.size ≤ w14.heap.size from Nat.le_trans (s13.out) kd.size)
    clear kd
    clear za ka0 ka1
    have za := (BA.out.on P14.out).1
    have ka0 := (BA.out.on P14.out).2 0 _ rfl
    have ka1 := (BA.out.on P14.out).2 1 _ rfl
    go_wp2_with fail
    refine (Mats.eqS _ _ rs _ HRR.out.1 HRR.out.2.2 G14.out.rows (U4.out.rows.below J14.out)).mono ?_
    rintro e w15 ⟨rfl, h15⟩
    have J15 := Lib.hid (J14.out.trans h15)
    have P15 := Lib.hid (P14.out.trans h15)
    have G15 := Lib.hid (G14.out.below h15)
    clear h15
    clear za ka0 ka1
    have za := (BA.out.on P15.out).1
    have ka0 := (BA.out.on P15.out).2 0 _ rfl
    have ka1 := (BA.out.on P15.out).2 1 _ rfl
    go_wp2_with fail
    refine (HM.out _ _ _ G15.out).mono ?_
    rintro e w16 ⟨rfl, b11, om⟩
    have G16 := Lib.hid om
    have J16 := Lib.hid (show On w4 w16 from Below.trans J15.out (Below.mono b11 J6.out.size))
    have P16 := Lib.hid (show On w0 w16 from P4.out.trans J16.out)
    clear b11 om
    clear za ka0 ka1
    have za := (BA.out.on P16.out).1
    have ka0 := (BA.out.on P16.out).2 0 _ rfl
    have ka1 := (BA.out.on P16.out).2 1 _ rfl
    go_wp2_with fail
    refine (HH.out _ _ _ G16.out).mono ?_
    rintro e w17 ⟨rfl, h17⟩
    have G17 := Lib.hid (G16.out.below h17)
    have J17 := Lib.hid (J16.out.trans h17)
    have P17 := Lib.hid (P16.out.trans h17)
    clear h17
    clear za ka0 ka1
    have za := (BA.out.on P17.out).1
    have ka0 := (BA.out.on P17.out).2 0 _ rfl
    have ka1 := (BA.out.on P17.out).2 1 _ rfl
    go_wp2_with fail
    refine (Prb.copy _ N0 _ HS0.out (HI0.out.on (O0.out.trans P17.out))).mono ?_
    rintro e w18 ⟨vt, rfl, ho, h18⟩
    have IT_18 := Lib.hid ho.is
    have G18 := Lib.hid (G17.out.below h18)
    have J18 := Lib.hid (J17.out.trans h18)
    have P18 := Lib.hid (P17.out.trans h18)
    clear ho h18
    clear za ka0 ka1
    have za := (BA.out.on P18.out).1
    have ka0 := (BA.out.on P18.out).2 0 _ rfl
    have ka1 := (BA.out.on P18.out).2 1 _ rfl
    go_wp2_with fail
    refine (Ints.copy _ zz1 _ HL1.out (HZ1.out.below (O0.out.trans P18.out))).mono ?_
    rintro e w19 ⟨vt1, rfl, ho, h19⟩
    have G19 := Lib.hid (G18.out.below h19)
    have J19 := Lib.hid (J18.out.trans h19)
    have P19 := Lib.hid (P18.out.trans h19)
    have IT_19 := Lib.hid (IT_18.out.on h19)
    have IT1_19 := Lib.hid ho
    clear ho h19
    clear za ka0 ka1
    have za := (BA.out.on P19.out).1
    have ka0 := (BA.out.on P19.out).2 0 _ rfl
    have ka1 := (BA.out.on P19.out).2 1 _ rfl
    go_wp2_with fail
    refine (HI.out _ _ IT_19.out _ IT1_19.out).mono ?_
    rintro e w20 ⟨ha, hc, rfl, oh, h20⟩
    have OH := Lib.hid oh
    have G20 := Lib.hid (G19.out.below h20)
    have J20 := Lib.hid (J19.out.trans h20)
    have P20 := Lib.hid (P19.out.trans h20)
    clear oh h20
    clear za ka0 ka1
    go_wp2_with fail
    refine (Mats.eqS _ _ rs _ HRR.out.1 HRR.out.2.2 OH.out.rows (U4.out.rows.below J20.out)).mono ?_
    rintro e w21 ⟨rfl, h21⟩
    have G21 := Lib.hid (G20.out.below h21)
    have P21 := Lib.hid (P20.out.trans h21)
    clear h21
    go_wp2_with fail
    refine (HH.out _ _ _ G21.out).mono ?_
    rintro e w22 ⟨rfl, h22⟩
    go_wp2_with fail
    go_ret
    exact ⟨rfl, O0.out.trans (P21.out.trans h22)⟩

set_option maxRecDepth 100000 in
/-- The row's step. -/
theorem lifted (os : Os) (started : os.Started) (H : Type) (enc : TypeId × Value → H) :
    ReturnsInHanded {} Try.checked os 6 .any (Rows.fnExactViolationsSpec.pre6 enc Try.prog Try.f6 Rows.fnExactViolationsRow.domain false) (Rows.fnExactViolationsSpec.post enc Try.prog Try.f6 false true false false) := by
  refine returnsInHanded_of_change (C := Try.checked) own started (by kernel_rfl) Try.func6
    (ChangeSpec.witness6 (enc := enc) (C := Try.checked) false ⟨#[], #[.agg #[.slice none 0 0, .slice none 0 0], .slice none 0 0], []⟩ 8 (by kernel_rfl) (by kernel_rfl) (by kernel_rfl) (by kernel_rfl)) ?_
  intro W base args ds gs before hval0 hW hcnd _
  have hval : ∀ (j : Nat) t v, Try.f6.params[j]? = some t → args[j]? = some v → Value.okWide Try.prog W .any base t v := hval0
  have hW' := hW
  obtain ⟨p, q, hA0, hV, rfl, hfz, hnd⟩ := hW
  have hA : DataW.TrodAll enc Try.prog W 0 (fun _ => true) true Try.f6.params.toList args.toList ds p := hA0
  rw [Try.params6] at hA hval
  obtain ⟨v0, vs0, d0, ds0, p0, q0, hargs, rfl, rfl, h0, r0⟩ := trodAll_cons hA
  obtain ⟨v1, vs1, d1, ds1, p1, q1, rfl, rfl, rfl, h1, r1⟩ := trodAll_cons r0
  obtain ⟨rfl, rfl, rfl⟩ := trodAll_nil r1
  obtain rfl : args = #[v0, v1] := by cases args; simp_all
  obtain ⟨rfl, rfl⟩ := trodVars_none hV
  have k0 := h0
  have lt0 : ∀ x ∈ p0, x.block < W.heap.size := by obtain ⟨m, hm⟩ := k0; exact DataW.trod_lt m _ _ _ hm
  obtain ⟨c0_0, c0_1, y0_0, y0_1, n0, rfl, -, -, e0_0, e0_1⟩ := Joins.open_agg2 Try.underlying24 (by kernel_rfl) (by kernel_rfl) (hval 0 24 v0 rfl rfl) h0
  obtain ⟨a0_0, cap0_0, z0_0, hc0_0, w0_0⟩ := Mts.open_rows e0_0
  subst hc0_0
  obtain ⟨a0_1, cap0_1, z0_1, hc0_1, w0_1⟩ := Mts.open_rows e0_1
  subst hc0_1
  obtain ⟨a1, len1, cap1, rfl⟩ := okWide_slice Try.underlying32 (hval 1 32 v1 rfl rfl)
  have k1 := h1
  have lt1 : ∀ x ∈ p1, x.block < W.heap.size := by obtain ⟨m, hm⟩ := k1; exact DataW.trod_lt m _ _ _ hm
  obtain ⟨z1, w1⟩ : ∃ zs, IsRow .i64 W a1 len1 cap1 zs := by
    obtain ⟨fuel, hf⟩ := h1
    rcases open_ints Try.underlying32 Try.underlying2 (by kernel_rfl) hf with ⟨hcs, _⟩ | ⟨x, l, c, zs, hcs, _, hl, hm, hz, _, hcell, hwz⟩
    · simp [Value.cells] at hcs
      obtain ⟨rfl, rfl, rfl⟩ := hcs
      exact ⟨[], .inl ⟨rfl, rfl, rfl, rfl⟩⟩
    · simp [Value.cells] at hcs
      obtain ⟨rfl, rfl, rfl⟩ := hcs
      exact ⟨zs, .inr ⟨_, rfl, hl, hm, by simpa using hz, hcell, hwz⟩⟩
  clear hA0
  refine (walk W a0_0 cap0_0 z0_0 w0_0 a0_1 cap0_1 z0_1 w0_1 a1 len1 cap1 z1 w1 ).mono fun e W' ⟨he, bel⟩ => ?_
  subst he
  exact ⟨_, rfl, _, _, _, [], _, [], hW', trodAll_mk1 (shut_bool Try.underlying4 _), (trodAll_cons_mk (Below.trod laidOut (by kernel_rfl) (of_decide_eq_true (by kernel_rfl)) k0 bel lt0) (trodAll_cons_mk (Below.trod laidOut (by kernel_rfl) (of_decide_eq_true (by kernel_rfl)) k1 bel lt1) trodAll_mk0)), rfl, bel.frame _, fun h => by cases h⟩

theorem proved : Rows.FnExactViolationsSaid :=
  OpenClaim.holds_of_wide 6 Try.f6 rfl rfl rfl rfl rfl rfl rfl ⟨rfl, rfl, rfl, rfl, rfl⟩ rfl rfl rfl rfl rfl (by kernel_rfl) Try.func6 (by kernel_rfl)
    (of_decide_eq_true (by kernel_rfl)) (by unfold Func.isWrapper; first | (rw [if_pos (by decide +kernel)]; kernel_rfl) | (rw [if_neg (by decide +kernel)]; exact ⟨rfl, rfl⟩))
    (fun os started H enc _ => lifted os started H enc)
end Go.Proofs.Ytofoffdmhekceaa.fnExactViolations
