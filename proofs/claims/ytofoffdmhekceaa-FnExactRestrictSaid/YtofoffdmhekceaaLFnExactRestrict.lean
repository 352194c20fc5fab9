/-
  For every problem, number and list of numbers Restrict of the program returns what the model returns, a problem of its own memory, the same at a second call, and leaves both arguments as they were: the statement FnExactRestrict. No condition.
-/
import Derived.Test.YtofoffdmhekceaaRows
import Derived.Test.YtofoffdmhekceaaRstZ
import Derived.Test.YtofoffdmhekceaaPrbI
import Derived.Test.YtofoffdmhekceaaBox
import Derived.Test.YtofoffdmhekceaaOwnG
import Derived.Deep.DeepCutAuto
import Derived.Deep.RegionWith
import Derived.WalkKit
import Derived.ProofKit
import Derived.OpenShut
import Derived.ShutString
import Derived.Below
import Derived.Lib.SmallJoins
namespace Go.Proofs.Ytofoffdmhekceaa.fnExactRestrict
open Go.ChangeShapes Go.WideShapes Go.ChangeAt Go.RowKit
open Go.ChangeMaps (open_string shut_string)
set_option linter.unusedVariables false

theorem own : ownKnob Try.prog.godebug = none := by kernel_rfl
theorem laidOut : laidOutB Try.prog = true := by kernel_rfl

/-- What the walk is told of a slice of integers that came in: it is nil; or it leads to a row of 'cap' cells, the numbers 'zs' (the first 'len' are its elements), each fitting its kind. -/
def IsRow (k : IntKind) (w : World) (a : Option Addr) (len cap : Nat) (zs : List Int) : Prop :=
  (a = none ∧ len = 0 ∧ cap = 0 ∧ zs = []) ∨
  ∃ x, a = some x ∧ len ≤ cap ∧ cap ≤ maxLen ∧ zs.length = cap ∧ (∀ i, i < zs.length → w.cell? (x.add i) = some (.int k (zs.getD i 0))) ∧ ∀ n ∈ zs, (Lit.int k n).wf = true

set_option maxRecDepth 100000 in
set_option maxHeartbeats 8000000 in
/-- The walk. -/
theorem walk (w : World) (a0_0 : Option Addr) (cap0_0 : Nat) (z0_0 : List Mts.Z) (w0_0 : Mts.Arg w a0_0 cap0_0 z0_0) (a0_1 : Option Addr) (cap0_1 : Nat) (z0_1 : List Mts.Z) (w0_1 : Mts.Arg w a0_1 cap0_1 z0_1) (a1 : Int) (w1 : (Lit.int .i64 a1).wf = true) (a2 : Option Addr) (len2 cap2 : Nat) (z2 : List Int) (w2 : IsRow .i64 w a2 len2 cap2 z2) :
    Calls Try.prog 8 #[.agg #[.slice a0_0 z0_0.length cap0_0, .slice a0_1 z0_1.length cap0_1], .int .i64 a1, .slice a2 len2 cap2] w fun e w' => e = .returned (.bool true) ∧ Below w.heap.size w w' := by
  have hI0 : Prb.Is w (.agg #[.slice a0_0 z0_0.length cap0_0, .slice a0_1 z0_1.length cap0_1]) ⟨z0_0, z0_1⟩ := ⟨_, _, rfl, w0_0.1, w0_1.1⟩
  have hS0 : Prb.T.Small maxLen ⟨z0_0, z0_1⟩ := ⟨w0_0.2, w0_1.2⟩
  obtain ⟨N0, hN0⟩ : ∃ N : Prb.T, N = ⟨z0_0, z0_1⟩ := ⟨_, rfl⟩
  have e0_0 : z0_0.length = N0.f0.length := by rw [hN0]
  have e0_1 : z0_1.length = N0.f1.length := by rw [hN0]
  rw [← hN0] at hI0 hS0
  rw [e0_0, e0_1] at hI0 ⊢
  have HI0 := Lib.hid hI0
  clear hN0 hI0 w0_0 e0_0 w0_1 e0_1
  clear w1
  obtain ⟨hi2, hl2⟩ := Ints.Ints.of_arg w2
  have mm2 : len2 ≤ maxLen := by
    rcases w2 with ⟨_, h, _, _⟩ | ⟨_, _, h1, h2, _⟩
    · rw [h]; exact Nat.zero_le _
    · exact Nat.le_trans h1 h2
  unfold maxLen at mm2
  clear w2
  by_cases hsz2 : len2 ≤ 1048576
  case neg =>
    have hszi : (1048576 : Int) < (len2 : Int) := by omega
    go_enter Try.func8, Try.ntmps8
    go_wp2_with fail
    go_ret
    exact ⟨rfl, show On w _ by repeat (first | with_reducible exact On.refl _ | with_reducible apply On.alloc | with_reducible apply On.drewN | with_reducible apply On.drew | with_reducible refine On.setCell ?_ (by (try simp) <;> omega) _)⟩
  have hszi2 : ¬ (1048576 : Int) < (len2 : Int) := by omega
  obtain ⟨zz2, hz2⟩ : ∃ z, z = z2.take len2 := ⟨_, rfl⟩
  rw [← hz2] at hi2 hl2
  clear hz2
  subst hl2
  have HZ2 := Lib.hid hi2
  have HL2 := Lib.hid hsz2
  clear hi2 hsz2
  go_enter Try.func8, Try.ntmps8
  go_wp2_with fail
  generalize hW0 : w.alloc (.cells #[.slice a0_0 N0.f0.length cap0_0, .slice a0_1 N0.f1.length cap0_1] 24) = w0
  have O0 := Lib.hid (show On w w0 by rw [← hW0]; repeat (first | with_reducible exact On.refl _ | with_reducible apply On.alloc | with_reducible apply On.drewN | with_reducible apply On.drew | with_reducible refine On.setCell ?_ (by (try simp) <;> omega) _))
  have BA := Lib.hid (show Bx.Box w0 w.heap.size [.slice a0_0 N0.f0.length cap0_0, .slice a0_1 N0.f1.length cap0_1] by rw [← hW0]; exact Bx.Box.new _ _ _)
  clear hW0
  have za := (BA.out).1
  have ka0 := (BA.out).2 0 _ rfl
  have ka1 := (BA.out).2 1 _ rfl
  refine (Prb.count0 _ N0 _ hS0 (HI0.out.on O0.out)).mono ?_
  rintro e w1 ⟨r, rfl, h1, hrr⟩
  rcases hrr with hrr | ⟨c0, rfl, hc0, hs0⟩
  · go_wp2_with fail
    go_ret
    exact ⟨rfl, O0.out.trans h1⟩
  have hr0 : ¬ (c0 : Int) < 0 := by omega
  have HS0 := Lib.hid hs0
  have P1 := Lib.hid (show On w0 w1 from h1)
  have hS := fun (w' : World) (v' : Value) (h' : Prb.Is w' v' N0) (v2' : Value) (h2' : Ints.Ints w' v2' zz2) => Rst.spec_Restrict v' N0 a1 v2' zz2 w' hs0 HL2.out h' h2'
  have hI := fun (w' : World) (v' : Value) (h' : Prb.Is w' v' N0) (v2' : Value) (h2' : Ints.Ints w' v2' zz2) => Rst.impl_Restrict v' N0 a1 v2' zz2 w' hs0 HL2.out h' h2'
  have hr := Rst.rst_size N0 a1 zz2
  generalize Rst.rstV N0 a1 zz2 = rs at *
  generalize Rst.rstC N0 a1 zz2 = co at *
  have hco : (co != co) = false := bne_self_eq_false co
  obtain ⟨q, hq⟩ : ∃ q : Int, q = ((1 + Mats.tot rs.f0 + Mats.tot rs.f1 : Nat) : Int) := ⟨_, rfl⟩
  have hq0 : ¬ q < 0 := by omega
  have hM := fun (B E : Nat) (v : Value) (w : World) (hB : B ≤ w.heap.size) (hE : E ≤ w.heap.size) (h : Rst.OwnP B E w v rs) => Rst.markP B E v rs w hB hE hr.1 hr.2 h
  have hH := fun (B E : Nat) (v : Value) (w : World) (h : Rst.OwnP B E w v (Rst.markedP rs)) => Rst.heldP B E v rs w hr.1 hr.2 h
  rw [← hq] at hM hH
  have HM := Lib.hid hM
  have HH := Lib.hid hH
  have HS := Lib.hid hS
  have HI := Lib.hid hI
  have HX := Lib.hid (fun (B E : Nat) (v : Value) (w : World) hB h => Prb.mark B E 1 v N0 w hs0 (by decide) hB h)
  have HRR := Lib.hid hr
  clear hS hI hM hH hq hs0 hS0 h1 hc0 hr
  clear za ka0 ka1
  have za := (BA.out.on P1.out).1
  have ka0 := (BA.out.on P1.out).2 0 _ rfl
  have ka1 := (BA.out.on P1.out).2 1 _ rfl
  go_wp2_with fail
  refine (Prb.copy _ N0 _ HS0.out (HI0.out.on (O0.out.trans P1.out))).mono ?_
  rintro e w2 ⟨vs, rfl, ho, h2⟩
  have P2 := Lib.hid (show On w0 w2 by refine On.trans P1.out (On.trans ?_ h2); repeat (first | with_reducible exact On.refl _ | with_reducible apply On.alloc | with_reducible apply On.drewN | with_reducible apply On.drew | with_reducible refine On.setCell ?_ (by (try simp) <;> omega) _))
  have IS_2 := Lib.hid ho.is
  clear ho h2
  clear za ka0 ka1
  have za := (BA.out.on P2.out).1
  have ka0 := (BA.out.on P2.out).2 0 _ rfl
  have ka1 := (BA.out.on P2.out).2 1 _ rfl
  go_wp2_with fail
  refine (Ints.copy _ zz2 _ HL2.out (HZ2.out.below (O0.out.trans P2.out))).mono ?_
  rintro e w3 ⟨vs2, rfl, ho, h3⟩
  have g3 : On w2 w3 := by refine On.trans ?_ h3; repeat (first | with_reducible exact On.refl _ | with_reducible apply On.alloc | with_reducible apply On.drewN | with_reducible apply On.drew | with_reducible refine On.setCell ?_ (by (try simp) <;> omega) _)
  have P3 := Lib.hid (P2.out.trans g3)
  have IS_3 := Lib.hid (IS_2.out.on g3)
  have IS2_3 := Lib.hid ho
  clear ho h3 g3 IS_2
  clear za ka0 ka1
  have za := (BA.out.on P3.out).1
  have ka0 := (BA.out.on P3.out).2 0 _ rfl
  have ka1 := (BA.out.on P3.out).2 1 _ rfl
  go_wp2_with fail
  refine (HS.out _ _ IS_3.out _ IS2_3.out).mono ?_
  rintro e w4 ⟨ua0, uc0, ua1, uc1, rfl, hu, h4⟩
  have U0 := Lib.hid hu
  have P4 := Lib.hid (show On w0 w4 by refine On.trans P3.out (On.trans ?_ h4); repeat (first | with_reducible exact On.refl _ | with_reducible apply On.alloc | with_reducible apply On.drewN | with_reducible apply On.drew | with_reducible refine On.setCell ?_ (by (try simp) <;> omega) _))
  clear hu h4 IS_3 HS
  clear za ka0 ka1
  have za := (BA.out.on P4.out).1
  have ka0 := (BA.out.on P4.out).2 0 _ rfl
  have ka1 := (BA.out.on P4.out).2 1 _ rfl
  go_wp2_with fail
  generalize hW5 : w4.alloc (.cells #[.slice ua0 rs.f0.length uc0, .slice ua1 rs.f1.length uc1] 27) = w5
  have k5 : On w4 w5 := by rw [← hW5]; repeat (first | with_reducible exact On.refl _ | with_reducible apply On.alloc | with_reducible apply On.drewN | with_reducible apply On.drew | with_reducible refine On.setCell ?_ (by (try simp) <;> omega) _)
  have BU := Lib.hid (show Bx.Box w5 w4.heap.size [.slice ua0 rs.f0.length uc0, .slice ua1 rs.f1.length uc1] by rw [← hW5]; exact Bx.Box.new _ _ _)
  have U5 := Lib.hid (U0.out.on k5)
  have P5 := Lib.hid (P4.out.trans k5)
  clear hW5 k5 U0
  clear za ka0 ka1
  have za := (BA.out.on P5.out).1
  have ka0 := (BA.out.on P5.out).2 0 _ rfl
  have ka1 := (BA.out.on P5.out).2 1 _ rfl
  refine (Prb.copy _ N0 _ HS0.out (HI0.out.on (O0.out.trans P5.out))).mono ?_
  rintro e w6 ⟨vx, rfl, ho, h6⟩
  obtain ⟨b0, b1, d0, d1, hv⟩ := ho.is.shape
  subst hv
  have X_6 := Lib.hid (Prb.Shp.of_is ho HS0.out)
  have J6 := Lib.hid (show On w5 w6 from h6)
  have P6 := Lib.hid (P5.out.trans h6)
  have IX_6 := Lib.hid ho.is
  clear ho h6
  clear za ka0 ka1
  have za := (BA.out.on P6.out).1
  have ka0 := (BA.out.on P6.out).2 0 _ rfl
  have ka1 := (BA.out.on P6.out).2 1 _ rfl
  go_wp2_with fail
  refine (Ints.copyOwn _ zz2 _ HL2.out (HZ2.out.below (O0.out.trans (P6.out.trans (by repeat (first | with_reducible exact On.refl _ | with_reducible apply On.alloc | with_reducible apply On.drewN | with_reducible apply On.drew | with_reducible refine On.setCell ?_ (by (try simp) <;> omega) _)))))).mono ?_
  rintro e w7 ⟨vx2, rfl, ho, h7⟩
  have g7 : On w6 w7 := by refine On.trans ?_ h7; repeat (first | with_reducible exact On.refl _ | with_reducible apply On.alloc | with_reducible apply On.drewN | with_reducible apply On.drew | with_reducible refine On.setCell ?_ (by (try simp) <;> omega) _)
  have BX := Lib.hid (show Bx.Box w7 w6.heap.size [.slice b0 N0.f0.length d0, .slice b1 N0.f1.length d1] from (Bx.Box.new _ _ _).on h7)
  have J7 := Lib.hid (J6.out.trans g7)
  have P7 := Lib.hid (P6.out.trans g7)
  have IX_7 := Lib.hid (IX_6.out.on g7)
  have X_7 := Lib.hid ((X_6.out.kd (Mrk.Kd.of_on g7 J6.out.size)).mono (Nat.le_refl _) g7.size)
  have X2_7 := Lib.hid (Mats.nst_mono (B' := w5.heap.size) (Mats.nst_own ho) (by have := J6.out.size; simp; omega) (Nat.le_refl _))
  have IX2_7 := Lib.hid ho.ints
  clear ho h7 g7
  clear za ka0 ka1
  have za := (BA.out.on P7.out).1
  have ka0 := (BA.out.on P7.out).2 0 _ rfl
  have ka1 := (BA.out.on P7.out).2 1 _ rfl
  have zx := (BX.out).1
  have kx0 := (BX.out).2 0 _ rfl
  have kx1 := (BX.out).2 1 _ rfl
  go_wp2_with fail
  refine (HI.out _ _ (IX_7.out.on (by repeat (first | with_reducible exact On.refl _ | with_reducible apply On.alloc | with_reducible apply On.drewN | with_reducible apply On.drew | with_reducible refine On.setCell ?_ (by (try simp) <;> omega) _))) _ (IX2_7.out.below (show On _ _ from by repeat (first | with_reducible exact On.refl _ | with_reducible apply On.alloc | with_reducible apply On.drewN | with_reducible apply On.drew | with_reducible refine On.setCell ?_ (by (try simp) <;> omega) _)))).mono ?_
  rintro e w8 ⟨ga0, gc0, ga1, gc1, rfl, og, h8⟩
  have g8 : On w7 w8 := by refine On.trans ?_ h8; repeat (first | with_reducible exact On.refl _ | with_reducible apply On.alloc | with_reducible apply On.drewN | with_reducible apply On.drew | with_reducible refine On.setCell ?_ (by (try simp) <;> omega) _)
  have BX := Lib.hid (BX.out.on g8)
  have G8 := Lib.hid (Rst.OwnP.mono (B' := w7.heap.size) og (by simp))
  have J8 := Lib.hid (J7.out.trans g8)
  have P8 := Lib.hid (P7.out.trans g8)
  have Q8 := Lib.hid g8
  clear og h8 g8
  clear za ka0 ka1
  clear zx kx0 kx1
  have za := (BA.out.on P8.out).1
  have ka0 := (BA.out.on P8.out).2 0 _ rfl
  have ka1 := (BA.out.on P8.out).2 1 _ rfl
  have zx := (BX.out).1
  have kx0 := (BX.out).2 0 _ rfl
  have kx1 := (BX.out).2 1 _ rfl
  have zu := (BU.out.on J8.out).1
  have ku0 := (BU.out.on J8.out).2 0 _ rfl
  have ku1 := (BU.out.on J8.out).2 1 _ rfl
  go_wp2_with fail
  generalize hW9 : w8.alloc (.cells #[.slice ga0 rs.f0.length gc0, .slice ga1 rs.f1.length gc1] 27) = w9
  have k9 : On w8 w9 := by rw [← hW9]; repeat (first | with_reducible exact On.refl _ | with_reducible apply On.alloc | with_reducible apply On.drewN | with_reducible apply On.drew | with_reducible refine On.setCell ?_ (by (try simp) <;> omega) _)
  have BG := Lib.hid (show Bx.Box w9 w8.heap.size [.slice ga0 rs.f0.length gc0, .slice ga1 rs.f1.length gc1] by rw [← hW9]; exact Bx.Box.new _ _ _)
  have BX := Lib.hid (BX.out.on k9)
  have G9 := Lib.hid (G8.out.below k9)
  have J9 := Lib.hid (J8.out.trans k9)
  have P9 := Lib.hid (P8.out.trans k9)
  have Q9 := Lib.hid (Q8.out.trans k9)
  clear hW9 k9
  clear za ka0 ka1
  clear zx kx0 kx1
  clear zu ku0 ku1
  have za := (BA.out.on P9.out).1
  have ka0 := (BA.out.on P9.out).2 0 _ rfl
  have ka1 := (BA.out.on P9.out).2 1 _ rfl
  have zx := (BX.out).1
  have kx0 := (BX.out).2 0 _ rfl
  have kx1 := (BX.out).2 1 _ rfl
  have zg := (BG.out).1
  have kg0 := (BG.out).2 0 _ rfl
  have kg1 := (BG.out).2 1 _ rfl
  have zu := (BU.out.on J9.out).1
  have ku0 := (BU.out.on J9.out).2 0 _ rfl
  have ku1 := (BU.out.on J9.out).2 1 _ rfl
  go_wp2_with fail
  refine (Prb.eq _ _ rs _ HRR.out.1 G9.out.is (U5.out.on J9.out)).mono ?_
  rintro e w10 ⟨rfl, h10⟩
  have J10 := Lib.hid (J9.out.trans h10)
  have P10 := Lib.hid (P9.out.trans h10)
  have Q10 := Lib.hid (Q9.out.trans h10)
  have G10 := Lib.hid (G9.out.below h10)
  have BX := Lib.hid (BX.out.on h10)
  have BG := Lib.hid (BG.out.on h10)
  clear h10
  clear za ka0 ka1
  clear zx kx0 kx1
  clear zg kg0 kg1
  clear zu ku0 ku1
  have za := (BA.out.on P10.out).1
  have ka0 := (BA.out.on P10.out).2 0 _ rfl
  have ka1 := (BA.out.on P10.out).2 1 _ rfl
  have zx := (BX.out).1
  have kx0 := (BX.out).2 0 _ rfl
  have kx1 := (BX.out).2 1 _ rfl
  have zg := (BG.out).1
  have kg0 := (BG.out).2 0 _ rfl
  have kg1 := (BG.out).2 1 _ rfl
  have zu := (BU.out.on J10.out).1
  have ku0 := (BU.out.on J10.out).2 0 _ rfl
  have ku1 := (BU.out.on J10.out).2 1 _ rfl
  go_upto_region 13 with fail
  go_cut [60] (fun s wx => s = .bool false ∧ On w10 wx)
  case first =>
    go_region_with (first
      | (go_at_call 12; refine (Prb.copy _ N0 _ HS0.out (HI0.out.on (O0.out.trans (P10.out.trans (by repeat (first | with_reducible exact On.refl _ | with_reducible apply On.drew | with_reducible apply On.drewN)))))).mono ?_; rintro e wy ⟨vy, rfl, hoy, hy⟩; have JY := Lib.hid hoy.is; (have gy : On w10 wy := by refine On.trans ?_ hy; repeat (first | with_reducible exact On.refl _ | with_reducible apply On.drew | with_reducible apply On.drewN)); have BY := Lib.hid (BX.out.on gy); have y0 := BY.out.2 0 _ rfl; have y1 := BY.out.2 1 _ rfl; have yz := BY.out.1; clear hoy)
      | (go_at_call 14; refine (Prb.eq _ _ N0 _ HS0.out (IX_7.out.on (Q10.out.trans ((‹On w10 _›).trans (by repeat (first | with_reducible exact On.refl _ | with_reducible apply On.drew | with_reducible apply On.drewN))))) (JY.out.on (by repeat (first | with_reducible exact On.refl _ | with_reducible apply On.drew | with_reducible apply On.drewN)))).mono ?_; rintro e wz ⟨rfl, hz⟩))
    all_goals
      go_wp2_with fail
      go_meet
      exact ⟨rfl, On.trans ‹On w10 wy› (On.trans (by repeat (first | with_reducible exact On.refl _ | with_reducible apply On.drew | with_reducible apply On.drewN)) ‹On _ wz›)⟩
  case rest =>
    obtain ⟨rfl, hC⟩ := hcut
    rename World => w12
    have G12 := Lib.hid (G10.out.below hC)
    have J12 := Lib.hid (J10.out.trans hC)
    have P12 := Lib.hid (P10.out.trans hC)
    have Q12 := Lib.hid (Q10.out.trans hC)
    have BX := Lib.hid (BX.out.on hC)
    have BG := Lib.hid (BG.out.on hC)
    clear hC
    clear za ka0 ka1
    clear zx kx0 kx1
    clear zg kg0 kg1
    clear zu ku0 ku1
    have za := (BA.out.on P12.out).1
    have ka0 := (BA.out.on P12.out).2 0 _ rfl
    have ka1 := (BA.out.on P12.out).2 1 _ rfl
    have zx := (BX.out).1
    have kx0 := (BX.out).2 0 _ rfl
    have kx1 := (BX.out).2 1 _ rfl
    have zg := (BG.out).1
    have kg0 := (BG.out).2 0 _ rfl
    have kg1 := (BG.out).2 1 _ rfl
    have zu := (BU.out.on J12.out).1
    have ku0 := (BU.out.on J12.out).2 0 _ rfl
    have ku1 := (BU.out.on J12.out).2 1 _ rfl
    go_wp2_with fail
    refine (Ints.copy _ zz2 _ HL2.out (HZ2.out.below (O0.out.trans P12.out))).mono ?_
    rintro e w13 ⟨vy2, rfl, ho, h13⟩
    have IY := Lib.hid ho
    have J13 := Lib.hid (J12.out.trans h13)
    have P13 := Lib.hid (P12.out.trans h13)
    have Q13 := Lib.hid (Q12.out.trans h13)
    have G13 := Lib.hid (G12.out.below h13)
    have BX := Lib.hid (BX.out.on h13)
    have BG := Lib.hid (BG.out.on h13)
    clear ho h13
    clear za ka0 ka1
    clear zx kx0 kx1
    clear zg kg0 kg1
    clear zu ku0 ku1
    have za := (BA.out.on P13.out).1
    have ka0 := (BA.out.on P13.out).2 0 _ rfl
    have ka1 := (BA.out.on P13.out).2 1 _ rfl
    have zx := (BX.out).1
    have kx0 := (BX.out).2 0 _ rfl
    have kx1 := (BX.out).2 1 _ rfl
    have zg := (BG.out).1
    have kg0 := (BG.out).2 0 _ rfl
    have kg1 := (BG.out).2 1 _ rfl
    have zu := (BU.out.on J13.out).1
    have ku0 := (BU.out.on J13.out).2 0 _ rfl
    have ku1 := (BU.out.on J13.out).2 1 _ rfl
    go_wp2_with fail
    refine (Mats.eqI _ _ zz2 _ HL2.out (IX2_7.out.below Q13.out) IY.out).mono ?_
    rintro e w14 ⟨rfl, h14⟩
    have J14 := Lib.hid (J13.out.trans h14)
    have P14 := Lib.hid (P13.out.trans h14)
    have Q14 := Lib.hid (Q13.out.trans h14)
    have G14 := Lib.hid (G13.out.below h14)
    have BX := Lib.hid (BX.out.on h14)
    have BG := Lib.hid (BG.out.on h14)
    clear h14 IY
    clear za ka0 ka1
    clear zx kx0 kx1
    clear zg kg0 kg1
    clear zu ku0 ku1
    have za := (BA.out.on P14.out).1
    have ka0 := (BA.out.on P14.out).2 0 _ rfl
    have ka1 := (BA.out.on P14.out).2 1 _ rfl
    have zx := (BX.out).1
    have kx0 := (BX.out).2 0 _ rfl
    have kx1 := (BX.out).2 1 _ rfl
    have zg := (BG.out).1
    have kg0 := (BG.out).2 0 _ rfl
    have kg1 := (BG.out).2 1 _ rfl
    have zu := (BU.out.on J14.out).1
    have ku0 := (BU.out.on J14.out).2 0 _ rfl
    have ku1 := (BU.out.on J14.out).2 1 _ rfl
    go_wp2_with fail
    refine (HX.out w5.heap.size w7.heap.size _ _ J14.out.size (X_7.out.kd (Mrk.Kd.of_on Q14.out J7.out.size))).mono ?_
    rintro e w15 ⟨r9, rfl, hr9, kd⟩
    have KD := Lib.hid ((Mrk.Kd.of_on (B := w5.heap.size) (E := w7.heap.size) Q14.out J7.out.size).trans kd)
    have hr9i : ¬ (r9 : Int) < 0 := by omega
    have BG := Lib.hid (Rst.Box_kd BG.out Q8.out.size kd)
    have G15 := Lib.hid (Rst.OwnP.off2 G14.out kd.size kd.frozen (fun p hp hB => World.cell?_of_block (kd.out p.block hB hp)))
    have J15 := Lib.hid (show On w5 w15 from Below.trans J14.out kd.below)
    have P15 := Lib.hid (show On w0 w15 from P5.out.trans J15.out)
    have s15 := Lib.hid (show w7.heap.size ≤ w15.heap.size from Nat.le_trans (Q14.out.size) kd.size)
    clear kd
    clear za ka0 ka1
    clear zx kx0 kx1
    clear zg kg0 kg1
    clear zu ku0 ku1
    have za := (BA.out.on P15.out).1
    have ka0 := (BA.out.on P15.out).2 0 _ rfl
    have ka1 := (BA.out.on P15.out).2 1 _ rfl
    have zg := (BG.out).1
    have kg0 := (BG.out).2 0 _ rfl
    have kg1 := (BG.out).2 1 _ rfl
    have zu := (BU.out.on J15.out).1
    have ku0 := (BU.out.on J15.out).2 0 _ rfl
    have ku1 := (BU.out.on J15.out).2 1 _ rfl
    go_wp2_with fail
    refine (Mrk.markInts w5.heap.size w7.heap.size _ zz2.length _ _ HL2.out (by omega) J15.out.size (X2_7.out.kd KD.out)).mono ?_
    rintro e w16 ⟨rfl, kd⟩
    have KD := Lib.hid (KD.out.trans kd)
    clear hr9i
    have hr9i : ¬ ((r9 : Int) + (zz2.length : Int)) < 0 := by omega
    have BG := Lib.hid (Rst.Box_kd BG.out Q8.out.size kd)
    have G16 := Lib.hid (Rst.OwnP.off2 G15.out kd.size kd.frozen (fun p hp hB => World.cell?_of_block (kd.out p.block hB hp)))
    have J16 := Lib.hid (show On w5 w16 from Below.trans J15.out kd.below)
    have P16 := Lib.hid (show On w0 w16 from P5.out.trans J16.out)
    have s16 := Lib.hid (show w7.heap.size ≤ w16.heap.size from Nat.le_trans (s15.out) kd.size)
    clear kd
    clear za ka0 ka1
    clear zg kg0 kg1
    clear zu ku0 ku1
    have za := (BA.out.on P16.out).1
    have ka0 := (BA.out.on P16.out).2 0 _ rfl
    have ka1 := (BA.out.on P16.out).2 1 _ rfl
    have zg := (BG.out).1
    have kg0 := (BG.out).2 0 _ rfl
    have kg1 := (BG.out).2 1 _ rfl
    have zu := (BU.out.on J16.out).1
    have ku0 := (BU.out.on J16.out).2 0 _ rfl
    have ku1 := (BU.out.on J16.out).2 1 _ rfl
    go_wp2_with fail
    refine (Prb.eq _ _ rs _ HRR.out.1 G16.out.is (U5.out.on J16.out)).mono ?_
    rintro e w17 ⟨rfl, h17⟩
    have BG := Lib.hid (BG.out.on h17)
    have J17 := Lib.hid (J16.out.trans h17)
    have P17 := Lib.hid (P16.out.trans h17)
    have G17 := Lib.hid (G16.out.below h17)
    clear h17
    clear za ka0 ka1
    clear zg kg0 kg1
    clear zu ku0 ku1
    have za := (BA.out.on P17.out).1
    have ka0 := (BA.out.on P17.out).2 0 _ rfl
    have ka1 := (BA.out.on P17.out).2 1 _ rfl
    have zg := (BG.out).1
    have kg0 := (BG.out).2 0 _ rfl
    have kg1 := (BG.out).2 1 _ rfl
    have zu := (BU.out.on J17.out).1
    have ku0 := (BU.out.on J17.out).2 0 _ rfl
    have ku1 := (BU.out.on J17.out).2 1 _ rfl
    go_wp2_with fail
    refine (HM.out _ _ _ _ (Nat.le_trans Q8.out.size (Nat.le_of_lt BG.out.1)) (Nat.le_of_lt BG.out.1) G17.out).mono ?_
    rintro e w18 ⟨rfl, b11, om, hbx⟩
    have BG := Lib.hid (hbx _ _ (Nat.le_refl _) BG.out)
    have G18 := Lib.hid om
    have J18 := Lib.hid (show On w5 w18 from Below.trans J17.out (Below.mono b11 J7.out.size))
    have P18 := Lib.hid (show On w0 w18 from P5.out.trans J18.out)
    clear b11 om hbx
    clear za ka0 ka1
    clear zg kg0 kg1
    clear zu ku0 ku1
    have za := (BA.out.on P18.out).1
    have ka0 := (BA.out.on P18.out).2 0 _ rfl
    have ka1 := (BA.out.on P18.out).2 1 _ rfl
    have zg := (BG.out).1
    have kg0 := (BG.out).2 0 _ rfl
    have kg1 := (BG.out).2 1 _ rfl
    have zu := (BU.out.on J18.out).1
    have ku0 := (BU.out.on J18.out).2 0 _ rfl
    have ku1 := (BU.out.on J18.out).2 1 _ rfl
    go_wp2_with fail
    refine (HH.out _ _ _ _ G18.out).mono ?_
    rintro e w19 ⟨rfl, h19⟩
    have G19 := Lib.hid (G18.out.below h19)
    have BG := Lib.hid (BG.out.on h19)
    have J19 := Lib.hid (J18.out.trans h19)
    have P19 := Lib.hid (P18.out.trans h19)
    clear h19
    clear za ka0 ka1
    clear zg kg0 kg1
    clear zu ku0 ku1
    have za := (BA.out.on P19.out).1
    have ka0 := (BA.out.on P19.out).2 0 _ rfl
    have ka1 := (BA.out.on P19.out).2 1 _ rfl
    have zg := (BG.out).1
    have kg0 := (BG.out).2 0 _ rfl
    have kg1 := (BG.out).2 1 _ rfl
    have zu := (BU.out.on J19.out).1
    have ku0 := (BU.out.on J19.out).2 0 _ rfl
    have ku1 := (BU.out.on J19.out).2 1 _ rfl
    go_wp2_with fail
    refine (Prb.copy _ N0 _ HS0.out (HI0.out.on (O0.out.trans P19.out))).mono ?_
    rintro e w20 ⟨vt, rfl, ho, h20⟩
    have IT_20 := Lib.hid ho.is
    have G20 := Lib.hid (G19.out.below h20)
    have BG := Lib.hid (BG.out.on h20)
    have J20 := Lib.hid (J19.out.trans h20)
    have P20 := Lib.hid (P19.out.trans h20)
    clear ho h20
    clear za ka0 ka1
    clear zg kg0 kg1
    clear zu ku0 ku1
    have za := (BA.out.on P20.out).1
    have ka0 := (BA.out.on P20.out).2 0 _ rfl
    have ka1 := (BA.out.on P20.out).2 1 _ rfl
    have zg := (BG.out).1
    have kg0 := (BG.out).2 0 _ rfl
    have kg1 := (BG.out).2 1 _ rfl
    have zu := (BU.out.on J20.out).1
    have ku0 := (BU.out.on J20.out).2 0 _ rfl
    have ku1 := (BU.out.on J20.out).2 1 _ rfl
    go_wp2_with fail
    refine (Ints.copy _ zz2 _ HL2.out (HZ2.out.below (O0.out.trans P20.out))).mono ?_
    rintro e w21 ⟨vt2, rfl, ho, h21⟩
    have G21 := Lib.hid (G20.out.below h21)
    have BG := Lib.hid (BG.out.on h21)
    have J21 := Lib.hid (J20.out.trans h21)
    have P21 := Lib.hid (P20.out.trans h21)
    have IT_21 := Lib.hid (IT_20.out.on h21)
    have IT2_21 := Lib.hid ho
    clear ho h21
    clear za ka0 ka1
    clear zg kg0 kg1
    clear zu ku0 ku1
    have za := (BA.out.on P21.out).1
    have ka0 := (BA.out.on P21.out).2 0 _ rfl
    have ka1 := (BA.out.on P21.out).2 1 _ rfl
    have zg := (BG.out).1
    have kg0 := (BG.out).2 0 _ rfl
    have kg1 := (BG.out).2 1 _ rfl
    have zu := (BU.out.on J21.out).1
    have ku0 := (BU.out.on J21.out).2 0 _ rfl
    have ku1 := (BU.out.on J21.out).2 1 _ rfl
    go_wp2_with fail
    refine (HI.out _ _ IT_21.out _ IT2_21.out).mono ?_
    rintro e w22 ⟨ha0, hc0, ha1, hc1, rfl, oh, h22⟩
    have OH0 := Lib.hid oh.is
    have G22 := Lib.hid (G21.out.below h22)
    have BG := Lib.hid (BG.out.on h22)
    have J22 := Lib.hid (J21.out.trans h22)
    have P22 := Lib.hid (P21.out.trans h22)
    clear oh h22
    clear za ka0 ka1
    clear zg kg0 kg1
    clear zu ku0 ku1
    have za := (BA.out.on P22.out).1
    have ka0 := (BA.out.on P22.out).2 0 _ rfl
    have ka1 := (BA.out.on P22.out).2 1 _ rfl
    have zg := (BG.out).1
    have kg0 := (BG.out).2 0 _ rfl
    have kg1 := (BG.out).2 1 _ rfl
    have zu := (BU.out.on J22.out).1
    have ku0 := (BU.out.on J22.out).2 0 _ rfl
    have ku1 := (BU.out.on J22.out).2 1 _ rfl
    go_wp2_with fail
    generalize hW23 : w22.alloc (.cells #[.slice ha0 rs.f0.length hc0, .slice ha1 rs.f1.length hc1] 27) = w23
    have k23 : On w22 w23 := by rw [← hW23]; repeat (first | with_reducible exact On.refl _ | with_reducible apply On.alloc | with_reducible apply On.drewN | with_reducible apply On.drew | with_reducible refine On.setCell ?_ (by (try simp) <;> omega) _)
    have BH := Lib.hid (show Bx.Box w23 w22.heap.size [.slice ha0 rs.f0.length hc0, .slice ha1 rs.f1.length hc1] by rw [← hW23]; exact Bx.Box.new _ _ _)
    have OH := Lib.hid (OH0.out.on k23)
    have BG := Lib.hid (BG.out.on k23)
    have G23 := Lib.hid (G22.out.below k23)
    have J23 := Lib.hid (J22.out.trans k23)
    have P23 := Lib.hid (P22.out.trans k23)
    clear hW23 k23 OH0
    clear za ka0 ka1
    clear zg kg0 kg1
    clear zu ku0 ku1
    have za := (BA.out.on P23.out).1
    have ka0 := (BA.out.on P23.out).2 0 _ rfl
    have ka1 := (BA.out.on P23.out).2 1 _ rfl
    have zg := (BG.out).1
    have kg0 := (BG.out).2 0 _ rfl
    have kg1 := (BG.out).2 1 _ rfl
    have zu := (BU.out.on J23.out).1
    have ku0 := (BU.out.on J23.out).2 0 _ rfl
    have ku1 := (BU.out.on J23.out).2 1 _ rfl
    have zh := (BH.out).1
    have kh0 := (BH.out).2 0 _ rfl
    have kh1 := (BH.out).2 1 _ rfl
    go_wp2_with fail
    refine (Prb.eq _ _ rs _ HRR.out.1 OH.out (U5.out.on J23.out)).mono ?_
    rintro e w24 ⟨rfl, h24⟩
    have G24 := Lib.hid (G23.out.below h24)
    have BG := Lib.hid (BG.out.on h24)
    have P24 := Lib.hid (P23.out.trans h24)
    clear h24
    clear za ka0 ka1
    clear zg kg0 kg1
    clear zu ku0 ku1
    clear zh kh0 kh1
    have zg := (BG.out).1
    have kg0 := (BG.out).2 0 _ rfl
    have kg1 := (BG.out).2 1 _ rfl
    go_wp2_with fail
    refine (HH.out _ _ _ _ G24.out).mono ?_
    rintro e w25 ⟨rfl, h25⟩
    go_wp2_with fail
    go_ret
    exact ⟨rfl, O0.out.trans (P24.out.trans h25)⟩

set_option maxRecDepth 100000 in
/-- The row's step. -/
theorem lifted (os : Os) (started : os.Started) (H : Type) (enc : TypeId × Value → H) :
    ReturnsInHanded {} Try.checked os 8 .any (Rows.fnExactRestrictSpec.pre6 enc Try.prog Try.f8 Rows.fnExactRestrictRow.domain false) (Rows.fnExactRestrictSpec.post enc Try.prog Try.f8 false true false false) := by
  refine returnsInHanded_of_change (C := Try.checked) own started (by kernel_rfl) Try.func8
    (ChangeSpec.witness6 (enc := enc) (C := Try.checked) false ⟨#[], #[.agg #[.slice none 0 0, .slice none 0 0], .int .i64 0, .slice none 0 0], []⟩ 8 (by kernel_rfl) (by kernel_rfl) (by kernel_rfl) (by kernel_rfl)) ?_
  intro W base args ds gs before hval0 hW hcnd _
  have hval : ∀ (j : Nat) t v, Try.f8.params[j]? = some t → args[j]? = some v → Value.okWide Try.prog W .any base t v := hval0
  have hW' := hW
  obtain ⟨p, q, hA0, hV, rfl, hfz, hnd⟩ := hW
  have hA : DataW.TrodAll enc Try.prog W 0 (fun _ => true) true Try.f8.params.toList args.toList ds p := hA0
  rw [Try.params8] at hA hval
  obtain ⟨v0, vs0, d0, ds0, p0, q0, hargs, rfl, rfl, h0, r0⟩ := trodAll_cons hA
  obtain ⟨v1, vs1, d1, ds1, p1, q1, rfl, rfl, rfl, h1, r1⟩ := trodAll_cons r0
  obtain ⟨v2, vs2, d2, ds2, p2, q2, rfl, rfl, rfl, h2, r2⟩ := trodAll_cons r1
  obtain ⟨rfl, rfl, rfl⟩ := trodAll_nil r2
  obtain rfl : args = #[v0, v1, v2] := by cases args; simp_all
  obtain ⟨rfl, rfl⟩ := trodVars_none hV
  have k0 := h0
  have lt0 : ∀ x ∈ p0, x.block < W.heap.size := by obtain ⟨m, hm⟩ := k0; exact DataW.trod_lt m _ _ _ hm
  obtain ⟨c0_0, c0_1, y0_0, y0_1, n0, rfl, -, -, e0_0, e0_1⟩ := Joins.open_agg2 Try.underlying24 (by kernel_rfl) (by kernel_rfl) (hval 0 24 v0 rfl rfl) h0
  obtain ⟨a0_0, cap0_0, z0_0, hc0_0, w0_0⟩ := Mts.open_rows e0_0
  subst hc0_0
  obtain ⟨a0_1, cap0_1, z0_1, hc0_1, w0_1⟩ := Mts.open_rows e0_1
  subst hc0_1
  obtain ⟨a1, rfl, rfl, rfl, w1⟩ := open_int Try.underlying2 (hval 1 2 v1 rfl rfl) h1
  obtain ⟨a2, len2, cap2, rfl⟩ := okWide_slice Try.underlying32 (hval 2 32 v2 rfl rfl)
  have k2 := h2
  have lt2 : ∀ x ∈ p2, x.block < W.heap.size := by obtain ⟨m, hm⟩ := k2; exact DataW.trod_lt m _ _ _ hm
  obtain ⟨z2, w2⟩ : ∃ zs, IsRow .i64 W a2 len2 cap2 zs := by
    obtain ⟨fuel, hf⟩ := h2
    rcases open_ints Try.underlying32 Try.underlying2 (by kernel_rfl) hf with ⟨hcs, _⟩ | ⟨x, l, c, zs, hcs, _, hl, hm, hz, _, hcell, hwz⟩
    · simp [Value.cells] at hcs
      obtain ⟨rfl, rfl, rfl⟩ := hcs
      exact ⟨[], .inl ⟨rfl, rfl, rfl, rfl⟩⟩
    · simp [Value.cells] at hcs
      obtain ⟨rfl, rfl, rfl⟩ := hcs
      exact ⟨zs, .inr ⟨_, rfl, hl, hm, by simpa using hz, hcell, hwz⟩⟩
  clear hA0
  refine (walk W a0_0 cap0_0 z0_0 w0_0 a0_1 cap0_1 z0_1 w0_1 a1 w1 a2 len2 cap2 z2 w2 ).mono fun e W' ⟨he, bel⟩ => ?_
  subst he
  exact ⟨_, rfl, _, _, _, [], _, [], hW', trodAll_mk1 (shut_bool Try.underlying4 _), (trodAll_cons_mk (Below.trod laidOut (by kernel_rfl) (of_decide_eq_true (by kernel_rfl)) k0 bel lt0) (trodAll_cons_mk (shut_int Try.underlying2 w1) (trodAll_cons_mk (Below.trod laidOut (by kernel_rfl) (of_decide_eq_true (by kernel_rfl)) k2 bel lt2) trodAll_mk0))), rfl, bel.frame _, fun h => by cases h⟩

theorem proved : Rows.FnExactRestrictSaid :=
  OpenClaim.holds_of_wide 8 Try.f8 rfl rfl rfl rfl rfl rfl rfl ⟨rfl, rfl, rfl, rfl, rfl⟩ rfl rfl rfl rfl rfl (by kernel_rfl) Try.func8 (by kernel_rfl)
    (of_decide_eq_true (by kernel_rfl)) (by unfold Func.isWrapper; first | (rw [if_pos (by decide +kernel)]; kernel_rfl) | (rw [if_neg (by decide +kernel)]; exact ⟨rfl, rfl⟩))
    (fun os started H enc _ => lifted os started H enc)
end Go.Proofs.Ytofoffdmhekceaa.fnExactRestrict
