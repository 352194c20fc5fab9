/-
  For every network and text SectorsAt of the program returns what the model returns, a slice of its own memory, the same at a second call, and leaves the network as it was: the statement FnExactSectorsAt. No condition.
-/
import Derived.Test.YtpnmodmaabhldaaGreatRows
import Derived.Test.YtpnmodmaabhldaaGreatNetA
import Derived.Test.YtpnmodmaabhldaaGreatMarkS2
import Derived.Deep.DeepCutAuto
import Derived.Deep.RegionWith
import Derived.WalkKit
import Derived.ProofKit
import Derived.OpenShut
import Derived.ShutString
import Derived.Below
import Derived.Lib.SmallJoins
namespace Go.Proofs.YtpnmodmaabhldaaGreat.fnExactSectorsAt
open Go.ChangeShapes Go.WideShapes Go.ChangeAt Go.RowKit
open Go.ChangeMaps (open_string shut_string)
set_option linter.unusedVariables false

theorem own : ownKnob Tryz.prog.godebug = none := by kernel_rfl
theorem laidOut : laidOutB Tryz.prog = true := by kernel_rfl

set_option maxRecDepth 100000 in
set_option maxHeartbeats 4000000 in
/-- The walk. -/
theorem walk (w : World) (a0_0 : Option Addr) (cap0_0 : Nat) (z0_0 : List Sites.Z) (w0_0 : Sites.Arg w a0_0 cap0_0 z0_0) (a0_1 : Option Addr) (cap0_1 : Nat) (z0_1 : List Secs.Z) (w0_1 : Secs.Arg w a0_1 cap0_1 z0_1) (a0_2 : Option Addr) (cap0_2 : Nat) (z0_2 : List Ants.Z) (w0_2 : Ants.Arg w a0_2 cap0_2 z0_2) (a0_3 : Option Addr) (cap0_3 : Nat) (z0_3 : List Rads.Z) (w0_3 : Rads.Arg w a0_3 cap0_3 z0_3) (a1 : ByteArray) (w1 : a1.size ≤ maxLen) :
    Calls Tryz.prog 3 #[.agg #[.slice a0_0 z0_0.length cap0_0, .slice a0_1 z0_1.length cap0_1, .slice a0_2 z0_2.length cap0_2, .slice a0_3 z0_3.length cap0_3], .string a1] w fun e w' => e = .returned (.bool true) ∧ Below w.heap.size w w' := by
  have hI0 : Net.Is w (.agg #[.slice a0_0 z0_0.length cap0_0, .slice a0_1 z0_1.length cap0_1, .slice a0_2 z0_2.length cap0_2, .slice a0_3 z0_3.length cap0_3]) ⟨z0_0, z0_1, z0_2, z0_3⟩ := ⟨_, _, _, _, rfl, w0_0.1, w0_1.1, w0_2.1, w0_3.1⟩
  have hS0 : Net.T.Small maxLen ⟨z0_0, z0_1, z0_2, z0_3⟩ := ⟨w0_0.2, w0_1.2, w0_2.2, w0_3.2⟩
  obtain ⟨N0, hN0⟩ : ∃ N : Net.T, N = ⟨z0_0, z0_1, z0_2, z0_3⟩ := ⟨_, rfl⟩
  have e0_0 : z0_0.length = N0.f0.length := by rw [hN0]
  have e0_1 : z0_1.length = N0.f1.length := by rw [hN0]
  have e0_2 : z0_2.length = N0.f2.length := by rw [hN0]
  have e0_3 : z0_3.length = N0.f3.length := by rw [hN0]
  rw [← hN0] at hI0 hS0
  rw [e0_0, e0_1, e0_2, e0_3] at hI0 ⊢
  have HI0 := Lib.hid hI0
  clear hN0 hI0 w0_0 w0_1 w0_2 w0_3 e0_0 e0_1 e0_2 e0_3
  by_cases hsz1 : a1.size ≤ 1048576
  case neg =>
    have hszi : (1048576 : Int) < (a1.size : Int) := by omega
    go_enter Tryz.func3, Tryz.ntmps3
    go_wp2_with fail
    go_ret
    exact ⟨rfl, show On w _ by repeat (first | with_reducible exact On.refl _ | with_reducible apply On.alloc | with_reducible apply On.drewN | with_reducible apply On.drew | with_reducible refine On.setCell ?_ (by (try simp) <;> omega) _)⟩
  have hszi1 : ¬ (1048576 : Int) < (a1.size : Int) := by omega
  have HSZ1 := Lib.hid hsz1
  clear hsz1 w1
  go_enter Tryz.func3, Tryz.ntmps3
  go_wp2_with fail
  generalize hW0 : w.alloc (.cells #[.slice a0_0 N0.f0.length cap0_0, .slice a0_1 N0.f1.length cap0_1, .slice a0_2 N0.f2.length cap0_2, .slice a0_3 N0.f3.length cap0_3] 27) = w0
  have O0 := Lib.hid (show On w w0 by rw [← hW0]; repeat (first | with_reducible exact On.refl _ | with_reducible apply On.alloc | with_reducible apply On.drewN | with_reducible apply On.drew | with_reducible refine On.setCell ?_ (by (try simp) <;> omega) _))
  have BA := Lib.hid (show Bx.Box w0 w.heap.size [.slice a0_0 N0.f0.length cap0_0, .slice a0_1 N0.f1.length cap0_1, .slice a0_2 N0.f2.length cap0_2, .slice a0_3 N0.f3.length cap0_3] by rw [← hW0]; exact Bx.Box.new _ _ _)
  clear hW0
  have za := (BA.out).1
  have ka0 := (BA.out).2 0 _ rfl
  have ka1 := (BA.out).2 1 _ rfl
  have ka2 := (BA.out).2 2 _ rfl
  have ka3 := (BA.out).2 3 _ rfl
  refine (Net.count0 _ N0 _ hS0 (HI0.out.on O0.out)).mono ?_
  rintro e w1 ⟨r, rfl, h1, hr⟩
  rcases hr with hr | ⟨c0, rfl, hc0, hs0⟩
  · go_wp2_with fail
    go_ret
    exact ⟨rfl, O0.out.trans h1⟩
  have hr0 : ¬ (c0 : Int) < 0 := by omega
  have HS0 := Lib.hid hs0
  have P1 := Lib.hid (show On w0 w1 from h1)
  have hS := fun (w' : World) (v' : Value) (h' : Net.Is w' v' N0) => Net.spec_SectorsAt v' a1 N0 w' hs0 h'
  have hI := fun (w' : World) (v' : Value) (h' : Net.Is w' v' N0) => Net.impl_SectorsAt v' a1 N0 w' hs0 h'
  have hr : (Net.atV N0 a1).length ≤ 1048576 := (Nat.le_trans (Net.at_len N0 a1) hs0.2.1.1)
  generalize Net.atV N0 a1 = rs at *
  generalize Net.atC N0 a1 = co at *
  have hco : (co != co) = false := bne_self_eq_false co
  obtain ⟨q, hq⟩ : ∃ q : Int, q = ((1 + rs.length : Nat) : Int) := ⟨_, rfl⟩
  have hq0 : ¬ q < 0 := by omega
  have hM := fun (B : Nat) (v : Value) (w : World) (h : Strs.Own B w v rs) => MarkS.mark B 1 v rs w (Nat.le_succ_of_le hr) (by decide) (by decide) h
  have hH := fun (B : Nat) (v : Value) (w : World) (h : Strs.Own B w v (MarkS.marks 1 rs.length)) => MarkS.held B 1 rs.length v w (Nat.le_succ_of_le hr) (by decide) (by decide) h
  rw [← hq] at hM hH
  have HM := Lib.hid hM
  have HH := Lib.hid hH
  have HS := Lib.hid hS
  have HI := Lib.hid hI
  have HX := Lib.hid (fun (B E : Nat) (v : Value) (w : World) hB h => Net.mark B E 1 v N0 w hs0 (by decide) hB h)
  clear hS hI hM hH hq hs0 hS0 h1 hc0
  clear za ka0 ka1 ka2 ka3
  have za := (BA.out.on P1.out).1
  have ka0 := (BA.out.on P1.out).2 0 _ rfl
  have ka1 := (BA.out.on P1.out).2 1 _ rfl
  have ka2 := (BA.out.on P1.out).2 2 _ rfl
  have ka3 := (BA.out.on P1.out).2 3 _ rfl
  go_wp2_with fail
  refine (Net.copy _ N0 _ HS0.out (HI0.out.on (O0.out.trans P1.out))).mono ?_
  rintro e w2 ⟨vs, rfl, ho, h2⟩
  have P2 := Lib.hid (show On w0 w2 by refine On.trans P1.out (On.trans ?_ h2); repeat (first | with_reducible exact On.refl _ | with_reducible apply On.alloc | with_reducible apply On.drewN | with_reducible apply On.drew | with_reducible refine On.setCell ?_ (by (try simp) <;> omega) _))
  have IS := Lib.hid ho.is
  clear ho h2
  clear za ka0 ka1 ka2 ka3
  have za := (BA.out.on P2.out).1
  have ka0 := (BA.out.on P2.out).2 0 _ rfl
  have ka1 := (BA.out.on P2.out).2 1 _ rfl
  have ka2 := (BA.out.on P2.out).2 2 _ rfl
  have ka3 := (BA.out.on P2.out).2 3 _ rfl
  go_wp2_with fail
  refine (HS.out _ _ IS.out).mono ?_
  rintro e w3 ⟨u0, rfl, hu, h3⟩
  have U3 := Lib.hid hu.strs
  have P3 := Lib.hid (show On w0 w3 by refine On.trans P2.out (On.trans ?_ h3); repeat (first | with_reducible exact On.refl _ | with_reducible apply On.alloc | with_reducible apply On.drewN | with_reducible apply On.drew | with_reducible refine On.setCell ?_ (by (try simp) <;> omega) _))
  clear hu h3 IS HS
  clear za ka0 ka1 ka2 ka3
  have za := (BA.out.on P3.out).1
  have ka0 := (BA.out.on P3.out).2 0 _ rfl
  have ka1 := (BA.out.on P3.out).2 1 _ rfl
  have ka2 := (BA.out.on P3.out).2 2 _ rfl
  have ka3 := (BA.out.on P3.out).2 3 _ rfl
  go_wp2_with fail
  refine (Net.copy _ N0 _ HS0.out (HI0.out.on (O0.out.trans P3.out))).mono ?_
  rintro e w4 ⟨vx, rfl, ho, h4⟩
  obtain ⟨b0, b1, b2, b3, d0, d1, d2, d3, hv⟩ := ho.is.shape
  subst hv
  have X4 := Lib.hid (Net.Shp.of_is ho HS0.out)
  have J4 := Lib.hid (show On w3 w4 from h4)
  have P4 := Lib.hid (P3.out.trans h4)
  have IX := Lib.hid ho.is
  clear ho h4
  clear za ka0 ka1 ka2 ka3
  have za := (BA.out.on P4.out).1
  have ka0 := (BA.out.on P4.out).2 0 _ rfl
  have ka1 := (BA.out.on P4.out).2 1 _ rfl
  have ka2 := (BA.out.on P4.out).2 2 _ rfl
  have ka3 := (BA.out.on P4.out).2 3 _ rfl
  go_wp2_with fail
  refine (HI.out _ _ (IX.out.on (by repeat (first | with_reducible exact On.refl _ | with_reducible apply On.alloc | with_reducible apply On.drewN | with_reducible apply On.drew | with_reducible refine On.setCell ?_ (by (try simp) <;> omega) _)))).mono ?_
  rintro e w5 ⟨g0, rfl, og, h5⟩
  have BX := Lib.hid (show Bx.Box w5 w4.heap.size [.slice b0 N0.f0.length d0, .slice b1 N0.f1.length d1, .slice b2 N0.f2.length d2, .slice b3 N0.f3.length d3] from (Bx.Box.new _ _ _).on h5)
  have h5t : On w4 w5 := by refine On.trans ?_ h5; repeat (first | with_reducible exact On.refl _ | with_reducible apply On.alloc | with_reducible apply On.drewN | with_reducible apply On.drew | with_reducible refine On.setCell ?_ (by (try simp) <;> omega) _)
  have G5 := Lib.hid (og.mono (B' := w4.heap.size) (by simp))
  have J5 := Lib.hid (J4.out.trans h5t)
  have P5 := Lib.hid (P4.out.trans h5t)
  have Q5 := Lib.hid h5t
  clear og h5 h5t
  clear za ka0 ka1 ka2 ka3
  have za := (BA.out.on P5.out).1
  have ka0 := (BA.out.on P5.out).2 0 _ rfl
  have ka1 := (BA.out.on P5.out).2 1 _ rfl
  have ka2 := (BA.out.on P5.out).2 2 _ rfl
  have ka3 := (BA.out.on P5.out).2 3 _ rfl
  have zx := (BX.out).1
  have kx0 := (BX.out).2 0 _ rfl
  have kx1 := (BX.out).2 1 _ rfl
  have kx2 := (BX.out).2 2 _ rfl
  have kx3 := (BX.out).2 3 _ rfl
  go_wp2_with fail
  refine (Strs.eq _ _ rs _ (Nat.le_succ_of_le hr) G5.out.strs (U3.out.below J5.out)).mono ?_
  rintro e w6 ⟨rfl, n6, hw6⟩
  have h6 : On w5 w6 := by rw [hw6]; exact Ints.below_drewN _ _
  have J6 := Lib.hid (J5.out.trans h6)
  have P6 := Lib.hid (P5.out.trans h6)
  have Q6 := Lib.hid (Q5.out.trans h6)
  have G6 := Lib.hid (G5.out.below h6)
  clear hw6
  have BX6 := Lib.hid (BX.out.on h6)
  clear h6 BX
  clear za ka0 ka1 ka2 ka3
  clear zx kx0 kx1 kx2 kx3
  have za := (BA.out.on P6.out).1
  have ka0 := (BA.out.on P6.out).2 0 _ rfl
  have ka1 := (BA.out.on P6.out).2 1 _ rfl
  have ka2 := (BA.out.on P6.out).2 2 _ rfl
  have ka3 := (BA.out.on P6.out).2 3 _ rfl
  have zx := (BX6.out).1
  have kx0 := (BX6.out).2 0 _ rfl
  have kx1 := (BX6.out).2 1 _ rfl
  have kx2 := (BX6.out).2 2 _ rfl
  have kx3 := (BX6.out).2 3 _ rfl
  go_upto_region 12 with fail
  go_cut [52] (fun s wx => s = .bool false ∧ On w6 wx)
  case first =>
    go_region_with (first
      | (go_at_call 13; refine (Net.copy _ N0 _ HS0.out (HI0.out.on (O0.out.trans (P6.out.trans (by repeat (first | with_reducible exact On.refl _ | with_reducible apply On.drew | with_reducible apply On.drewN)))))).mono ?_; rintro e wy ⟨vy, rfl, hoy, hy⟩; have JY := Lib.hid hoy.is; (have gy : On w6 wy := by refine On.trans ?_ hy; repeat (first | with_reducible exact On.refl _ | with_reducible apply On.drew | with_reducible apply On.drewN)); have BY := Lib.hid (BX6.out.on gy); have y0 := BY.out.2 0 _ rfl; have y1 := BY.out.2 1 _ rfl; have y2 := BY.out.2 2 _ rfl; have y3 := BY.out.2 3 _ rfl; have yz := BY.out.1; clear hoy)
      | (go_at_call 16; refine (Net.eq _ _ N0 _ HS0.out (IX.out.on (Q6.out.trans ((‹On w6 _›).trans (by repeat (first | with_reducible exact On.refl _ | with_reducible apply On.drew | with_reducible apply On.drewN))))) (JY.out.on (by repeat (first | with_reducible exact On.refl _ | with_reducible apply On.drew | with_reducible apply On.drewN)))).mono ?_; rintro e wz ⟨rfl, hz⟩))
    all_goals
      go_wp2_with fail
      go_meet
      exact ⟨rfl, On.trans ‹On w6 wy› (On.trans (by repeat (first | with_reducible exact On.refl _ | with_reducible apply On.drew | with_reducible apply On.drewN)) ‹On _ wz›)⟩
  case rest =>
    obtain ⟨rfl, hC⟩ := hcut
    rename World => w8
    have G8 := Lib.hid (G6.out.below hC)
    have J8 := Lib.hid (J6.out.trans hC)
    have P8 := Lib.hid (P6.out.trans hC)
    have Q8 := Lib.hid (Q6.out.trans hC)
    have BX8 := Lib.hid (BX6.out.on hC)
    clear hC
    clear za ka0 ka1 ka2 ka3
    clear zx kx0 kx1 kx2 kx3
    have za := (BA.out.on P8.out).1
    have ka0 := (BA.out.on P8.out).2 0 _ rfl
    have ka1 := (BA.out.on P8.out).2 1 _ rfl
    have ka2 := (BA.out.on P8.out).2 2 _ rfl
    have ka3 := (BA.out.on P8.out).2 3 _ rfl
    have zx := (BX8.out).1
    have kx0 := (BX8.out).2 0 _ rfl
    have kx1 := (BX8.out).2 1 _ rfl
    have kx2 := (BX8.out).2 2 _ rfl
    have kx3 := (BX8.out).2 3 _ rfl
    go_wp2_with fail
    refine (HX.out w3.heap.size w4.heap.size _ _ J8.out.size (X4.out.kd (Mrk.Kd.of_on Q8.out J4.out.size))).mono ?_
    rintro e w9 ⟨r9, rfl, hr9, kd⟩
    have hr9i : ¬ (r9 : Int) < 0 := by omega
    have s48 := Q8.out.size
    have G9 := Lib.hid (Strs.Own.off2 G8.out kd.size kd.frozen (fun p hp hB => World.cell?_of_block (kd.out p.block hB hp)))
    have J9 := Lib.hid (show On w3 w9 from Below.trans J8.out kd.below)
    have P9 := Lib.hid (show On w0 w9 from P3.out.trans J9.out)
    have s9 := Lib.hid (show w4.heap.size ≤ w9.heap.size from Nat.le_trans s48 kd.size)
    clear kd s48
    clear za ka0 ka1 ka2 ka3
    clear zx kx0 kx1 kx2 kx3
    have za := (BA.out.on P9.out).1
    have ka0 := (BA.out.on P9.out).2 0 _ rfl
    have ka1 := (BA.out.on P9.out).2 1 _ rfl
    have ka2 := (BA.out.on P9.out).2 2 _ rfl
    have ka3 := (BA.out.on P9.out).2 3 _ rfl
    go_wp2_with fail
    refine (Strs.eq _ _ rs _ (Nat.le_succ_of_le hr) G9.out.strs (U3.out.below J9.out)).mono ?_
    rintro e w10 ⟨rfl, n10, hw10⟩
    have h10 : On w9 w10 := by rw [hw10]; exact Ints.below_drewN _ _
    have J10 := Lib.hid (J9.out.trans h10)
    have P10 := Lib.hid (P9.out.trans h10)
    have G10 := Lib.hid (G9.out.below h10)
    clear hw10
    have s10 := Lib.hid (Nat.le_trans s9.out h10.size)
    clear h10
    clear za ka0 ka1 ka2 ka3
    have za := (BA.out.on P10.out).1
    have ka0 := (BA.out.on P10.out).2 0 _ rfl
    have ka1 := (BA.out.on P10.out).2 1 _ rfl
    have ka2 := (BA.out.on P10.out).2 2 _ rfl
    have ka3 := (BA.out.on P10.out).2 3 _ rfl
    go_wp2_with fail
    refine (HM.out _ _ _ G10.out).mono ?_
    rintro e w11 ⟨rfl, b11, om⟩
    have G11 := Lib.hid om
    have J11 := Lib.hid (show On w3 w11 from Below.trans J10.out (Below.mono b11 J4.out.size))
    have P11 := Lib.hid (show On w0 w11 from P3.out.trans J11.out)
    clear b11 om
    clear za ka0 ka1 ka2 ka3
    have za := (BA.out.on P11.out).1
    have ka0 := (BA.out.on P11.out).2 0 _ rfl
    have ka1 := (BA.out.on P11.out).2 1 _ rfl
    have ka2 := (BA.out.on P11.out).2 2 _ rfl
    have ka3 := (BA.out.on P11.out).2 3 _ rfl
    go_wp2_with fail
    refine (HH.out _ _ _ G11.out).mono ?_
    rintro e w12 ⟨rfl, hw⟩
    have h12 : On w11 w12 := hw
    have G12 := Lib.hid (G11.out.below h12)
    have J12 := Lib.hid (J11.out.trans h12)
    have P12 := Lib.hid (P11.out.trans h12)
    clear hw h12
    clear za ka0 ka1 ka2 ka3
    have za := (BA.out.on P12.out).1
    have ka0 := (BA.out.on P12.out).2 0 _ rfl
    have ka1 := (BA.out.on P12.out).2 1 _ rfl
    have ka2 := (BA.out.on P12.out).2 2 _ rfl
    have ka3 := (BA.out.on P12.out).2 3 _ rfl
    go_wp2_with fail
    refine (Net.copy _ N0 _ HS0.out (HI0.out.on (O0.out.trans P12.out))).mono ?_
    rintro e w13 ⟨vt, rfl, ho, h13⟩
    have IT := Lib.hid ho.is
    have G13 := Lib.hid (G12.out.below h13)
    have J13 := Lib.hid (J12.out.trans h13)
    have P13 := Lib.hid (P12.out.trans h13)
    clear ho h13
    clear za ka0 ka1 ka2 ka3
    have za := (BA.out.on P13.out).1
    have ka0 := (BA.out.on P13.out).2 0 _ rfl
    have ka1 := (BA.out.on P13.out).2 1 _ rfl
    have ka2 := (BA.out.on P13.out).2 2 _ rfl
    have ka3 := (BA.out.on P13.out).2 3 _ rfl
    go_wp2_with fail
    refine (HI.out _ _ IT.out).mono ?_
    rintro e w14 ⟨h0, rfl, oh, h14⟩
    have OH := Lib.hid oh
    have G14 := Lib.hid (G13.out.below h14)
    have J14 := Lib.hid (J13.out.trans h14)
    have P14 := Lib.hid (P13.out.trans h14)
    clear oh h14
    clear za ka0 ka1 ka2 ka3
    go_wp2_with fail
    refine (Strs.eq _ _ rs _ (Nat.le_succ_of_le hr) OH.out.strs (U3.out.below J14.out)).mono ?_
    rintro e w15 ⟨rfl, n15, hw15⟩
    have h15 : On w14 w15 := by rw [hw15]; exact Ints.below_drewN _ _
    have J15 := Lib.hid (J14.out.trans h15)
    have P15 := Lib.hid (P14.out.trans h15)
    have G15 := Lib.hid (G14.out.below h15)
    clear hw15
    clear h15
    go_wp2_with fail
    refine (HH.out _ _ _ G15.out).mono ?_
    rintro e w16 ⟨rfl, hw⟩
    have h16 : On w15 w16 := hw
    go_wp2_with fail
    go_ret
    exact ⟨rfl, O0.out.trans (P15.out.trans h16)⟩

set_option maxRecDepth 100000 in
/-- The row's step. -/
theorem lifted (os : Os) (started : os.Started) (H : Type) (enc : TypeId × Value → H) :
    ReturnsInHanded {} Tryz.checked os 3 .any (Rows.fnExactSectorsAtSpec.pre6 enc Tryz.prog Tryz.f3 Rows.fnExactSectorsAtRow.domain false) (Rows.fnExactSectorsAtSpec.post enc Tryz.prog Tryz.f3 false true false false) := by
  refine returnsInHanded_of_change (C := Tryz.checked) own started (by kernel_rfl) Tryz.func3
    (ChangeSpec.witness6 (enc := enc) (C := Tryz.checked) false ⟨#[], #[.agg #[.slice none 0 0, .slice none 0 0, .slice none 0 0, .slice none 0 0], .string ByteArray.empty], []⟩ 8 (by kernel_rfl) (by kernel_rfl) (by kernel_rfl) (by kernel_rfl)) ?_
  intro W base args ds gs before hval0 hW hcnd _
  have hval : ∀ (j : Nat) t v, Tryz.f3.params[j]? = some t → args[j]? = some v → Value.okWide Tryz.prog W .any base t v := hval0
  have hW' := hW
  obtain ⟨p, q, hA0, hV, rfl, hfz, hnd⟩ := hW
  have hA : DataW.TrodAll enc Tryz.prog W 0 (fun _ => true) true Tryz.f3.params.toList args.toList ds p := hA0
  rw [Tryz.params3] at hA hval
  obtain ⟨v0, vs0, d0, ds0, p0, q0, hargs, rfl, rfl, h0, r0⟩ := trodAll_cons hA
  obtain ⟨v1, vs1, d1, ds1, p1, q1, rfl, rfl, rfl, h1, r1⟩ := trodAll_cons r0
  obtain ⟨rfl, rfl, rfl⟩ := trodAll_nil r1
  obtain rfl : args = #[v0, v1] := by cases args; simp_all
  obtain ⟨rfl, rfl⟩ := trodVars_none hV
  have k0 := h0
  have lt0 : ∀ x ∈ p0, x.block < W.heap.size := by obtain ⟨m, hm⟩ := k0; exact DataW.trod_lt m _ _ _ hm
  obtain ⟨c0_0, c0_1, c0_2, c0_3, y0_0, y0_1, y0_2, y0_3, n0, rfl, -, -, e0_0, e0_1, e0_2, e0_3⟩ := Joins.open_agg4 Tryz.underlying27 (by kernel_rfl) (by kernel_rfl) (hval 0 27 v0 rfl rfl) h0
  obtain ⟨a0_0, cap0_0, z0_0, hc0_0, w0_0⟩ := Sites.open_rows e0_0
  subst hc0_0
  obtain ⟨a0_1, cap0_1, z0_1, hc0_1, w0_1⟩ := Secs.open_rows e0_1
  subst hc0_1
  obtain ⟨a0_2, cap0_2, z0_2, hc0_2, w0_2⟩ := Ants.open_rows e0_2
  subst hc0_2
  obtain ⟨a0_3, cap0_3, z0_3, hc0_3, w0_3⟩ := Rads.open_rows e0_3
  subst hc0_3
  obtain ⟨a1, rfl, rfl, rfl, w1⟩ := open_string Tryz.underlying9 (hval 1 9 v1 rfl rfl) h1
  clear hA0
  refine (walk W a0_0 cap0_0 z0_0 w0_0 a0_1 cap0_1 z0_1 w0_1 a0_2 cap0_2 z0_2 w0_2 a0_3 cap0_3 z0_3 w0_3 a1 w1 ).mono fun e W' ⟨he, bel⟩ => ?_
  subst he
  exact ⟨_, rfl, _, _, _, [], _, [], hW', trodAll_mk1 (shut_bool Tryz.underlying4 _), (trodAll_cons_mk (Below.trod laidOut (by kernel_rfl) (of_decide_eq_true (by kernel_rfl)) k0 bel lt0) (trodAll_cons_mk (shut_string Tryz.underlying9 w1) trodAll_mk0)), rfl, bel.frame _, fun h => by cases h⟩

theorem proved : Rows.FnExactSectorsAtSaid :=
  OpenClaim.holds_of_wide 3 Tryz.f3 rfl rfl rfl rfl rfl rfl rfl ⟨rfl, rfl, rfl, rfl, rfl⟩ rfl rfl rfl rfl rfl (by kernel_rfl) Tryz.func3 (by kernel_rfl)
    (of_decide_eq_true (by kernel_rfl)) (by unfold Func.isWrapper; first | (rw [if_pos (by decide +kernel)]; kernel_rfl) | (rw [if_neg (by decide +kernel)]; exact ⟨rfl, rfl⟩))
    (fun os started H enc _ => lifted os started H enc)
end Go.Proofs.YtpnmodmaabhldaaGreat.fnExactSectorsAt
