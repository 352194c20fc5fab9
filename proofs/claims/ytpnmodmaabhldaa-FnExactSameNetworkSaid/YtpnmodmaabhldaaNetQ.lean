
/-
  Whether two networks are equal, in the model and in the program. Condition: at most 1048576 elements in each list, and numbers and bytes in each of these.
-/
import Derived.Test.YtpnmodmaabhldaaSamL
import Derived.Test.YtpnmodmaabhldaaOnH
import Derived.Test.YtpnmodmaabhldaaBox
namespace Go.Proofs.Ytpnmodmaabhldaa.Net
open Go.RowKit

def sameN (N M : T) : Bool := Sites.sameL N.f0 M.f0 && (Secs.sameL N.f1 M.f1 && (Ants.sameL N.f2 M.f2 && Rads.sameL N.f3 M.f3))
set_option maxHeartbeats 4000000 in
theorem impl_SameNetwork (v u : Value) (N M : T) (w : World) (hN : N.Small 1048576) (hM : M.Small 1048576) (h : Is w v N) (k : Is w u M) :
    Calls Try.prog 14 #[v, u] w fun e w' => e = .returned (.bool (sameN N M)) ∧ On w w' := by
  have HA := Lib.hid hN
  have HB := Lib.hid hM
  clear hN hM
  obtain ⟨v0, v1, v2, v3, rfl, h0, h1, h2, h3⟩ := h
  have H0 := Lib.hid h0
  have H1 := Lib.hid h1
  have H2 := Lib.hid h2
  have H3 := Lib.hid h3
  obtain ⟨a0, acap0, rfl, -⟩ := h0
  obtain ⟨a1, acap1, rfl, -⟩ := h1
  obtain ⟨a2, acap2, rfl, -⟩ := h2
  obtain ⟨a3, acap3, rfl, -⟩ := h3
  obtain ⟨v0, v1, v2, v3, rfl, h0, h1, h2, h3⟩ := k
  have K0 := Lib.hid h0
  have K1 := Lib.hid h1
  have K2 := Lib.hid h2
  have K3 := Lib.hid h3
  obtain ⟨b0, bcap0, rfl, -⟩ := h0
  obtain ⟨b1, bcap1, rfl, -⟩ := h1
  obtain ⟨b2, bcap2, rfl, -⟩ := h2
  obtain ⟨b3, bcap3, rfl, -⟩ := h3
  have C0 := Lib.hid (fun w' (ho : On w w') => Sites.lib_same _ _ N.f0 M.f0 w' HA.out.1.1 (H0.out.on ho) (K0.out.on ho))
  have C1 := Lib.hid (fun w' (ho : On w w') => Secs.lib_same _ _ N.f1 M.f1 w' HA.out.2.1.1 (H1.out.on ho) (K1.out.on ho))
  have C2 := Lib.hid (fun w' (ho : On w w') => Ants.lib_same _ _ N.f2 M.f2 w' HA.out.2.2.1.1 (H2.out.on ho) (K2.out.on ho) HA.out.2.2.1.2 HB.out.2.2.1.2)
  have C3 := Lib.hid (fun w' (ho : On w w') => Rads.lib_same _ _ N.f3 M.f3 w' HA.out.2.2.2.1 (H3.out.on ho) (K3.out.on ho) HA.out.2.2.2.2 HB.out.2.2.2.2)
  go_enter Try.func14, Try.ntmps14
  go_wp2_with fail
  generalize hW0 : (w.alloc (.cells #[.slice a0 N.f0.length acap0, .slice a1 N.f1.length acap1, .slice a2 N.f2.length acap2, .slice a3 N.f3.length acap3] 35)).alloc (.cells #[.slice b0 M.f0.length bcap0, .slice b1 M.f1.length bcap1, .slice b2 M.f2.length bcap2, .slice b3 M.f3.length bcap3] 35) = w0
  have O0 := Lib.hid (show On w w0 by rw [← hW0]; repeat (first | with_reducible exact On.refl _ | with_reducible apply On.alloc | with_reducible apply On.drewN | with_reducible apply On.drew | with_reducible refine On.setCell ?_ (by (try simp) <;> omega) _))
  have X0 := Lib.hid (show Bx.Box w0 w.heap.size [.slice a0 N.f0.length acap0, .slice a1 N.f1.length acap1, .slice a2 N.f2.length acap2, .slice a3 N.f3.length acap3] by rw [← hW0]; exact (Bx.Box.new _ _ _).on (On.alloc (On.refl _) _))
  have Y0 := Lib.hid (show Bx.Box w0 (w.heap.size + 1) [.slice b0 M.f0.length bcap0, .slice b1 M.f1.length bcap1, .slice b2 M.f2.length bcap2, .slice b3 M.f3.length bcap3] by rw [← hW0]; have := Bx.Box.new (w.alloc (.cells #[.slice a0 N.f0.length acap0, .slice a1 N.f1.length acap1, .slice a2 N.f2.length acap2, .slice a3 N.f3.length acap3] 35)) [.slice b0 M.f0.length bcap0, .slice b1 M.f1.length bcap1, .slice b2 M.f2.length bcap2, .slice b3 M.f3.length bcap3] 35; rw [World.size_alloc] at this; exact this)
  clear hW0
  refine (C0.out _ (show On w _ by repeat (first | with_reducible exact On.refl _ | with_reducible apply On.alloc | with_reducible apply On.drewN | with_reducible apply On.drew | with_reducible refine On.setCell ?_ (by (try simp) <;> omega) _ | refine On.trans ?_ O0.out))).mono ?_
  rintro e w1 ⟨rfl, h1⟩
  have O1 := Lib.hid (show On w w1 by repeat (first | with_reducible exact On.refl _ | with_reducible apply On.alloc | with_reducible apply On.drewN | with_reducible apply On.drew | with_reducible refine On.setCell ?_ (by (try simp) <;> omega) _ | refine On.trans ?_ h1 | refine On.trans ?_ O0.out))
  have X1 := Lib.hid (X0.out.on (show On w0 w1 by repeat (first | with_reducible exact On.refl _ | with_reducible apply On.alloc | with_reducible apply On.drewN | with_reducible apply On.drew | with_reducible refine On.setCell ?_ (by (try simp) <;> omega) _ | refine On.trans ?_ h1)))
  have Y1 := Lib.hid (Y0.out.on (show On w0 w1 by repeat (first | with_reducible exact On.refl _ | with_reducible apply On.alloc | with_reducible apply On.drewN | with_reducible apply On.drew | with_reducible refine On.setCell ?_ (by (try simp) <;> omega) _ | refine On.trans ?_ h1)))
  clear h1
  have xz := X1.out.1
  have yz := Y1.out.1
  have x0 := X1.out.2 0 _ rfl
  have y0 := Y1.out.2 0 _ rfl
  have x1 := X1.out.2 1 _ rfl
  have y1 := Y1.out.2 1 _ rfl
  have x2 := X1.out.2 2 _ rfl
  have y2 := Y1.out.2 2 _ rfl
  have x3 := X1.out.2 3 _ rfl
  have y3 := Y1.out.2 3 _ rfl
  cases g0 : Sites.sameL N.f0 M.f0 with
  | false =>
    have en := Lib.hid (show sameN N M = false by unfold sameN; rw [g0]; rfl)
    clear g0
    go_wp2_with fail
    go_ret
    exact ⟨ret_bool en.out.symm, by repeat (first | with_reducible exact On.refl _ | with_reducible apply On.alloc | with_reducible apply On.drewN | with_reducible apply On.drew | with_reducible refine On.setCell ?_ (by (try simp) <;> omega) _ | refine On.trans ?_ O1.out)⟩
  | true =>
    go_wp2_with fail
    refine (C1.out _ (show On w _ by repeat (first | with_reducible exact On.refl _ | with_reducible apply On.alloc | with_reducible apply On.drewN | with_reducible apply On.drew | with_reducible refine On.setCell ?_ (by (try simp) <;> omega) _ | refine On.trans ?_ O1.out))).mono ?_
    rintro e w2 ⟨rfl, h2⟩
    have O2 := Lib.hid (show On w w2 by repeat (first | with_reducible exact On.refl _ | with_reducible apply On.alloc | with_reducible apply On.drewN | with_reducible apply On.drew | with_reducible refine On.setCell ?_ (by (try simp) <;> omega) _ | refine On.trans ?_ h2 | refine On.trans ?_ O1.out))
    have X2 := Lib.hid (X1.out.on (show On w1 w2 by repeat (first | with_reducible exact On.refl _ | with_reducible apply On.alloc | with_reducible apply On.drewN | with_reducible apply On.drew | with_reducible refine On.setCell ?_ (by (try simp) <;> omega) _ | refine On.trans ?_ h2)))
    have Y2 := Lib.hid (Y1.out.on (show On w1 w2 by repeat (first | with_reducible exact On.refl _ | with_reducible apply On.alloc | with_reducible apply On.drewN | with_reducible apply On.drew | with_reducible refine On.setCell ?_ (by (try simp) <;> omega) _ | refine On.trans ?_ h2)))
    clear h2 xz yz x0 y0 x1 y1 x2 y2 x3 y3
    have xz := X2.out.1
    have yz := Y2.out.1
    have x0 := X2.out.2 0 _ rfl
    have y0 := Y2.out.2 0 _ rfl
    have x1 := X2.out.2 1 _ rfl
    have y1 := Y2.out.2 1 _ rfl
    have x2 := X2.out.2 2 _ rfl
    have y2 := Y2.out.2 2 _ rfl
    have x3 := X2.out.2 3 _ rfl
    have y3 := Y2.out.2 3 _ rfl
    cases g1 : Secs.sameL N.f1 M.f1 with
    | false =>
      have en := Lib.hid (show sameN N M = false by unfold sameN; rw [g0, g1]; rfl)
      clear g0 g1
      go_wp2_with fail
      go_ret
      exact ⟨ret_bool en.out.symm, by repeat (first | with_reducible exact On.refl _ | with_reducible apply On.alloc | with_reducible apply On.drewN | with_reducible apply On.drew | with_reducible refine On.setCell ?_ (by (try simp) <;> omega) _ | refine On.trans ?_ O2.out)⟩
    | true =>
      go_wp2_with fail
      refine (C2.out _ (show On w _ by repeat (first | with_reducible exact On.refl _ | with_reducible apply On.alloc | with_reducible apply On.drewN | with_reducible apply On.drew | with_reducible refine On.setCell ?_ (by (try simp) <;> omega) _ | refine On.trans ?_ O2.out))).mono ?_
      rintro e w3 ⟨rfl, h3⟩
      have O3 := Lib.hid (show On w w3 by repeat (first | with_reducible exact On.refl _ | with_reducible apply On.alloc | with_reducible apply On.drewN | with_reducible apply On.drew | with_reducible refine On.setCell ?_ (by (try simp) <;> omega) _ | refine On.trans ?_ h3 | refine On.trans ?_ O2.out))
      have X3 := Lib.hid (X2.out.on (show On w2 w3 by repeat (first | with_reducible exact On.refl _ | with_reducible apply On.alloc | with_reducible apply On.drewN | with_reducible apply On.drew | with_reducible refine On.setCell ?_ (by (try simp) <;> omega) _ | refine On.trans ?_ h3)))
      have Y3 := Lib.hid (Y2.out.on (show On w2 w3 by repeat (first | with_reducible exact On.refl _ | with_reducible apply On.alloc | with_reducible apply On.drewN | with_reducible apply On.drew | with_reducible refine On.setCell ?_ (by (try simp) <;> omega) _ | refine On.trans ?_ h3)))
      clear h3 xz yz x0 y0 x1 y1 x2 y2 x3 y3
      have xz := X3.out.1
      have yz := Y3.out.1
      have x0 := X3.out.2 0 _ rfl
      have y0 := Y3.out.2 0 _ rfl
      have x1 := X3.out.2 1 _ rfl
      have y1 := Y3.out.2 1 _ rfl
      have x2 := X3.out.2 2 _ rfl
      have y2 := Y3.out.2 2 _ rfl
      have x3 := X3.out.2 3 _ rfl
      have y3 := Y3.out.2 3 _ rfl
      cases g2 : Ants.sameL N.f2 M.f2 with
      | false =>
        have en := Lib.hid (show sameN N M = false by unfold sameN; rw [g0, g1, g2]; rfl)
        clear g0 g1 g2
        go_wp2_with fail
        go_ret
        exact ⟨ret_bool en.out.symm, by repeat (first | with_reducible exact On.refl _ | with_reducible apply On.alloc | with_reducible apply On.drewN | with_reducible apply On.drew | with_reducible refine On.setCell ?_ (by (try simp) <;> omega) _ | refine On.trans ?_ O3.out)⟩
      | true =>
        go_wp2_with fail
        refine (C3.out _ (show On w _ by repeat (first | with_reducible exact On.refl _ | with_reducible apply On.alloc | with_reducible apply On.drewN | with_reducible apply On.drew | with_reducible refine On.setCell ?_ (by (try simp) <;> omega) _ | refine On.trans ?_ O3.out))).mono ?_
        rintro e w4 ⟨rfl, h4⟩
        have O4 := Lib.hid (show On w w4 by repeat (first | with_reducible exact On.refl _ | with_reducible apply On.alloc | with_reducible apply On.drewN | with_reducible apply On.drew | with_reducible refine On.setCell ?_ (by (try simp) <;> omega) _ | refine On.trans ?_ h4 | refine On.trans ?_ O3.out))
        have X4 := Lib.hid (X3.out.on (show On w3 w4 by repeat (first | with_reducible exact On.refl _ | with_reducible apply On.alloc | with_reducible apply On.drewN | with_reducible apply On.drew | with_reducible refine On.setCell ?_ (by (try simp) <;> omega) _ | refine On.trans ?_ h4)))
        have Y4 := Lib.hid (Y3.out.on (show On w3 w4 by repeat (first | with_reducible exact On.refl _ | with_reducible apply On.alloc | with_reducible apply On.drewN | with_reducible apply On.drew | with_reducible refine On.setCell ?_ (by (try simp) <;> omega) _ | refine On.trans ?_ h4)))
        clear h4 xz yz x0 y0 x1 y1 x2 y2 x3 y3
        have xz := X4.out.1
        have yz := Y4.out.1
        have x0 := X4.out.2 0 _ rfl
        have y0 := Y4.out.2 0 _ rfl
        have x1 := X4.out.2 1 _ rfl
        have y1 := Y4.out.2 1 _ rfl
        have x2 := X4.out.2 2 _ rfl
        have y2 := Y4.out.2 2 _ rfl
        have x3 := X4.out.2 3 _ rfl
        have y3 := Y4.out.2 3 _ rfl
        have en := Lib.hid (show sameN N M = Rads.sameL N.f3 M.f3 by unfold sameN; rw [g0, g1, g2]; rfl)
        clear g0 g1 g2
        go_wp2_with fail
        go_ret
        exact ⟨ret_bool en.out.symm, by repeat (first | with_reducible exact On.refl _ | with_reducible apply On.alloc | with_reducible apply On.drewN | with_reducible apply On.drew | with_reducible refine On.setCell ?_ (by (try simp) <;> omega) _ | refine On.trans ?_ O4.out)⟩
set_option maxHeartbeats 4000000 in
theorem spec_SameNetwork (v u : Value) (N M : T) (w : World) (hN : N.Small 1048576) (hM : M.Small 1048576) (h : Is w v N) (k : Is w u M) :
    Calls Try.prog 13 #[v, u] w fun e w' => e = .returned (.bool (sameN N M)) ∧ On w w' := by
  have HA := Lib.hid hN
  have HB := Lib.hid hM
  clear hN hM
  obtain ⟨v0, v1, v2, v3, rfl, h0, h1, h2, h3⟩ := h
  have H0 := Lib.hid h0
  have H1 := Lib.hid h1
  have H2 := Lib.hid h2
  have H3 := Lib.hid h3
  obtain ⟨a0, acap0, rfl, -⟩ := h0
  obtain ⟨a1, acap1, rfl, -⟩ := h1
  obtain ⟨a2, acap2, rfl, -⟩ := h2
  obtain ⟨a3, acap3, rfl, -⟩ := h3
  obtain ⟨v0, v1, v2, v3, rfl, h0, h1, h2, h3⟩ := k
  have K0 := Lib.hid h0
  have K1 := Lib.hid h1
  have K2 := Lib.hid h2
  have K3 := Lib.hid h3
  obtain ⟨b0, bcap0, rfl, -⟩ := h0
  obtain ⟨b1, bcap1, rfl, -⟩ := h1
  obtain ⟨b2, bcap2, rfl, -⟩ := h2
  obtain ⟨b3, bcap3, rfl, -⟩ := h3
  by_cases l0 : N.f0.length = M.f0.length
  case neg =>
    have en := Lib.hid (show sameN N M = false by unfold sameN; rw [show Sites.sameL N.f0 M.f0 = false by unfold Sites.sameL; rw [decide_eq_false l0]; rfl]; simp)
    have m0 : ¬ (N.f0.length : Int) = (M.f0.length : Int) := by omega
    have q0 : ((N.f0.length : Int) == (M.f0.length : Int)) = false := beq_eq_false_iff_ne.2 m0
    have r0 : ((N.f0.length : Int) != (M.f0.length : Int)) = true := by rw [bne, q0]; rfl
    clear l0
    go_enter Try.func13, Try.ntmps13
    go_wp2_with fail
    go_ret
    exact ⟨ret_bool en.out.symm, by repeat (first | with_reducible exact On.refl _ | with_reducible apply On.alloc | with_reducible apply On.drewN | with_reducible apply On.drew | with_reducible refine On.setCell ?_ (by (try simp) <;> omega) _)⟩
  by_cases l1 : N.f1.length = M.f1.length
  case neg =>
    have en := Lib.hid (show sameN N M = false by unfold sameN; rw [show Secs.sameL N.f1 M.f1 = false by unfold Secs.sameL; rw [decide_eq_false l1]; rfl]; simp)
    have m1 : ¬ (N.f1.length : Int) = (M.f1.length : Int) := by omega
    have q1 : ((N.f1.length : Int) == (M.f1.length : Int)) = false := beq_eq_false_iff_ne.2 m1
    have r1 : ((N.f1.length : Int) != (M.f1.length : Int)) = true := by rw [bne, q1]; rfl
    have m0 : (N.f0.length : Int) = (M.f0.length : Int) := by omega
    clear l0 l1
    go_enter Try.func13, Try.ntmps13
    go_wp2_with fail
    go_ret
    exact ⟨ret_bool en.out.symm, by repeat (first | with_reducible exact On.refl _ | with_reducible apply On.alloc | with_reducible apply On.drewN | with_reducible apply On.drew | with_reducible refine On.setCell ?_ (by (try simp) <;> omega) _)⟩
  by_cases l2 : N.f2.length = M.f2.length
  case neg =>
    have en := Lib.hid (show sameN N M = false by unfold sameN; rw [show Ants.sameL N.f2 M.f2 = false by unfold Ants.sameL; rw [decide_eq_false l2]; rfl]; simp)
    have m2 : ¬ (N.f2.length : Int) = (M.f2.length : Int) := by omega
    have q2 : ((N.f2.length : Int) == (M.f2.length : Int)) = false := beq_eq_false_iff_ne.2 m2
    have r2 : ((N.f2.length : Int) != (M.f2.length : Int)) = true := by rw [bne, q2]; rfl
    have m0 : (N.f0.length : Int) = (M.f0.length : Int) := by omega
    have m1 : (N.f1.length : Int) = (M.f1.length : Int) := by omega
    clear l0 l1 l2
    go_enter Try.func13, Try.ntmps13
    go_wp2_with fail
    go_ret
    exact ⟨ret_bool en.out.symm, by repeat (first | with_reducible exact On.refl _ | with_reducible apply On.alloc | with_reducible apply On.drewN | with_reducible apply On.drew | with_reducible refine On.setCell ?_ (by (try simp) <;> omega) _)⟩
  by_cases l3 : N.f3.length = M.f3.length
  case neg =>
    have en := Lib.hid (show sameN N M = false by unfold sameN; rw [show Rads.sameL N.f3 M.f3 = false by unfold Rads.sameL; rw [decide_eq_false l3]; rfl]; simp)
    have m3 : ¬ (N.f3.length : Int) = (M.f3.length : Int) := by omega
    have q3 : ((N.f3.length : Int) == (M.f3.length : Int)) = false := beq_eq_false_iff_ne.2 m3
    have r3 : ((N.f3.length : Int) != (M.f3.length : Int)) = true := by rw [bne, q3]; rfl
    have m0 : (N.f0.length : Int) = (M.f0.length : Int) := by omega
    have m1 : (N.f1.length : Int) = (M.f1.length : Int) := by omega
    have m2 : (N.f2.length : Int) = (M.f2.length : Int) := by omega
    clear l0 l1 l2 l3
    go_enter Try.func13, Try.ntmps13
    go_wp2_with fail
    go_ret
    exact ⟨ret_bool en.out.symm, by repeat (first | with_reducible exact On.refl _ | with_reducible apply On.alloc | with_reducible apply On.drewN | with_reducible apply On.drew | with_reducible refine On.setCell ?_ (by (try simp) <;> omega) _)⟩
  obtain ⟨n0, hn0⟩ : ∃ n, n = N.f0.length := ⟨_, rfl⟩
  have nb0 : n0 ≤ 1048576 := by rw [hn0]; exact HA.out.1.1
  have HL0 := Lib.hid hn0
  have HM0 := Lib.hid (hn0.trans l0)
  obtain ⟨n1, hn1⟩ : ∃ n, n = N.f1.length := ⟨_, rfl⟩
  have nb1 : n1 ≤ 1048576 := by rw [hn1]; exact HA.out.2.1.1
  have HL1 := Lib.hid hn1
  have HM1 := Lib.hid (hn1.trans l1)
  obtain ⟨n2, hn2⟩ : ∃ n, n = N.f2.length := ⟨_, rfl⟩
  have nb2 : n2 ≤ 1048576 := by rw [hn2]; exact HA.out.2.2.1.1
  have HL2 := Lib.hid hn2
  have HM2 := Lib.hid (hn2.trans l2)
  obtain ⟨n3, hn3⟩ : ∃ n, n = N.f3.length := ⟨_, rfl⟩
  have nb3 : n3 ≤ 1048576 := by rw [hn3]; exact HA.out.2.2.2.1
  have HL3 := Lib.hid hn3
  have HM3 := Lib.hid (hn3.trans l3)
  rw [← l0, ← l1, ← l2, ← l3]
  rw [← hn0, ← hn1, ← hn2, ← hn3]
  clear l0 hn0 l1 hn1 l2 hn2 l3 hn3
  go_enter Try.func13, Try.ntmps13
  go_wp2_with fail
  generalize hW0 : (w.alloc (.cells #[.slice a0 n0 acap0, .slice a1 n1 acap1, .slice a2 n2 acap2, .slice a3 n3 acap3] 35)).alloc (.cells #[.slice b0 n0 bcap0, .slice b1 n1 bcap1, .slice b2 n2 bcap2, .slice b3 n3 bcap3] 35) = w0
  have O0 := Lib.hid (show On w w0 by rw [← hW0]; repeat (first | with_reducible exact On.refl _ | with_reducible apply On.alloc | with_reducible apply On.drewN | with_reducible apply On.drew | with_reducible refine On.setCell ?_ (by (try simp) <;> omega) _))
  have X0 := Lib.hid (show Bx.Box w0 w.heap.size [.slice a0 n0 acap0, .slice a1 n1 acap1, .slice a2 n2 acap2, .slice a3 n3 acap3] by rw [← hW0]; exact (Bx.Box.new _ _ _).on (On.alloc (On.refl _) _))
  have Y0 := Lib.hid (show Bx.Box w0 (w.heap.size + 1) [.slice b0 n0 bcap0, .slice b1 n1 bcap1, .slice b2 n2 bcap2, .slice b3 n3 bcap3] by rw [← hW0]; have := Bx.Box.new (w.alloc (.cells #[.slice a0 n0 acap0, .slice a1 n1 acap1, .slice a2 n2 acap2, .slice a3 n3 acap3] 35)) [.slice b0 n0 bcap0, .slice b1 n1 bcap1, .slice b2 n2 bcap2, .slice b3 n3 bcap3] 35; rw [World.size_alloc] at this; exact this)
  clear hW0
  go_loopw [5] (fun i wr => ∃ k : Nat, k ≤ n0 ∧ i = .int .i64 k ∧ Nam.Upto (Sites.sameAt N.f0 M.f0) k ∧ On w0 wr) (fun i _ => n0 - (intOf i).toNat)
  case atStart => exact ⟨0, Nat.zero_le _, rfl, Nam.upto_zero _, On.refl _⟩
  case round =>
    obtain ⟨k, hk, rfl, hall, ho⟩ := hrel
    have HU := Lib.hid hall
    have HQ := Lib.hid ho
    have xl := (X0.out.on ho).1
    have xc := (X0.out.on ho).2 0 _ rfl
    have yl := (Y0.out.on ho).1
    have yc := (Y0.out.on ho).2 0 _ rfl
    clear hall ho
    by_cases hlt0 : k < n0
    · have hlti : (k : Int) < (n0 : Int) := by omega
      have hl2 : k < N.f0.length := by rw [← HL0.out]; exact hlt0
      have hl3 : k < M.f0.length := by rw [← HM0.out]; exact hlt0
      obtain ⟨b, off, hab, hb, hcell⟩ := Sites.slice_of H0.out (by omega)
      obtain ⟨d, dff, had, hd, dcell⟩ := Sites.slice_of K0.out (by omega)
      rw [hab] at xc
      rw [had] at yc
      have hbr : b < wr.heap.size := HQ.out.lts _ (O0.out.lts _ hb)
      have hdr : d < wr.heap.size := HQ.out.lts _ (O0.out.lts _ hd)
      obtain ⟨z, hz⟩ : ∃ z : Sites.Z, z = N.f0.getD k Sites.d0 := ⟨_, rfl⟩
      obtain ⟨y, hy⟩ : ∃ y : Sites.Z, y = M.f0.getD k Sites.d0 := ⟨_, rfl⟩
      have HZ := Lib.hid hz
      have HY := Lib.hid hy
      have E : Sites.El wr b (off + k * 4) z := by rw [hz]; exact ((hcell k hl2).on O0.out).on HQ.out
      have E2 : Sites.El wr d (dff + k * 4) y := by rw [hy]; exact ((dcell k hl3).on O0.out).on HQ.out
      have c0 := E.c0
      have c1 := E.c1
      have c2 := E.c2
      have c3 := E.c3
      have d0 := E2.c0
      have d1 := E2.c1
      have d2 := E2.c2
      have d3 := E2.c3
      clear hz hy E E2 hl2 hl3 hcell dcell hab had hb hd
      cases e0 : z.x0.toList == y.x0.toList with
      | false =>
        have p0 : ¬ z.x0.toList = y.x0.toList := ne_of_beq_false e0
        have q0 : (z.x0.toList != y.x0.toList) = true := by rw [bne, e0]; rfl
        have hs0 : Sites.same z y = false := by unfold Sites.same; rw [e0]; simp
        have en := Lib.hid (show Sites.sameL N.f0 M.f0 = false by unfold Sites.sameL; rw [Nam.all_bad (p := Sites.sameAt N.f0 M.f0) (k := k) (by rw [← HL0.out]; exact hlt0) (by unfold Sites.sameAt; rw [← HZ.out, ← HY.out]; exact hs0), Bool.and_false])
        have en := Lib.hid (show sameN N M = false by unfold sameN; rw [en.out]; simp)
        clear hs0
        go_wp2_with fail
        refine wp_region_onh (by kernel_rfl) (by kernel_rfl) ?_
        repeat (refine rest_step (fun K hK => ?_); go_simp; first | (refine hK _ ?_; clear hK K) | (apply Exists.intro; refine ⟨fun v1 hv1 => ?_, hK _ ?_⟩; (first | with_reducible exact rfl | with_reducible exact ⟨rfl, rfl⟩ | (obtain ⟨hc, hf⟩ := bcell hv1; go_simp; first | with_reducible exact rfl | with_reducible exact ⟨rfl, rfl⟩ | exact rfl | exact ⟨rfl, rfl⟩)); clear hK K))
        refine rest_nil ?_
        intro w1 h1
        go_wp2_with fail
        go_ret
        exact ⟨ret_bool en.out.symm, by repeat (first | with_reducible exact On.refl _ | with_reducible apply On.alloc | with_reducible apply On.drewN | with_reducible apply On.drew | with_reducible refine On.setCell ?_ (by (try simp) <;> omega) _ | refine On.trans ?_ h1 | refine On.trans ?_ HQ.out | refine On.trans ?_ O0.out)⟩
      | true =>
        have p0 : z.x0.toList = y.x0.toList := eq_of_beq e0
        cases e1 : z.x1.toList == y.x1.toList with
        | false =>
          have p1 : ¬ z.x1.toList = y.x1.toList := ne_of_beq_false e1
          have q1 : (z.x1.toList != y.x1.toList) = true := by rw [bne, e1]; rfl
          have hs0 : Sites.same z y = false := by unfold Sites.same; rw [e0, e1]; simp
          have en := Lib.hid (show Sites.sameL N.f0 M.f0 = false by unfold Sites.sameL; rw [Nam.all_bad (p := Sites.sameAt N.f0 M.f0) (k := k) (by rw [← HL0.out]; exact hlt0) (by unfold Sites.sameAt; rw [← HZ.out, ← HY.out]; exact hs0), Bool.and_false])
          have en := Lib.hid (show sameN N M = false by unfold sameN; rw [en.out]; simp)
          clear hs0
          go_wp2_with fail
          refine wp_region_onh (by kernel_rfl) (by kernel_rfl) ?_
          repeat (refine rest_step (fun K hK => ?_); go_simp; first | (refine hK _ ?_; clear hK K) | (apply Exists.intro; refine ⟨fun v1 hv1 => ?_, hK _ ?_⟩; (first | with_reducible exact rfl | with_reducible exact ⟨rfl, rfl⟩ | (obtain ⟨hc, hf⟩ := bcell hv1; go_simp; first | with_reducible exact rfl | with_reducible exact ⟨rfl, rfl⟩ | exact rfl | exact ⟨rfl, rfl⟩)); clear hK K))
          refine rest_nil ?_
          intro w1 h1
          go_wp2_with fail
          go_ret
          exact ⟨ret_bool en.out.symm, by repeat (first | with_reducible exact On.refl _ | with_reducible apply On.alloc | with_reducible apply On.drewN | with_reducible apply On.drew | with_reducible refine On.setCell ?_ (by (try simp) <;> omega) _ | refine On.trans ?_ h1 | refine On.trans ?_ HQ.out | refine On.trans ?_ O0.out)⟩
        | true =>
          have p1 : z.x1.toList = y.x1.toList := eq_of_beq e1
          cases e2 : z.x2 == y.x2 with
          | false =>
            have p2 : ¬ z.x2 = y.x2 := ne_of_beq_false e2
            have q2 : (z.x2 != y.x2) = true := by rw [bne, e2]; rfl
            have hs0 : Sites.same z y = false := by unfold Sites.same; rw [e0, e1, e2]; simp
            have en := Lib.hid (show Sites.sameL N.f0 M.f0 = false by unfold Sites.sameL; rw [Nam.all_bad (p := Sites.sameAt N.f0 M.f0) (k := k) (by rw [← HL0.out]; exact hlt0) (by unfold Sites.sameAt; rw [← HZ.out, ← HY.out]; exact hs0), Bool.and_false])
            have en := Lib.hid (show sameN N M = false by unfold sameN; rw [en.out]; simp)
            clear hs0
            go_wp2_with fail
            refine wp_region_onh (by kernel_rfl) (by kernel_rfl) ?_
            repeat (refine rest_step (fun K hK => ?_); go_simp; first | (refine hK _ ?_; clear hK K) | (apply Exists.intro; refine ⟨fun v1 hv1 => ?_, hK _ ?_⟩; (first | with_reducible exact rfl | with_reducible exact ⟨rfl, rfl⟩ | (obtain ⟨hc, hf⟩ := bcell hv1; go_simp; first | with_reducible exact rfl | with_reducible exact ⟨rfl, rfl⟩ | exact rfl | exact ⟨rfl, rfl⟩)); clear hK K))
            refine rest_nil ?_
            intro w1 h1
            go_wp2_with fail
            go_ret
            exact ⟨ret_bool en.out.symm, by repeat (first | with_reducible exact On.refl _ | with_reducible apply On.alloc | with_reducible apply On.drewN | with_reducible apply On.drew | with_reducible refine On.setCell ?_ (by (try simp) <;> omega) _ | refine On.trans ?_ h1 | refine On.trans ?_ HQ.out | refine On.trans ?_ O0.out)⟩
          | true =>
            have p2 : z.x2 = y.x2 := eq_of_beq e2
            cases e3 : z.x3 == y.x3 with
            | false =>
              have p3 : ¬ z.x3 = y.x3 := ne_of_beq_false e3
              have q3 : (z.x3 != y.x3) = true := by rw [bne, e3]; rfl
              have hs0 : Sites.same z y = false := by unfold Sites.same; rw [e0, e1, e2, e3]; simp
              have en := Lib.hid (show Sites.sameL N.f0 M.f0 = false by unfold Sites.sameL; rw [Nam.all_bad (p := Sites.sameAt N.f0 M.f0) (k := k) (by rw [← HL0.out]; exact hlt0) (by unfold Sites.sameAt; rw [← HZ.out, ← HY.out]; exact hs0), Bool.and_false])
              have en := Lib.hid (show sameN N M = false by unfold sameN; rw [en.out]; simp)
              clear hs0
              go_wp2_with fail
              refine wp_region_onh (by kernel_rfl) (by kernel_rfl) ?_
              repeat (refine rest_step (fun K hK => ?_); go_simp; first | (refine hK _ ?_; clear hK K) | (apply Exists.intro; refine ⟨fun v1 hv1 => ?_, hK _ ?_⟩; (first | with_reducible exact rfl | with_reducible exact ⟨rfl, rfl⟩ | (obtain ⟨hc, hf⟩ := bcell hv1; go_simp; first | with_reducible exact rfl | with_reducible exact ⟨rfl, rfl⟩ | exact rfl | exact ⟨rfl, rfl⟩)); clear hK K))
              refine rest_nil ?_
              intro w1 h1
              go_wp2_with fail
              go_ret
              exact ⟨ret_bool en.out.symm, by repeat (first | with_reducible exact On.refl _ | with_reducible apply On.alloc | with_reducible apply On.drewN | with_reducible apply On.drew | with_reducible refine On.setCell ?_ (by (try simp) <;> omega) _ | refine On.trans ?_ h1 | refine On.trans ?_ HQ.out | refine On.trans ?_ O0.out)⟩
            | true =>
              have p3 : z.x3 = y.x3 := eq_of_beq e3
              have hs0 : Sites.same z y = true := by unfold Sites.same; rw [e0, e1, e2, e3]; rfl
              have HU2 := Lib.hid (Nam.upto_succ HU.out (show Sites.sameAt N.f0 M.f0 k = true by unfold Sites.sameAt; rw [← HZ.out, ← HY.out]; exact hs0))
              clear hs0
              go_wp2_with fail
              refine wp_region_onh (by kernel_rfl) (by kernel_rfl) ?_
              repeat (refine rest_step (fun K hK => ?_); go_simp; first | (refine hK _ ?_; clear hK K) | (apply Exists.intro; refine ⟨fun v1 hv1 => ?_, hK _ ?_⟩; (first | with_reducible exact rfl | with_reducible exact ⟨rfl, rfl⟩ | (obtain ⟨hc, hf⟩ := bcell hv1; go_simp; first | with_reducible exact rfl | with_reducible exact ⟨rfl, rfl⟩ | exact rfl | exact ⟨rfl, rfl⟩)); clear hK K))
              refine rest_nil ?_
              intro w1 h1
              have HO1 := Lib.hid (show On w0 w1 by repeat (first | with_reducible exact On.refl _ | with_reducible apply On.alloc | with_reducible apply On.drewN | with_reducible apply On.drew | with_reducible refine On.setCell ?_ (by (try simp) <;> omega) _ | refine On.trans ?_ h1 | refine On.trans ?_ HQ.out))
              clear h1
              go_wp2_with fail
              go_roundw
              case rel => first | exact ⟨_, hlt0, by go_num, HU2.out, HO1.out⟩ | ((repeat apply Exists.intro); exact ⟨hlt0, by go_num, HU2.out, HO1.out⟩)
              case measure => simp [intOf]; omega
    · obtain rfl : n0 = k := by omega
      have hlti : ¬ (n0 : Int) < (n0 : Int) := by omega
      have A0 := Lib.hid (show Sites.sameL N.f0 M.f0 = true by unfold Sites.sameL; rw [decide_eq_true (HL0.out.symm.trans HM0.out), Nam.all_all (by rw [← HL0.out]; exact HU.out)]; rfl)
      go_wp2_with fail
      clear xl xc yl yc hlti HU
      go_loopw [6] (fun i wr => ∃ k : Nat, k ≤ n1 ∧ i = .int .i64 k ∧ Nam.Upto (Secs.sameAt N.f1 M.f1) k ∧ On w0 wr) (fun i _ => n1 - (intOf i).toNat)
      case atStart => exact ⟨0, Nat.zero_le _, rfl, Nam.upto_zero _, HQ.out⟩
      case round =>
        obtain ⟨k, hk, rfl, hall, ho⟩ := hrel
        have HU := Lib.hid hall
        have HQ := Lib.hid ho
        have xl := (X0.out.on ho).1
        have xc := (X0.out.on ho).2 1 _ rfl
        have yl := (Y0.out.on ho).1
        have yc := (Y0.out.on ho).2 1 _ rfl
        clear hall ho
        by_cases hlt0 : k < n1
        · have hlti : (k : Int) < (n1 : Int) := by omega
          have hl2 : k < N.f1.length := by rw [← HL1.out]; exact hlt0
          have hl3 : k < M.f1.length := by rw [← HM1.out]; exact hlt0
          obtain ⟨b, off, hab, hb, hcell⟩ := Secs.slice_of H1.out (by omega)
          obtain ⟨d, dff, had, hd, dcell⟩ := Secs.slice_of K1.out (by omega)
          rw [hab] at xc
          rw [had] at yc
          have hbr : b < wr.heap.size := HQ.out.lts _ (O0.out.lts _ hb)
          have hdr : d < wr.heap.size := HQ.out.lts _ (O0.out.lts _ hd)
          obtain ⟨z, hz⟩ : ∃ z : Secs.Z, z = N.f1.getD k Secs.d0 := ⟨_, rfl⟩
          obtain ⟨y, hy⟩ : ∃ y : Secs.Z, y = M.f1.getD k Secs.d0 := ⟨_, rfl⟩
          have HZ := Lib.hid hz
          have HY := Lib.hid hy
          have E : Secs.El wr b (off + k * 9) z := by rw [hz]; exact ((hcell k hl2).on O0.out).on HQ.out
          have E2 : Secs.El wr d (dff + k * 9) y := by rw [hy]; exact ((dcell k hl3).on O0.out).on HQ.out
          have c0 := E.c0
          have c1 := E.c1
          have c2 := E.c2
          have c3 := E.c3
          have c4 := E.c4
          have c5 := E.c5
          have c6 := E.c6
          have c7 := E.c7
          have c8 := E.c8
          have d0 := E2.c0
          have d1 := E2.c1
          have d2 := E2.c2
          have d3 := E2.c3
          have d4 := E2.c4
          have d5 := E2.c5
          have d6 := E2.c6
          have d7 := E2.c7
          have d8 := E2.c8
          clear hz hy E E2 hl2 hl3 hcell dcell hab had hb hd
          cases e0 : z.x0.toList == y.x0.toList with
          | false =>
            have p0 : ¬ z.x0.toList = y.x0.toList := ne_of_beq_false e0
            have q0 : (z.x0.toList != y.x0.toList) = true := by rw [bne, e0]; rfl
            have hs0 : Secs.same z y = false := by unfold Secs.same; rw [e0]; simp
            have en := Lib.hid (show Secs.sameL N.f1 M.f1 = false by unfold Secs.sameL; rw [Nam.all_bad (p := Secs.sameAt N.f1 M.f1) (k := k) (by rw [← HL1.out]; exact hlt0) (by unfold Secs.sameAt; rw [← HZ.out, ← HY.out]; exact hs0), Bool.and_false])
            have en := Lib.hid (show sameN N M = false by unfold sameN; rw [en.out]; simp)
            clear hs0
            go_wp2_with fail
            refine wp_region_onh (by kernel_rfl) (by kernel_rfl) ?_
            repeat (refine rest_step (fun K hK => ?_); go_simp; first | (refine hK _ ?_; clear hK K) | (apply Exists.intro; refine ⟨fun v1 hv1 => ?_, hK _ ?_⟩; (first | with_reducible exact rfl | with_reducible exact ⟨rfl, rfl⟩ | (obtain ⟨hc, hf⟩ := bcell hv1; go_simp; first | with_reducible exact rfl | with_reducible exact ⟨rfl, rfl⟩ | exact rfl | exact ⟨rfl, rfl⟩)); clear hK K))
            refine rest_nil ?_
            intro w1 h1
            go_wp2_with fail
            go_ret
            exact ⟨ret_bool en.out.symm, by repeat (first | with_reducible exact On.refl _ | with_reducible apply On.alloc | with_reducible apply On.drewN | with_reducible apply On.drew | with_reducible refine On.setCell ?_ (by (try simp) <;> omega) _ | refine On.trans ?_ h1 | refine On.trans ?_ HQ.out | refine On.trans ?_ O0.out)⟩
          | true =>
            have p0 : z.x0.toList = y.x0.toList := eq_of_beq e0
            cases e1 : z.x1.toList == y.x1.toList with
            | false =>
              have p1 : ¬ z.x1.toList = y.x1.toList := ne_of_beq_false e1
              have q1 : (z.x1.toList != y.x1.toList) = true := by rw [bne, e1]; rfl
              have hs0 : Secs.same z y = false := by unfold Secs.same; rw [e0, e1]; simp
              have en := Lib.hid (show Secs.sameL N.f1 M.f1 = false by unfold Secs.sameL; rw [Nam.all_bad (p := Secs.sameAt N.f1 M.f1) (k := k) (by rw [← HL1.out]; exact hlt0) (by unfold Secs.sameAt; rw [← HZ.out, ← HY.out]; exact hs0), Bool.and_false])
              have en := Lib.hid (show sameN N M = false by unfold sameN; rw [en.out]; simp)
              clear hs0
              go_wp2_with fail
              refine wp_region_onh (by kernel_rfl) (by kernel_rfl) ?_
              repeat (refine rest_step (fun K hK => ?_); go_simp; first | (refine hK _ ?_; clear hK K) | (apply Exists.intro; refine ⟨fun v1 hv1 => ?_, hK _ ?_⟩; (first | with_reducible exact rfl | with_reducible exact ⟨rfl, rfl⟩ | (obtain ⟨hc, hf⟩ := bcell hv1; go_simp; first | with_reducible exact rfl | with_reducible exact ⟨rfl, rfl⟩ | exact rfl | exact ⟨rfl, rfl⟩)); clear hK K))
              refine rest_nil ?_
              intro w1 h1
              go_wp2_with fail
              go_ret
              exact ⟨ret_bool en.out.symm, by repeat (first | with_reducible exact On.refl _ | with_reducible apply On.alloc | with_reducible apply On.drewN | with_reducible apply On.drew | with_reducible refine On.setCell ?_ (by (try simp) <;> omega) _ | refine On.trans ?_ h1 | refine On.trans ?_ HQ.out | refine On.trans ?_ O0.out)⟩
            | true =>
              have p1 : z.x1.toList = y.x1.toList := eq_of_beq e1
              cases e2 : z.x2.toList == y.x2.toList with
              | false =>
                have p2 : ¬ z.x2.toList = y.x2.toList := ne_of_beq_false e2
                have q2 : (z.x2.toList != y.x2.toList) = true := by rw [bne, e2]; rfl
                have hs0 : Secs.same z y = false := by unfold Secs.same; rw [e0, e1, e2]; simp
                have en := Lib.hid (show Secs.sameL N.f1 M.f1 = false by unfold Secs.sameL; rw [Nam.all_bad (p := Secs.sameAt N.f1 M.f1) (k := k) (by rw [← HL1.out]; exact hlt0) (by unfold Secs.sameAt; rw [← HZ.out, ← HY.out]; exact hs0), Bool.and_false])
                have en := Lib.hid (show sameN N M = false by unfold sameN; rw [en.out]; simp)
                clear hs0
                go_wp2_with fail
                refine wp_region_onh (by kernel_rfl) (by kernel_rfl) ?_
                repeat (refine rest_step (fun K hK => ?_); go_simp; first | (refine hK _ ?_; clear hK K) | (apply Exists.intro; refine ⟨fun v1 hv1 => ?_, hK _ ?_⟩; (first | with_reducible exact rfl | with_reducible exact ⟨rfl, rfl⟩ | (obtain ⟨hc, hf⟩ := bcell hv1; go_simp; first | with_reducible exact rfl | with_reducible exact ⟨rfl, rfl⟩ | exact rfl | exact ⟨rfl, rfl⟩)); clear hK K))
                refine rest_nil ?_
                intro w1 h1
                go_wp2_with fail
                go_ret
                exact ⟨ret_bool en.out.symm, by repeat (first | with_reducible exact On.refl _ | with_reducible apply On.alloc | with_reducible apply On.drewN | with_reducible apply On.drew | with_reducible refine On.setCell ?_ (by (try simp) <;> omega) _ | refine On.trans ?_ h1 | refine On.trans ?_ HQ.out | refine On.trans ?_ O0.out)⟩
              | true =>
                have p2 : z.x2.toList = y.x2.toList := eq_of_beq e2
                cases e3 : z.x3.toList == y.x3.toList with
                | false =>
                  have p3 : ¬ z.x3.toList = y.x3.toList := ne_of_beq_false e3
                  have q3 : (z.x3.toList != y.x3.toList) = true := by rw [bne, e3]; rfl
                  have hs0 : Secs.same z y = false := by unfold Secs.same; rw [e0, e1, e2, e3]; simp
                  have en := Lib.hid (show Secs.sameL N.f1 M.f1 = false by unfold Secs.sameL; rw [Nam.all_bad (p := Secs.sameAt N.f1 M.f1) (k := k) (by rw [← HL1.out]; exact hlt0) (by unfold Secs.sameAt; rw [← HZ.out, ← HY.out]; exact hs0), Bool.and_false])
                  have en := Lib.hid (show sameN N M = false by unfold sameN; rw [en.out]; simp)
                  clear hs0
                  go_wp2_with fail
                  refine wp_region_onh (by kernel_rfl) (by kernel_rfl) ?_
                  repeat (refine rest_step (fun K hK => ?_); go_simp; first | (refine hK _ ?_; clear hK K) | (apply Exists.intro; refine ⟨fun v1 hv1 => ?_, hK _ ?_⟩; (first | with_reducible exact rfl | with_reducible exact ⟨rfl, rfl⟩ | (obtain ⟨hc, hf⟩ := bcell hv1; go_simp; first | with_reducible exact rfl | with_reducible exact ⟨rfl, rfl⟩ | exact rfl | exact ⟨rfl, rfl⟩)); clear hK K))
                  refine rest_nil ?_
                  intro w1 h1
                  go_wp2_with fail
                  go_ret
                  exact ⟨ret_bool en.out.symm, by repeat (first | with_reducible exact On.refl _ | with_reducible apply On.alloc | with_reducible apply On.drewN | with_reducible apply On.drew | with_reducible refine On.setCell ?_ (by (try simp) <;> omega) _ | refine On.trans ?_ h1 | refine On.trans ?_ HQ.out | refine On.trans ?_ O0.out)⟩
                | true =>
                  have p3 : z.x3.toList = y.x3.toList := eq_of_beq e3
                  cases e4 : z.x4.toList == y.x4.toList with
                  | false =>
                    have p4 : ¬ z.x4.toList = y.x4.toList := ne_of_beq_false e4
                    have q4 : (z.x4.toList != y.x4.toList) = true := by rw [bne, e4]; rfl
                    have hs0 : Secs.same z y = false := by unfold Secs.same; rw [e0, e1, e2, e3, e4]; simp
                    have en := Lib.hid (show Secs.sameL N.f1 M.f1 = false by unfold Secs.sameL; rw [Nam.all_bad (p := Secs.sameAt N.f1 M.f1) (k := k) (by rw [← HL1.out]; exact hlt0) (by unfold Secs.sameAt; rw [← HZ.out, ← HY.out]; exact hs0), Bool.and_false])
                    have en := Lib.hid (show sameN N M = false by unfold sameN; rw [en.out]; simp)
                    clear hs0
                    go_wp2_with fail
                    refine wp_region_onh (by kernel_rfl) (by kernel_rfl) ?_
                    repeat (refine rest_step (fun K hK => ?_); go_simp; first | (refine hK _ ?_; clear hK K) | (apply Exists.intro; refine ⟨fun v1 hv1 => ?_, hK _ ?_⟩; (first | with_reducible exact rfl | with_reducible exact ⟨rfl, rfl⟩ | (obtain ⟨hc, hf⟩ := bcell hv1; go_simp; first | with_reducible exact rfl | with_reducible exact ⟨rfl, rfl⟩ | exact rfl | exact ⟨rfl, rfl⟩)); clear hK K))
                    refine rest_nil ?_
                    intro w1 h1
                    go_wp2_with fail
                    go_ret
                    exact ⟨ret_bool en.out.symm, by repeat (first | with_reducible exact On.refl _ | with_reducible apply On.alloc | with_reducible apply On.drewN | with_reducible apply On.drew | with_reducible refine On.setCell ?_ (by (try simp) <;> omega) _ | refine On.trans ?_ h1 | refine On.trans ?_ HQ.out | refine On.trans ?_ O0.out)⟩
                  | true =>
                    have p4 : z.x4.toList = y.x4.toList := eq_of_beq e4
                    cases e5 : z.x5 == y.x5 with
                    | false =>
                      have p5 : ¬ z.x5 = y.x5 := ne_of_beq_false e5
                      have q5 : (z.x5 != y.x5) = true := by rw [bne, e5]; rfl
                      have hs0 : Secs.same z y = false := by unfold Secs.same; rw [e0, e1, e2, e3, e4, e5]; simp
                      have en := Lib.hid (show Secs.sameL N.f1 M.f1 = false by unfold Secs.sameL; rw [Nam.all_bad (p := Secs.sameAt N.f1 M.f1) (k := k) (by rw [← HL1.out]; exact hlt0) (by unfold Secs.sameAt; rw [← HZ.out, ← HY.out]; exact hs0), Bool.and_false])
                      have en := Lib.hid (show sameN N M = false by unfold sameN; rw [en.out]; simp)
                      clear hs0
                      go_wp2_with fail
                      refine wp_region_onh (by kernel_rfl) (by kernel_rfl) ?_
                      repeat (refine rest_step (fun K hK => ?_); go_simp; first | (refine hK _ ?_; clear hK K) | (apply Exists.intro; refine ⟨fun v1 hv1 => ?_, hK _ ?_⟩; (first | with_reducible exact rfl | with_reducible exact ⟨rfl, rfl⟩ | (obtain ⟨hc, hf⟩ := bcell hv1; go_simp; first | with_reducible exact rfl | with_reducible exact ⟨rfl, rfl⟩ | exact rfl | exact ⟨rfl, rfl⟩)); clear hK K))
                      refine rest_nil ?_
                      intro w1 h1
                      go_wp2_with fail
                      go_ret
                      exact ⟨ret_bool en.out.symm, by repeat (first | with_reducible exact On.refl _ | with_reducible apply On.alloc | with_reducible apply On.drewN | with_reducible apply On.drew | with_reducible refine On.setCell ?_ (by (try simp) <;> omega) _ | refine On.trans ?_ h1 | refine On.trans ?_ HQ.out | refine On.trans ?_ O0.out)⟩
                    | true =>
                      have p5 : z.x5 = y.x5 := eq_of_beq e5
                      cases e6 : z.x6 == y.x6 with
                      | false =>
                        have p6 : ¬ z.x6 = y.x6 := ne_of_beq_false e6
                        have q6 : (z.x6 != y.x6) = true := by rw [bne, e6]; rfl
                        have hs0 : Secs.same z y = false := by unfold Secs.same; rw [e0, e1, e2, e3, e4, e5, e6]; simp
                        have en := Lib.hid (show Secs.sameL N.f1 M.f1 = false by unfold Secs.sameL; rw [Nam.all_bad (p := Secs.sameAt N.f1 M.f1) (k := k) (by rw [← HL1.out]; exact hlt0) (by unfold Secs.sameAt; rw [← HZ.out, ← HY.out]; exact hs0), Bool.and_false])
                        have en := Lib.hid (show sameN N M = false by unfold sameN; rw [en.out]; simp)
                        clear hs0
                        go_wp2_with fail
                        refine wp_region_onh (by kernel_rfl) (by kernel_rfl) ?_
                        repeat (refine rest_step (fun K hK => ?_); go_simp; first | (refine hK _ ?_; clear hK K) | (apply Exists.intro; refine ⟨fun v1 hv1 => ?_, hK _ ?_⟩; (first | with_reducible exact rfl | with_reducible exact ⟨rfl, rfl⟩ | (obtain ⟨hc, hf⟩ := bcell hv1; go_simp; first | with_reducible exact rfl | with_reducible exact ⟨rfl, rfl⟩ | exact rfl | exact ⟨rfl, rfl⟩)); clear hK K))
                        refine rest_nil ?_
                        intro w1 h1
                        go_wp2_with fail
                        go_ret
                        exact ⟨ret_bool en.out.symm, by repeat (first | with_reducible exact On.refl _ | with_reducible apply On.alloc | with_reducible apply On.drewN | with_reducible apply On.drew | with_reducible refine On.setCell ?_ (by (try simp) <;> omega) _ | refine On.trans ?_ h1 | refine On.trans ?_ HQ.out | refine On.trans ?_ O0.out)⟩
                      | true =>
                        have p6 : z.x6 = y.x6 := eq_of_beq e6
                        cases e7 : z.x7 == y.x7 with
                        | false =>
                          have p7 : ¬ z.x7 = y.x7 := ne_of_beq_false e7
                          have q7 : (z.x7 != y.x7) = true := by rw [bne, e7]; rfl
                          have hs0 : Secs.same z y = false := by unfold Secs.same; rw [e0, e1, e2, e3, e4, e5, e6, e7]; simp
                          have en := Lib.hid (show Secs.sameL N.f1 M.f1 = false by unfold Secs.sameL; rw [Nam.all_bad (p := Secs.sameAt N.f1 M.f1) (k := k) (by rw [← HL1.out]; exact hlt0) (by unfold Secs.sameAt; rw [← HZ.out, ← HY.out]; exact hs0), Bool.and_false])
                          have en := Lib.hid (show sameN N M = false by unfold sameN; rw [en.out]; simp)
                          clear hs0
                          go_wp2_with fail
                          refine wp_region_onh (by kernel_rfl) (by kernel_rfl) ?_
                          repeat (refine rest_step (fun K hK => ?_); go_simp; first | (refine hK _ ?_; clear hK K) | (apply Exists.intro; refine ⟨fun v1 hv1 => ?_, hK _ ?_⟩; (first | with_reducible exact rfl | with_reducible exact ⟨rfl, rfl⟩ | (obtain ⟨hc, hf⟩ := bcell hv1; go_simp; first | with_reducible exact rfl | with_reducible exact ⟨rfl, rfl⟩ | exact rfl | exact ⟨rfl, rfl⟩)); clear hK K))
                          refine rest_nil ?_
                          intro w1 h1
                          go_wp2_with fail
                          go_ret
                          exact ⟨ret_bool en.out.symm, by repeat (first | with_reducible exact On.refl _ | with_reducible apply On.alloc | with_reducible apply On.drewN | with_reducible apply On.drew | with_reducible refine On.setCell ?_ (by (try simp) <;> omega) _ | refine On.trans ?_ h1 | refine On.trans ?_ HQ.out | refine On.trans ?_ O0.out)⟩
                        | true =>
                          have p7 : z.x7 = y.x7 := eq_of_beq e7
                          cases e8 : z.x8 == y.x8 with
                          | false =>
                            have p8 : ¬ z.x8 = y.x8 := ne_of_beq_false e8
                            have q8 : (z.x8 != y.x8) = true := by rw [bne, e8]; rfl
                            have hs0 : Secs.same z y = false := by unfold Secs.same; rw [e0, e1, e2, e3, e4, e5, e6, e7, e8]; simp
                            have en := Lib.hid (show Secs.sameL N.f1 M.f1 = false by unfold Secs.sameL; rw [Nam.all_bad (p := Secs.sameAt N.f1 M.f1) (k := k) (by rw [← HL1.out]; exact hlt0) (by unfold Secs.sameAt; rw [← HZ.out, ← HY.out]; exact hs0), Bool.and_false])
                            have en := Lib.hid (show sameN N M = false by unfold sameN; rw [en.out]; simp)
                            clear hs0
                            go_wp2_with fail
                            refine wp_region_onh (by kernel_rfl) (by kernel_rfl) ?_
                            repeat (refine rest_step (fun K hK => ?_); go_simp; first | (refine hK _ ?_; clear hK K) | (apply Exists.intro; refine ⟨fun v1 hv1 => ?_, hK _ ?_⟩; (first | with_reducible exact rfl | with_reducible exact ⟨rfl, rfl⟩ | (obtain ⟨hc, hf⟩ := bcell hv1; go_simp; first | with_reducible exact rfl | with_reducible exact ⟨rfl, rfl⟩ | exact rfl | exact ⟨rfl, rfl⟩)); clear hK K))
                            refine rest_nil ?_
                            intro w1 h1
                            go_wp2_with fail
                            go_ret
                            exact ⟨ret_bool en.out.symm, by repeat (first | with_reducible exact On.refl _ | with_reducible apply On.alloc | with_reducible apply On.drewN | with_reducible apply On.drew | with_reducible refine On.setCell ?_ (by (try simp) <;> omega) _ | refine On.trans ?_ h1 | refine On.trans ?_ HQ.out | refine On.trans ?_ O0.out)⟩
                          | true =>
                            have p8 : z.x8 = y.x8 := eq_of_beq e8
                            have hs0 : Secs.same z y = true := by unfold Secs.same; rw [e0, e1, e2, e3, e4, e5, e6, e7, e8]; rfl
                            have HU2 := Lib.hid (Nam.upto_succ HU.out (show Secs.sameAt N.f1 M.f1 k = true by unfold Secs.sameAt; rw [← HZ.out, ← HY.out]; exact hs0))
                            clear hs0
                            go_wp2_with fail
                            refine wp_region_onh (by kernel_rfl) (by kernel_rfl) ?_
                            repeat (refine rest_step (fun K hK => ?_); go_simp; first | (refine hK _ ?_; clear hK K) | (apply Exists.intro; refine ⟨fun v1 hv1 => ?_, hK _ ?_⟩; (first | with_reducible exact rfl | with_reducible exact ⟨rfl, rfl⟩ | (obtain ⟨hc, hf⟩ := bcell hv1; go_simp; first | with_reducible exact rfl | with_reducible exact ⟨rfl, rfl⟩ | exact rfl | exact ⟨rfl, rfl⟩)); clear hK K))
                            refine rest_nil ?_
                            intro w1 h1
                            have HO1 := Lib.hid (show On w0 w1 by repeat (first | with_reducible exact On.refl _ | with_reducible apply On.alloc | with_reducible apply On.drewN | with_reducible apply On.drew | with_reducible refine On.setCell ?_ (by (try simp) <;> omega) _ | refine On.trans ?_ h1 | refine On.trans ?_ HQ.out))
                            clear h1
                            go_wp2_with fail
                            go_roundw
                            case rel => first | exact ⟨_, hlt0, by go_num, HU2.out, HO1.out⟩ | ((repeat apply Exists.intro); exact ⟨hlt0, by go_num, HU2.out, HO1.out⟩)
                            case measure => simp [intOf]; omega
        · obtain rfl : n1 = k := by omega
          have hlti : ¬ (n1 : Int) < (n1 : Int) := by omega
          have A1 := Lib.hid (show Secs.sameL N.f1 M.f1 = true by unfold Secs.sameL; rw [decide_eq_true (HL1.out.symm.trans HM1.out), Nam.all_all (by rw [← HL1.out]; exact HU.out)]; rfl)
          go_wp2_with fail
          clear xl xc yl yc hlti HU
          go_loopw [7] (fun i wr => ∃ k : Nat, k ≤ n2 ∧ i = .int .i64 k ∧ Nam.Upto (Ants.sameAt N.f2 M.f2) k ∧ On w0 wr) (fun i _ => n2 - (intOf i).toNat)
          case atStart => exact ⟨0, Nat.zero_le _, rfl, Nam.upto_zero _, HQ.out⟩
          case round =>
            obtain ⟨k, hk, rfl, hall, ho⟩ := hrel
            have HU := Lib.hid hall
            have HQ := Lib.hid ho
            have xl := (X0.out.on ho).1
            have xc := (X0.out.on ho).2 2 _ rfl
            have yl := (Y0.out.on ho).1
            have yc := (Y0.out.on ho).2 2 _ rfl
            clear hall ho
            by_cases hlt0 : k < n2
            · have hlti : (k : Int) < (n2 : Int) := by omega
              have hl2 : k < N.f2.length := by rw [← HL2.out]; exact hlt0
              have hl3 : k < M.f2.length := by rw [← HM2.out]; exact hlt0
              obtain ⟨b, off, hab, hb, hcell⟩ := Ants.slice_of H2.out (by omega)
              obtain ⟨d, dff, had, hd, dcell⟩ := Ants.slice_of K2.out (by omega)
              rw [hab] at xc
              rw [had] at yc
              have hbr : b < wr.heap.size := HQ.out.lts _ (O0.out.lts _ hb)
              have hdr : d < wr.heap.size := HQ.out.lts _ (O0.out.lts _ hd)
              obtain ⟨z, hz⟩ : ∃ z : Ants.Z, z = N.f2.getD k Ants.d0 := ⟨_, rfl⟩
              obtain ⟨y, hy⟩ : ∃ y : Ants.Z, y = M.f2.getD k Ants.d0 := ⟨_, rfl⟩
              have HZ := Lib.hid hz
              have HY := Lib.hid hy
              have E : Ants.El wr b (off + k * 4) z := by rw [hz]; exact ((hcell k hl2).on O0.out).on HQ.out
              have E2 : Ants.El wr d (dff + k * 4) y := by rw [hy]; exact ((dcell k hl3).on O0.out).on HQ.out
              have c0 := E.c0
              have c1 := E.c1
              obtain ⟨a2_, cap2_, c2, _, i2⟩ := E.c2
              obtain ⟨a3_, cap3_, c3, _, i3⟩ := E.c3
              have d0 := E2.c0
              have d1 := E2.c1
              obtain ⟨b2_, dap2_, d2, _, j2⟩ := E2.c2
              obtain ⟨b3_, dap3_, d3, _, j3⟩ := E2.c3
              have g1 : Ants.Small 1048576 z := by rw [hz]; exact HA.out.2.2.1.2 k hl2
              have g2 : Ants.Small 1048576 y := by rw [hy]; exact HB.out.2.2.1.2 k hl3
              have hc1 := fun w' (ho : On wr w') => Ant.spec_same z.x0 z.x1 (.slice a2_ z.x2.length cap2_) (.slice a3_ z.x3.length cap3_) z.x2 z.x3 y.x0 y.x1 (.slice b2_ y.x2.length dap2_) (.slice b3_ y.x3.length dap3_) y.x2 y.x3 w' g1.1 g1.2.1 g1.2.2 g2.1 g2.2.1 g2.2.2 (i2.below ho) (i3.below ho) (j2.below ho) (j3.below ho)
              rw [show Ant.sameA z.x0 z.x1 z.x2 z.x3 y.x0 y.x1 y.x2 y.x3 = Ants.same z y from rfl] at hc1
              have HC1 := Lib.hid hc1
              clear hc1 g1 g2 i2 j2 i3 j3
              clear hz hy E E2 hl2 hl3 hcell dcell hab had hb hd
              cases hs0 : Ants.same z y with
              | false =>
                rw [hs0] at HC1
                have en := Lib.hid (show Ants.sameL N.f2 M.f2 = false by unfold Ants.sameL; rw [Nam.all_bad (p := Ants.sameAt N.f2 M.f2) (k := k) (by rw [← HL2.out]; exact hlt0) (by unfold Ants.sameAt; rw [← HZ.out, ← HY.out]; exact hs0), Bool.and_false])
                have en := Lib.hid (show sameN N M = false by unfold sameN; rw [en.out]; simp)
                clear hs0
                go_wp2_with fail
                refine wp_region_onh (by kernel_rfl) (by kernel_rfl) ?_
                repeat (refine rest_step (fun K hK => ?_); go_simp; first | (refine hK _ ?_; clear hK K) | (apply Exists.intro; refine ⟨fun v1 hv1 => ?_, hK _ ?_⟩; (first | with_reducible exact rfl | with_reducible exact ⟨rfl, rfl⟩ | with_reducible exact Calls.on hv1 (HC1.out _ hv1) | (obtain ⟨hc, hf⟩ := bcell hv1; go_simp; first | with_reducible exact rfl | with_reducible exact ⟨rfl, rfl⟩ | exact rfl | exact ⟨rfl, rfl⟩)); clear hK K))
                refine rest_nil ?_
                intro w1 h1
                go_wp2_with fail
                go_ret
                exact ⟨ret_bool en.out.symm, by repeat (first | with_reducible exact On.refl _ | with_reducible apply On.alloc | with_reducible apply On.drewN | with_reducible apply On.drew | with_reducible refine On.setCell ?_ (by (try simp) <;> omega) _ | refine On.trans ?_ h1 | refine On.trans ?_ HQ.out | refine On.trans ?_ O0.out)⟩
              | true =>
                rw [hs0] at HC1
                have HU2 := Lib.hid (Nam.upto_succ HU.out (show Ants.sameAt N.f2 M.f2 k = true by unfold Ants.sameAt; rw [← HZ.out, ← HY.out]; exact hs0))
                clear hs0
                go_wp2_with fail
                refine wp_region_onh (by kernel_rfl) (by kernel_rfl) ?_
                repeat (refine rest_step (fun K hK => ?_); go_simp; first | (refine hK _ ?_; clear hK K) | (apply Exists.intro; refine ⟨fun v1 hv1 => ?_, hK _ ?_⟩; (first | with_reducible exact rfl | with_reducible exact ⟨rfl, rfl⟩ | with_reducible exact Calls.on hv1 (HC1.out _ hv1) | (obtain ⟨hc, hf⟩ := bcell hv1; go_simp; first | with_reducible exact rfl | with_reducible exact ⟨rfl, rfl⟩ | exact rfl | exact ⟨rfl, rfl⟩)); clear hK K))
                refine rest_nil ?_
                intro w1 h1
                have HO1 := Lib.hid (show On w0 w1 by repeat (first | with_reducible exact On.refl _ | with_reducible apply On.alloc | with_reducible apply On.drewN | with_reducible apply On.drew | with_reducible refine On.setCell ?_ (by (try simp) <;> omega) _ | refine On.trans ?_ h1 | refine On.trans ?_ HQ.out))
                clear h1
                go_wp2_with fail
                go_roundw
                case rel => first | exact ⟨_, hlt0, by go_num, HU2.out, HO1.out⟩ | ((repeat apply Exists.intro); exact ⟨hlt0, by go_num, HU2.out, HO1.out⟩)
                case measure => simp [intOf]; omega
            · obtain rfl : n2 = k := by omega
              have hlti : ¬ (n2 : Int) < (n2 : Int) := by omega
              have A2 := Lib.hid (show Ants.sameL N.f2 M.f2 = true by unfold Ants.sameL; rw [decide_eq_true (HL2.out.symm.trans HM2.out), Nam.all_all (by rw [← HL2.out]; exact HU.out)]; rfl)
              go_wp2_with fail
              clear xl xc yl yc hlti HU
              go_loopw [8] (fun i wr => ∃ k : Nat, k ≤ n3 ∧ i = .int .i64 k ∧ Nam.Upto (Rads.sameAt N.f3 M.f3) k ∧ On w0 wr) (fun i _ => n3 - (intOf i).toNat)
              case atStart => exact ⟨0, Nat.zero_le _, rfl, Nam.upto_zero _, HQ.out⟩
              case round =>
                obtain ⟨k, hk, rfl, hall, ho⟩ := hrel
                have HU := Lib.hid hall
                have HQ := Lib.hid ho
                have xl := (X0.out.on ho).1
                have xc := (X0.out.on ho).2 3 _ rfl
                have yl := (Y0.out.on ho).1
                have yc := (Y0.out.on ho).2 3 _ rfl
                clear hall ho
                by_cases hlt0 : k < n3
                · have hlti : (k : Int) < (n3 : Int) := by omega
                  have hl2 : k < N.f3.length := by rw [← HL3.out]; exact hlt0
                  have hl3 : k < M.f3.length := by rw [← HM3.out]; exact hlt0
                  obtain ⟨b, off, hab, hb, hcell⟩ := Rads.slice_of H3.out (by omega)
                  obtain ⟨d, dff, had, hd, dcell⟩ := Rads.slice_of K3.out (by omega)
                  rw [hab] at xc
                  rw [had] at yc
                  have hbr : b < wr.heap.size := HQ.out.lts _ (O0.out.lts _ hb)
                  have hdr : d < wr.heap.size := HQ.out.lts _ (O0.out.lts _ hd)
                  obtain ⟨z, hz⟩ : ∃ z : Rads.Z, z = N.f3.getD k Rads.d0 := ⟨_, rfl⟩
                  obtain ⟨y, hy⟩ : ∃ y : Rads.Z, y = M.f3.getD k Rads.d0 := ⟨_, rfl⟩
                  have HZ := Lib.hid hz
                  have HY := Lib.hid hy
                  have E : Rads.El wr b (off + k * 6) z := by rw [hz]; exact ((hcell k hl2).on O0.out).on HQ.out
                  have E2 : Rads.El wr d (dff + k * 6) y := by rw [hy]; exact ((dcell k hl3).on O0.out).on HQ.out
                  have c0 := E.c0
                  have c1 := E.c1
                  have c2 := E.c2
                  have c3 := E.c3
                  have c4 := E.c4
                  obtain ⟨a5_, cap5_, c5, _, i5⟩ := E.c5
                  have d0 := E2.c0
                  have d1 := E2.c1
                  have d2 := E2.c2
                  have d3 := E2.c3
                  have d4 := E2.c4
                  obtain ⟨b5_, dap5_, d5, _, j5⟩ := E2.c5
                  have g1 : Rads.Small 1048576 z := by rw [hz]; exact HA.out.2.2.2.2 k hl2
                  have g2 : Rads.Small 1048576 y := by rw [hy]; exact HB.out.2.2.2.2 k hl3
                  have hc1 := fun w' (ho : On wr w') => Rad.spec_same z.x0 z.x1 z.x2 z.x3 z.x4 (.slice a5_ z.x5.length cap5_) z.x5 y.x0 y.x1 y.x2 y.x3 y.x4 (.slice b5_ y.x5.length dap5_) y.x5 w' g1.1 g1.2 g2.1 g2.2 (i5.below ho) (j5.below ho)
                  rw [show Rad.sameR z.x0 z.x1 z.x2 z.x3 z.x4 z.x5 y.x0 y.x1 y.x2 y.x3 y.x4 y.x5 = Rads.same z y from rfl] at hc1
                  have HC1 := Lib.hid hc1
                  clear hc1 g1 g2 i5 j5
                  clear hz hy E E2 hl2 hl3 hcell dcell hab had hb hd
                  cases hs0 : Rads.same z y with
                  | false =>
                    rw [hs0] at HC1
                    have en := Lib.hid (show Rads.sameL N.f3 M.f3 = false by unfold Rads.sameL; rw [Nam.all_bad (p := Rads.sameAt N.f3 M.f3) (k := k) (by rw [← HL3.out]; exact hlt0) (by unfold Rads.sameAt; rw [← HZ.out, ← HY.out]; exact hs0), Bool.and_false])
                    have en := Lib.hid (show sameN N M = false by unfold sameN; rw [en.out]; simp)
                    clear hs0
                    go_wp2_with fail
                    refine wp_region_onh (by kernel_rfl) (by kernel_rfl) ?_
                    repeat (refine rest_step (fun K hK => ?_); go_simp; first | (refine hK _ ?_; clear hK K) | (apply Exists.intro; refine ⟨fun v1 hv1 => ?_, hK _ ?_⟩; (first | with_reducible exact rfl | with_reducible exact ⟨rfl, rfl⟩ | with_reducible exact Calls.on hv1 (HC1.out _ hv1) | (obtain ⟨hc, hf⟩ := bcell hv1; go_simp; first | with_reducible exact rfl | with_reducible exact ⟨rfl, rfl⟩ | exact rfl | exact ⟨rfl, rfl⟩)); clear hK K))
                    refine rest_nil ?_
                    intro w1 h1
                    go_wp2_with fail
                    go_ret
                    exact ⟨ret_bool en.out.symm, by repeat (first | with_reducible exact On.refl _ | with_reducible apply On.alloc | with_reducible apply On.drewN | with_reducible apply On.drew | with_reducible refine On.setCell ?_ (by (try simp) <;> omega) _ | refine On.trans ?_ h1 | refine On.trans ?_ HQ.out | refine On.trans ?_ O0.out)⟩
                  | true =>
                    rw [hs0] at HC1
                    have HU2 := Lib.hid (Nam.upto_succ HU.out (show Rads.sameAt N.f3 M.f3 k = true by unfold Rads.sameAt; rw [← HZ.out, ← HY.out]; exact hs0))
                    clear hs0
                    go_wp2_with fail
                    refine wp_region_onh (by kernel_rfl) (by kernel_rfl) ?_
                    repeat (refine rest_step (fun K hK => ?_); go_simp; first | (refine hK _ ?_; clear hK K) | (apply Exists.intro; refine ⟨fun v1 hv1 => ?_, hK _ ?_⟩; (first | with_reducible exact rfl | with_reducible exact ⟨rfl, rfl⟩ | with_reducible exact Calls.on hv1 (HC1.out _ hv1) | (obtain ⟨hc, hf⟩ := bcell hv1; go_simp; first | with_reducible exact rfl | with_reducible exact ⟨rfl, rfl⟩ | exact rfl | exact ⟨rfl, rfl⟩)); clear hK K))
                    refine rest_nil ?_
                    intro w1 h1
                    have HO1 := Lib.hid (show On w0 w1 by repeat (first | with_reducible exact On.refl _ | with_reducible apply On.alloc | with_reducible apply On.drewN | with_reducible apply On.drew | with_reducible refine On.setCell ?_ (by (try simp) <;> omega) _ | refine On.trans ?_ h1 | refine On.trans ?_ HQ.out))
                    clear h1
                    go_wp2_with fail
                    go_roundw
                    case rel => first | exact ⟨_, hlt0, by go_num, HU2.out, HO1.out⟩ | ((repeat apply Exists.intro); exact ⟨hlt0, by go_num, HU2.out, HO1.out⟩)
                    case measure => simp [intOf]; omega
                · obtain rfl : n3 = k := by omega
                  have hlti : ¬ (n3 : Int) < (n3 : Int) := by omega
                  have A3 := Lib.hid (show Rads.sameL N.f3 M.f3 = true by unfold Rads.sameL; rw [decide_eq_true (HL3.out.symm.trans HM3.out), Nam.all_all (by rw [← HL3.out]; exact HU.out)]; rfl)
                  go_wp2_with fail
                  clear xl xc yl yc hlti HU
                  go_ret
                  exact ⟨ret_bool (show true = sameN N M by unfold sameN; rw [A0.out, A1.out, A2.out, A3.out]; rfl), by repeat (first | with_reducible exact On.refl _ | with_reducible apply On.alloc | with_reducible apply On.drewN | with_reducible apply On.drew | with_reducible refine On.setCell ?_ (by (try simp) <;> omega) _ | refine On.trans ?_ HQ.out | refine On.trans ?_ O0.out)⟩
end Go.Proofs.Ytpnmodmaabhldaa.Net
