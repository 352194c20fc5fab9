/-
  For every terrain, two points and a number ProfileClutter of the program returns what the model returns, a slice of its own memory, the same at a second call, and leaves the terrain alone: the statement FnExactProfileClutter, with no condition (a terrain of more than 1048576 heights and classes is let pass by the statement itself).
-/
import Derived.Test.YtadoaenmmemjdaaRows
import Derived.Test.YtadoaenmmemjdaaPrfW
import Derived.Test.YtadoaenmmemjdaaPrfH
import Derived.Test.YtadoaenmmemjdaaOwnOff
import Derived.Test.YtadoaenmmemjdaaMark
import Derived.Test.YtadoaenmmemjdaaMark2
import Derived.Deep.DeepCutAuto
import Derived.Deep.RegionWith
import Derived.Deep.RegionHeld3
import Derived.WalkKit
import Derived.ProofKit
import Derived.OpenShut
import Derived.ShutString
import Derived.Below
import Derived.Lib.SmallJoins
import Derived.Test.YtadoaenmmemjdaaAgg
namespace Go.Proofs.Ytadoaenmmemjdaa.fnExactProfileClutter
open Go.ChangeShapes Go.WideShapes Go.ChangeAt Go.RowKit
open Go.ChangeMaps (open_string shut_string)
set_option linter.unusedVariables false

theorem own : ownKnob Try.prog.godebug = none := by kernel_rfl
theorem laidOut : laidOutB Try.prog = true := by kernel_rfl

/-- What the walk is told of a slice of integers that came in: it is nil; or it leads to a row of 'cap' cells, the numbers 'zs' (the first 'len' are its elements), each fitting its kind. -/
def IsRow (k : IntKind) (w : World) (a : Option Addr) (len cap : Nat) (zs : List Int) : Prop :=
  (a = none ∧ len = 0 ∧ cap = 0 ∧ zs = []) ∨
  ∃ x, a = some x ∧ len ≤ cap ∧ cap ≤ maxLen ∧ zs.length = cap ∧ (∀ i, i < zs.length → w.cell? (x.add i) = some (.int k (zs.getD i 0))) ∧ ∀ n ∈ zs, (Lit.int k n).wf = true

set_option maxRecDepth 100000 in
set_option maxHeartbeats 8000000 in
/-- The walk. -/
theorem walk (w : World) (x0_0 : Int) (wx0_0 : (Lit.int .i64 x0_0).wf = true) (x0_1 : Int) (wx0_1 : (Lit.int .i64 x0_1).wf = true) (x0_2 : Int) (wx0_2 : (Lit.int .i64 x0_2).wf = true) (a0_3 : Option Addr) (len0_3 cap0_3 : Nat) (z0_3 : List Int) (w0_3 : IsRow .i64 w a0_3 len0_3 cap0_3 z0_3) (a0_4 : Option Addr) (len0_4 cap0_4 : Nat) (z0_4 : List Int) (w0_4 : IsRow .i64 w a0_4 len0_4 cap0_4 z0_4) (x1 y1 : Int) (wx1 : (Lit.int .i64 x1).wf = true) (wy1 : (Lit.int .i64 y1).wf = true) (x2 y2 : Int) (wx2 : (Lit.int .i64 x2).wf = true) (wy2 : (Lit.int .i64 y2).wf = true) (a3 : Int) (w3 : (Lit.int .i64 a3).wf = true) :
    Calls Try.prog 5 #[.agg #[.int .i64 x0_0, .int .i64 x0_1, .int .i64 x0_2, .slice a0_3 len0_3 cap0_3, .slice a0_4 len0_4 cap0_4], .agg #[.int .i64 x1, .int .i64 y1], .agg #[.int .i64 x2, .int .i64 y2], .int .i64 a3] w fun e w' => e = .returned (.bool true) ∧ Below w.heap.size w w' := by
  obtain ⟨hi3, hl3⟩ := Ints.Ints.of_arg w0_3
  obtain ⟨hi4, hl4⟩ := Ints.Ints.of_arg w0_4
  have m3 : len0_3 ≤ maxLen := by
    rcases w0_3 with ⟨_, h, _, _⟩ | ⟨_, _, h1, h2, _⟩
    · rw [h]; exact Nat.zero_le _
    · exact Nat.le_trans h1 h2
  have m4 : len0_4 ≤ maxLen := by
    rcases w0_4 with ⟨_, h, _, _⟩ | ⟨_, _, h1, h2, _⟩
    · rw [h]; exact Nat.zero_le _
    · exact Nat.le_trans h1 h2
  have hz := fun w => TRec.count 1048576 x0_0 x0_1 x0_2 a0_3 len0_3 cap0_3 a0_4 len0_4 cap0_4 w (by omega) m3 m4
  rw [show (((1048576 : Nat) : Int)) = 1048576 from rfl] at hz
  clear w0_3 w0_4 wx0_0 wx0_1 wx0_2 m3 m4 wx1 wy1 wx2 wy2 w3
  rcases TRec.restL_sum [len0_3, len0_4] 1048576 with hr | ⟨r, hr, hsum⟩
  · rw [hr] at hz
    have HZ := Lib.hid hz
    clear hz hr hi3 hl3 hi4 hl4
    go_enter Try.func5, Try.ntmps5
    go_wp2_with fail
    refine (HZ.out _).mono ?_
    rintro e w1 ⟨rfl, h1⟩
    go_wp2_with fail
    go_ret
    exact ⟨rfl, by repeat (first | with_reducible exact On.refl _ | apply On.alloc | refine On.trans ?_ h1)⟩
  · rw [hr] at hz
    simp only [List.sum_cons, List.sum_nil, Nat.add_zero] at hsum
    have q3 : len0_3 ≤ 1048576 := by omega
    have q4 : len0_4 ≤ 1048576 := by omega
    have hr0 : ¬ ((r : Int) < 0) := by omega
    have HZ := Lib.hid hz
    clear hz hr
    obtain ⟨z3, hz3⟩ : ∃ z, z = z0_3.take len0_3 := ⟨_, rfl⟩
    rw [← hz3] at hi3 hl3
    clear hz3
    subst hl3
    have H3 := Lib.hid hi3
    clear hi3
    obtain ⟨z4, hz4⟩ : ∃ z, z = z0_4.take len0_4 := ⟨_, rfl⟩
    rw [← hz4] at hi4 hl4
    clear hz4
    subst hl4
    have H4 := Lib.hid hi4
    clear hi4
    have hsx : 1 + z3.length + z4.length ≤ 1048577 := by omega
    clear hsum
    have hS := fun (w' : World) (sa : Option Addr) (ca : Nat) (sb : Option Addr) (cb : Nat) (i3 : Ints.Ints w' (.slice sa z3.length ca) z3) (i4 : Ints.Ints w' (.slice sb z4.length cb) z4) => Prf.spec_ProfileClutter x0_0 x0_1 x0_2 sa sb z3.length ca z4.length cb z3 z4 x1 y1 x2 y2 a3 w' rfl rfl q3 q4 i3 i4
    have hI := fun (w' : World) (sa : Option Addr) (ca : Nat) (sb : Option Addr) (cb : Nat) (hro : z3.length ≤ ca) (i3 : Ints.Ints w' (.slice sa z3.length ca) z3) (i4 : Ints.Ints w' (.slice sb z4.length cb) z4) => Prf.impl_ProfileClutter x0_0 x0_1 x0_2 sa sb z3.length ca z4.length cb z3 z4 x1 y1 x2 y2 a3 w' rfl rfl q3 q4 i3 i4
    have hbd : (Prf.prL (fun p q => z4.getD (Terr.nearI x0_0 x0_1 p q).toNat 0) x0_0 x0_1 x0_2 x1 y1 x2 y2 a3 z3 z4).length ≤ 65 := Prf.prL_len ..
    have HT1 := Lib.hid (fun w => Point.laws_toPoint x1 y1 w)
    have HT2 := Lib.hid (fun w => Point.laws_toPoint x2 y2 w)
    generalize Prf.prL (fun p q => z4.getD (Terr.nearI x0_0 x0_1 p q).toNat 0) x0_0 x0_1 x0_2 x1 y1 x2 y2 a3 z3 z4 = rs at *
    generalize Prf.prC x0_0 x0_1 x0_2 x1 y1 x2 y2 a3 z3 z4 = co at *
    have hr : rs.length ≤ 1048576 := by omega
    have hco : (co != co) = false := bne_self_eq_false co
    obtain ⟨q, hq⟩ : ∃ q : Int, q = ((1 + rs.length : Nat) : Int) := ⟨_, rfl⟩
    have hq0 : ¬ q < 0 := by omega
    have hqq : (q != q) = false := bne_self_eq_false q
    have hM := fun (B : Nat) (v : Value) (w : World) (h : Ints.Own B w v rs) => Mark.mark B 1 v rs w hr (by decide) h
    have hH := fun (B : Nat) (v : Value) (w : World) (h : Ints.Own B w v (Mark.marks 1 rs.length)) => Mark.held B 1 rs.length v w hr (by decide) h
    rw [← hq] at hM hH
    have HM := Lib.hid hM
    have HH := Lib.hid hH
    have HS := Lib.hid hS
    have HI := Lib.hid hI
    obtain ⟨qx, hqx⟩ : ∃ q : Int, q = ((1 + z3.length + z4.length : Nat) : Int) := ⟨_, rfl⟩
    have hqx0 : ¬ qx < 0 := by omega
    have hX := fun (B : Nat) (a3 : Option Addr) (c3 : Nat) (a4 : Option Addr) (c4 : Nat) (w : World) hB h => TRec.markR B 1 x0_0 x0_1 x0_2 a3 z3.length c3 a4 z4.length c4 z3 z4 w (Nat.le_refl _) (by omega) hB h
    rw [← hqx] at hX
    have HX := Lib.hid hX
    clear hX hqx hsx hS hI hM hH hq hbd
    go_enter Try.func5, Try.ntmps5
    go_wp2_with fail
    refine (HZ.out _).mono ?_
    rintro e w1 ⟨rfl, h1⟩
    have KT := Lib.hid (show TRec.In w1 w.heap.size x0_0 x0_1 x0_2 (.slice a0_3 z3.length cap0_3) (.slice a0_4 z4.length cap0_4) from TRec.In.on ⟨by simp [go_sem], by simp [go_sem], by simp [go_sem], by simp [go_sem], by simp [go_sem]⟩ h1)
    have c0 : w1.cell? ⟨w.heap.size + 1, 0, none⟩ = some (.int .i64 x1) := (h1.cell (by simp; try omega)).trans (by simp [go_sem])
    have c1 : w1.cell? ⟨w.heap.size + 1, 1, none⟩ = some (.int .i64 y1) := (h1.cell (by simp; try omega)).trans (by simp [go_sem])
    have c2 : w1.cell? ⟨w.heap.size + 1 + 1, 0, none⟩ = some (.int .i64 x2) := (h1.cell (by simp)).trans (by simp [go_sem])
    have c3 : w1.cell? ⟨w.heap.size + 1 + 1, 1, none⟩ = some (.int .i64 y2) := (h1.cell (by simp)).trans (by simp [go_sem])
    have KP := Lib.hid (And.intro c0 (And.intro c1 (And.intro c2 c3)))
    have h01 : On w w1 := by refine On.trans ?_ h1; repeat (first | with_reducible exact On.refl _ | apply On.alloc)
    have O1 := Lib.hid h01
    have HA3 := Lib.hid (fun w' (h : On w1 w') => H3.out.below (On.trans h01 h))
    have HA4 := Lib.hid (fun w' (h : On w1 w') => H4.out.below (On.trans h01 h))
    have CP := Lib.hid (fun w' (h : On w1 w') => TRec.copyR x0_0 x0_1 x0_2 _ _ z3 z4 w' q3 q4 (HA3.out w' h) (HA4.out w' h))
    have K1 := Lib.hid (On.refl w1)
    clear h1 h01 HZ c0 c1 c2 c3
    go_upto_region 5 with fail
    go_cut [10, 11] (fun s10 s11 wx => s11 = .int .i64 co ∧ Ints.Ints wx s10 rs ∧ On w1 wx)
    case first =>
      go_region_held3 (fun w' => On w1 w' ∧ w'.cell? ⟨w.heap.size, 0, none⟩ = some (.int .i64 x0_0) ∧ w'.cell? ⟨w.heap.size, 1, none⟩ = some (.int .i64 x0_1) ∧ w'.cell? ⟨w.heap.size, 2, none⟩ = some (.int .i64 x0_2) ∧ w'.cell? ⟨w.heap.size, 3, none⟩ = some (.slice a0_3 z3.length cap0_3) ∧ w'.cell? ⟨w.heap.size, 4, none⟩ = some (.slice a0_4 z4.length cap0_4) ∧ w'.cell? ⟨w.heap.size + 1, 0, none⟩ = some (.int .i64 x1) ∧ w'.cell? ⟨w.heap.size + 1, 1, none⟩ = some (.int .i64 y1) ∧ w'.cell? ⟨w.heap.size + 1 + 1, 0, none⟩ = some (.int .i64 x2) ∧ w'.cell? ⟨w.heap.size + 1 + 1, 1, none⟩ = some (.int .i64 y2))
        ((refine Prf.held_tp KT.out KP.out ?_; repeat (first | with_reducible exact On.refl _ | with_reducible assumption | apply On.drew | (obtain ⟨hOW, _⟩ := ‹On w1 _ ∧ _›; exact hOW))))
        (first
          | (go_at_call 14; refine (CP.out _ (On.trans K1.out (by repeat (first | with_reducible exact On.refl _ | with_reducible assumption | apply On.drew | (obtain ⟨hOW, _⟩ := ‹On w1 _ ∧ _›; exact hOW))))).mono ?_; rintro e w' ⟨ta, tc, tb, td, rfl, ot, hro, hcall⟩; (have hx : On w1 w' := by refine On.trans ?_ hcall; repeat (first | with_reducible exact On.refl _ | with_reducible assumption | apply On.drew | (obtain ⟨hOW, _⟩ := ‹On w1 _ ∧ _›; exact hOW))); have i3 := ot.ints3; have i4 := ot.ints4)
          | (go_at_call 7; (first | with_reducible refine (HT1.out _).mono ?_ | with_reducible refine (HT2.out _).mono ?_); rintro e w' ⟨rfl, hcall⟩; (have hx : On w1 w' := by refine On.trans ?_ hcall; repeat (first | with_reducible exact On.refl _ | with_reducible assumption | apply On.drew | (obtain ⟨hOW, _⟩ := ‹On w1 _ ∧ _›; exact hOW))); replace i3 := i3.below hcall; replace i4 := i4.below hcall)
          | (go_at_call 21; refine (HS.out _ _ _ _ _ i3 i4).mono ?_; rintro e w' ⟨v1, rfl, hu, hcall⟩; (have hx : On w1 w' := by refine On.trans ?_ hcall; repeat (first | with_reducible exact On.refl _ | with_reducible assumption | apply On.drew | (obtain ⟨hOW, _⟩ := ‹On w1 _ ∧ _›; exact hOW)))))
      all_goals
        go_wp2_with fail
        go_meet
        exact ⟨rfl, hu, by obtain ⟨hOW, _⟩ := ‹On w1 _ ∧ _›; exact hOW⟩
    case rest =>
      obtain ⟨rfl, hu, h13⟩ := hcut
      obtain ⟨w3, hw3⟩ : ∃ w3, w3 = wc := ⟨_, rfl⟩
      subst hw3
      have U3 := Lib.hid hu
      have K3 := Lib.hid h13
      clear h13 hu
      go_upto_region 6 with fail
      go_cut [12] (fun s12 wx => ∃ gX x3 c3 x4 c4, s12 = .pointer (some ⟨gX, 0, none⟩) ∧ w3.heap.size ≤ gX ∧ TRec.In wx gX x0_0 x0_1 x0_2 (.slice x3 z3.length c3) (.slice x4 z4.length c4) ∧ TRec.OwnR w3.heap.size wx x3 z3.length c3 x4 z4.length c4 z3 z4 ∧ z3.length ≤ c3 ∧ (∀ g, gX ≤ g → TRec.Off [(x3, z3.length), (x4, z4.length)] g) ∧ On w3 wx)
      case first =>
        obtain ⟨k0, k1, k2, k3, k4⟩ := KT.out.on K3.out
        have ky := (KT.out.on K3.out).blk
        go_wp2_with fail
        refine (CP.out _ K3.out).mono ?_
        rintro e w4 ⟨x3, xc3, x4, xc4, rfl, OX0, hro, h4⟩
        have hof := fun g (hg : w4.heap.size ≤ g) => OX0.off hg
        have hs4 := h4.size
        clear k0 k1 k2 k3 k4 ky
        go_wp2_with fail
        go_meet
        have hAL : On w4 _ := On.alloc (On.refl w4) (.cells #[.int .i64 x0_0, .int .i64 x0_1, .int .i64 x0_2, .slice x3 z3.length xc3, .slice x4 z4.length xc4] 38)
        first
          | exact ⟨w4.heap.size, x3, xc3, x4, xc4, rfl, hs4, ⟨by simp [go_sem], by simp [go_sem], by simp [go_sem], by simp [go_sem], by simp [go_sem]⟩, OX0.below hAL, hro, hof, On.trans h4 hAL⟩
          | exact ⟨w4.heap.size, x3, xc3, x4, xc4, rfl, hs4, ⟨by simp [go_sem], by simp [go_sem], by simp [go_sem], by simp [go_sem], by simp [go_sem]⟩, OX0.below (by repeat (first | with_reducible exact On.refl _ | with_reducible exact Below.refl _ _ | apply On.alloc | refine On.setCell ?_ (by (try simp) <;> omega) _)), hro, hof, On.trans h4 (by repeat (first | with_reducible exact On.refl _ | with_reducible exact Below.refl _ _ | apply On.alloc | refine On.setCell ?_ (by (try simp) <;> omega) _))⟩
      case rest =>
        obtain ⟨gX, x3, xc3, x4, xc4, rfl, hgX, hPX, hOX, hro, hof, h34⟩ := hcut
        obtain ⟨w4, hw4⟩ : ∃ w4, w4 = wc := ⟨_, rfl⟩
        subst hw4
        have PX := Lib.hid hPX
        have OX := Lib.hid hOX
        have HOF := Lib.hid hof
        have HRO := Lib.hid hro
        have K4 := Lib.hid (On.trans K3.out h34)
        have J4 := Lib.hid h34
        have hgX4 := hPX.blk
        have KP4 := Lib.hid (Prf.pts_on KP.out K4.out)
        have s31 := Lib.hid (show w1.heap.size ≤ w3.heap.size from K3.out.size)
        clear hPX hOX hof h34 hro
        go_upto_region 7 with fail
        go_cut [13, 14] (fun s13 s14 wx => s14 = .int .i64 co ∧ Ints.Own w4.heap.size wx s13 rs ∧ On w4 wx)
        case first =>
          go_region_held3 (fun w' => On w4 w' ∧ w'.cell? ⟨gX, 0, none⟩ = some (.int .i64 x0_0) ∧ w'.cell? ⟨gX, 1, none⟩ = some (.int .i64 x0_1) ∧ w'.cell? ⟨gX, 2, none⟩ = some (.int .i64 x0_2) ∧ w'.cell? ⟨gX, 3, none⟩ = some (.slice x3 z3.length xc3) ∧ w'.cell? ⟨gX, 4, none⟩ = some (.slice x4 z4.length xc4) ∧ w'.cell? ⟨w.heap.size + 1, 0, none⟩ = some (.int .i64 x1) ∧ w'.cell? ⟨w.heap.size + 1, 1, none⟩ = some (.int .i64 y1) ∧ w'.cell? ⟨w.heap.size + 1 + 1, 0, none⟩ = some (.int .i64 x2) ∧ w'.cell? ⟨w.heap.size + 1 + 1, 1, none⟩ = some (.int .i64 y2))
            ((refine Prf.held_tp PX.out KP4.out ?_; repeat (first | with_reducible exact On.refl _ | with_reducible assumption | apply On.drew | (obtain ⟨hOW, _⟩ := ‹On w4 _ ∧ _›; exact hOW))))
            (first
              | (go_at_call 7; (first | with_reducible refine (HT1.out _).mono ?_ | with_reducible refine (HT2.out _).mono ?_); rintro e w' ⟨rfl, hcall⟩; (have hx : On w4 w' := by refine On.trans ?_ hcall; repeat (first | with_reducible exact On.refl _ | with_reducible assumption | apply On.drew | (obtain ⟨hOW, _⟩ := ‹On w4 _ ∧ _›; exact hOW))))
              | (go_at_call 22; refine (HI.out _ _ _ _ _ HRO.out (OX.out.ints3.below (by repeat (first | with_reducible exact On.refl _ | with_reducible assumption | apply On.drew | (obtain ⟨hOW, _⟩ := ‹On w4 _ ∧ _›; exact hOW)))) (OX.out.ints4.below (by repeat (first | with_reducible exact On.refl _ | with_reducible assumption | apply On.drew | (obtain ⟨hOW, _⟩ := ‹On w4 _ ∧ _›; exact hOW))))).mono ?_; rintro e w' ⟨v1, rfl, og, hcall⟩; (have hx : On w4 w' := by refine On.trans ?_ hcall; repeat (first | with_reducible exact On.refl _ | with_reducible assumption | apply On.drew | (obtain ⟨hOW, _⟩ := ‹On w4 _ ∧ _›; exact hOW))); have og2 := og.mono (B' := w4.heap.size) (by refine Below.size (B := w4.heap.size) (w := w4) (show On w4 _ from ?_); repeat (first | with_reducible exact On.refl _ | with_reducible assumption | apply On.drew | (obtain ⟨hOW, _⟩ := ‹On w4 _ ∧ _›; exact hOW)))))
          all_goals
            go_wp2_with fail
            go_meet
            exact ⟨rfl, og2, by obtain ⟨hOW, _⟩ := ‹On w4 _ ∧ _›; exact hOW⟩
        case rest =>
          obtain ⟨rfl, hg, h45⟩ := hcut
          obtain ⟨w5, hw5⟩ : ∃ w5, w5 = wc := ⟨_, rfl⟩
          subst hw5
          have G5 := Lib.hid hg
          have PX5 := Lib.hid (PX.out.on h45)
          have OX5 := Lib.hid (OX.out.below h45)
          have K5 := Lib.hid (On.trans K4.out h45)
          have J5 := Lib.hid (On.trans J4.out h45)
          have s45 := Lib.hid h45.size
          clear hg h45 K4 J4 PX OX KP4
          go_wp2_with fail
          refine (Ints.eq _ _ rs _ hr G5.out.ints (U3.out.below J5.out)).mono ?_
          rintro e w6 ⟨rfl, n6, hw6⟩
          have h6 : On w5 w6 := by rw [hw6]; exact Ints.below_drewN _ _
          have G6 := Lib.hid (G5.out.below h6)
          have PX6 := Lib.hid (PX5.out.on h6)
          have OX6 := Lib.hid (OX5.out.below h6)
          have K6 := Lib.hid (On.trans K5.out h6)
          have J6 := Lib.hid (On.trans J5.out h6)
          have KT6 := Lib.hid (KT.out.on K6.out)
          have s56 := Lib.hid h6.size
          clear hw6 h6 G5 PX5 OX5 K5 J5
          go_upto_region 10 with fail
          go_cut [61] (fun s wx => s = .bool false ∧ On w6 wx)
          case first =>
            go_region_held3 (fun w' => On w6 w' ∧ w'.cell? ⟨gX, 0, none⟩ = some (.int .i64 x0_0) ∧ w'.cell? ⟨gX, 1, none⟩ = some (.int .i64 x0_1) ∧ w'.cell? ⟨gX, 2, none⟩ = some (.int .i64 x0_2) ∧ w'.cell? ⟨gX, 3, none⟩ = some (.slice x3 z3.length xc3) ∧ w'.cell? ⟨gX, 4, none⟩ = some (.slice x4 z4.length xc4) ∧ w'.cell? ⟨w.heap.size, 0, none⟩ = some (.int .i64 x0_0) ∧ w'.cell? ⟨w.heap.size, 1, none⟩ = some (.int .i64 x0_1) ∧ w'.cell? ⟨w.heap.size, 2, none⟩ = some (.int .i64 x0_2) ∧ w'.cell? ⟨w.heap.size, 3, none⟩ = some (.slice a0_3 z3.length cap0_3) ∧ w'.cell? ⟨w.heap.size, 4, none⟩ = some (.slice a0_4 z4.length cap0_4))
              ((refine Prf.held_tt PX6.out KT6.out ?_; repeat (first | with_reducible exact On.refl _ | with_reducible assumption | apply On.drew | (obtain ⟨hOW, _⟩ := ‹On w6 _ ∧ _›; exact hOW))))
              (first
                | (go_at_call 14; refine (CP.out _ (On.trans K6.out (by repeat (first | with_reducible exact On.refl _ | with_reducible assumption | apply On.drew | (obtain ⟨hOW, _⟩ := ‹On w6 _ ∧ _›; exact hOW))))).mono ?_; rintro e w' ⟨ta, tc, tb, td, rfl, ot, hro, hcall⟩; (have hx : On w6 w' := by refine On.trans ?_ hcall; repeat (first | with_reducible exact On.refl _ | with_reducible assumption | apply On.drew | (obtain ⟨hOW, _⟩ := ‹On w6 _ ∧ _›; exact hOW))); have i3 := ot.ints3; have i4 := ot.ints4)
                | (go_at_call 17; refine (TRec.eq x0_0 x0_1 x0_2 _ _ _ _ z3 z4 _ q3 q4 (OX6.out.ints3.below (by repeat (first | with_reducible exact On.refl _ | with_reducible assumption | apply On.drew | (obtain ⟨hOW, _⟩ := ‹On w6 _ ∧ _›; exact hOW)))) (OX6.out.ints4.below (by repeat (first | with_reducible exact On.refl _ | with_reducible assumption | apply On.drew | (obtain ⟨hOW, _⟩ := ‹On w6 _ ∧ _›; exact hOW)))) i3 i4).mono ?_; rintro e w' ⟨rfl, hcall⟩; (have hx : On w6 w' := by refine On.trans ?_ hcall; repeat (first | with_reducible exact On.refl _ | with_reducible assumption | apply On.drew | (obtain ⟨hOW, _⟩ := ‹On w6 _ ∧ _›; exact hOW)))))
            all_goals
              go_wp2_with fail
              go_meet
              exact ⟨rfl, by obtain ⟨hOW, _⟩ := ‹On w6 _ ∧ _›; exact hOW⟩
          case rest =>
            obtain ⟨rfl, hC⟩ := hcut
            have PX8 := PX6.out.on hC
            have G8 := Lib.hid (G6.out.below hC)
            have OX8 := Lib.hid (OX6.out.below hC)
            have K8 := Lib.hid (On.trans K6.out hC)
            have J8 := Lib.hid (On.trans J6.out hC)
            have s68 := Lib.hid hC.size
            have sX := Lib.hid (show w3.heap.size ≤ _ from Nat.le_trans hgX (Nat.le_trans (Nat.le_of_lt hgX4) (Nat.le_trans s45.out (Nat.le_trans s56.out hC.size))))
            obtain ⟨b0, b1, b2, b3, b4⟩ := PX8
            clear hC G6 OX6 K6 J6 PX6 KT6
            go_wp2_with fail
            refine (HX.out w3.heap.size _ _ _ _ _ sX.out OX8.out).mono ?_
            rintro e w9 ⟨rfl, b9, -, f9, x9⟩
            have G9 := Lib.hid (G8.out.off2 b9.size f9 (fun p hp hB => x9 p hp (HOF.out _ (by omega))))
            have K9 := Lib.hid (show On w1 w9 from Below.trans K8.out (Below.mono b9 s31.out))
            have J9 := Lib.hid (show On w3 w9 from Below.trans J8.out b9)
            have s89 := Lib.hid b9.size
            clear b9 f9 x9 G8 K8 J8 OX8 b0 b1 b2 b3 b4
            go_wp2_with fail
            refine (Ints.eq _ _ rs _ hr G9.out.ints (U3.out.below J9.out)).mono ?_
            rintro e w10 ⟨rfl, n10, hw10⟩
            have h10 : On w9 w10 := by rw [hw10]; exact Ints.below_drewN _ _
            have GA := Lib.hid (G9.out.below h10)
            have KA := Lib.hid (On.trans K9.out h10)
            have JA := Lib.hid (On.trans J9.out h10)
            clear hw10 h10 G9 K9 J9
            go_wp2_with fail
            refine (HM.out _ _ _ GA.out).mono ?_
            rintro e w11 ⟨rfl, b11, om⟩
            have GB := Lib.hid om
            have KB := Lib.hid (show On w1 w11 from Below.trans KA.out (Below.mono b11 (by have := s31.out; omega)))
            have JB := Lib.hid (show On w3 w11 from Below.trans JA.out (Below.mono b11 (by omega)))
            clear b11 om GA KA JA
            go_wp2_with fail
            refine (HH.out _ _ _ GB.out).mono ?_
            rintro e w12 ⟨rfl, rfl⟩
            have KTC := Lib.hid (KT.out.on KB.out)
            have KPC := Lib.hid (Prf.pts_on KP.out KB.out)
            go_upto_region 24 with fail
            go_cut [18, 19] (fun s18 s19 wx => s19 = .int .i64 co ∧ Ints.Ints wx s18 rs ∧ On w12 wx)
            case first =>
              go_region_held3 (fun w' => On w12 w' ∧ w'.cell? ⟨w.heap.size, 0, none⟩ = some (.int .i64 x0_0) ∧ w'.cell? ⟨w.heap.size, 1, none⟩ = some (.int .i64 x0_1) ∧ w'.cell? ⟨w.heap.size, 2, none⟩ = some (.int .i64 x0_2) ∧ w'.cell? ⟨w.heap.size, 3, none⟩ = some (.slice a0_3 z3.length cap0_3) ∧ w'.cell? ⟨w.heap.size, 4, none⟩ = some (.slice a0_4 z4.length cap0_4) ∧ w'.cell? ⟨w.heap.size + 1, 0, none⟩ = some (.int .i64 x1) ∧ w'.cell? ⟨w.heap.size + 1, 1, none⟩ = some (.int .i64 y1) ∧ w'.cell? ⟨w.heap.size + 1 + 1, 0, none⟩ = some (.int .i64 x2) ∧ w'.cell? ⟨w.heap.size + 1 + 1, 1, none⟩ = some (.int .i64 y2))
                ((refine Prf.held_tp KTC.out KPC.out ?_; repeat (first | with_reducible exact On.refl _ | with_reducible assumption | apply On.drew | (obtain ⟨hOW, _⟩ := ‹On w12 _ ∧ _›; exact hOW))))
                (first
                  | (go_at_call 14; refine (CP.out _ (On.trans KB.out (by repeat (first | with_reducible exact On.refl _ | with_reducible assumption | apply On.drew | (obtain ⟨hOW, _⟩ := ‹On w12 _ ∧ _›; exact hOW))))).mono ?_; rintro e w' ⟨ta, tc, tb, td, rfl, ot, hro, hcall⟩; (have hx : On w12 w' := by refine On.trans ?_ hcall; repeat (first | with_reducible exact On.refl _ | with_reducible assumption | apply On.drew | (obtain ⟨hOW, _⟩ := ‹On w12 _ ∧ _›; exact hOW))); have i3 := ot.ints3; have i4 := ot.ints4)
                  | (go_at_call 7; (first | with_reducible refine (HT1.out _).mono ?_ | with_reducible refine (HT2.out _).mono ?_); rintro e w' ⟨rfl, hcall⟩; (have hx : On w12 w' := by refine On.trans ?_ hcall; repeat (first | with_reducible exact On.refl _ | with_reducible assumption | apply On.drew | (obtain ⟨hOW, _⟩ := ‹On w12 _ ∧ _›; exact hOW))); replace i3 := i3.below hcall; replace i4 := i4.below hcall)
                  | (go_at_call 22; refine (HI.out _ _ _ _ _ hro i3 i4).mono ?_; rintro e w' ⟨v1, rfl, og, hcall⟩; (have hx : On w12 w' := by refine On.trans ?_ hcall; repeat (first | with_reducible exact On.refl _ | with_reducible assumption | apply On.drew | (obtain ⟨hOW, _⟩ := ‹On w12 _ ∧ _›; exact hOW))); have oi := og.ints))
              all_goals
                go_wp2_with fail
                go_meet
                exact ⟨rfl, oi, by obtain ⟨hOW, _⟩ := ‹On w12 _ ∧ _›; exact hOW⟩
            case rest =>
              obtain ⟨rfl, oh, hD⟩ := hcut
              obtain ⟨w14, hw14⟩ : ∃ w14, w14 = wc := ⟨_, rfl⟩
              subst hw14
              have OH := Lib.hid oh
              have GD := Lib.hid (GB.out.below hD)
              have KD := Lib.hid (On.trans KB.out hD)
              have JD := Lib.hid (On.trans JB.out hD)
              clear oh hD
              go_wp2_with fail
              refine (Ints.eq _ _ rs _ hr OH.out (U3.out.below JD.out)).mono ?_
              rintro e w15 ⟨rfl, n15, hw15⟩
              have h15 : On w14 w15 := by rw [hw15]; exact Ints.below_drewN _ _
              have GE := Lib.hid (GD.out.below h15)
              have KE := Lib.hid (On.trans KD.out h15)
              clear hw15 h15 GD KD JD OH
              go_wp2_with fail
              refine (HH.out _ _ _ GE.out).mono ?_
              rintro e w16 ⟨rfl, rfl⟩
              go_wp2_with fail
              go_ret
              exact ⟨rfl, On.trans O1.out KE.out⟩

set_option maxRecDepth 100000 in
/-- The row's step. -/
theorem lifted (os : Os) (started : os.Started) (H : Type) (enc : TypeId × Value → H) :
    ReturnsInHanded {} Try.checked os 5 .any (Rows.fnExactProfileClutterSpec.pre6 enc Try.prog Try.f5 Rows.fnExactProfileClutterRow.domain false) (Rows.fnExactProfileClutterSpec.post enc Try.prog Try.f5 false true false false) := by
  refine returnsInHanded_of_change (C := Try.checked) own started (by kernel_rfl) Try.func5
    (ChangeSpec.witness6 (enc := enc) (C := Try.checked) false ⟨#[], #[.agg #[.int .i64 0, .int .i64 0, .int .i64 0, .slice none 0 0, .slice none 0 0], .agg #[.int .i64 0, .int .i64 0], .agg #[.int .i64 0, .int .i64 0], .int .i64 0], []⟩ 8 (by kernel_rfl) (by kernel_rfl) (by kernel_rfl) (by kernel_rfl)) ?_
  intro W base args ds gs before hval0 hW hcnd _
  have hval : ∀ (j : Nat) t v, Try.f5.params[j]? = some t → args[j]? = some v → Value.okWide Try.prog W .any base t v := hval0
  have hW' := hW
  obtain ⟨p, q, hA0, hV, rfl, hfz, hnd⟩ := hW
  have hA : DataW.TrodAll enc Try.prog W 0 (fun _ => true) true Try.f5.params.toList args.toList ds p := hA0
  rw [Try.params5] at hA hval
  obtain ⟨v0, vs0, d0, ds0, p0, q0, hargs, rfl, rfl, h0, r0⟩ := trodAll_cons hA
  obtain ⟨v1, vs1, d1, ds1, p1, q1, rfl, rfl, rfl, h1, r1⟩ := trodAll_cons r0
  obtain ⟨v2, vs2, d2, ds2, p2, q2, rfl, rfl, rfl, h2, r2⟩ := trodAll_cons r1
  obtain ⟨v3, vs3, d3, ds3, p3, q3, rfl, rfl, rfl, h3, r3⟩ := trodAll_cons r2
  obtain ⟨rfl, rfl, rfl⟩ := trodAll_nil r3
  obtain rfl : args = #[v0, v1, v2, v3] := by cases args; simp_all
  obtain ⟨rfl, rfl⟩ := trodVars_none hV
  have k0 := h0
  have lt0 : ∀ x ∈ p0, x.block < W.heap.size := by obtain ⟨m, hm⟩ := k0; exact DataW.trod_lt m _ _ _ hm
  obtain ⟨c0_0, c0_1, c0_2, c0_3, c0_4, y0_0, y0_1, y0_2, y0_3, y0_4, n0, rfl, -, -, e0_0, e0_1, e0_2, e0_3, e0_4⟩ := Agg.open_agg5 Try.underlying34 (by kernel_rfl) (by kernel_rfl) (hval 0 34 v0 rfl rfl) h0
  obtain ⟨x0_0, g0_0, -, wx0_0⟩ := DataW.trod_int Try.underlying2 e0_0
  obtain rfl : c0_0 = .int .i64 x0_0 := by simpa using g0_0
  obtain ⟨x0_1, g0_1, -, wx0_1⟩ := DataW.trod_int Try.underlying2 e0_1
  obtain rfl : c0_1 = .int .i64 x0_1 := by simpa using g0_1
  obtain ⟨x0_2, g0_2, -, wx0_2⟩ := DataW.trod_int Try.underlying2 e0_2
  obtain rfl : c0_2 = .int .i64 x0_2 := by simpa using g0_2
  obtain ⟨a0_3, len0_3, cap0_3, z0_3, hc0_3, w0_3⟩ : ∃ a len cap zs, c0_3 = .slice a len cap ∧ IsRow .i64 W a len cap zs := by
    rcases open_ints Try.underlying32 Try.underlying2 (by kernel_rfl) e0_3 with ⟨hcs, _⟩ | ⟨x, l, c, zs, hcs, _, hl, hm, hz, _, hcell, hwz⟩
    · exact ⟨none, 0, 0, [], by simpa using hcs, .inl ⟨rfl, rfl, rfl, rfl⟩⟩
    · exact ⟨some x, l, c, zs, by simpa using hcs, .inr ⟨_, rfl, hl, hm, by simpa using hz, hcell, hwz⟩⟩
  subst hc0_3
  obtain ⟨a0_4, len0_4, cap0_4, z0_4, hc0_4, w0_4⟩ : ∃ a len cap zs, c0_4 = .slice a len cap ∧ IsRow .i64 W a len cap zs := by
    rcases open_ints Try.underlying32 Try.underlying2 (by kernel_rfl) e0_4 with ⟨hcs, _⟩ | ⟨x, l, c, zs, hcs, _, hl, hm, hz, _, hcell, hwz⟩
    · exact ⟨none, 0, 0, [], by simpa using hcs, .inl ⟨rfl, rfl, rfl, rfl⟩⟩
    · exact ⟨some x, l, c, zs, by simpa using hcs, .inr ⟨_, rfl, hl, hm, by simpa using hz, hcell, hwz⟩⟩
  subst hc0_4
  obtain ⟨cx1, cy1, dx1, dy1, n1, rfl, rfl, rfl, ex1, ey1⟩ := Joins.open_agg2 Try.underlying23 (by kernel_rfl) (by kernel_rfl) (hval 1 23 v1 rfl rfl) h1
  obtain ⟨x1, gx1, rfl, wx1⟩ := DataW.trod_int Try.underlying2 ex1
  obtain ⟨y1, gy1, rfl, wy1⟩ := DataW.trod_int Try.underlying2 ey1
  obtain rfl : cx1 = .int .i64 x1 := by simpa using gx1
  obtain rfl : cy1 = .int .i64 y1 := by simpa using gy1
  obtain ⟨cx2, cy2, dx2, dy2, n2, rfl, rfl, rfl, ex2, ey2⟩ := Joins.open_agg2 Try.underlying23 (by kernel_rfl) (by kernel_rfl) (hval 2 23 v2 rfl rfl) h2
  obtain ⟨x2, gx2, rfl, wx2⟩ := DataW.trod_int Try.underlying2 ex2
  obtain ⟨y2, gy2, rfl, wy2⟩ := DataW.trod_int Try.underlying2 ey2
  obtain rfl : cx2 = .int .i64 x2 := by simpa using gx2
  obtain rfl : cy2 = .int .i64 y2 := by simpa using gy2
  obtain ⟨a3, rfl, rfl, rfl, w3⟩ := open_int Try.underlying2 (hval 3 2 v3 rfl rfl) h3
  clear hA0
  refine (walk W x0_0 wx0_0 x0_1 wx0_1 x0_2 wx0_2 a0_3 len0_3 cap0_3 z0_3 w0_3 a0_4 len0_4 cap0_4 z0_4 w0_4 x1 y1 wx1 wy1 x2 y2 wx2 wy2 a3 w3 ).mono fun e W' ⟨he, bel⟩ => ?_
  subst he
  exact ⟨_, rfl, _, _, _, [], _, [], hW', trodAll_mk1 (shut_bool Try.underlying4 _), (trodAll_cons_mk (Below.trod laidOut (by kernel_rfl) (of_decide_eq_true (by kernel_rfl)) k0 bel lt0) (trodAll_cons_mk (Joins.shut_agg2 Try.underlying23 (by kernel_rfl) (by kernel_rfl) (Joins.field_of_Trod (shut_int Try.underlying2 wx1) rfl) (Joins.field_of_Trod (shut_int Try.underlying2 wy1) rfl)) (trodAll_cons_mk (Joins.shut_agg2 Try.underlying23 (by kernel_rfl) (by kernel_rfl) (Joins.field_of_Trod (shut_int Try.underlying2 wx2) rfl) (Joins.field_of_Trod (shut_int Try.underlying2 wy2) rfl)) (trodAll_cons_mk (shut_int Try.underlying2 w3) trodAll_mk0)))), rfl, bel.frame _, fun h => by cases h⟩

theorem proved : Rows.FnExactProfileClutterSaid :=
  OpenClaim.holds_of_wide 5 Try.f5 rfl rfl rfl rfl rfl rfl rfl ⟨rfl, rfl, rfl, rfl, rfl⟩ rfl rfl rfl rfl rfl (by kernel_rfl) Try.func5 (by kernel_rfl)
    (of_decide_eq_true (by kernel_rfl)) (by unfold Func.isWrapper; first | (rw [if_pos (by decide +kernel)]; kernel_rfl) | (rw [if_neg (by decide +kernel)]; exact ⟨rfl, rfl⟩))
    (fun os started H enc _ => lifted os started H enc)
end Go.Proofs.Ytadoaenmmemjdaa.fnExactProfileClutter
