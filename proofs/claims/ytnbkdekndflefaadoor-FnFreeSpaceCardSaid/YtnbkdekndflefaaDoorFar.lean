
/-
  The greatest distance for a loss and for a field, in the model and in the program. Condition: the program's variable of spans holds what its text lays.
-/
import Derived.Test.YtnbkdekndflefaaDoorFree
import Derived.Test.YtnbkdekndflefaaDoorOnH
import Derived.Test.YtnbkdekndflefaaDoorLead
import Derived.Handy
namespace Go.Proofs.YtnbkdekndflefaaDoor.Far
open Go.RowKit
open Plain
open Span (SpanG)
open Free (okV okC ret_ii)

/-- Two cells that a closure holds on to. -/
def Clo (w : World) (g : Nat) (x y : Int) : Prop := w.cell? ⟨g, 0, none⟩ = some (.int .i64 x) ∧ w.cell? ⟨g + 1, 0, none⟩ = some (.int .i64 y)
theorem Clo.on {w w' : World} {g : Nat} {x y : Int} (h : Clo w g x y) (ho : On w w') : Clo w' g x y :=
  ⟨(ho.cell (World.block_lt_of_cell? w _ h.1)).trans h.1, (ho.cell (World.block_lt_of_cell? w _ h.2)).trans h.2⟩
set_option maxRecDepth 100000 in
set_option maxHeartbeats 2000000 in
theorem search (c1 : Value) (p : Nat → Bool) (n : Nat) (w : World) (hn : n ≤ 1048576) (hu : Mono p n)
    (hc : ∀ k, k < n → ∀ w1, On w w1 → Calls Tryd.prog 65 #[.int .i64 k, c1] w1 fun e w' => e = .returned (.bool (!p k)) ∧ On w1 w') :
    Calls Tryd.prog 64 #[.int .i64 n, .func (Fn.func 65) #[] #[c1]] w fun e w' => e = .returned (.int .i64 (leadN p n : Nat)) ∧ On w w' := by
  have HCL := Lib.hid hc
  have HU := Lib.hid hu
  have HB0 := Lib.hid (sb_start p n)
  clear hc hu
  go_enter Tryd.func64, Tryd.ntmps64
  go_wp2_with fail
  go_loopw [5, 6] (fun x y wr => ∃ i j : Nat, x = .int .i64 i ∧ y = .int .i64 j ∧ j ≤ n ∧ i ≤ j ∧ Sb p n i j ∧ On w wr) (fun x y _ => (intOf y - intOf x).toNat)
  case atStart => exact ⟨0, n, rfl, rfl, Nat.le_refl _, Nat.zero_le _, HB0.out, On.refl _⟩
  case round =>
    obtain ⟨i, j, rfl, rfl, hj, hij, hs, ho⟩ := hrel
    have HS := Lib.hid hs
    clear hs
    by_cases hlt : i < j
    · obtain ⟨m, hm⟩ : ∃ m, m = (i + j) / 2 := ⟨_, rfl⟩
      have m1 : i ≤ m := by omega
      have m2 : m < j := by omega
      have hmi : ((i : Int) + j) / 2 = m := by omega
      have HMI := Lib.hid hmi
      clear hm hmi
      cases hq : p m with
      | false =>
        have HB := Lib.hid (sb_hi HS.out m1 m2 hq)
        have HM := Lib.hid (HCL.out m (by omega) _ ho)
        rw [hq] at HM
        clear hq
        go_wp2_with fail
        rw [HMI.out]
        refine HM.out.mono ?_
        rintro x w1 ⟨rfl, h1⟩
        go_wp2_with fail
        go_roundw
        case rel => exact ⟨i, m, rfl, by rw [← HMI.out], by omega, by omega, HB.out, ho.trans h1⟩
        case measure => simp [intOf]; omega
      | true =>
        have HB := Lib.hid (sb_lo HU.out HS.out m2 hq)
        have HM := Lib.hid (HCL.out m (by omega) _ ho)
        rw [hq] at HM
        clear hq
        go_wp2_with fail
        rw [HMI.out]
        refine HM.out.mono ?_
        rintro x w1 ⟨rfl, h1⟩
        go_wp2_with fail
        go_roundw
        case rel => exact ⟨m + 1, j, by go_num, rfl, by omega, by omega, HB.out, ho.trans h1⟩
        case measure => simp [intOf]; omega
    · obtain rfl : i = j := by omega
      have en := Lib.hid (sb_end HS.out)
      go_wp2_with fail
      go_ret
      exact ⟨ret_int (by rw [en.out]), ho⟩
set_option maxHeartbeats 1000000 in
theorem clo_Loss (d f z : Int) (g : Nat) (w : World) (f0 : 1 ≤ f) (f1 : f ≤ 100000000) (d0 : 1 ≤ d) (d1 : d ≤ 283000) (hp : Clo w g f z) :
    Calls Tryd.prog 50 #[.int .i64 d, .pointer (some ⟨g, 0, none⟩), .pointer (some ⟨g + 1, 0, none⟩)] w fun e w' => e = .returned (.bool (decide (freeV f d ≤ z))) ∧ On w w' := by
  obtain ⟨k0, k1⟩ := hp
  have hg : g < w.heap.size := World.block_lt_of_cell? w _ k0
  have hg1 : g + 1 < w.heap.size := World.block_lt_of_cell? w _ k1
  have HL := Lib.hid (fun w' => Free.impl_loss f d w' f0 f1 d0 d1)
  go_enter Tryd.func50, Tryd.ntmps50
  go_wp2_with fail
  refine wp_region_onh (by kernel_rfl) (by kernel_rfl) ?_
  repeat (refine rest_step (fun K hK => ?_); go_simp; first | (refine hK _ ?_; clear hK K) | (apply Exists.intro; refine ⟨fun v1 hv1 => ?_, hK _ ?_⟩; (first | with_reducible exact rfl | with_reducible exact ⟨rfl, rfl⟩ | with_reducible exact Calls.on hv1 (HL.out _) | (obtain ⟨hc, hf⟩ := bcell hv1; go_simp; first | with_reducible exact rfl | with_reducible exact ⟨rfl, rfl⟩ | exact rfl | exact ⟨rfl, rfl⟩)); clear hK K))
  refine rest_nil ?_
  intro w5 h5
  go_wp2_with fail
  go_ret
  exact ⟨rfl, h5⟩
set_option maxHeartbeats 1000000 in
theorem far1_Loss (h g k : Nat) (f z : Int) (w : World) (f0 : 1 ≤ f) (f1 : f ≤ 100000000) (hk : k < 283000) (hp : Clo w g f z) (hh : w.cell? ⟨h, 0, none⟩ = some (.func (Fn.func 50) #[] #[.pointer (some ⟨g, 0, none⟩), .pointer (some ⟨g + 1, 0, none⟩)])) :
    Calls Tryd.prog 65 #[.int .i64 k, .pointer (some ⟨h, 0, none⟩)] w fun e w' => e = .returned (.bool (!(lossP f z) k)) ∧ On w w' := by
  have HC := Lib.hid (fun w' (ho : On w w') => clo_Loss ((k : Int) + 1) f z g w' f0 f1 (by omega) (by omega) (hp.on ho))
  go_enter Tryd.func65, Tryd.ntmps65
  go_wp2_with fail
  refine (HC.out _ (On.refl _)).mono ?_
  rintro e w1 ⟨rfl, h1⟩
  go_wp2_with fail
  go_ret
  exact ⟨rfl, h1⟩
set_option maxHeartbeats 1000000 in
theorem farthest_Loss (g : Nat) (f z : Int) (w : World) (f0 : 1 ≤ f) (f1 : f ≤ 100000000) (hp : Clo w g f z) :
    Calls Tryd.prog 49 #[.func (Fn.func 50) #[] #[.pointer (some ⟨g, 0, none⟩), .pointer (some ⟨g + 1, 0, none⟩)]] w fun e w' => e = .returned (.tuple #[.int .i64 (farV (lossP f z)), .int .i64 (farC (lossP f z))]) ∧ On w w' := by
  have HP := Lib.hid hp
  have HSE := Lib.hid (fun w1 (ho : On w w1) hh => search (.pointer (some ⟨w.heap.size, 0, none⟩)) (lossP f z) 283000 w1 (by omega) (lossP_mono f z 283000)
    (fun k hk w2 h2 => far1_Loss w.heap.size g k f z w2 f0 f1 hk (hp.on (ho.trans h2)) ((h2.cell (World.block_lt_of_cell? w1 _ hh)).trans hh)))
  obtain ⟨k, hk⟩ : ∃ k, leadN (lossP f z) 283000 = k := ⟨_, rfl⟩
  rw [hk] at HSE
  have hle : k ≤ 283000 := by rw [← hk]; exact lead_le _ _
  by_cases h0 : k = 0
  · subst h0
    have en := Lib.hid (far_none hk)
    clear hk hp
    go_enter Tryd.func49, Tryd.ntmps49
    go_wp2_with fail
    refine (HSE.out _ (by repeat (first | with_reducible exact On.refl _ | apply On.alloc)) (by simp [go_sem])).mono ?_
    rintro e w1 ⟨rfl, h1⟩
    go_wp2_with fail
    go_ret2
    exact ⟨ret_ii en.out.1.symm en.out.2.symm, by refine On.trans ?_ h1; repeat (first | with_reducible exact On.refl _ | apply On.alloc)⟩
  · have en := Lib.hid (far_some hk h0)
    have hb : ((k : Int) == 0) = false := beq_eq_false_iff_ne.2 (by omega)
    clear hk hp
    go_enter Tryd.func49, Tryd.ntmps49
    go_wp2_with fail
    refine (HSE.out _ (by repeat (first | with_reducible exact On.refl _ | apply On.alloc)) (by simp [go_sem])).mono ?_
    rintro e w1 ⟨rfl, h1⟩
    go_wp2_with fail
    go_ret2
    exact ⟨ret_ii en.out.1.symm en.out.2.symm, by refine On.trans ?_ h1; repeat (first | with_reducible exact On.refl _ | apply On.alloc)⟩
/-- RangeOfLoss. -/
def okLoss (f z : Int) : Bool := inB f 1 100000000 && inB z 0 300000
def valLoss (f z : Int) : Int := if okLoss f z = true then farV (lossP f z) else 0
def codeLoss (f z : Int) : Int := if okLoss f z = true then farC (lossP f z) else 2
theorem no_Loss {f z : Int} (h : okLoss f z = false) : valLoss f z = 0 ∧ codeLoss f z = 2 := by unfold valLoss codeLoss; rw [h]; exact ⟨rfl, rfl⟩
theorem yes_Loss {f z : Int} (h : okLoss f z = true) : valLoss f z = farV (lossP f z) ∧ codeLoss f z = farC (lossP f z) := by unfold valLoss codeLoss; rw [h]; exact ⟨rfl, rfl⟩
set_option maxHeartbeats 2000000 in
theorem impl_RangeOfLoss (f z : Int) (w : World) (hg : SpanG w) :
    Calls Tryd.prog 22 #[.int .i64 f, .int .i64 z] w fun e w' => e = .returned (.tuple #[.int .i64 (valLoss f z), .int .i64 (codeLoss f z)]) ∧ On w w' := by
  have HG := Lib.hid hg
  cases h0 : inB f 1 100000000 with
  | false =>
    have en := Lib.hid (no_Loss (show okLoss f z = false by unfold okLoss; rw [h0]; rfl))
    go_enter Tryd.func22, Tryd.ntmps22
    go_wp2_with fail
    refine (Span.allows1_0 f _ _ (by simp [go_sem]) (HG.out.on (by repeat (first | with_reducible exact On.refl _ | apply On.alloc)))).mono ?_
    rintro e w1 ⟨rfl, k1⟩
    have HO1 := Lib.hid (show On w w1 by refine On.trans ?_ k1; repeat (first | with_reducible exact On.refl _ | apply On.alloc))
    clear k1
    rw [h0]
    go_wp2_with fail
    go_ret2
    exact ⟨ret_ii en.out.1.symm en.out.2.symm, HO1.out⟩
  | true =>
    obtain ⟨f0, f1⟩ := of_inB h0
    cases h1 : inB z 0 300000 with
    | false =>
      have en := Lib.hid (no_Loss (show okLoss f z = false by unfold okLoss; rw [h0, h1]; rfl))
      go_enter Tryd.func22, Tryd.ntmps22
      go_wp2_with fail
      refine (Span.allows1_0 f _ _ (by simp [go_sem]) (HG.out.on (by repeat (first | with_reducible exact On.refl _ | apply On.alloc)))).mono ?_
      rintro e w1 ⟨rfl, k1⟩
      have HO1 := Lib.hid (show On w w1 by refine On.trans ?_ k1; repeat (first | with_reducible exact On.refl _ | apply On.alloc))
      obtain ⟨p0, p1⟩ : Clo w1 w.heap.size f z := Clo.on ⟨by simp [go_sem], by simp [go_sem]⟩ k1
      clear k1
      rw [h0]
      go_wp2_with fail
      refine (Span.allows1_4 z _ _ (by simp [go_sem]) (HG.out.on (by repeat (first | with_reducible exact HO1.out | apply On.alloc)))).mono ?_
      rintro e w2 ⟨rfl, k2⟩
      have HO2 := Lib.hid (show On w w2 by refine On.trans ?_ k2; repeat (first | with_reducible exact HO1.out | apply On.alloc))
      clear k2
      rw [h1]
      go_wp2_with fail
      go_ret2
      exact ⟨ret_ii en.out.1.symm en.out.2.symm, HO2.out⟩
    | true =>
      have en := Lib.hid (yes_Loss (show okLoss f z = true by unfold okLoss; rw [h0, h1]; rfl))
      have HF := Lib.hid (fun g w' hp => farthest_Loss g f z w' f0 f1 hp)
      go_enter Tryd.func22, Tryd.ntmps22
      go_wp2_with fail
      refine (Span.allows1_0 f _ _ (by simp [go_sem]) (HG.out.on (by repeat (first | with_reducible exact On.refl _ | apply On.alloc)))).mono ?_
      rintro e w1 ⟨rfl, k1⟩
      have HO1 := Lib.hid (show On w w1 by refine On.trans ?_ k1; repeat (first | with_reducible exact On.refl _ | apply On.alloc))
      obtain ⟨p0, p1⟩ : Clo w1 w.heap.size f z := Clo.on ⟨by simp [go_sem], by simp [go_sem]⟩ k1
      have HP1 := Lib.hid (show Clo w1 w.heap.size f z from ⟨p0, p1⟩)
      clear k1
      rw [h0]
      go_wp2_with fail
      refine (Span.allows1_4 z _ _ (by simp [go_sem]) (HG.out.on (by repeat (first | with_reducible exact HO1.out | apply On.alloc)))).mono ?_
      rintro e w2 ⟨rfl, k2⟩
      have HP2 := Lib.hid (HP1.out.on (show On w1 w2 by refine On.trans ?_ k2; repeat (first | with_reducible exact On.refl _ | apply On.alloc)))
      have HO2 := Lib.hid (show On w w2 by refine On.trans ?_ k2; repeat (first | with_reducible exact HO1.out | apply On.alloc))
      clear k2 p0 p1
      rw [h1]
      go_wp2_with fail
      refine (HF.out _ _ HP2.out).mono ?_
      rintro e w3 ⟨rfl, k3⟩
      go_wp2_with fail
      go_ret2
      exact ⟨ret_ii en.out.1.symm en.out.2.symm, HO2.out.trans k3⟩
set_option maxHeartbeats 2000000 in
theorem spec_RangeOfLoss (f z : Int) (w : World) :
    Calls Tryd.prog 21 #[.int .i64 f, .int .i64 z] w fun e w' => e = .returned (.tuple #[.int .i64 (valLoss f z), .int .i64 (codeLoss f z)]) ∧ w = w' := by
  cases h0 : inB f 1 100000000 with
  | false =>
    have en := Lib.hid (no_Loss (show okLoss f z = false by unfold okLoss; rw [h0]; rfl))
    go_enter Tryd.func21, Tryd.ntmps21
    go_wp2_with (first | (go_at_call 38; refine (Free.spec_l09Frequency _ _).mono ?_; rintro e w' ⟨rfl, rfl⟩) | (go_at_call 48; refine (Arith.l00In _ _ _ _).mono ?_; rintro e w' ⟨rfl, rfl⟩))
    go_ret2
    exact ⟨ret_ii en.out.1.symm en.out.2.symm, rfl⟩
  | true =>
    obtain ⟨f0, f1⟩ := of_inB h0
    cases h1 : inB z 0 300000 with
    | false =>
      have en := Lib.hid (no_Loss (show okLoss f z = false by unfold okLoss; rw [h0, h1]; rfl))
      go_enter Tryd.func21, Tryd.ntmps21
      go_wp2_with (first | (go_at_call 38; refine (Free.spec_l09Frequency _ _).mono ?_; rintro e w' ⟨rfl, rfl⟩) | (go_at_call 48; refine (Arith.l00In _ _ _ _).mono ?_; rintro e w' ⟨rfl, rfl⟩))
      go_ret2
      exact ⟨ret_ii en.out.1.symm en.out.2.symm, rfl⟩
    | true =>
      have en := Lib.hid (yes_Loss (show okLoss f z = true by unfold okLoss; rw [h0, h1]; rfl))
      have HU := Lib.hid (lossP_mono f z 283000)
      have HB0 := Lib.hid (sb_start (lossP f z) 283000)
      have HL := Lib.hid (fun d w d0 d1 => Free.spec_loss f d w f0 f1 d0 d1)
      go_enter Tryd.func21, Tryd.ntmps21
      go_wp2_with (first | (go_at_call 38; refine (Free.spec_l09Frequency _ _).mono ?_; rintro e w' ⟨rfl, rfl⟩) | (go_at_call 48; refine (Arith.l00In _ _ _ _).mono ?_; rintro e w' ⟨rfl, rfl⟩))
      go_loop [6, 7] (fun x y => ∃ i j : Nat, x = .int .i64 i ∧ y = .int .i64 j ∧ j ≤ 283000 ∧ i ≤ j ∧ Sb (lossP f z) 283000 i j) (fun x y => (intOf y - intOf x).toNat)
      case atStart => exact ⟨0, 283000, rfl, rfl, Nat.le_refl _, Nat.zero_le _, HB0.out⟩
      case round =>
        obtain ⟨i, j, rfl, rfl, hj, hij, hs⟩ := hrel
        have HS := Lib.hid hs
        clear hs
        by_cases hlt : i < j
        · obtain ⟨m, hm⟩ : ∃ m, m = (i + j - 1) / 2 := ⟨_, rfl⟩
          have m1 : i ≤ m := by omega
          have m2 : m < j := by omega
          have hmi : ((i : Int) + j + 1) / 2 = m + 1 := by omega
          have hmi' : Int.tdiv ((i : Int) + j + 1) 2 = m + 1 := by rw [Int.tdiv_eq_ediv_of_nonneg (by omega)]; exact hmi
          have HMI := Lib.hid hmi'
          have HMI2 := Lib.hid hmi
          clear hm hmi hmi'
          by_cases hq : freeV f ((m : Int) + 1) ≤ z
          · have HB := Lib.hid (sb_lo HU.out HS.out m2 (decide_eq_true hq))
            go_wp2_with fail
            (first | rw [HMI.out] | rw [HMI2.out])
            refine (HL.out ((m : Int) + 1) _ (by omega) (by omega)).mono ?_
            rintro e w1 ⟨rfl, rfl⟩
            go_wp2_with fail
            go_round
            case rel => exact ⟨m + 1, j, by go_num, rfl, hj, by omega, HB.out⟩
            case measure => simp [intOf]; omega
          · have HB := Lib.hid (sb_hi HS.out m1 m2 (decide_eq_false hq))
            go_wp2_with fail
            (first | rw [HMI.out] | rw [HMI2.out])
            refine (HL.out ((m : Int) + 1) _ (by omega) (by omega)).mono ?_
            rintro e w1 ⟨rfl, rfl⟩
            go_wp2_with fail
            go_round
            case rel => exact ⟨i, m, rfl, by go_num, by omega, m1, HB.out⟩
            case measure => simp [intOf]; omega
        · obtain rfl : i = j := by omega
          have hk := sb_end HS.out
          by_cases i0 : i = 0
          · subst i0
            have ef := Lib.hid (far_none hk)
            clear hk
            go_wp2_with fail
            go_ret2
            exact ⟨ret_ii (en.out.1.trans ef.out.1).symm (en.out.2.trans ef.out.2).symm, rfl⟩
          · have ef := Lib.hid (far_some hk i0)
            have hb : ((i : Int) == 0) = false := beq_eq_false_iff_ne.2 (by omega)
            clear hk
            go_wp2_with fail
            go_ret2
            exact ⟨ret_ii (en.out.1.trans ef.out.1).symm (en.out.2.trans ef.out.2).symm, rfl⟩
set_option maxHeartbeats 1000000 in
theorem clo_Field (d v z : Int) (g : Nat) (w : World) (v0 : (-300000) ≤ v) (v1 : v ≤ 300000) (d0 : 1 ≤ d) (d1 : d ≤ 283000) (hp : Clo w g v z) :
    Calls Tryd.prog 51 #[.int .i64 d, .pointer (some ⟨g, 0, none⟩), .pointer (some ⟨g + 1, 0, none⟩)] w fun e w' => e = .returned (.bool (decide (z ≤ fieldV v d))) ∧ On w w' := by
  obtain ⟨k0, k1⟩ := hp
  have hg : g < w.heap.size := World.block_lt_of_cell? w _ k0
  have hg1 : g + 1 < w.heap.size := World.block_lt_of_cell? w _ k1
  have HL := Lib.hid (fun w' => Free.impl_field v d w' v0 v1 d0 d1)
  go_enter Tryd.func51, Tryd.ntmps51
  go_wp2_with fail
  refine wp_region_onh (by kernel_rfl) (by kernel_rfl) ?_
  repeat (refine rest_step (fun K hK => ?_); go_simp; first | (refine hK _ ?_; clear hK K) | (apply Exists.intro; refine ⟨fun v1 hv1 => ?_, hK _ ?_⟩; (first | with_reducible exact rfl | with_reducible exact ⟨rfl, rfl⟩ | with_reducible exact Calls.on hv1 (HL.out _) | (obtain ⟨hc, hf⟩ := bcell hv1; go_simp; first | with_reducible exact rfl | with_reducible exact ⟨rfl, rfl⟩ | exact rfl | exact ⟨rfl, rfl⟩)); clear hK K))
  refine rest_nil ?_
  intro w5 h5
  go_wp2_with fail
  go_ret
  exact ⟨rfl, h5⟩
set_option maxHeartbeats 1000000 in
theorem far1_Field (h g k : Nat) (v z : Int) (w : World) (v0 : (-300000) ≤ v) (v1 : v ≤ 300000) (hk : k < 283000) (hp : Clo w g v z) (hh : w.cell? ⟨h, 0, none⟩ = some (.func (Fn.func 51) #[] #[.pointer (some ⟨g, 0, none⟩), .pointer (some ⟨g + 1, 0, none⟩)])) :
    Calls Tryd.prog 65 #[.int .i64 k, .pointer (some ⟨h, 0, none⟩)] w fun e w' => e = .returned (.bool (!(fieldP v z) k)) ∧ On w w' := by
  have HC := Lib.hid (fun w' (ho : On w w') => clo_Field ((k : Int) + 1) v z g w' v0 v1 (by omega) (by omega) (hp.on ho))
  go_enter Tryd.func65, Tryd.ntmps65
  go_wp2_with fail
  refine (HC.out _ (On.refl _)).mono ?_
  rintro e w1 ⟨rfl, h1⟩
  go_wp2_with fail
  go_ret
  exact ⟨rfl, h1⟩
set_option maxHeartbeats 1000000 in
theorem farthest_Field (g : Nat) (v z : Int) (w : World) (v0 : (-300000) ≤ v) (v1 : v ≤ 300000) (hp : Clo w g v z) :
    Calls Tryd.prog 49 #[.func (Fn.func 51) #[] #[.pointer (some ⟨g, 0, none⟩), .pointer (some ⟨g + 1, 0, none⟩)]] w fun e w' => e = .returned (.tuple #[.int .i64 (farV (fieldP v z)), .int .i64 (farC (fieldP v z))]) ∧ On w w' := by
  have HP := Lib.hid hp
  have HSE := Lib.hid (fun w1 (ho : On w w1) hh => search (.pointer (some ⟨w.heap.size, 0, none⟩)) (fieldP v z) 283000 w1 (by omega) (fieldP_mono v z 283000)
    (fun k hk w2 h2 => far1_Field w.heap.size g k v z w2 v0 v1 hk (hp.on (ho.trans h2)) ((h2.cell (World.block_lt_of_cell? w1 _ hh)).trans hh)))
  obtain ⟨k, hk⟩ : ∃ k, leadN (fieldP v z) 283000 = k := ⟨_, rfl⟩
  rw [hk] at HSE
  have hle : k ≤ 283000 := by rw [← hk]; exact lead_le _ _
  by_cases h0 : k = 0
  · subst h0
    have en := Lib.hid (far_none hk)
    clear hk hp
    go_enter Tryd.func49, Tryd.ntmps49
    go_wp2_with fail
    refine (HSE.out _ (by repeat (first | with_reducible exact On.refl _ | apply On.alloc)) (by simp [go_sem])).mono ?_
    rintro e w1 ⟨rfl, h1⟩
    go_wp2_with fail
    go_ret2
    exact ⟨ret_ii en.out.1.symm en.out.2.symm, by refine On.trans ?_ h1; repeat (first | with_reducible exact On.refl _ | apply On.alloc)⟩
  · have en := Lib.hid (far_some hk h0)
    have hb : ((k : Int) == 0) = false := beq_eq_false_iff_ne.2 (by omega)
    clear hk hp
    go_enter Tryd.func49, Tryd.ntmps49
    go_wp2_with fail
    refine (HSE.out _ (by repeat (first | with_reducible exact On.refl _ | apply On.alloc)) (by simp [go_sem])).mono ?_
    rintro e w1 ⟨rfl, h1⟩
    go_wp2_with fail
    go_ret2
    exact ⟨ret_ii en.out.1.symm en.out.2.symm, by refine On.trans ?_ h1; repeat (first | with_reducible exact On.refl _ | apply On.alloc)⟩
/-- RangeOfField. -/
def okField (v z : Int) : Bool := inB v (-300000) 300000 && inB z (-300000) 300000
def valField (v z : Int) : Int := if okField v z = true then farV (fieldP v z) else 0
def codeField (v z : Int) : Int := if okField v z = true then farC (fieldP v z) else 2
theorem no_Field {v z : Int} (h : okField v z = false) : valField v z = 0 ∧ codeField v z = 2 := by unfold valField codeField; rw [h]; exact ⟨rfl, rfl⟩
theorem yes_Field {v z : Int} (h : okField v z = true) : valField v z = farV (fieldP v z) ∧ codeField v z = farC (fieldP v z) := by unfold valField codeField; rw [h]; exact ⟨rfl, rfl⟩
set_option maxHeartbeats 2000000 in
theorem impl_RangeOfField (v z : Int) (w : World) (hg : SpanG w) :
    Calls Tryd.prog 24 #[.int .i64 v, .int .i64 z] w fun e w' => e = .returned (.tuple #[.int .i64 (valField v z), .int .i64 (codeField v z)]) ∧ On w w' := by
  have HG := Lib.hid hg
  cases h0 : inB v (-300000) 300000 with
  | false =>
    have en := Lib.hid (no_Field (show okField v z = false by unfold okField; rw [h0]; rfl))
    go_enter Tryd.func24, Tryd.ntmps24
    go_wp2_with fail
    refine (Span.allows1_2 v _ _ (by simp [go_sem]) (HG.out.on (by repeat (first | with_reducible exact On.refl _ | apply On.alloc)))).mono ?_
    rintro e w1 ⟨rfl, k1⟩
    have HO1 := Lib.hid (show On w w1 by refine On.trans ?_ k1; repeat (first | with_reducible exact On.refl _ | apply On.alloc))
    clear k1
    rw [h0]
    go_wp2_with fail
    go_ret2
    exact ⟨ret_ii en.out.1.symm en.out.2.symm, HO1.out⟩
  | true =>
    obtain ⟨v0, v1⟩ := of_inB h0
    cases h1 : inB z (-300000) 300000 with
    | false =>
      have en := Lib.hid (no_Field (show okField v z = false by unfold okField; rw [h0, h1]; rfl))
      go_enter Tryd.func24, Tryd.ntmps24
      go_wp2_with fail
      refine (Span.allows1_2 v _ _ (by simp [go_sem]) (HG.out.on (by repeat (first | with_reducible exact On.refl _ | apply On.alloc)))).mono ?_
      rintro e w1 ⟨rfl, k1⟩
      have HO1 := Lib.hid (show On w w1 by refine On.trans ?_ k1; repeat (first | with_reducible exact On.refl _ | apply On.alloc))
      obtain ⟨p0, p1⟩ : Clo w1 w.heap.size v z := Clo.on ⟨by simp [go_sem], by simp [go_sem]⟩ k1
      clear k1
      rw [h0]
      go_wp2_with fail
      refine (Span.allows1_3 z _ _ (by simp [go_sem]) (HG.out.on (by repeat (first | with_reducible exact HO1.out | apply On.alloc)))).mono ?_
      rintro e w2 ⟨rfl, k2⟩
      have HO2 := Lib.hid (show On w w2 by refine On.trans ?_ k2; repeat (first | with_reducible exact HO1.out | apply On.alloc))
      clear k2
      rw [h1]
      go_wp2_with fail
      go_ret2
      exact ⟨ret_ii en.out.1.symm en.out.2.symm, HO2.out⟩
    | true =>
      have en := Lib.hid (yes_Field (show okField v z = true by unfold okField; rw [h0, h1]; rfl))
      have HF := Lib.hid (fun g w' hp => farthest_Field g v z w' v0 v1 hp)
      go_enter Tryd.func24, Tryd.ntmps24
      go_wp2_with fail
      refine (Span.allows1_2 v _ _ (by simp [go_sem]) (HG.out.on (by repeat (first | with_reducible exact On.refl _ | apply On.alloc)))).mono ?_
      rintro e w1 ⟨rfl, k1⟩
      have HO1 := Lib.hid (show On w w1 by refine On.trans ?_ k1; repeat (first | with_reducible exact On.refl _ | apply On.alloc))
      obtain ⟨p0, p1⟩ : Clo w1 w.heap.size v z := Clo.on ⟨by simp [go_sem], by simp [go_sem]⟩ k1
      have HP1 := Lib.hid (show Clo w1 w.heap.size v z from ⟨p0, p1⟩)
      clear k1
      rw [h0]
      go_wp2_with fail
      refine (Span.allows1_3 z _ _ (by simp [go_sem]) (HG.out.on (by repeat (first | with_reducible exact HO1.out | apply On.alloc)))).mono ?_
      rintro e w2 ⟨rfl, k2⟩
      have HP2 := Lib.hid (HP1.out.on (show On w1 w2 by refine On.trans ?_ k2; repeat (first | with_reducible exact On.refl _ | apply On.alloc)))
      have HO2 := Lib.hid (show On w w2 by refine On.trans ?_ k2; repeat (first | with_reducible exact HO1.out | apply On.alloc))
      clear k2 p0 p1
      rw [h1]
      go_wp2_with fail
      refine (HF.out _ _ HP2.out).mono ?_
      rintro e w3 ⟨rfl, k3⟩
      go_wp2_with fail
      go_ret2
      exact ⟨ret_ii en.out.1.symm en.out.2.symm, HO2.out.trans k3⟩
set_option maxHeartbeats 2000000 in
theorem spec_RangeOfField (v z : Int) (w : World) :
    Calls Tryd.prog 23 #[.int .i64 v, .int .i64 z] w fun e w' => e = .returned (.tuple #[.int .i64 (valField v z), .int .i64 (codeField v z)]) ∧ w = w' := by
  cases h0 : inB v (-300000) 300000 with
  | false =>
    have en := Lib.hid (no_Field (show okField v z = false by unfold okField; rw [h0]; rfl))
    go_enter Tryd.func23, Tryd.ntmps23
    go_wp2_with (go_at_call 43; refine (Free.spec_l02Level _ _).mono ?_; rintro e w' ⟨rfl, rfl⟩)
    go_ret2
    exact ⟨ret_ii en.out.1.symm en.out.2.symm, rfl⟩
  | true =>
    obtain ⟨v0, v1⟩ := of_inB h0
    cases h1 : inB z (-300000) 300000 with
    | false =>
      have en := Lib.hid (no_Field (show okField v z = false by unfold okField; rw [h0, h1]; rfl))
      go_enter Tryd.func23, Tryd.ntmps23
      go_wp2_with (go_at_call 43; refine (Free.spec_l02Level _ _).mono ?_; rintro e w' ⟨rfl, rfl⟩)
      go_ret2
      exact ⟨ret_ii en.out.1.symm en.out.2.symm, rfl⟩
    | true =>
      have en := Lib.hid (yes_Field (show okField v z = true by unfold okField; rw [h0, h1]; rfl))
      have HU := Lib.hid (fieldP_mono v z 283000)
      have HB0 := Lib.hid (sb_start (fieldP v z) 283000)
      have HL := Lib.hid (fun d w d0 d1 => Free.spec_field v d w v0 v1 d0 d1)
      go_enter Tryd.func23, Tryd.ntmps23
      go_wp2_with (go_at_call 43; refine (Free.spec_l02Level _ _).mono ?_; rintro e w' ⟨rfl, rfl⟩)
      go_loop [6, 7] (fun x y => ∃ i j : Nat, x = .int .i64 i ∧ y = .int .i64 j ∧ j ≤ 283000 ∧ i ≤ j ∧ Sb (fieldP v z) 283000 i j) (fun x y => (intOf y - intOf x).toNat)
      case atStart => exact ⟨0, 283000, rfl, rfl, Nat.le_refl _, Nat.zero_le _, HB0.out⟩
      case round =>
        obtain ⟨i, j, rfl, rfl, hj, hij, hs⟩ := hrel
        have HS := Lib.hid hs
        clear hs
        by_cases hlt : i < j
        · obtain ⟨m, hm⟩ : ∃ m, m = (i + j - 1) / 2 := ⟨_, rfl⟩
          have m1 : i ≤ m := by omega
          have m2 : m < j := by omega
          have hmi : ((i : Int) + j + 1) / 2 = m + 1 := by omega
          have hmi' : Int.tdiv ((i : Int) + j + 1) 2 = m + 1 := by rw [Int.tdiv_eq_ediv_of_nonneg (by omega)]; exact hmi
          have HMI := Lib.hid hmi'
          have HMI2 := Lib.hid hmi
          clear hm hmi hmi'
          by_cases hq : z ≤ fieldV v ((m : Int) + 1)
          · have HB := Lib.hid (sb_lo HU.out HS.out m2 (decide_eq_true hq))
            go_wp2_with fail
            (first | rw [HMI.out] | rw [HMI2.out])
            refine (HL.out ((m : Int) + 1) _ (by omega) (by omega)).mono ?_
            rintro e w1 ⟨rfl, rfl⟩
            go_wp2_with fail
            go_round
            case rel => exact ⟨m + 1, j, by go_num, rfl, hj, by omega, HB.out⟩
            case measure => simp [intOf]; omega
          · have HB := Lib.hid (sb_hi HS.out m1 m2 (decide_eq_false hq))
            go_wp2_with fail
            (first | rw [HMI.out] | rw [HMI2.out])
            refine (HL.out ((m : Int) + 1) _ (by omega) (by omega)).mono ?_
            rintro e w1 ⟨rfl, rfl⟩
            go_wp2_with fail
            go_round
            case rel => exact ⟨i, m, rfl, by go_num, by omega, m1, HB.out⟩
            case measure => simp [intOf]; omega
        · obtain rfl : i = j := by omega
          have hk := sb_end HS.out
          by_cases i0 : i = 0
          · subst i0
            have ef := Lib.hid (far_none hk)
            clear hk
            go_wp2_with fail
            go_ret2
            exact ⟨ret_ii (en.out.1.trans ef.out.1).symm (en.out.2.trans ef.out.2).symm, rfl⟩
          · have ef := Lib.hid (far_some hk i0)
            have hb : ((i : Int) == 0) = false := beq_eq_false_iff_ne.2 (by omega)
            clear hk
            go_wp2_with fail
            go_ret2
            exact ⟨ret_ii (en.out.1.trans ef.out.1).symm (en.out.2.trans ef.out.2).symm, rfl⟩
end Go.Proofs.YtnbkdekndflefaaDoor.Far
