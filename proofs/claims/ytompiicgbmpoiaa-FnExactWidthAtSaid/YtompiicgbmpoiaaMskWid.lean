
/-
  The width of a mask at a loss, and its code, in the model and in the program. Condition: at most 1048576 numbers in each list.
-/
import Derived.Test.YtompiicgbmpoiaaMskFun
import Derived.Test.YtompiicgbmpoiaaMskMono
namespace Go.Proofs.Ytompiicgbmpoiaa.Msk
open Go.RowKit
open Plain
open Ints (Ints Own)

def widV (os ls : List Int) (x : Int) : Int := if okM os ls = true ∧ inB x 0 120000 = true ∧ ¬ lossM os ls (lastO os) ≤ x then 2 * (((beyond os ls x : Nat) : Int) - 1) else 0
def widC (os ls : List Int) (x : Int) : Int := if okM os ls = true then (if inB x 0 120000 = true then (if lossM os ls (lastO os) ≤ x then 3 else 0) else 2) else 1
theorem wid_bad {os ls : List Int} {x : Int} (h : okM os ls = false) : widV os ls x = 0 ∧ widC os ls x = 1 := by unfold widV widC; rw [h]; exact ⟨rfl, rfl⟩
theorem wid_far {os ls : List Int} {x : Int} (h : okM os ls = true) (g : inB x 0 120000 = false) : widV os ls x = 0 ∧ widC os ls x = 2 := by unfold widV widC; rw [h, g]; exact ⟨rfl, rfl⟩
theorem wid_none {os ls : List Int} {x : Int} (h : okM os ls = true) (g : inB x 0 120000 = true) (l : lossM os ls (lastO os) ≤ x) : widV os ls x = 0 ∧ widC os ls x = 3 := by
  unfold widV widC; rw [if_neg (fun q => q.2.2 l), h, g, if_pos rfl, if_pos rfl, if_pos l]; exact ⟨rfl, rfl⟩
theorem wid_ok {os ls : List Int} {x : Int} (h : okM os ls = true) (g : inB x 0 120000 = true) (l : ¬ lossM os ls (lastO os) ≤ x) : widV os ls x = 2 * (((beyond os ls x : Nat) : Int) - 1) ∧ widC os ls x = 0 := by
  unfold widV widC; rw [if_pos ⟨h, g, l⟩, h, g, if_pos rfl, if_pos rfl, if_neg l]; exact ⟨rfl, rfl⟩
theorem lastO_bd {os ls : List Int} (h : okM os ls = true) : 0 < lastO os ∧ lastO os ≤ 100000 := by
  obtain ⟨⟨n2, n12⟩, hn, ho, hl⟩ := of_okM h
  have a := ho.lt (i := 0) (j := os.length - 1) (by omega) (by omega)
  have b := ho.2.2 (os.length - 1) (by omega)
  rw [ho.1] at a
  exact ⟨a, b⟩
theorem beyond_at {os ls : List Int} {x : Int} {L k : Nat} (hv : okM os ls = true) (hL : lastO os = (L : Int)) (h1 : lowAt os ls x k = true) (h2 : lowAt os ls x (k + 1) = false) (hk : k + 1 ≤ L) : beyond os ls x = k + 1 := by
  unfold beyond
  rw [hL, Int.toNat_natCast]
  exact lead_at hk (fun j hj => mono_low hv (k + 1) j k (by omega) (by omega) h1) (.inr h2)
theorem low_last {os ls : List Int} {x : Int} {L : Nat} (hL : lastO os = (L : Int)) : lowAt os ls x L = decide (lossM os ls (lastO os) ≤ x) := by unfold lowAt; rw [hL]
set_option maxRecDepth 100000 in
set_option maxHeartbeats 4000000 in
theorem spec_WidthAt (v0 v1 : Value) (os ls : List Int) (x : Int) (w : World) (q0 : os.length ≤ 1048576) (q1 : ls.length ≤ 1048576) (h0 : Ints w v0 os) (h1 : Ints w v1 ls) :
    Calls Try.prog 13 #[.agg #[v0, v1], .int .i64 x] w fun e w' => e = .returned (.tuple #[.int .i64 (widV os ls x), .int .i64 (widC os ls x)]) ∧ On w w' := by
  have HO := Lib.hid (fun w' (hb : On w w') hp => spec_ok w.heap.size v0 v1 os ls w' q0 q1 hp (h0.below hb) (h1.below hb))
  have h0' := h0
  have h1' := h1
  obtain ⟨a0, cap0, rfl, -⟩ := h0
  obtain ⟨a1, cap1, rfl, -⟩ := h1
  cases hok : okM os ls with
  | false =>
    rw [hok] at HO
    have en := Lib.hid (wid_bad (x := x) hok)
    clear h0' h1'
    go_enter Try.func13, Try.ntmps13
    go_wp2_with fail
    refine (HO.out _ (by repeat (first | with_reducible exact On.refl _ | apply On.alloc)) ⟨by simp [go_sem], by simp [go_sem]⟩).mono ?_
    rintro e w1 ⟨rfl, h2⟩
    go_wp2_with fail
    go_ret2
    exact ⟨ret_ii en.out.1.symm en.out.2.symm, by refine On.trans ?_ h2; repeat (first | with_reducible exact On.refl _ | apply On.alloc | apply On.drewN)⟩
  | true =>
    rw [hok] at HO
    cases hin : inB x 0 120000 with
    | false =>
      have en := Lib.hid (wid_far hok hin)
      clear h0' h1'
      go_enter Try.func13, Try.ntmps13
      go_wp2_with fail
      refine (HO.out _ (by repeat (first | with_reducible exact On.refl _ | apply On.alloc)) ⟨by simp [go_sem], by simp [go_sem]⟩).mono ?_
      rintro e w1 ⟨rfl, h2⟩
      have K1 : In w1 w.heap.size (.slice a0 os.length cap0) (.slice a1 ls.length cap1) := In.on ⟨by simp [go_sem], by simp [go_sem]⟩ h2
      obtain ⟨p0, p1⟩ := K1
      have z1 : w.heap.size < w1.heap.size := World.block_lt_of_cell? w1 _ p0
      have HO1 := Lib.hid (show On w w1 by refine On.trans ?_ h2; repeat (first | with_reducible exact On.refl _ | apply On.alloc))
      go_wp2_with (go_at_call 35; refine (Arith.l00In _ _ _ _).mono ?_; rintro e w' ⟨rfl, rfl⟩)
      go_ret2
      exact ⟨ret_ii en.out.1.symm en.out.2.symm, HO1.out⟩
    | true =>
      have bx := of_inB hin
      obtain ⟨l0, l1⟩ := lastO_bd hok
      obtain ⟨L, hL⟩ : ∃ L : Nat, lastO os = (L : Int) := ⟨(lastO os).toNat, by omega⟩
      obtain ⟨⟨n2, n12⟩, hn, ho, hl⟩ := of_okM hok
      obtain ⟨n, hn'⟩ : ∃ n, os.length = n + 1 := ⟨os.length - 1, by omega⟩
      obtain ⟨b0, o0, rfl, hb0, hc0⟩ := slice_of h0' rfl (by omega)
      have c1 : w.cell? ⟨b0, o0 + n, none⟩ = some (.int .i64 (L : Int)) := by
        have := hc0 n (by omega)
        rw [← hL]; unfold lastO; rw [hn']; exact this
      have HL := Lib.hid (fun (k : Nat) (hk : k ≤ L) w' (hb : On w w') hp => spec_loss w.heap.size _ _ os ls (k : Int) w' hok (by omega) (by omega) hp (h0'.below hb) (h1'.below hb))
      have ek : (((n + 1 : Nat) : Int)) - 1 = (n : Int) := by omega
      have wk : IntKind.i64.wrap (((n + 1 : Nat) : Int) - 1) = (n : Int) := by rw [ek]; exact IntWalk.i64_in _ (by omega)
      have wk0 : IntKind.i64.wrap (n : Int) = (n : Int) := IntWalk.i64_in _ (by omega)
      have hki1 : (n : Int) < (n : Int) + 1 := by omega
      have hk0 : n < n + 1 := by omega
      have hki0 : (n : Int) < (((n + 1 : Nat)) : Int) := by omega
      rw [hn'] at HO HL ⊢
      by_cases hle : lossM os ls (L : Int) ≤ x
      · have en := Lib.hid (wid_none hok hin (by rw [hL]; exact hle))
        clear h0' h1' hc0 hok ho hl hn hn' hL
        go_enter Try.func13, Try.ntmps13
        go_wp2_with fail
        refine (HO.out _ (by repeat (first | with_reducible exact On.refl _ | apply On.alloc)) ⟨by simp [go_sem], by simp [go_sem]⟩).mono ?_
        rintro e w1 ⟨rfl, h2⟩
        have K1 : In w1 w.heap.size (.slice (some ⟨b0, o0, none⟩) (n + 1) cap0) (.slice a1 ls.length cap1) := In.on ⟨by simp [go_sem], by simp [go_sem]⟩ h2
        obtain ⟨p0, p1⟩ := K1
        have z1 : w.heap.size < w1.heap.size := World.block_lt_of_cell? w1 _ p0
        have HO1 := Lib.hid (show On w w1 by refine On.trans ?_ h2; repeat (first | with_reducible exact On.refl _ | apply On.alloc))
        have d1 := (HO1.out.cell (p := ⟨b0, o0 + n, none⟩) (by exact hb0)).trans c1
        have e1 := HO1.out.lts _ hb0
        clear h2
        go_wp2_with (go_at_call 35; refine (Arith.l00In _ _ _ _).mono ?_; rintro e w' ⟨rfl, rfl⟩)
        refine (HL.out L (Nat.le_refl _) _ HO1.out ⟨p0, p1⟩).mono ?_
        rintro e w2 ⟨rfl, h3⟩
        go_wp2_with fail
        go_ret2
        exact ⟨ret_ii en.out.1.symm en.out.2.symm, HO1.out.trans h3⟩
      · have en := Lib.hid (wid_ok hok hin (by rw [hL]; exact hle))
        have HB := Lib.hid (fun k h1 h2 hk => beyond_at (x := x) (k := k) hok hL h1 h2 hk)
        have T0 := Lib.hid (low_zero hok bx.1)
        have TL := Lib.hid (show lowAt os ls x L = false by rw [low_last hL]; exact decide_eq_false (by rw [hL]; exact hle))
        have lL : 0 < L := by omega
        have lL2 : L ≤ 100000 := by omega
        clear h0' h1' hc0 hok ho hl hn hn' hL
        go_enter Try.func13, Try.ntmps13
        go_wp2_with fail
        refine (HO.out _ (by repeat (first | with_reducible exact On.refl _ | apply On.alloc)) ⟨by simp [go_sem], by simp [go_sem]⟩).mono ?_
        rintro e w1 ⟨rfl, h2⟩
        have K1 : In w1 w.heap.size (.slice (some ⟨b0, o0, none⟩) (n + 1) cap0) (.slice a1 ls.length cap1) := In.on ⟨by simp [go_sem], by simp [go_sem]⟩ h2
        obtain ⟨p0, p1⟩ := K1
        have z1 : w.heap.size < w1.heap.size := World.block_lt_of_cell? w1 _ p0
        have HO1 := Lib.hid (show On w w1 by refine On.trans ?_ h2; repeat (first | with_reducible exact On.refl _ | apply On.alloc))
        have d1 := (HO1.out.cell (p := ⟨b0, o0 + n, none⟩) (by exact hb0)).trans c1
        have e1 := HO1.out.lts _ hb0
        clear h2
        go_wp2_with (go_at_call 35; refine (Arith.l00In _ _ _ _).mono ?_; rintro e w' ⟨rfl, rfl⟩)
        refine (HL.out L (Nat.le_refl _) _ HO1.out ⟨p0, p1⟩).mono ?_
        rintro e w2 ⟨rfl, h3⟩
        have K2 : In w2 w.heap.size (.slice (some ⟨b0, o0, none⟩) (n + 1) cap0) (.slice a1 ls.length cap1) := In.on ⟨p0, p1⟩ h3
        have HK2 := Lib.hid K2
        have HO2 := Lib.hid (HO1.out.trans h3)
        clear h3 K2 p0 p1 z1
        go_wp2_with fail
        go_loopw [7, 8] (fun a b wr => ∃ i j : Nat, a = .int .i64 i ∧ b = .int .i64 j ∧ i < j ∧ j ≤ L ∧ lowAt os ls x i = true ∧ lowAt os ls x j = false ∧ On w2 wr) (fun a b _ => (intOf b - intOf a).toNat)
        case atStart => exact ⟨0, L, rfl, rfl, lL, Nat.le_refl _, T0.out, TL.out, On.refl _⟩
        case round =>
          obtain ⟨i, j, rfl, rfl, hij, hj, hi1, hj1, ho⟩ := hrel
          have HI1 := Lib.hid hi1
          have HJ1 := Lib.hid hj1
          have HO3 := Lib.hid (HO2.out.trans ho)
          have HK3 := Lib.hid (HK2.out.on ho)
          clear hi1 hj1
          by_cases hlt : 1 < j - i
          · have hgt : (1 : Int) < (j : Int) - (i : Int) := by omega
            obtain ⟨m, hm⟩ : ∃ m, m = (i + j) / 2 := ⟨_, rfl⟩
            have m1 : i < m := by omega
            have m2 : m < j := by omega
            have hmi : ((i : Int) + j) / 2 = m := by omega
            have hmi' : Int.tdiv ((i : Int) + j) 2 = m := by rw [Int.tdiv_eq_ediv_of_nonneg (by omega)]; exact hmi
            have HMI := Lib.hid hmi'
            have HMI2 := Lib.hid hmi
            clear hm hmi hmi'
            by_cases hq : lossM os ls (m : Int) ≤ x
            · have HQ := Lib.hid (show lowAt os ls x m = true from decide_eq_true hq)
              go_wp2_with fail
              (first | rw [HMI.out] | rw [HMI2.out])
              refine (HL.out m (by omega) _ HO3.out HK3.out).mono ?_
              rintro e w4 ⟨rfl, h4⟩
              have HO4 := Lib.hid (ho.trans h4)
              clear h4
              go_wp2_with fail
              go_roundw
              case rel => exact ⟨m, j, rfl, rfl, m2, hj, HQ.out, HJ1.out, HO4.out⟩
              case measure => simp [intOf]; omega
            · have HQ := Lib.hid (show lowAt os ls x m = false from decide_eq_false hq)
              go_wp2_with fail
              (first | rw [HMI.out] | rw [HMI2.out])
              refine (HL.out m (by omega) _ HO3.out HK3.out).mono ?_
              rintro e w4 ⟨rfl, h4⟩
              have HO4 := Lib.hid (ho.trans h4)
              clear h4
              go_wp2_with fail
              go_roundw
              case rel => exact ⟨i, m, rfl, rfl, m1, by omega, HI1.out, HQ.out, HO4.out⟩
              case measure => simp [intOf]; omega
          · obtain rfl : j = i + 1 := by omega
            have hgt : ¬ (1 : Int) < ((i + 1 : Nat) : Int) - (i : Int) := by omega
            have eb := Lib.hid (HB.out i HI1.out HJ1.out hj)
            go_wp2_with fail
            go_ret2
            exact ⟨ret_ii (by rw [en.out.1, eb.out]; omega) en.out.2.symm, HO3.out⟩
theorem not_low {os ls : List Int} {x : Int} {k : Nat} : decide (x < lossM os ls (k : Int)) = !lowAt os ls x k := by
  unfold lowAt
  by_cases h : lossM os ls (k : Int) ≤ x
  · rw [decide_eq_true h, decide_eq_false (by omega)]; rfl
  · rw [decide_eq_false h, decide_eq_true (by omega)]; rfl
set_option maxRecDepth 100000 in
set_option maxHeartbeats 2000000 in
theorem impl_wclosure (g k : Nat) (v0 v1 : Value) (os ls : List Int) (x : Int) (w : World) (hk : k ≤ 100000) (hv : okM os ls = true) (h0 : Ints w v0 os) (h1 : Ints w v1 ls) (hp : Clo w g v0 v1 x) :
    Calls Try.prog 38 #[.int .i64 k, .pointer (some ⟨g, 0, none⟩), .pointer (some ⟨g + 1, 0, none⟩)] w fun e w' => e = .returned (.bool (!lowAt os ls x k)) ∧ On w w' := by
  obtain ⟨k0, k1, k2⟩ := hp
  have hg : g < w.heap.size := World.block_lt_of_cell? w _ k0
  have hg1 : g + 1 < w.heap.size := World.block_lt_of_cell? w _ k2
  have HL := Lib.hid (fun w' (hb : On w w') => impl_lossAt _ _ os ls (k : Int) w' hv (by omega) (by omega) (h0.below hb) (h1.below hb))
  obtain ⟨a0, cap0, rfl, -⟩ := h0
  obtain ⟨a1, cap1, rfl, -⟩ := h1
  have en := Lib.hid (not_low (os := os) (ls := ls) (x := x) (k := k))
  clear hv
  go_enter Try.func38, Try.ntmps38
  go_wp2_with fail
  refine wp_region_onh (by kernel_rfl) (by kernel_rfl) ?_
  repeat (refine rest_step (fun K hK => ?_); go_simp; first | (refine hK _ ?_; clear hK K) | (apply Exists.intro; refine ⟨fun v1 hv1 => ?_, hK _ ?_⟩; (first | with_reducible exact rfl | with_reducible exact ⟨rfl, rfl⟩ | with_reducible exact Calls.on hv1 (HL.out _ hv1) | (obtain ⟨hc, hf⟩ := bcell hv1; go_simp; first | with_reducible exact rfl | with_reducible exact ⟨rfl, rfl⟩ | exact rfl | exact ⟨rfl, rfl⟩)); clear hK K))
  refine rest_nil ?_
  intro w9 hw9
  go_wp2_with fail
  go_ret
  exact ⟨ret_bool en.out, hw9⟩
set_option maxRecDepth 100000 in
set_option maxHeartbeats 4000000 in
theorem impl_WidthAt (v0 v1 : Value) (os ls : List Int) (x : Int) (w : World) (q0 : os.length ≤ 1048576) (q1 : ls.length ≤ 1048576) (h0 : Ints w v0 os) (h1 : Ints w v1 ls) :
    Calls Try.prog 14 #[.agg #[v0, v1], .int .i64 x] w fun e w' => e = .returned (.tuple #[.int .i64 (widV os ls x), .int .i64 (widC os ls x)]) ∧ On w w' := by
  have HO := Lib.hid (fun w' (hb : On w w') => impl_valid v0 v1 os ls w' q0 q1 (h0.below hb) (h1.below hb))
  have h0' := h0
  have h1' := h1
  obtain ⟨a0, cap0, rfl, -⟩ := h0
  obtain ⟨a1, cap1, rfl, -⟩ := h1
  cases hok : okM os ls with
  | false =>
    rw [hok] at HO
    have en := Lib.hid (wid_bad (x := x) hok)
    clear h0' h1'
    go_enter Try.func14, Try.ntmps14
    go_wp2_with fail
    refine (HO.out _ (by repeat (first | with_reducible exact On.refl _ | apply On.alloc))).mono ?_
    rintro e w1 ⟨rfl, h2⟩
    go_wp2_with fail
    go_ret2
    exact ⟨ret_ii en.out.1.symm en.out.2.symm, by refine On.trans ?_ h2; repeat (first | with_reducible exact On.refl _ | apply On.alloc)⟩
  | true =>
    rw [hok] at HO
    cases hin : inB x 0 120000 with
    | false =>
      have en := Lib.hid (wid_far hok hin)
      clear h0' h1'
      go_enter Try.func14, Try.ntmps14
      go_wp2_with fail
      refine (HO.out _ (by repeat (first | with_reducible exact On.refl _ | apply On.alloc))).mono ?_
      rintro e w1 ⟨rfl, h2⟩
      obtain ⟨p0, p1, p2⟩ : Clo w1 w.heap.size (.slice a0 os.length cap0) (.slice a1 ls.length cap1) x := Clo.on ⟨by simp [go_sem], by simp [go_sem], by simp [go_sem]⟩ h2
      have z1 : w.heap.size < w1.heap.size := World.block_lt_of_cell? w1 _ p0
      have z2 : w.heap.size + 1 < w1.heap.size := World.block_lt_of_cell? w1 _ p2
      have HC1 := Lib.hid (show Clo w1 w.heap.size (.slice a0 os.length cap0) (.slice a1 ls.length cap1) x from ⟨p0, p1, p2⟩)
      have HO1 := Lib.hid (show On w w1 by refine On.trans ?_ h2; repeat (first | with_reducible exact On.refl _ | apply On.alloc))
      go_wp2_with (go_at_call 33; refine (Arith.within _ _ _ _).mono ?_; rintro e w' ⟨rfl, rfl⟩)
      go_ret2
      exact ⟨ret_ii en.out.1.symm en.out.2.symm, HO1.out⟩
    | true =>
      have bx := of_inB hin
      obtain ⟨l0, l1⟩ := lastO_bd hok
      obtain ⟨L, hL⟩ : ∃ L : Nat, lastO os = (L : Int) := ⟨(lastO os).toNat, by omega⟩
      have HL := Lib.hid (fun w' (hb : On w w') => impl_lossAt _ _ os ls (L : Int) w' hok (by omega) (by omega) (h0'.below hb) (h1'.below hb))
      have HLA := Lib.hid (fun w' (hb : On w w') => show Calls Try.prog 36 #[.agg #[.slice a0 os.length cap0, .slice a1 ls.length cap1]] w' fun e w'' => e = .returned (.int .i64 (L : Int)) ∧ On w' w'' from by
        have := impl_last _ _ os ls w' hok (h0'.below hb) (h1'.below hb); rw [show os.getD (os.length - 1) 0 = lastO os from rfl, hL] at this; exact this)
      by_cases hle : lossM os ls (L : Int) ≤ x
      · have en := Lib.hid (wid_none hok hin (by rw [hL]; exact hle))
        clear h0' h1' hok hL
        go_enter Try.func14, Try.ntmps14
        go_wp2_with fail
        refine (HO.out _ (by repeat (first | with_reducible exact On.refl _ | apply On.alloc))).mono ?_
        rintro e w1 ⟨rfl, h2⟩
        obtain ⟨p0, p1, p2⟩ : Clo w1 w.heap.size (.slice a0 os.length cap0) (.slice a1 ls.length cap1) x := Clo.on ⟨by simp [go_sem], by simp [go_sem], by simp [go_sem]⟩ h2
        have z1 : w.heap.size < w1.heap.size := World.block_lt_of_cell? w1 _ p0
        have z2 : w.heap.size + 1 < w1.heap.size := World.block_lt_of_cell? w1 _ p2
        have HC1 := Lib.hid (show Clo w1 w.heap.size (.slice a0 os.length cap0) (.slice a1 ls.length cap1) x from ⟨p0, p1, p2⟩)
        have HO1 := Lib.hid (show On w w1 by refine On.trans ?_ h2; repeat (first | with_reducible exact On.refl _ | apply On.alloc))
        clear h2
        go_wp2_with (go_at_call 33; refine (Arith.within _ _ _ _).mono ?_; rintro e w' ⟨rfl, rfl⟩)
        refine (HLA.out _ HO1.out).mono ?_
        rintro e w3 ⟨rfl, h3⟩
        have HO3 := Lib.hid (HO1.out.trans h3)
        have HC3 := Lib.hid (HC1.out.on h3)
        obtain ⟨r0, r1, r2⟩ := HC3.out
        have y1 : w.heap.size < w3.heap.size := World.block_lt_of_cell? w3 _ r0
        have y2 : w.heap.size + 1 < w3.heap.size := World.block_lt_of_cell? w3 _ r2
        clear h3 p0 p1 p2 z1 z2
        go_wp2_with fail
        refine wp_region_onh (by kernel_rfl) (by kernel_rfl) ?_
        repeat (refine rest_step (fun K hK => ?_); go_simp; first | (refine hK _ ?_; clear hK K) | (apply Exists.intro; refine ⟨fun v1 hv1 => ?_, hK _ ?_⟩; (first | with_reducible exact rfl | with_reducible exact ⟨rfl, rfl⟩ | with_reducible exact Calls.on hv1 (HL.out _ (HO3.out.trans hv1)) | (obtain ⟨hc, hf⟩ := bcell hv1; go_simp; first | with_reducible exact rfl | with_reducible exact ⟨rfl, rfl⟩ | exact rfl | exact ⟨rfl, rfl⟩)); clear hK K))
        refine rest_nil ?_
        intro w5 hw5
        have HO5 := Lib.hid (HO3.out.trans hw5)
        have HC5 := Lib.hid (HC3.out.on hw5)
        obtain ⟨s0, s1, s2⟩ := HC5.out
        have x1 : w.heap.size < w5.heap.size := World.block_lt_of_cell? w5 _ s0
        have x2 : w.heap.size + 1 < w5.heap.size := World.block_lt_of_cell? w5 _ s2
        clear hw5 r0 r1 r2 y1 y2
        go_wp2_with fail
        go_ret2
        exact ⟨ret_ii en.out.1.symm en.out.2.symm, HO5.out⟩
      · have en := Lib.hid (wid_ok hok hin (by rw [hL]; exact hle))
        have hmono : Mono (lowAt os ls x) L := mono_low hok L
        have HSE := Lib.hid (fun g w1 (h : On w w1) hp => Search.width (.pointer (some ⟨g, 0, none⟩)) (.pointer (some ⟨g + 1, 0, none⟩)) (lowAt os ls x) L w1 (by omega) hmono
          (fun k hk w2 ho => impl_wclosure g k _ _ os ls x w2 (by omega) hok (h0'.below (h.trans ho)) (h1'.below (h.trans ho)) (Clo.on hp ho)))
        obtain ⟨k, hk⟩ : ∃ k, k = beyond os ls x := ⟨_, rfl⟩
        have HK := Lib.hid (show leadN (lowAt os ls x) L = k by rw [hk]; unfold beyond; rw [hL, Int.toNat_natCast])
        have kb : k ≤ 100000 := by have := lead_le (lowAt os ls x) L; rw [HK.out] at this; omega
        rw [HK.out] at HSE
        rw [← hk] at en
        clear h0' h1' hok hL hmono hk
        go_enter Try.func14, Try.ntmps14
        go_wp2_with fail
        refine (HO.out _ (by repeat (first | with_reducible exact On.refl _ | apply On.alloc))).mono ?_
        rintro e w1 ⟨rfl, h2⟩
        obtain ⟨p0, p1, p2⟩ : Clo w1 w.heap.size (.slice a0 os.length cap0) (.slice a1 ls.length cap1) x := Clo.on ⟨by simp [go_sem], by simp [go_sem], by simp [go_sem]⟩ h2
        have z1 : w.heap.size < w1.heap.size := World.block_lt_of_cell? w1 _ p0
        have z2 : w.heap.size + 1 < w1.heap.size := World.block_lt_of_cell? w1 _ p2
        have HC1 := Lib.hid (show Clo w1 w.heap.size (.slice a0 os.length cap0) (.slice a1 ls.length cap1) x from ⟨p0, p1, p2⟩)
        have HO1 := Lib.hid (show On w w1 by refine On.trans ?_ h2; repeat (first | with_reducible exact On.refl _ | apply On.alloc))
        clear h2
        go_wp2_with (go_at_call 33; refine (Arith.within _ _ _ _).mono ?_; rintro e w' ⟨rfl, rfl⟩)
        refine (HLA.out _ HO1.out).mono ?_
        rintro e w3 ⟨rfl, h3⟩
        have HO3 := Lib.hid (HO1.out.trans h3)
        have HC3 := Lib.hid (HC1.out.on h3)
        obtain ⟨r0, r1, r2⟩ := HC3.out
        have y1 : w.heap.size < w3.heap.size := World.block_lt_of_cell? w3 _ r0
        have y2 : w.heap.size + 1 < w3.heap.size := World.block_lt_of_cell? w3 _ r2
        clear h3 p0 p1 p2 z1 z2
        go_wp2_with fail
        refine wp_region_onh (by kernel_rfl) (by kernel_rfl) ?_
        repeat (refine rest_step (fun K hK => ?_); go_simp; first | (refine hK _ ?_; clear hK K) | (apply Exists.intro; refine ⟨fun v1 hv1 => ?_, hK _ ?_⟩; (first | with_reducible exact rfl | with_reducible exact ⟨rfl, rfl⟩ | with_reducible exact Calls.on hv1 (HL.out _ (HO3.out.trans hv1)) | (obtain ⟨hc, hf⟩ := bcell hv1; go_simp; first | with_reducible exact rfl | with_reducible exact ⟨rfl, rfl⟩ | exact rfl | exact ⟨rfl, rfl⟩)); clear hK K))
        refine rest_nil ?_
        intro w5 hw5
        have HO5 := Lib.hid (HO3.out.trans hw5)
        have HC5 := Lib.hid (HC3.out.on hw5)
        obtain ⟨s0, s1, s2⟩ := HC5.out
        have x1 : w.heap.size < w5.heap.size := World.block_lt_of_cell? w5 _ s0
        have x2 : w.heap.size + 1 < w5.heap.size := World.block_lt_of_cell? w5 _ s2
        clear hw5 r0 r1 r2 y1 y2
        go_wp2_with fail
        refine (HSE.out _ _ HO5.out HC5.out).mono ?_
        rintro e w6 ⟨rfl, h6⟩
        have HO6 := Lib.hid (HO5.out.trans h6)
        go_wp2_with fail
        go_ret2
        exact ⟨ret_ii en.out.1.symm en.out.2.symm, HO6.out⟩
end Go.Proofs.Ytompiicgbmpoiaa.Msk
