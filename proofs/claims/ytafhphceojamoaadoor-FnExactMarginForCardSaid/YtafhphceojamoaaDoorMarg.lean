
/-
  The least margin for an outage, in the model and in the program. Condition: the program's variable of spans holds what its text lays.
-/
import Derived.Test.YtafhphceojamoaaDoorFade
import Derived.Test.YtafhphceojamoaaDoorOnH
import Derived.Test.YtafhphceojamoaaDoorLead
import Derived.Handy
namespace Go.Proofs.YtafhphceojamoaaDoor.Fade
open Go.RowKit
open Plain
open Span (SpanG)
open Free (okV okC ret_ii)
open Tab (ret_int)

/-- Four cells that a closure holds on to. -/
def Clo4 (w : World) (g : Nat) (x y z u : Int) : Prop := w.cell? ⟨g, 0, none⟩ = some (.int .i64 x) ∧ w.cell? ⟨g + 1, 0, none⟩ = some (.int .i64 y) ∧ w.cell? ⟨g + 2, 0, none⟩ = some (.int .i64 z) ∧ w.cell? ⟨g + 3, 0, none⟩ = some (.int .i64 u)
theorem Clo4.on {w w' : World} {g : Nat} {x y z u : Int} (h : Clo4 w g x y z u) (ho : On w w') : Clo4 w' g x y z u :=
  ⟨(ho.cell (World.block_lt_of_cell? w _ h.1)).trans h.1, (ho.cell (World.block_lt_of_cell? w _ h.2.1)).trans h.2.1, (ho.cell (World.block_lt_of_cell? w _ h.2.2.1)).trans h.2.2.1, (ho.cell (World.block_lt_of_cell? w _ h.2.2.2)).trans h.2.2.2⟩
set_option maxRecDepth 100000 in
set_option maxHeartbeats 2000000 in
theorem search2 (q1 q2 : Value) (p : Nat → Bool) (n : Nat) (w : World) (hn : n ≤ 1048576) (hu : Mono p n)
    (hc : ∀ k, k < n → ∀ w1, On w w1 → Calls Tryd.prog 96 #[.int .i64 k, q1, q2] w1 fun e w' => e = .returned (.bool (!p k)) ∧ On w1 w') :
    Calls Tryd.prog 95 #[.int .i64 n, .func (Fn.func 96) #[] #[q1, q2]] w fun e w' => e = .returned (.int .i64 (leadN p n : Nat)) ∧ On w w' := by
  have HCL := Lib.hid hc
  have HU := Lib.hid hu
  have HB0 := Lib.hid (sb_start p n)
  clear hc hu
  go_enter Tryd.func95, Tryd.ntmps95
  go_wp2_with fail
  go_loopw [5, 6] (fun x y wr => ∃ i j : Nat, x = .int .i64 i ∧ y = .int .i64 j ∧ j ≤ n ∧ i ≤ j ∧ Sb p n i j ∧ On w wr) (fun x y _ => (intOf y - intOf x).toNat)
  case atStart => exact ⟨0, n, rfl, rfl, Nat.le_refl _, Nat.zero_le _, HB0.out, On.refl _⟩
  case round =>
    obtain ⟨i, j, rfl, rfl, hj, hij, hs, ho⟩ := hrel
    have HS := Lib.hid hs
    clear hs
    by_cases hlt : i < j
    · obtain ⟨m, hm⟩ : ∃ m, m = (i + j) / 2 := ⟨_, rfl⟩
      have m1 : i ≤ m := by omega
      have m2 : m < j := by omega
      have hmi : ((i : Int) + j) / 2 = m := by omega
      have HMI := Lib.hid hmi
      clear hm hmi
      cases hq : p m with
      | false =>
        have HB := Lib.hid (sb_hi HS.out m1 m2 hq)
        have HM := Lib.hid (HCL.out m (by omega) _ ho)
        rw [hq] at HM
        clear hq
        go_wp2_with fail
        rw [HMI.out]
        refine HM.out.mono ?_
        rintro x w1 ⟨rfl, h1⟩
        go_wp2_with fail
        go_roundw
        case rel => exact ⟨i, m, rfl, by rw [← HMI.out], by omega, by omega, HB.out, ho.trans h1⟩
        case measure => simp [intOf]; omega
      | true =>
        have HB := Lib.hid (sb_lo HU.out HS.out m2 hq)
        have HM := Lib.hid (HCL.out m (by omega) _ ho)
        rw [hq] at HM
        clear hq
        go_wp2_with fail
        rw [HMI.out]
        refine HM.out.mono ?_
        rintro x w1 ⟨rfl, h1⟩
        go_wp2_with fail
        go_roundw
        case rel => exact ⟨m + 1, j, by go_num, rfl, by omega, by omega, HB.out, ho.trans h1⟩
        case measure => simp [intOf]; omega
    · obtain rfl : i = j := by omega
      have en := Lib.hid (sb_end HS.out)
      go_wp2_with fail
      go_ret
      exact ⟨ret_int (by rw [en.out]), ho⟩
set_option maxHeartbeats 1000000 in
theorem clo_margin (m f d c o : Int) (g : Nat) (w : World) (f0 : 1 ≤ f) (f1 : f ≤ 100000000) (d0 : 1 ≤ d) (d1 : d ≤ 283000) (c0 : 25 ≤ c) (c1 : c ≤ 400) (m0 : 0 ≤ m) (m1 : m ≤ 100000) (hp : Clo4 w g f d c o) :
    Calls Tryd.prog 51 #[.int .i64 m, .pointer (some ⟨g, 0, none⟩), .pointer (some ⟨g + 1, 0, none⟩), .pointer (some ⟨g + 2, 0, none⟩), .pointer (some ⟨g + 3, 0, none⟩)] w fun e w' => e = .returned (.bool (decide (fadeV f d c m ≤ o))) ∧ On w w' := by
  obtain ⟨k0, k1, k2, k3⟩ := hp
  have hg : g < w.heap.size := World.block_lt_of_cell? w _ k0
  have hg1 : g + 1 < w.heap.size := World.block_lt_of_cell? w _ k1
  have hg2 : g + 2 < w.heap.size := World.block_lt_of_cell? w _ k2
  have hg3 : g + 3 < w.heap.size := World.block_lt_of_cell? w _ k3
  have HL := Lib.hid (fun w' => impl_fade f d c m w' f0 f1 d0 d1 c0 c1 m0 m1)
  go_enter Tryd.func51, Tryd.ntmps51
  go_wp2_with fail
  refine wp_region_onh (by kernel_rfl) (by kernel_rfl) ?_
  repeat (refine rest_step (fun K hK => ?_); go_simp; first | (refine hK _ ?_; clear hK K) | (apply Exists.intro; refine ⟨fun v1 hv1 => ?_, hK _ ?_⟩; (first | with_reducible exact rfl | with_reducible exact ⟨rfl, rfl⟩ | with_reducible exact Calls.on hv1 (HL.out _) | (obtain ⟨hc, hf⟩ := bcell hv1; go_simp; first | with_reducible exact rfl | with_reducible exact ⟨rfl, rfl⟩ | exact rfl | exact ⟨rfl, rfl⟩)); clear hK K))
  refine rest_nil ?_
  intro w5 h5
  go_wp2_with fail
  go_ret
  exact ⟨rfl, h5⟩
set_option maxHeartbeats 1000000 in
theorem far1_margin (h g k : Nat) (f d c o : Int) (w : World) (f0 : 1 ≤ f) (f1 : f ≤ 100000000) (d0 : 1 ≤ d) (d1 : d ≤ 283000) (c0 : 25 ≤ c) (c1 : c ≤ 400) (hk : k < 100001) (hp : Clo4 w g f d c o) (hl : w.cell? ⟨h, 0, none⟩ = some (.int .i64 0)) (hh : w.cell? ⟨h + 1, 0, none⟩ = some (.func (Fn.func 51) #[] #[.pointer (some ⟨g, 0, none⟩), .pointer (some ⟨g + 1, 0, none⟩), .pointer (some ⟨g + 2, 0, none⟩), .pointer (some ⟨g + 3, 0, none⟩)])) :
    Calls Tryd.prog 96 #[.int .i64 k, .pointer (some ⟨h + 1, 0, none⟩), .pointer (some ⟨h, 0, none⟩)] w fun e w' => e = .returned (.bool (!(lowP f d c o) k)) ∧ On w w' := by
  have HC := Lib.hid (fun w' (ho : On w w') => clo_margin (k : Int) f d c o g w' f0 f1 d0 d1 c0 c1 (by omega) (by omega) (hp.on ho))
  have en := Lib.hid (lowP_not f d c o k)
  go_enter Tryd.func96, Tryd.ntmps96
  go_wp2_with fail
  refine (HC.out _ (On.refl _)).mono ?_
  rintro e w1 ⟨rfl, h1⟩
  go_wp2_with fail
  go_ret
  exact ⟨ret_bool en.out.symm, h1⟩
set_option maxHeartbeats 1000000 in
theorem least_margin (g : Nat) (f d c o : Int) (w : World) (f0 : 1 ≤ f) (f1 : f ≤ 100000000) (d0 : 1 ≤ d) (d1 : d ≤ 283000) (c0 : 25 ≤ c) (c1 : c ≤ 400) (hp : Clo4 w g f d c o) :
    Calls Tryd.prog 50 #[.int .i64 0, .int .i64 100000, .func (Fn.func 51) #[] #[.pointer (some ⟨g, 0, none⟩), .pointer (some ⟨g + 1, 0, none⟩), .pointer (some ⟨g + 2, 0, none⟩), .pointer (some ⟨g + 3, 0, none⟩)]] w fun e w' => e = .returned (.tuple #[.int .i64 (leastV 0 (lowP f d c o) 100001), .int .i64 (leastC (lowP f d c o) 100001)]) ∧ On w w' := by
  have HSE := Lib.hid (fun w1 (ho : On w w1) hl hh => search2 (.pointer (some ⟨w.heap.size + 1, 0, none⟩)) (.pointer (some ⟨w.heap.size, 0, none⟩)) (lowP f d c o) 100001 w1 (by omega) (lowP_mono o f1 d0 d1 c0 c1)
    (fun k hk w2 h2 => far1_margin w.heap.size g k f d c o w2 f0 f1 d0 d1 c0 c1 hk (hp.on (ho.trans h2)) ((h2.cell (World.block_lt_of_cell? w1 _ hl)).trans hl) ((h2.cell (World.block_lt_of_cell? w1 _ hh)).trans hh)))
  obtain ⟨k, hk⟩ : ∃ k, leadN (lowP f d c o) 100001 = k := ⟨_, rfl⟩
  rw [hk] at HSE
  have hle : k ≤ 100001 := by rw [← hk]; exact lead_le _ _
  by_cases h0 : k = 100001
  · have en := Lib.hid (least_none (lo := 0) hk h0)
    subst h0
    clear hk hp
    go_enter Tryd.func50, Tryd.ntmps50
    go_wp2_with fail
    refine (HSE.out _ (by repeat (first | with_reducible exact On.refl _ | apply On.alloc)) (by simp [go_sem]) (by simp [go_sem])).mono ?_
    rintro e w1 ⟨rfl, h1⟩
    have hx : w1.cell? ⟨w.heap.size, 0, none⟩ = some (.int .i64 0) := (h1.cell (by simp [go_sem]; try omega)).trans (by simp [go_sem])
    go_wp2_with fail
    go_ret2
    exact ⟨ret_ii en.out.1.symm en.out.2.symm, by refine On.trans ?_ h1; repeat (first | with_reducible exact On.refl _ | apply On.alloc)⟩
  · have en := least_some (lo := 0) hk h0
    rw [Int.zero_add] at en
    have EN := Lib.hid en
    have hb : ¬ (100000 : Int) < (k : Int) := by omega
    clear hk hp en
    go_enter Tryd.func50, Tryd.ntmps50
    go_wp2_with fail
    refine (HSE.out _ (by repeat (first | with_reducible exact On.refl _ | apply On.alloc)) (by simp [go_sem]) (by simp [go_sem])).mono ?_
    rintro e w1 ⟨rfl, h1⟩
    have hx : w1.cell? ⟨w.heap.size, 0, none⟩ = some (.int .i64 0) := (h1.cell (by simp [go_sem]; try omega)).trans (by simp [go_sem])
    go_wp2_with fail
    go_ret2
    exact ⟨ret_ii EN.out.1.symm EN.out.2.symm, by refine On.trans ?_ h1; repeat (first | with_reducible exact On.refl _ | apply On.alloc)⟩
/-- MarginFor. -/
def okM (f d c o : Int) : Bool := inB f 1 100000000 && inB d 1 283000 && inB c 25 400 && inB o 0 1000000
noncomputable def valM (f d c o : Int) : Int := if okM f d c o = true then leastV 0 (lowP f d c o) 100001 else 0
noncomputable def codeM (f d c o : Int) : Int := if okM f d c o = true then leastC (lowP f d c o) 100001 else 2
theorem no_M {f d c o : Int} (h : okM f d c o = false) : valM f d c o = 0 ∧ codeM f d c o = 2 := by unfold valM codeM; rw [h]; exact ⟨rfl, rfl⟩
theorem yes_M {f d c o : Int} (h : okM f d c o = true) : valM f d c o = leastV 0 (lowP f d c o) 100001 ∧ codeM f d c o = leastC (lowP f d c o) 100001 := by unfold valM codeM; rw [h]; exact ⟨rfl, rfl⟩
set_option maxHeartbeats 4000000 in
theorem spec_MarginFor (f d c o : Int) (w : World) :
    Calls Tryd.prog 15 #[.int .i64 f, .int .i64 d, .int .i64 c, .int .i64 o] w fun e w' => e = .returned (.tuple #[.int .i64 (valM f d c o), .int .i64 (codeM f d c o)]) ∧ On w w' := by
  cases h0 : inB f 1 100000000 with
  | false =>
    have en := Lib.hid (no_M (show okM f d c o = false by unfold okM; rw [h0]; first | rfl | simp))
    go_enter Tryd.func15, Tryd.ntmps15
    go_wp2_with (first | (go_at_call 42; refine (Free.spec_l09Frequency _ _).mono ?_; rintro e w' ⟨rfl, rfl⟩) | (go_at_call 43; refine (Free.spec_l09Distance _ _).mono ?_; rintro e w' ⟨rfl, rfl⟩) | (go_at_call 44; refine (spec_l13Climate _ _).mono ?_; rintro e w' ⟨rfl, rfl⟩) | (go_at_call 49; refine (spec_l13Outage _ _).mono ?_; rintro e w' ⟨rfl, rfl⟩))
    go_ret2
    exact ⟨ret_ii en.out.1.symm en.out.2.symm, On.refl _⟩
  | true =>
    cases h1 : inB d 1 283000 with
    | false =>
      have en := Lib.hid (no_M (show okM f d c o = false by unfold okM; rw [h0, h1]; first | rfl | simp))
      go_enter Tryd.func15, Tryd.ntmps15
      go_wp2_with (first | (go_at_call 42; refine (Free.spec_l09Frequency _ _).mono ?_; rintro e w' ⟨rfl, rfl⟩) | (go_at_call 43; refine (Free.spec_l09Distance _ _).mono ?_; rintro e w' ⟨rfl, rfl⟩) | (go_at_call 44; refine (spec_l13Climate _ _).mono ?_; rintro e w' ⟨rfl, rfl⟩) | (go_at_call 49; refine (spec_l13Outage _ _).mono ?_; rintro e w' ⟨rfl, rfl⟩))
      go_ret2
      exact ⟨ret_ii en.out.1.symm en.out.2.symm, On.refl _⟩
    | true =>
      cases h2 : inB c 25 400 with
      | false =>
        have en := Lib.hid (no_M (show okM f d c o = false by unfold okM; rw [h0, h1, h2]; first | rfl | simp))
        go_enter Tryd.func15, Tryd.ntmps15
        go_wp2_with (first | (go_at_call 42; refine (Free.spec_l09Frequency _ _).mono ?_; rintro e w' ⟨rfl, rfl⟩) | (go_at_call 43; refine (Free.spec_l09Distance _ _).mono ?_; rintro e w' ⟨rfl, rfl⟩) | (go_at_call 44; refine (spec_l13Climate _ _).mono ?_; rintro e w' ⟨rfl, rfl⟩) | (go_at_call 49; refine (spec_l13Outage _ _).mono ?_; rintro e w' ⟨rfl, rfl⟩))
        go_ret2
        exact ⟨ret_ii en.out.1.symm en.out.2.symm, On.refl _⟩
      | true =>
        cases h3 : inB o 0 1000000 with
        | false =>
          have en := Lib.hid (no_M (show okM f d c o = false by unfold okM; rw [h0, h1, h2, h3]; first | rfl | simp))
          go_enter Tryd.func15, Tryd.ntmps15
          go_wp2_with (first | (go_at_call 42; refine (Free.spec_l09Frequency _ _).mono ?_; rintro e w' ⟨rfl, rfl⟩) | (go_at_call 43; refine (Free.spec_l09Distance _ _).mono ?_; rintro e w' ⟨rfl, rfl⟩) | (go_at_call 44; refine (spec_l13Climate _ _).mono ?_; rintro e w' ⟨rfl, rfl⟩) | (go_at_call 49; refine (spec_l13Outage _ _).mono ?_; rintro e w' ⟨rfl, rfl⟩))
          go_ret2
          exact ⟨ret_ii en.out.1.symm en.out.2.symm, On.refl _⟩
        | true =>
          have en := Lib.hid (yes_M (show okM f d c o = true by unfold okM; rw [h0, h1, h2, h3]; rfl))
          obtain ⟨f0, f1⟩ := of_inB h0
          obtain ⟨d0, d1⟩ := of_inB h1
          obtain ⟨c0, c1⟩ := of_inB h2
          obtain ⟨o0, o1⟩ := of_inB h3
          have HU := Lib.hid (lowP_mono (d := d) o f1 d0 d1 c0 c1)
          have HB0 := Lib.hid (sb_start (lowP f d c o) 100001)
          have HL := Lib.hid (fun m w m0 m1 => spec_fade f d c m w f0 f1 d0 d1 c0 c1 m0 m1)
          go_enter Tryd.func15, Tryd.ntmps15
          go_wp2_with (first | (go_at_call 42; refine (Free.spec_l09Frequency _ _).mono ?_; rintro e w' ⟨rfl, rfl⟩) | (go_at_call 43; refine (Free.spec_l09Distance _ _).mono ?_; rintro e w' ⟨rfl, rfl⟩) | (go_at_call 44; refine (spec_l13Climate _ _).mono ?_; rintro e w' ⟨rfl, rfl⟩) | (go_at_call 49; refine (spec_l13Outage _ _).mono ?_; rintro e w' ⟨rfl, rfl⟩))
          go_loop [10, 11] (fun x y => ∃ i j : Nat, x = .int .i64 i ∧ y = .int .i64 j ∧ j ≤ 100001 ∧ i ≤ j ∧ Sb (lowP f d c o) 100001 i j) (fun x y => (intOf y - intOf x).toNat)
          case atStart => exact ⟨0, 100001, rfl, rfl, Nat.le_refl _, Nat.zero_le _, HB0.out⟩
          case round =>
            obtain ⟨i, j, rfl, rfl, hj, hij, hs⟩ := hrel
            have HS := Lib.hid hs
            clear hs
            by_cases hlt : i < j
            · obtain ⟨m, hm⟩ : ∃ m, m = (i + j) / 2 := ⟨_, rfl⟩
              have n1 : i ≤ m := by omega
              have n2 : m < j := by omega
              have hmi : ((i : Int) + j) / 2 = m := by omega
              have hmi' : Int.tdiv ((i : Int) + j) 2 = m := by rw [Int.tdiv_eq_ediv_of_nonneg (by omega)]; exact hmi
              have HMI := Lib.hid hmi'
              have HMI2 := Lib.hid hmi
              clear hm hmi hmi'
              by_cases hq : fadeV f d c (m : Int) ≤ o
              · have HB := Lib.hid (sb_hi HS.out n1 n2 (show lowP f d c o m = false from decide_eq_false (by omega)))
                go_wp2_with fail
                (first | rw [HMI.out] | rw [HMI2.out])
                refine (HL.out (m : Int) _ (by omega) (by omega)).mono ?_
                rintro e w1 ⟨rfl, rfl⟩
                generalize fadeV f d c (m : Int) = V at *
                go_wp2_with fail
                go_round
                case rel => exact ⟨i, m, rfl, (by first | rfl | rw [← HMI.out] | rw [← HMI2.out]), by omega, by omega, HB.out⟩
                case measure => simp [intOf]; omega
              · have HB := Lib.hid (sb_lo HU.out HS.out n2 (show lowP f d c o m = true from decide_eq_true (by omega)))
                go_wp2_with fail
                (first | rw [HMI.out] | rw [HMI2.out])
                refine (HL.out (m : Int) _ (by omega) (by omega)).mono ?_
                rintro e w1 ⟨rfl, rfl⟩
                generalize fadeV f d c (m : Int) = V at *
                go_wp2_with fail
                go_round
                case rel => exact ⟨m + 1, j, by go_num, rfl, by omega, by omega, HB.out⟩
                case measure => simp [intOf]; omega
            · obtain rfl : i = j := by omega
              have ek := sb_end HS.out
              by_cases hz : i = 100001
              · have em := Lib.hid (least_none (lo := 0) ek hz)
                subst hz
                clear ek
                go_wp2_with fail
                go_ret2
                exact ⟨ret_ii (by rw [en.out.1, em.out.1]) (by rw [en.out.2, em.out.2]), On.refl _⟩
              · have em := least_some (lo := 0) ek hz
                rw [Int.zero_add] at em
                have EM := Lib.hid em
                have hb : ¬ (100000 : Int) < (i : Int) := by omega
                clear ek em
                go_wp2_with fail
                go_ret2
                exact ⟨ret_ii (by rw [en.out.1, EM.out.1]) (by rw [en.out.2, EM.out.2]), On.refl _⟩
set_option maxHeartbeats 4000000 in
theorem impl_MarginFor (f d c o : Int) (w : World) (hg : SpanG w) :
    Calls Tryd.prog 16 #[.int .i64 f, .int .i64 d, .int .i64 c, .int .i64 o] w fun e w' => e = .returned (.tuple #[.int .i64 (valM f d c o), .int .i64 (codeM f d c o)]) ∧ On w w' := by
  cases h0 : inB f 1 100000000 with
  | false =>
    have HG := Lib.hid hg
    have en := Lib.hid (no_M (show okM f d c o = false by unfold okM; rw [h0]; first | rfl | simp))
    go_enter Tryd.func16, Tryd.ntmps16
    go_wp2_with fail
    refine (Span.allows1_0 f _ _ (by simp [go_sem]) (HG.out.on (by repeat (first | with_reducible exact On.refl _ | apply On.alloc)))).mono ?_
    rintro e w1 ⟨rfl, k1⟩
    have HO1 := Lib.hid (show On w w1 by refine On.trans ?_ k1; repeat (first | with_reducible exact On.refl _ | apply On.alloc))
    have HP1 := Lib.hid (show Clo4 w1 w.heap.size f d c o from Clo4.on ⟨by simp [go_sem], by simp [go_sem], by simp [go_sem], by simp [go_sem]⟩ k1)
    clear k1
    go_wp2_with fail
    go_ret2
    exact ⟨ret_ii en.out.1.symm en.out.2.symm, HO1.out⟩
  | true =>
    cases h1 : inB d 1 283000 with
    | false =>
      have HG := Lib.hid hg
      have en := Lib.hid (no_M (show okM f d c o = false by unfold okM; rw [h0, h1]; first | rfl | simp))
      go_enter Tryd.func16, Tryd.ntmps16
      go_wp2_with fail
      refine (Span.allows1_0 f _ _ (by simp [go_sem]) (HG.out.on (by repeat (first | with_reducible exact On.refl _ | apply On.alloc)))).mono ?_
      rintro e w1 ⟨rfl, k1⟩
      have HO1 := Lib.hid (show On w w1 by refine On.trans ?_ k1; repeat (first | with_reducible exact On.refl _ | apply On.alloc))
      have HP1 := Lib.hid (show Clo4 w1 w.heap.size f d c o from Clo4.on ⟨by simp [go_sem], by simp [go_sem], by simp [go_sem], by simp [go_sem]⟩ k1)
      clear k1
      obtain ⟨p00, p01, p02, p03⟩ := HP1.out
      go_wp2_with fail
      refine (Span.allows1_1 d _ _ (by simp [go_sem]) (HG.out.on (by repeat (first | with_reducible exact HO1.out | apply On.alloc)))).mono ?_
      rintro e w2 ⟨rfl, k2⟩
      have HO2 := Lib.hid (show On w w2 by refine On.trans ?_ k2; repeat (first | with_reducible exact HO1.out | apply On.alloc))
      have HP2 := Lib.hid (HP1.out.on (show On w1 w2 by refine On.trans ?_ k2; repeat (first | with_reducible exact On.refl _ | apply On.alloc)))
      clear k2
      clear p00 p01 p02 p03
      go_wp2_with fail
      go_ret2
      exact ⟨ret_ii en.out.1.symm en.out.2.symm, HO2.out⟩
    | true =>
      cases h2 : inB c 25 400 with
      | false =>
        have HG := Lib.hid hg
        have en := Lib.hid (no_M (show okM f d c o = false by unfold okM; rw [h0, h1, h2]; first | rfl | simp))
        go_enter Tryd.func16, Tryd.ntmps16
        go_wp2_with fail
        refine (Span.allows1_0 f _ _ (by simp [go_sem]) (HG.out.on (by repeat (first | with_reducible exact On.refl _ | apply On.alloc)))).mono ?_
        rintro e w1 ⟨rfl, k1⟩
        have HO1 := Lib.hid (show On w w1 by refine On.trans ?_ k1; repeat (first | with_reducible exact On.refl _ | apply On.alloc))
        have HP1 := Lib.hid (show Clo4 w1 w.heap.size f d c o from Clo4.on ⟨by simp [go_sem], by simp [go_sem], by simp [go_sem], by simp [go_sem]⟩ k1)
        clear k1
        obtain ⟨p00, p01, p02, p03⟩ := HP1.out
        go_wp2_with fail
        refine (Span.allows1_1 d _ _ (by simp [go_sem]) (HG.out.on (by repeat (first | with_reducible exact HO1.out | apply On.alloc)))).mono ?_
        rintro e w2 ⟨rfl, k2⟩
        have HO2 := Lib.hid (show On w w2 by refine On.trans ?_ k2; repeat (first | with_reducible exact HO1.out | apply On.alloc))
        have HP2 := Lib.hid (HP1.out.on (show On w1 w2 by refine On.trans ?_ k2; repeat (first | with_reducible exact On.refl _ | apply On.alloc)))
        clear k2
        obtain ⟨p10, p11, p12, p13⟩ := HP2.out
        clear p00 p01 p02 p03
        go_wp2_with fail
        refine (Span.allows1_13 c _ _ (by simp [go_sem]) (HG.out.on (by repeat (first | with_reducible exact HO2.out | apply On.alloc)))).mono ?_
        rintro e w3 ⟨rfl, k3⟩
        have HO3 := Lib.hid (show On w w3 by refine On.trans ?_ k3; repeat (first | with_reducible exact HO2.out | apply On.alloc))
        have HP3 := Lib.hid (HP2.out.on (show On w2 w3 by refine On.trans ?_ k3; repeat (first | with_reducible exact On.refl _ | apply On.alloc)))
        clear k3
        clear p10 p11 p12 p13
        go_wp2_with fail
        go_ret2
        exact ⟨ret_ii en.out.1.symm en.out.2.symm, HO3.out⟩
      | true =>
        cases h3 : inB o 0 1000000 with
        | false =>
          have HG := Lib.hid hg
          have en := Lib.hid (no_M (show okM f d c o = false by unfold okM; rw [h0, h1, h2, h3]; first | rfl | simp))
          go_enter Tryd.func16, Tryd.ntmps16
          go_wp2_with fail
          refine (Span.allows1_0 f _ _ (by simp [go_sem]) (HG.out.on (by repeat (first | with_reducible exact On.refl _ | apply On.alloc)))).mono ?_
          rintro e w1 ⟨rfl, k1⟩
          have HO1 := Lib.hid (show On w w1 by refine On.trans ?_ k1; repeat (first | with_reducible exact On.refl _ | apply On.alloc))
          have HP1 := Lib.hid (show Clo4 w1 w.heap.size f d c o from Clo4.on ⟨by simp [go_sem], by simp [go_sem], by simp [go_sem], by simp [go_sem]⟩ k1)
          clear k1
          obtain ⟨p00, p01, p02, p03⟩ := HP1.out
          go_wp2_with fail
          refine (Span.allows1_1 d _ _ (by simp [go_sem]) (HG.out.on (by repeat (first | with_reducible exact HO1.out | apply On.alloc)))).mono ?_
          rintro e w2 ⟨rfl, k2⟩
          have HO2 := Lib.hid (show On w w2 by refine On.trans ?_ k2; repeat (first | with_reducible exact HO1.out | apply On.alloc))
          have HP2 := Lib.hid (HP1.out.on (show On w1 w2 by refine On.trans ?_ k2; repeat (first | with_reducible exact On.refl _ | apply On.alloc)))
          clear k2
          obtain ⟨p10, p11, p12, p13⟩ := HP2.out
          clear p00 p01 p02 p03
          go_wp2_with fail
          refine (Span.allows1_13 c _ _ (by simp [go_sem]) (HG.out.on (by repeat (first | with_reducible exact HO2.out | apply On.alloc)))).mono ?_
          rintro e w3 ⟨rfl, k3⟩
          have HO3 := Lib.hid (show On w w3 by refine On.trans ?_ k3; repeat (first | with_reducible exact HO2.out | apply On.alloc))
          have HP3 := Lib.hid (HP2.out.on (show On w2 w3 by refine On.trans ?_ k3; repeat (first | with_reducible exact On.refl _ | apply On.alloc)))
          clear k3
          obtain ⟨p20, p21, p22, p23⟩ := HP3.out
          clear p10 p11 p12 p13
          go_wp2_with fail
          refine (Span.allows1_12 o _ _ (by simp [go_sem]) (HG.out.on (by repeat (first | with_reducible exact HO3.out | apply On.alloc)))).mono ?_
          rintro e w4 ⟨rfl, k4⟩
          have HO4 := Lib.hid (show On w w4 by refine On.trans ?_ k4; repeat (first | with_reducible exact HO3.out | apply On.alloc))
          have HP4 := Lib.hid (HP3.out.on (show On w3 w4 by refine On.trans ?_ k4; repeat (first | with_reducible exact On.refl _ | apply On.alloc)))
          clear k4
          clear p20 p21 p22 p23
          go_wp2_with fail
          go_ret2
          exact ⟨ret_ii en.out.1.symm en.out.2.symm, HO4.out⟩
        | true =>
          have HG := Lib.hid hg
          have en := Lib.hid (yes_M (show okM f d c o = true by unfold okM; rw [h0, h1, h2, h3]; rfl))
          obtain ⟨f0, f1⟩ := of_inB h0
          obtain ⟨d0, d1⟩ := of_inB h1
          obtain ⟨c0, c1⟩ := of_inB h2
          obtain ⟨o0, o1⟩ := of_inB h3
          have HF := Lib.hid (fun g w' hp => least_margin g f d c o w' f0 f1 d0 d1 c0 c1 hp)
          go_enter Tryd.func16, Tryd.ntmps16
          go_wp2_with fail
          refine (Span.allows1_0 f _ _ (by simp [go_sem]) (HG.out.on (by repeat (first | with_reducible exact On.refl _ | apply On.alloc)))).mono ?_
          rintro e w1 ⟨rfl, k1⟩
          have HO1 := Lib.hid (show On w w1 by refine On.trans ?_ k1; repeat (first | with_reducible exact On.refl _ | apply On.alloc))
          have HP1 := Lib.hid (show Clo4 w1 w.heap.size f d c o from Clo4.on ⟨by simp [go_sem], by simp [go_sem], by simp [go_sem], by simp [go_sem]⟩ k1)
          clear k1
          obtain ⟨p00, p01, p02, p03⟩ := HP1.out
          go_wp2_with fail
          refine (Span.allows1_1 d _ _ (by simp [go_sem]) (HG.out.on (by repeat (first | with_reducible exact HO1.out | apply On.alloc)))).mono ?_
          rintro e w2 ⟨rfl, k2⟩
          have HO2 := Lib.hid (show On w w2 by refine On.trans ?_ k2; repeat (first | with_reducible exact HO1.out | apply On.alloc))
          have HP2 := Lib.hid (HP1.out.on (show On w1 w2 by refine On.trans ?_ k2; repeat (first | with_reducible exact On.refl _ | apply On.alloc)))
          clear k2
          obtain ⟨p10, p11, p12, p13⟩ := HP2.out
          clear p00 p01 p02 p03
          go_wp2_with fail
          refine (Span.allows1_13 c _ _ (by simp [go_sem]) (HG.out.on (by repeat (first | with_reducible exact HO2.out | apply On.alloc)))).mono ?_
          rintro e w3 ⟨rfl, k3⟩
          have HO3 := Lib.hid (show On w w3 by refine On.trans ?_ k3; repeat (first | with_reducible exact HO2.out | apply On.alloc))
          have HP3 := Lib.hid (HP2.out.on (show On w2 w3 by refine On.trans ?_ k3; repeat (first | with_reducible exact On.refl _ | apply On.alloc)))
          clear k3
          obtain ⟨p20, p21, p22, p23⟩ := HP3.out
          clear p10 p11 p12 p13
          go_wp2_with fail
          refine (Span.allows1_12 o _ _ (by simp [go_sem]) (HG.out.on (by repeat (first | with_reducible exact HO3.out | apply On.alloc)))).mono ?_
          rintro e w4 ⟨rfl, k4⟩
          have HO4 := Lib.hid (show On w w4 by refine On.trans ?_ k4; repeat (first | with_reducible exact HO3.out | apply On.alloc))
          have HP4 := Lib.hid (HP3.out.on (show On w3 w4 by refine On.trans ?_ k4; repeat (first | with_reducible exact On.refl _ | apply On.alloc)))
          clear k4
          clear p20 p21 p22 p23
          go_wp2_with fail
          refine (HF.out _ _ HP4.out).mono ?_
          rintro e w9 ⟨rfl, k9⟩
          go_wp2_with fail
          go_ret2
          exact ⟨ret_ii en.out.1.symm en.out.2.symm, HO4.out.trans k9⟩
end Go.Proofs.YtafhphceojamoaaDoor.Fade
