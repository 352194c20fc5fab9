
/-
  The channel of a frequency, in the model and in the program. Conditions: at most 1048576 bytes in the name; the program's variable of spans holds what its text lays; the frequency is a 64-bit number.
-/
import Derived.Test.YtdkemoojlgdelaaDoorBndC
namespace Go.Proofs.YtdkemoojlgdelaaDoor.Bnd
open Go.RowKit
open Plain

def catB (l h r f : Int) : Bool := decide (l ≤ f) && hasB l h r (Int.tdiv (f - l) r)
theorem cat_low {l h r f : Int} (hf : f < l) : catB l h r f = false := by unfold catB; rw [decide_eq_false (by omega)]; rfl
theorem cat_has {l h r f : Int} (hf : l ≤ f) : catB l h r f = hasB l h r (Int.tdiv (f - l) r) := by unfold catB; rw [decide_eq_true hf]; rfl
theorem div_facts {l r f : Int} (hf : l ≤ f) (r1 : 1 ≤ r) : 0 ≤ Int.tdiv (f - l) r ∧ Int.tdiv (f - l) r ≤ f - l := ⟨Int.tdiv_nonneg (by omega) (by omega), Int.tdiv_le_self _ (by omega)⟩
theorem cat_iff {l h r f : Int} (hf : l ≤ f) (r1 : 1 ≤ r) : hasB l h r (Int.tdiv (f - l) r) = decide (f < l + quo l h r * r) := by
  unfold hasB
  generalize quo l h r = q
  rw [Int.tdiv_eq_ediv_of_nonneg (by omega)]
  have e0 : 0 ≤ (f - l) / r := Int.ediv_nonneg (by omega) (by omega)
  have e1 : (f - l) / r * r ≤ f - l := Int.ediv_mul_le _ (by omega)
  have e2 : f - l < ((f - l) / r + 1) * r := Int.lt_ediv_add_one_mul_self _ (by omega)
  generalize (f - l) / r = a at *
  by_cases hc : a ≤ q - 1
  · rw [inB_yes e0 hc]
    have := Int.mul_le_mul_of_nonneg_right (show a + 1 ≤ q by omega) (show 0 ≤ r by omega)
    exact (decide_eq_true (by omega)).symm
  · rw [inB_no (by omega)]
    have := Int.mul_le_mul_of_nonneg_right (show q ≤ a by omega) (show 0 ≤ r by omega)
    exact (decide_eq_false (by omega)).symm
def catR (b1 b2 : Bool) (v : Int) : Int × Int := if b1 then (if b2 then (v, 0) else (0, 3)) else (0, 1)
theorem catR_no (b2 : Bool) (v : Int) : catR false b2 v = (0, 1) := rfl
theorem catR_out (v : Int) : catR true false v = (0, 3) := rfl
theorem catR_yes (v : Int) : catR true true v = (v, 0) := rfl

set_option maxHeartbeats 2000000 in
theorem spec_ChannelAt (x : ByteArray) (l h r d : Int) (f : Int) (w : World) (q0 : x.size ≤ 1048576) (f1 : -9223372036854775808 ≤ f) (f2 : f ≤ 9223372036854775807) :
    Calls Tryd.prog 18 #[.agg #[.string x, .int .i64 l, .int .i64 h, .int .i64 r, .int .i64 d], .int .i64 f] w fun e w' => e = .returned (.tuple #[.int .i64 (catR (okB x l h r d) (catB l h r f) (Int.tdiv (f - l) r)).1, .int .i64 (catR (okB x l h r d) (catB l h r f) (Int.tdiv (f - l) r)).2]) ∧ On w w' := by
  have HV := Lib.hid (fun w' hp => spec_ok w.heap.size x l h r d w' q0 hp)
  cases t0 : okB x l h r d with
  | false =>
    rw [t0] at HV
    rw [catR_no]
    go_enter Tryd.func18, Tryd.ntmps18
    go_wp2_with fail
    refine (HV.out _ ⟨by simp [go_sem], by simp [go_sem], by simp [go_sem], by simp [go_sem], by simp [go_sem]⟩).mono ?_
    rintro e w1 ⟨rfl, a1⟩
    have K1 : In w1 w.heap.size x l h r d := In.on ⟨by simp [go_sem], by simp [go_sem], by simp [go_sem], by simp [go_sem], by simp [go_sem]⟩ a1
    have HK1 := Lib.hid K1
    have z1 := K1.lt
    obtain ⟨k0, k1, k2, k3, k4⟩ := K1
    have hO1 : On w w1 := by repeat (first | with_reducible exact On.refl _ | apply On.alloc | apply On.drewN | apply On.drew | refine On.setCell ?_ (by (try simp) <;> omega) _ | refine On.trans ?_ a1)
    clear a1
    go_wp2_with fail
    go_ret2
    exact ⟨rfl, by repeat (first | with_reducible exact On.refl _ | apply On.alloc | apply On.drewN | apply On.drew | refine On.setCell ?_ (by (try simp) <;> omega) _ | refine On.trans ?_ hO1)⟩
  | true =>
    obtain ⟨⟨l1, l2⟩, ⟨h1, h2⟩, ⟨r1, r2⟩, ⟨q3, q4⟩, d1, d2⟩ := of_okB t0
    rw [t0] at HV
    by_cases hf : f < l
    · rw [cat_low hf, catR_out]
      have g1 : decide (f < l) = true := decide_eq_true hf
      go_enter Tryd.func18, Tryd.ntmps18
      go_wp2_with fail
      refine (HV.out _ ⟨by simp [go_sem], by simp [go_sem], by simp [go_sem], by simp [go_sem], by simp [go_sem]⟩).mono ?_
      rintro e w1 ⟨rfl, a1⟩
      have K1 : In w1 w.heap.size x l h r d := In.on ⟨by simp [go_sem], by simp [go_sem], by simp [go_sem], by simp [go_sem], by simp [go_sem]⟩ a1
      have HK1 := Lib.hid K1
      have z1 := K1.lt
      obtain ⟨k0, k1, k2, k3, k4⟩ := K1
      have hO1 : On w w1 := by repeat (first | with_reducible exact On.refl _ | apply On.alloc | apply On.drewN | apply On.drew | refine On.setCell ?_ (by (try simp) <;> omega) _ | refine On.trans ?_ a1)
      clear a1
      go_wp2_with fail
      refine wp_region_onh (by kernel_rfl) (by kernel_rfl) ?_
      repeat (refine rest_step (fun K hK => ?_); go_simp; first | (refine hK _ ?_; clear hK K) | (apply Exists.intro; refine ⟨fun v1 hv1 => ?_, hK _ ?_⟩; (first | with_reducible exact rfl | with_reducible exact ⟨rfl, rfl⟩ | (obtain ⟨hc, hf⟩ := bcell hv1; go_simp; first | with_reducible exact rfl | with_reducible exact ⟨rfl, rfl⟩ | exact rfl | exact ⟨rfl, rfl⟩)); clear hK K))
      refine rest_nil ?_
      intro w3 a3
      go_wp2_with fail
      go_ret2
      exact ⟨rfl, by repeat (first | with_reducible exact On.refl _ | apply On.alloc | apply On.drewN | apply On.drew | refine On.setCell ?_ (by (try simp) <;> omega) _ | refine On.trans ?_ a3 | refine On.trans ?_ hO1)⟩
    · have g1 : decide (f < l) = false := decide_eq_false hf
      have hf' : l ≤ f := by omega
      obtain ⟨v1, v2⟩ := div_facts (l := l) (r := r) (f := f) hf' r1
      rw [cat_has hf']
      obtain ⟨p1, p2, p3⟩ := quo_end (l := l) (h := h) r1 (by have := quo_pos r1 q3; omega)
      have wr0 : IntKind.i64.wrap (f - l) = f - l := IntWalk.i64_in _ (by omega)
      have r0 : ¬ r = 0 := by omega
      have hc := cat_iff (l := l) (h := h) (r := r) (f := f) hf' r1
      have HC := Lib.hid (fun w' hp => spec_count w.heap.size x l h r d w' hp l1 l2 h1 h2 r1)
      obtain ⟨q, hq⟩ : ∃ q, q = quo l h r := ⟨_, rfl⟩
      rw [← hq] at HC hc p1 p2 p3
      obtain ⟨y, hy⟩ : ∃ y, y = q * r := ⟨_, rfl⟩
      have em : q * r = y := hy.symm
      rw [← hy] at p1 p2 p3 hc
      have wr1 : IntKind.i64.wrap y = y := IntWalk.i64_in _ (by omega)
      have wr2 : IntKind.i64.wrap (l + y) = l + y := IntWalk.i64_in _ (by omega)
      clear hq hy q3 q4
      obtain ⟨a, ha⟩ : ∃ a, a = Int.tdiv (f - l) r := ⟨_, rfl⟩
      have ea : Int.tdiv (f - l) r = a := ha.symm
      rw [← ha] at v1 v2 hc ⊢
      clear ha
      have wr3 : IntKind.i64.wrap a = a := IntWalk.i64_in _ (by omega)
      by_cases hg : f < l + y
      · rw [hc, decide_eq_true hg, catR_yes]
        have g2 : decide (l + y ≤ f) = false := decide_eq_false (by omega)
        clear hc
        go_enter Tryd.func18, Tryd.ntmps18
        go_wp2_with fail
        refine (HV.out _ ⟨by simp [go_sem], by simp [go_sem], by simp [go_sem], by simp [go_sem], by simp [go_sem]⟩).mono ?_
        rintro e w1 ⟨rfl, a1⟩
        have K1 : In w1 w.heap.size x l h r d := In.on ⟨by simp [go_sem], by simp [go_sem], by simp [go_sem], by simp [go_sem], by simp [go_sem]⟩ a1
        have HK1 := Lib.hid K1
        have z1 := K1.lt
        obtain ⟨k0, k1, k2, k3, k4⟩ := K1
        have hO1 : On w w1 := by repeat (first | with_reducible exact On.refl _ | apply On.alloc | apply On.drewN | apply On.drew | refine On.setCell ?_ (by (try simp) <;> omega) _ | refine On.trans ?_ a1)
        clear a1
        go_wp2_with fail
        refine wp_region_onh (by kernel_rfl) (by kernel_rfl) ?_
        repeat (refine rest_step (fun K hK => ?_); go_simp; first | (refine hK _ ?_; clear hK K) | (apply Exists.intro; refine ⟨fun v1 hv1 => ?_, hK _ ?_⟩; (first | with_reducible exact rfl | with_reducible exact ⟨rfl, rfl⟩ | with_reducible exact Calls.on hv1 (HC.out _ (HK1.out.on hv1)) | (obtain ⟨hc, hf⟩ := bcell hv1; go_simp; first | with_reducible exact rfl | with_reducible exact ⟨rfl, rfl⟩ | exact rfl | exact ⟨rfl, rfl⟩)); clear hK K))
        refine rest_nil ?_
        intro w3 a3
        obtain ⟨hc3, hf3⟩ := bcell a3
        obtain ⟨k0, k1, k2, k3, k4⟩ := HK1.out.on a3
        have z3 : w.heap.size < w3.heap.size := World.block_lt_of_cell? _ _ k0
        go_wp2_with fail
        go_ret2
        exact ⟨rfl, by repeat (first | with_reducible exact On.refl _ | apply On.alloc | apply On.drewN | apply On.drew | refine On.setCell ?_ (by (try simp) <;> omega) _ | refine On.trans ?_ a3 | refine On.trans ?_ hO1)⟩
      · rw [hc, decide_eq_false hg, catR_out]
        have g2 : decide (l + y ≤ f) = true := decide_eq_true (by omega)
        clear hc
        go_enter Tryd.func18, Tryd.ntmps18
        go_wp2_with fail
        refine (HV.out _ ⟨by simp [go_sem], by simp [go_sem], by simp [go_sem], by simp [go_sem], by simp [go_sem]⟩).mono ?_
        rintro e w1 ⟨rfl, a1⟩
        have K1 : In w1 w.heap.size x l h r d := In.on ⟨by simp [go_sem], by simp [go_sem], by simp [go_sem], by simp [go_sem], by simp [go_sem]⟩ a1
        have HK1 := Lib.hid K1
        have z1 := K1.lt
        obtain ⟨k0, k1, k2, k3, k4⟩ := K1
        have hO1 : On w w1 := by repeat (first | with_reducible exact On.refl _ | apply On.alloc | apply On.drewN | apply On.drew | refine On.setCell ?_ (by (try simp) <;> omega) _ | refine On.trans ?_ a1)
        clear a1
        go_wp2_with fail
        refine wp_region_onh (by kernel_rfl) (by kernel_rfl) ?_
        repeat (refine rest_step (fun K hK => ?_); go_simp; first | (refine hK _ ?_; clear hK K) | (apply Exists.intro; refine ⟨fun v1 hv1 => ?_, hK _ ?_⟩; (first | with_reducible exact rfl | with_reducible exact ⟨rfl, rfl⟩ | with_reducible exact Calls.on hv1 (HC.out _ (HK1.out.on hv1)) | (obtain ⟨hc, hf⟩ := bcell hv1; go_simp; first | with_reducible exact rfl | with_reducible exact ⟨rfl, rfl⟩ | exact rfl | exact ⟨rfl, rfl⟩)); clear hK K))
        refine rest_nil ?_
        intro w3 a3
        go_wp2_with fail
        go_ret2
        exact ⟨rfl, by repeat (first | with_reducible exact On.refl _ | apply On.alloc | apply On.drewN | apply On.drew | refine On.setCell ?_ (by (try simp) <;> omega) _ | refine On.trans ?_ a3 | refine On.trans ?_ hO1)⟩

set_option maxHeartbeats 2000000 in
theorem impl_ChannelAt (x : ByteArray) (l h r d : Int) (f : Int) (w : World) (q0 : x.size ≤ 1048576) (f1 : -9223372036854775808 ≤ f) (f2 : f ≤ 9223372036854775807) (hg : Span.SpanG w) :
    Calls Tryd.prog 19 #[.agg #[.string x, .int .i64 l, .int .i64 h, .int .i64 r, .int .i64 d], .int .i64 f] w fun e w' => e = .returned (.tuple #[.int .i64 (catR (okB x l h r d) (catB l h r f) (Int.tdiv (f - l) r)).1, .int .i64 (catR (okB x l h r d) (catB l h r f) (Int.tdiv (f - l) r)).2]) ∧ On w w' := by
  have HV := Lib.hid (fun w' (ho : On w w') => impl_ok x l h r d w' q0 (hg.on ho))
  clear hg
  cases t0 : okB x l h r d with
  | false =>
    rw [t0] at HV
    rw [catR_no]
    go_enter Tryd.func19, Tryd.ntmps19
    go_wp2_with fail
    refine (HV.out _ (by repeat (first | with_reducible exact On.refl _ | apply On.alloc | apply On.drewN | apply On.drew | refine On.setCell ?_ (by (try simp) <;> omega) _))).mono ?_
    rintro e w1 ⟨rfl, a1⟩
    obtain ⟨hc1, hf1⟩ := bcell a1
    have z1 : w.heap.size < w1.heap.size := by have := a1.size; simp at this; omega
    have hO1 : On w w1 := by repeat (first | with_reducible exact On.refl _ | apply On.alloc | apply On.drewN | apply On.drew | refine On.setCell ?_ (by (try simp) <;> omega) _ | refine On.trans ?_ a1)
    clear a1
    go_wp2_with fail
    go_ret2
    exact ⟨rfl, by repeat (first | with_reducible exact On.refl _ | apply On.alloc | apply On.drewN | apply On.drew | refine On.setCell ?_ (by (try simp) <;> omega) _ | refine On.trans ?_ hO1)⟩
  | true =>
    obtain ⟨⟨l1, l2⟩, ⟨h1, h2⟩, ⟨r1, r2⟩, ⟨q3, q4⟩, d1, d2⟩ := of_okB t0
    rw [t0] at HV
    by_cases hf : f < l
    · rw [cat_low hf, catR_out]
      go_enter Tryd.func19, Tryd.ntmps19
      go_wp2_with fail
      refine (HV.out _ (by repeat (first | with_reducible exact On.refl _ | apply On.alloc | apply On.drewN | apply On.drew | refine On.setCell ?_ (by (try simp) <;> omega) _))).mono ?_
      rintro e w1 ⟨rfl, a1⟩
      obtain ⟨hc1, hf1⟩ := bcell a1
      have z1 : w.heap.size < w1.heap.size := by have := a1.size; simp at this; omega
      have hO1 : On w w1 := by repeat (first | with_reducible exact On.refl _ | apply On.alloc | apply On.drewN | apply On.drew | refine On.setCell ?_ (by (try simp) <;> omega) _ | refine On.trans ?_ a1)
      clear a1
      go_wp2_with fail
      go_ret2
      exact ⟨rfl, by repeat (first | with_reducible exact On.refl _ | apply On.alloc | apply On.drewN | apply On.drew | refine On.setCell ?_ (by (try simp) <;> omega) _ | refine On.trans ?_ hO1)⟩
    · have g1 : decide (f < l) = false := decide_eq_false hf
      have hf' : l ≤ f := by omega
      obtain ⟨v1, v2⟩ := div_facts (l := l) (r := r) (f := f) hf' r1
      rw [cat_has hf']
      obtain ⟨p1, p2, p3⟩ := quo_end (l := l) (h := h) r1 (by have := quo_pos r1 q3; omega)
      have wr0 : IntKind.i64.wrap (f - l) = f - l := IntWalk.i64_in _ (by omega)
      have r0 : ¬ r = 0 := by omega
      have HH := Lib.hid (fun (c : Int) w' => impl_has x l h r d c w' l1 l2 h1 h2 r1)
      obtain ⟨a, ha⟩ : ∃ a, a = Int.tdiv (f - l) r := ⟨_, rfl⟩
      have ea : Int.tdiv (f - l) r = a := ha.symm
      rw [← ha] at v1 v2 ⊢
      clear ha
      have wr3 : IntKind.i64.wrap a = a := IntWalk.i64_in _ (by omega)
      have HA := Lib.hid (fun w' => HH.out a w')
      clear HH
      cases t1 : hasB l h r a with
      | false =>
        rw [t1] at HA
        rw [catR_out]
        go_enter Tryd.func19, Tryd.ntmps19
        go_wp2_with fail
        refine (HV.out _ (by repeat (first | with_reducible exact On.refl _ | apply On.alloc | apply On.drewN | apply On.drew | refine On.setCell ?_ (by (try simp) <;> omega) _))).mono ?_
        rintro e w1 ⟨rfl, a1⟩
        obtain ⟨hc1, hf1⟩ := bcell a1
        have z1 : w.heap.size < w1.heap.size := by have := a1.size; simp at this; omega
        have hO1 : On w w1 := by repeat (first | with_reducible exact On.refl _ | apply On.alloc | apply On.drewN | apply On.drew | refine On.setCell ?_ (by (try simp) <;> omega) _ | refine On.trans ?_ a1)
        clear a1
        go_wp2_with fail
        refine (HA.out _).mono ?_
        rintro e w2 ⟨rfl, a2⟩
        go_wp2_with fail
        go_ret2
        exact ⟨rfl, by repeat (first | with_reducible exact On.refl _ | apply On.alloc | apply On.drewN | apply On.drew | refine On.setCell ?_ (by (try simp) <;> omega) _ | refine On.trans ?_ a2 | refine On.trans ?_ hO1)⟩
      | true =>
        rw [t1] at HA
        rw [catR_yes]
        go_enter Tryd.func19, Tryd.ntmps19
        go_wp2_with fail
        refine (HV.out _ (by repeat (first | with_reducible exact On.refl _ | apply On.alloc | apply On.drewN | apply On.drew | refine On.setCell ?_ (by (try simp) <;> omega) _))).mono ?_
        rintro e w1 ⟨rfl, a1⟩
        obtain ⟨hc1, hf1⟩ := bcell a1
        have z1 : w.heap.size < w1.heap.size := by have := a1.size; simp at this; omega
        have hO1 : On w w1 := by repeat (first | with_reducible exact On.refl _ | apply On.alloc | apply On.drewN | apply On.drew | refine On.setCell ?_ (by (try simp) <;> omega) _ | refine On.trans ?_ a1)
        clear a1
        go_wp2_with fail
        refine (HA.out _).mono ?_
        rintro e w2 ⟨rfl, a2⟩
        go_wp2_with fail
        go_ret2
        exact ⟨rfl, by repeat (first | with_reducible exact On.refl _ | apply On.alloc | apply On.drewN | apply On.drew | refine On.setCell ?_ (by (try simp) <;> omega) _ | refine On.trans ?_ a2 | refine On.trans ?_ hO1)⟩

end Go.Proofs.YtdkemoojlgdelaaDoor.Bnd
