
/-
  The channels of a band, in the model and in the program: how many there are, and their middles. Conditions: at most 1048576 bytes in the name; the program's variable of spans holds what its text lays.
-/
import Derived.Test.YtdkemoojlgdelaaDoorBndV
namespace Go.Proofs.YtdkemoojlgdelaaDoor.Bnd
open Go.RowKit
open Plain

def hasB (l h r c : Int) : Bool := inB c 0 (quo l h r - 1)
def mid (l r c : Int) : Int := l + c * r + r / 2
/-- A value and a code, where two things are asked first. -/
def pick (b1 b2 : Bool) (k v : Int) : Int × Int := if b1 then (if b2 then (v, 0) else (0, k)) else (0, 1)
theorem pick_no (b2 : Bool) (k v : Int) : pick false b2 k v = (0, 1) := rfl
theorem pick_out (k v : Int) : pick true false k v = (0, k) := rfl
theorem pick_yes (k v : Int) : pick true true k v = (v, 0) := rfl

theorem spec_has (g : Nat) (x : ByteArray) (l h r d : Int) (c : Int) (w : World) (hp : In w g x l h r d) (l1 : 1 ≤ l) (l2 : l ≤ 100000000) (h1 : 1 ≤ h) (h2 : h ≤ 100000000) (r1 : 1 ≤ r) :
    Calls Tryd.prog 26 #[.pointer (some ⟨g, 0, none⟩), .int .i64 c] w fun e w' => e = .returned (.bool (hasB l h r c)) ∧ On w w' := by
  have en := Lib.hid (show inB c 0 (quo l h r - 1) = hasB l h r c from rfl)
  obtain ⟨q1, q2⟩ := quo_range r1 l1 l2 h1 h2
  have HC := Lib.hid (fun w' hp => spec_count g x l h r d w' hp l1 l2 h1 h2 r1)
  have HP := Lib.hid hp
  clear hp
  go_enter Tryd.func26, Tryd.ntmps26
  go_wp2_with fail
  refine (HC.out _ HP.out).mono ?_
  rintro e w1 ⟨rfl, a1⟩
  go_wp2_with fail
  refine (Arith.l00In _ _ _ _).mono ?_
  rintro e w1 ⟨rfl, rfl⟩
  go_wp2_with fail
  go_ret
  exact ⟨ret_bool en.out, by repeat (first | with_reducible exact On.refl _ | apply On.alloc | apply On.drewN | apply On.drew | refine On.setCell ?_ (by (try simp) <;> omega) _ | refine On.trans ?_ a1)⟩

theorem impl_has (x : ByteArray) (l h r d : Int) (c : Int) (w : World) (l1 : 1 ≤ l) (l2 : l ≤ 100000000) (h1 : 1 ≤ h) (h2 : h ≤ 100000000) (r1 : 1 ≤ r) :
    Calls Tryd.prog 31 #[.agg #[.string x, .int .i64 l, .int .i64 h, .int .i64 r, .int .i64 d], .int .i64 c] w fun e w' => e = .returned (.bool (hasB l h r c)) ∧ On w w' := by
  have en := Lib.hid (show inB c 0 (quo l h r - 1) = hasB l h r c from rfl)
  obtain ⟨q1, q2⟩ := quo_range r1 l1 l2 h1 h2
  have HC := Lib.hid (fun w' => impl_count x l h r d w' l1 l2 h1 h2 r1)
  go_enter Tryd.func31, Tryd.ntmps31
  go_wp2_with fail
  refine (HC.out _).mono ?_
  rintro e w1 ⟨rfl, a1⟩
  go_wp2_with fail
  refine (Arith.within _ _ _ _).mono ?_
  rintro e w2 ⟨rfl, rfl⟩
  go_wp2_with fail
  go_ret
  exact ⟨ret_bool en.out, by repeat (first | with_reducible exact On.refl _ | apply On.alloc | apply On.drewN | apply On.drew | refine On.setCell ?_ (by (try simp) <;> omega) _ | refine On.trans ?_ a1)⟩

set_option maxHeartbeats 1000000 in
theorem spec_mid (g : Nat) (x : ByteArray) (l h r d : Int) (c : Int) (w : World) (hp : In w g x l h r d) (l1 : 1 ≤ l) (l2 : l ≤ 100000000) (h1 : 1 ≤ h) (h2 : h ≤ 100000000) (r1 : 1 ≤ r) (c0 : 0 ≤ c) (c1 : c ≤ quo l h r - 1) (q3 : 1 ≤ quo l h r) :
    Calls Tryd.prog 27 #[.pointer (some ⟨g, 0, none⟩), .int .i64 c] w fun e w' => e = .returned (.int .i64 (mid l r c)) ∧ On w w' := by
  have hg := hp.lt
  obtain ⟨k0, k1, k2, k3, k4⟩ := hp
  obtain ⟨m1, m2⟩ := chan_in r1 q3 c0 c1
  obtain ⟨m, hm⟩ : ∃ m, m = c * r := ⟨_, rfl⟩
  have em : c * r = m := hm.symm
  rw [← hm] at m1 m2
  clear hm
  have e1 : Int.tdiv r 2 = r / 2 := Int.tdiv_eq_ediv_of_nonneg (by omega)
  have en := Lib.hid (show l + m + r / 2 = mid l r c by unfold mid; rw [em])
  obtain ⟨y, hy⟩ : ∃ y, y = r / 2 := ⟨_, rfl⟩
  have y1 : 0 ≤ y ∧ y ≤ 100000000 := by omega
  obtain ⟨y1, y2⟩ := y1
  rw [← hy] at e1 en
  have e2 := hy.symm
  clear q3 c0 c1 hy
  have wr0 : IntKind.i64.wrap (m) = m := IntWalk.i64_in _ (by omega)
  have wr1 : IntKind.i64.wrap (l + m) = l + m := IntWalk.i64_in _ (by omega)
  have wr2 : IntKind.i64.wrap (l + m + y) = l + m + y := IntWalk.i64_in _ (by omega)
  have wr3 : IntKind.i64.wrap (y) = y := IntWalk.i64_in _ (by omega)
  go_enter Tryd.func27, Tryd.ntmps27
  go_wp2_with fail
  refine wp_region_onh (by kernel_rfl) (by kernel_rfl) ?_
  repeat (refine rest_step (fun K hK => ?_); go_simp; first | (refine hK _ ?_; clear hK K) | (apply Exists.intro; refine ⟨fun v1 hv1 => ?_, hK _ ?_⟩; (first | with_reducible exact rfl | with_reducible exact ⟨rfl, rfl⟩ | (obtain ⟨hc, hf⟩ := bcell hv1; go_simp; first | with_reducible exact rfl | with_reducible exact ⟨rfl, rfl⟩ | exact rfl | exact ⟨rfl, rfl⟩)); clear hK K))
  refine rest_nil ?_
  intro w1 a1
  go_wp2_with fail
  go_ret
  exact ⟨ret_int en.out, a1⟩

set_option maxHeartbeats 1000000 in
theorem impl_channel (x : ByteArray) (l h r d : Int) (c : Int) (w : World) (l1 : 1 ≤ l) (l2 : l ≤ 100000000) (h1 : 1 ≤ h) (h2 : h ≤ 100000000) (r1 : 1 ≤ r) (c0 : 0 ≤ c) (c1 : c ≤ quo l h r - 1) (q3 : 1 ≤ quo l h r) :
    Calls Tryd.prog 36 #[.agg #[.string x, .int .i64 l, .int .i64 h, .int .i64 r, .int .i64 d], .int .i64 c] w fun e w' => e = .returned (.agg #[.int .i64 (l + c * r), .int .i64 (l + c * r + r)]) ∧ On w w' := by
  obtain ⟨m1, m2⟩ := chan_in r1 q3 c0 c1
  obtain ⟨m, hm⟩ : ∃ m, m = c * r := ⟨_, rfl⟩
  have em : c * r = m := hm.symm
  rw [← hm] at m1 m2
  clear hm
  rw [em]
  clear q3 c0 c1
  go_enter Tryd.func36, Tryd.ntmps36
  go_wp2_with fail
  refine bodyPost_ret (v := .agg #[.int .i64 (l + m), .int .i64 (l + m + r)]) (by simp [results, Tryd.results36, go_sem]) rfl ⟨rfl, ?_⟩
  repeat (first | with_reducible exact On.refl _ | apply On.alloc | apply On.drewN | apply On.drew | refine On.setCell ?_ (by (try simp) <;> omega) _)

theorem impl_middle (a b : Int) (w : World) (a1 : 0 ≤ a) (a2 : a ≤ b) (b2 : b ≤ 1000000000) :
    Calls Tryd.prog 29 #[.agg #[.int .i64 a, .int .i64 b]] w fun e w' => e = .returned (.int .i64 (a + (b - a) / 2)) ∧ On w w' := by
  have e1 : Int.tdiv (b - a) 2 = (b - a) / 2 := Int.tdiv_eq_ediv_of_nonneg (by omega)
  obtain ⟨y, hy⟩ : ∃ y, y = (b - a) / 2 := ⟨_, rfl⟩
  have y1 : 0 ≤ y ∧ y ≤ 1000000000 := by omega
  obtain ⟨y1, y2⟩ := y1
  rw [← hy] at e1 ⊢
  have e2 := hy.symm
  clear hy
  go_enter Tryd.func29, Tryd.ntmps29
  go_wp2_with fail
  go_ret
  exact ⟨rfl, by repeat (first | with_reducible exact On.refl _ | apply On.alloc | apply On.drewN | apply On.drew | refine On.setCell ?_ (by (try simp) <;> omega) _)⟩

def lo2 (b1 b2 : Bool) (l r c : Int) : Int := if b1 && b2 then l + c * r else 0
def hi2 (b1 b2 : Bool) (l r c : Int) : Int := if b1 && b2 then l + c * r + r else 0
def code2 (b1 b2 : Bool) : Int := if b1 then (if b2 then 0 else 2) else 1
set_option maxHeartbeats 2000000 in
theorem impl_channelOf (x : ByteArray) (l h r d : Int) (c : Int) (w : World) (q0 : x.size ≤ 1048576) (hg : Span.SpanG w) :
    Calls Tryd.prog 28 #[.agg #[.string x, .int .i64 l, .int .i64 h, .int .i64 r, .int .i64 d], .int .i64 c] w fun e w' => e = .returned (.tuple #[.agg #[.int .i64 (lo2 (okB x l h r d) (hasB l h r c) l r c), .int .i64 (hi2 (okB x l h r d) (hasB l h r c) l r c)], .int .i64 (code2 (okB x l h r d) (hasB l h r c))]) ∧ On w w' := by
  have HV := Lib.hid (fun w' (ho : On w w') => impl_ok x l h r d w' q0 (hg.on ho))
  clear hg
  cases t0 : okB x l h r d with
  | false =>
    have en := Lib.hid (show lo2 false (hasB l h r c) l r c = 0 ∧ hi2 false (hasB l h r c) l r c = 0 ∧ code2 false (hasB l h r c) = 1 from ⟨rfl, rfl, rfl⟩)
    rw [en.out.1, en.out.2.1, en.out.2.2]
    rw [t0] at HV
    go_enter Tryd.func28, Tryd.ntmps28
    go_wp2_with fail
    refine (HV.out _ (by repeat (first | with_reducible exact On.refl _ | apply On.alloc | apply On.drewN | apply On.drew | refine On.setCell ?_ (by (try simp) <;> omega) _))).mono ?_
    rintro e w1 ⟨rfl, a1⟩
    obtain ⟨hc1, hf1⟩ := bcell a1
    have z1 : w.heap.size < w1.heap.size ∧ w.heap.size + 1 < w1.heap.size := by have := a1.size; simp at this; omega
    obtain ⟨z1, z1'⟩ := z1
    go_wp2_with fail
    refine bodyPost_ret (v := .tuple #[.agg #[.int .i64 0, .int .i64 0], .int .i64 1]) (by simp [results, Tryd.results28, go_sem, hc1]) rfl ⟨rfl, ?_⟩
    repeat (first | with_reducible exact On.refl _ | apply On.alloc | apply On.drewN | apply On.drew | refine On.setCell ?_ (by (try simp) <;> omega) _ | refine On.trans ?_ a1)
  | true =>
    obtain ⟨⟨l1, l2⟩, ⟨h1, h2⟩, ⟨r1, r2⟩, ⟨q3, q4⟩, d1, d2⟩ := of_okB t0
    rw [t0] at HV
    have HH := Lib.hid (fun w' => impl_has x l h r d c w' l1 l2 h1 h2 r1)
    cases t1 : hasB l h r c with
    | false =>
      rw [t1] at HH
      have en := Lib.hid (show lo2 true false l r c = 0 ∧ hi2 true false l r c = 0 ∧ code2 true false = 2 from ⟨rfl, rfl, rfl⟩)
      rw [en.out.1, en.out.2.1, en.out.2.2]
      go_enter Tryd.func28, Tryd.ntmps28
      go_wp2_with fail
      refine (HV.out _ (by repeat (first | with_reducible exact On.refl _ | apply On.alloc | apply On.drewN | apply On.drew | refine On.setCell ?_ (by (try simp) <;> omega) _))).mono ?_
      rintro e w1 ⟨rfl, a1⟩
      obtain ⟨hc1, hf1⟩ := bcell a1
      obtain ⟨z1, z1'⟩ : w.heap.size < w1.heap.size ∧ w.heap.size + 1 < w1.heap.size := by have := a1.size; simp at this; omega
      go_wp2_with fail
      refine (HH.out _).mono ?_
      rintro e w2 ⟨rfl, a2⟩
      obtain ⟨hc2, hf2⟩ := bcell a2
      obtain ⟨z2, z2'⟩ : w.heap.size < w2.heap.size ∧ w.heap.size + 1 < w2.heap.size := by have := a2.size; omega
      go_wp2_with fail
      refine bodyPost_ret (v := .tuple #[.agg #[.int .i64 0, .int .i64 0], .int .i64 2]) (by simp [results, Tryd.results28, go_sem, hc1, z1', hc2]) rfl ⟨rfl, ?_⟩
      repeat (first | with_reducible exact On.refl _ | apply On.alloc | apply On.drewN | apply On.drew | refine On.setCell ?_ (by (try simp) <;> omega) _ | refine On.trans ?_ a2 | refine On.trans ?_ a1)
    | true =>
      rw [t1] at HH
      obtain ⟨c0, c1⟩ := of_inB (show inB c 0 (quo l h r - 1) = true from t1)
      have HC := Lib.hid (fun w' => impl_channel x l h r d c w' l1 l2 h1 h2 r1 c0 c1 q3)
      have en := Lib.hid (show lo2 true true l r c = l + c * r ∧ hi2 true true l r c = l + c * r + r ∧ code2 true true = 0 from ⟨rfl, rfl, rfl⟩)
      rw [en.out.1, en.out.2.1, en.out.2.2]
      generalize l + c * r = u at *
      go_enter Tryd.func28, Tryd.ntmps28
      go_wp2_with fail
      refine (HV.out _ (by repeat (first | with_reducible exact On.refl _ | apply On.alloc | apply On.drewN | apply On.drew | refine On.setCell ?_ (by (try simp) <;> omega) _))).mono ?_
      rintro e w1 ⟨rfl, a1⟩
      obtain ⟨hc1, hf1⟩ := bcell a1
      obtain ⟨z1, z1'⟩ : w.heap.size < w1.heap.size ∧ w.heap.size + 1 < w1.heap.size := by have := a1.size; simp at this; omega
      go_wp2_with fail
      refine (HH.out _).mono ?_
      rintro e w2 ⟨rfl, a2⟩
      obtain ⟨hc2, hf2⟩ := bcell a2
      obtain ⟨z2, z2'⟩ : w.heap.size < w2.heap.size ∧ w.heap.size + 1 < w2.heap.size := by have := a2.size; omega
      go_wp2_with fail
      refine (HC.out _).mono ?_
      rintro e w3 ⟨rfl, a3⟩
      obtain ⟨hc3, hf3⟩ := bcell a3
      obtain ⟨z3, z3'⟩ : w.heap.size < w3.heap.size ∧ w.heap.size + 1 < w3.heap.size := by have := a3.size; omega
      go_wp2_with fail
      refine bodyPost_ret (v := .tuple #[.agg #[.int .i64 u, .int .i64 (u + r)], .int .i64 0]) (by simp [results, Tryd.results28, go_sem, hc1, z1', hc2, z2', hc3]) rfl ⟨rfl, ?_⟩
      repeat (first | with_reducible exact On.refl _ | apply On.alloc | apply On.drewN | apply On.drew | refine On.setCell ?_ (by (try simp) <;> omega) _ | refine On.trans ?_ a3 | refine On.trans ?_ a2 | refine On.trans ?_ a1)

set_option maxHeartbeats 2000000 in
theorem spec_ChannelCount (x : ByteArray) (l h r d : Int) (w : World) (q0 : x.size ≤ 1048576) :
    Calls Tryd.prog 12 #[.agg #[.string x, .int .i64 l, .int .i64 h, .int .i64 r, .int .i64 d]] w fun e w' => e = .returned (.tuple #[.int .i64 (pick (okB x l h r d) true 0 (quo l h r)).1, .int .i64 (pick (okB x l h r d) true 0 (quo l h r)).2]) ∧ On w w' := by
  have HV := Lib.hid (fun w' hp => spec_ok w.heap.size x l h r d w' q0 hp)
  cases t0 : okB x l h r d with
  | false =>
    rw [t0] at HV
    rw [pick_no]
    go_enter Tryd.func12, Tryd.ntmps12
    go_wp2_with fail
    refine (HV.out _ ⟨by simp [go_sem], by simp [go_sem], by simp [go_sem], by simp [go_sem], by simp [go_sem]⟩).mono ?_
    rintro e w1 ⟨rfl, a1⟩
    have K1 : In w1 w.heap.size x l h r d := In.on ⟨by simp [go_sem], by simp [go_sem], by simp [go_sem], by simp [go_sem], by simp [go_sem]⟩ a1
    have HK1 := Lib.hid K1
    have z1 := K1.lt
    obtain ⟨k0, k1, k2, k3, k4⟩ := K1
    have hO1 : On w w1 := by repeat (first | with_reducible exact On.refl _ | apply On.alloc | apply On.drewN | apply On.drew | refine On.setCell ?_ (by (try simp) <;> omega) _ | refine On.trans ?_ a1)
    clear a1
    go_wp2_with fail
    go_ret2
    exact ⟨rfl, by repeat (first | with_reducible exact On.refl _ | apply On.alloc | apply On.drewN | apply On.drew | refine On.setCell ?_ (by (try simp) <;> omega) _ | refine On.trans ?_ hO1)⟩
  | true =>
    obtain ⟨⟨l1, l2⟩, ⟨h1, h2⟩, ⟨r1, r2⟩, ⟨q3, q4⟩, d1, d2⟩ := of_okB t0
    rw [t0] at HV
    rw [pick_yes]
    go_enter Tryd.func12, Tryd.ntmps12
    go_wp2_with fail
    refine (HV.out _ ⟨by simp [go_sem], by simp [go_sem], by simp [go_sem], by simp [go_sem], by simp [go_sem]⟩).mono ?_
    rintro e w1 ⟨rfl, a1⟩
    have K1 : In w1 w.heap.size x l h r d := In.on ⟨by simp [go_sem], by simp [go_sem], by simp [go_sem], by simp [go_sem], by simp [go_sem]⟩ a1
    have HK1 := Lib.hid K1
    have z1 := K1.lt
    obtain ⟨k0, k1, k2, k3, k4⟩ := K1
    have hO1 : On w w1 := by repeat (first | with_reducible exact On.refl _ | apply On.alloc | apply On.drewN | apply On.drew | refine On.setCell ?_ (by (try simp) <;> omega) _ | refine On.trans ?_ a1)
    clear a1
    go_wp2_with fail
    refine (spec_count _ x l h r d _ HK1.out l1 l2 h1 h2 r1).mono ?_
    rintro e w2 ⟨rfl, a2⟩
    go_wp2_with fail
    go_ret2
    exact ⟨rfl, by repeat (first | with_reducible exact On.refl _ | apply On.alloc | apply On.drewN | apply On.drew | refine On.setCell ?_ (by (try simp) <;> omega) _ | refine On.trans ?_ a2 | refine On.trans ?_ hO1)⟩

set_option maxHeartbeats 2000000 in
theorem impl_ChannelCount (x : ByteArray) (l h r d : Int) (w : World) (q0 : x.size ≤ 1048576) (hg : Span.SpanG w) :
    Calls Tryd.prog 13 #[.agg #[.string x, .int .i64 l, .int .i64 h, .int .i64 r, .int .i64 d]] w fun e w' => e = .returned (.tuple #[.int .i64 (pick (okB x l h r d) true 0 (quo l h r)).1, .int .i64 (pick (okB x l h r d) true 0 (quo l h r)).2]) ∧ On w w' := by
  have HV := Lib.hid (fun w' (ho : On w w') => impl_ok x l h r d w' q0 (hg.on ho))
  clear hg
  cases t0 : okB x l h r d with
  | false =>
    rw [t0] at HV
    rw [pick_no]
    go_enter Tryd.func13, Tryd.ntmps13
    go_wp2_with fail
    refine (HV.out _ (by repeat (first | with_reducible exact On.refl _ | apply On.alloc | apply On.drewN | apply On.drew | refine On.setCell ?_ (by (try simp) <;> omega) _))).mono ?_
    rintro e w1 ⟨rfl, a1⟩
    obtain ⟨hc1, hf1⟩ := bcell a1
    have z1 : w.heap.size < w1.heap.size := by have := a1.size; simp at this; omega
    have hO1 : On w w1 := by repeat (first | with_reducible exact On.refl _ | apply On.alloc | apply On.drewN | apply On.drew | refine On.setCell ?_ (by (try simp) <;> omega) _ | refine On.trans ?_ a1)
    clear a1
    go_wp2_with fail
    go_ret2
    exact ⟨rfl, by repeat (first | with_reducible exact On.refl _ | apply On.alloc | apply On.drewN | apply On.drew | refine On.setCell ?_ (by (try simp) <;> omega) _ | refine On.trans ?_ hO1)⟩
  | true =>
    obtain ⟨⟨l1, l2⟩, ⟨h1, h2⟩, ⟨r1, r2⟩, ⟨q3, q4⟩, d1, d2⟩ := of_okB t0
    rw [t0] at HV
    rw [pick_yes]
    go_enter Tryd.func13, Tryd.ntmps13
    go_wp2_with fail
    refine (HV.out _ (by repeat (first | with_reducible exact On.refl _ | apply On.alloc | apply On.drewN | apply On.drew | refine On.setCell ?_ (by (try simp) <;> omega) _))).mono ?_
    rintro e w1 ⟨rfl, a1⟩
    obtain ⟨hc1, hf1⟩ := bcell a1
    have z1 : w.heap.size < w1.heap.size := by have := a1.size; simp at this; omega
    have hO1 : On w w1 := by repeat (first | with_reducible exact On.refl _ | apply On.alloc | apply On.drewN | apply On.drew | refine On.setCell ?_ (by (try simp) <;> omega) _ | refine On.trans ?_ a1)
    clear a1
    go_wp2_with fail
    refine (impl_count x l h r d _ l1 l2 h1 h2 r1).mono ?_
    rintro e w2 ⟨rfl, a2⟩
    go_wp2_with fail
    go_ret2
    exact ⟨rfl, by repeat (first | with_reducible exact On.refl _ | apply On.alloc | apply On.drewN | apply On.drew | refine On.setCell ?_ (by (try simp) <;> omega) _ | refine On.trans ?_ a2 | refine On.trans ?_ hO1)⟩

set_option maxHeartbeats 2000000 in
theorem spec_ChannelFrequency (x : ByteArray) (l h r d : Int) (c : Int) (w : World) (q0 : x.size ≤ 1048576) :
    Calls Tryd.prog 14 #[.agg #[.string x, .int .i64 l, .int .i64 h, .int .i64 r, .int .i64 d], .int .i64 c] w fun e w' => e = .returned (.tuple #[.int .i64 (pick (okB x l h r d) (hasB l h r c) 2 (mid l r c)).1, .int .i64 (pick (okB x l h r d) (hasB l h r c) 2 (mid l r c)).2]) ∧ On w w' := by
  have HV := Lib.hid (fun w' hp => spec_ok w.heap.size x l h r d w' q0 hp)
  cases t0 : okB x l h r d with
  | false =>
    rw [t0] at HV
    rw [pick_no]
    go_enter Tryd.func14, Tryd.ntmps14
    go_wp2_with fail
    refine (HV.out _ ⟨by simp [go_sem], by simp [go_sem], by simp [go_sem], by simp [go_sem], by simp [go_sem]⟩).mono ?_
    rintro e w1 ⟨rfl, a1⟩
    have K1 : In w1 w.heap.size x l h r d := In.on ⟨by simp [go_sem], by simp [go_sem], by simp [go_sem], by simp [go_sem], by simp [go_sem]⟩ a1
    have HK1 := Lib.hid K1
    have z1 := K1.lt
    obtain ⟨k0, k1, k2, k3, k4⟩ := K1
    have hO1 : On w w1 := by repeat (first | with_reducible exact On.refl _ | apply On.alloc | apply On.drewN | apply On.drew | refine On.setCell ?_ (by (try simp) <;> omega) _ | refine On.trans ?_ a1)
    clear a1
    go_wp2_with fail
    go_ret2
    exact ⟨rfl, by repeat (first | with_reducible exact On.refl _ | apply On.alloc | apply On.drewN | apply On.drew | refine On.setCell ?_ (by (try simp) <;> omega) _ | refine On.trans ?_ hO1)⟩
  | true =>
    obtain ⟨⟨l1, l2⟩, ⟨h1, h2⟩, ⟨r1, r2⟩, ⟨q3, q4⟩, d1, d2⟩ := of_okB t0
    rw [t0] at HV
    have HH := Lib.hid (fun w' hp => spec_has w.heap.size x l h r d c w' hp l1 l2 h1 h2 r1)
    cases t1 : hasB l h r c with
    | false =>
      rw [t1] at HH
      rw [pick_out]
      go_enter Tryd.func14, Tryd.ntmps14
      go_wp2_with fail
      refine (HV.out _ ⟨by simp [go_sem], by simp [go_sem], by simp [go_sem], by simp [go_sem], by simp [go_sem]⟩).mono ?_
      rintro e w1 ⟨rfl, a1⟩
      have K1 : In w1 w.heap.size x l h r d := In.on ⟨by simp [go_sem], by simp [go_sem], by simp [go_sem], by simp [go_sem], by simp [go_sem]⟩ a1
      have HK1 := Lib.hid K1
      have z1 := K1.lt
      obtain ⟨k0, k1, k2, k3, k4⟩ := K1
      have hO1 : On w w1 := by repeat (first | with_reducible exact On.refl _ | apply On.alloc | apply On.drewN | apply On.drew | refine On.setCell ?_ (by (try simp) <;> omega) _ | refine On.trans ?_ a1)
      clear a1
      go_wp2_with fail
      refine (HH.out _ HK1.out).mono ?_
      rintro e w2 ⟨rfl, a2⟩
      go_wp2_with fail
      go_ret2
      exact ⟨rfl, by repeat (first | with_reducible exact On.refl _ | apply On.alloc | apply On.drewN | apply On.drew | refine On.setCell ?_ (by (try simp) <;> omega) _ | refine On.trans ?_ a2 | refine On.trans ?_ hO1)⟩
    | true =>
      rw [t1] at HH
      obtain ⟨c0, c1⟩ := of_inB (show inB c 0 (quo l h r - 1) = true from t1)
      have HM := Lib.hid (fun w' hp => spec_mid w.heap.size x l h r d c w' hp l1 l2 h1 h2 r1 c0 c1 q3)
      rw [pick_yes]
      generalize mid l r c = m at *
      go_enter Tryd.func14, Tryd.ntmps14
      go_wp2_with fail
      refine (HV.out _ ⟨by simp [go_sem], by simp [go_sem], by simp [go_sem], by simp [go_sem], by simp [go_sem]⟩).mono ?_
      rintro e w1 ⟨rfl, a1⟩
      have K1 : In w1 w.heap.size x l h r d := In.on ⟨by simp [go_sem], by simp [go_sem], by simp [go_sem], by simp [go_sem], by simp [go_sem]⟩ a1
      have HK1 := Lib.hid K1
      have z1 := K1.lt
      obtain ⟨k0, k1, k2, k3, k4⟩ := K1
      have hO1 : On w w1 := by repeat (first | with_reducible exact On.refl _ | apply On.alloc | apply On.drewN | apply On.drew | refine On.setCell ?_ (by (try simp) <;> omega) _ | refine On.trans ?_ a1)
      clear a1
      go_wp2_with fail
      refine (HH.out _ HK1.out).mono ?_
      rintro e w2 ⟨rfl, a2⟩
      go_wp2_with fail
      refine (HM.out _ (HK1.out.on a2)).mono ?_
      rintro e w3 ⟨rfl, a3⟩
      go_wp2_with fail
      go_ret2
      exact ⟨rfl, by repeat (first | with_reducible exact On.refl _ | apply On.alloc | apply On.drewN | apply On.drew | refine On.setCell ?_ (by (try simp) <;> omega) _ | refine On.trans ?_ a3 | refine On.trans ?_ a2 | refine On.trans ?_ hO1)⟩

set_option maxHeartbeats 2000000 in
theorem impl_ChannelFrequency (x : ByteArray) (l h r d : Int) (c : Int) (w : World) (q0 : x.size ≤ 1048576) (hg : Span.SpanG w) :
    Calls Tryd.prog 15 #[.agg #[.string x, .int .i64 l, .int .i64 h, .int .i64 r, .int .i64 d], .int .i64 c] w fun e w' => e = .returned (.tuple #[.int .i64 (pick (okB x l h r d) (hasB l h r c) 2 (mid l r c)).1, .int .i64 (pick (okB x l h r d) (hasB l h r c) 2 (mid l r c)).2]) ∧ On w w' := by
  have HV := Lib.hid (fun w' (ho : On w w') => impl_channelOf x l h r d c w' q0 (hg.on ho))
  clear hg
  cases t0 : okB x l h r d with
  | false =>
    rw [t0, show lo2 false (hasB l h r c) l r c = 0 from rfl, show hi2 false (hasB l h r c) l r c = 0 from rfl, show code2 false (hasB l h r c) = 1 from rfl] at HV
    rw [pick_no]
    go_enter Tryd.func15, Tryd.ntmps15
    go_wp2_with fail
    refine (HV.out _ (by repeat (first | with_reducible exact On.refl _ | apply On.alloc | apply On.drewN | apply On.drew | refine On.setCell ?_ (by (try simp) <;> omega) _))).mono ?_
    rintro e w1 ⟨rfl, a1⟩
    have hO1 : On w w1 := by repeat (first | with_reducible exact On.refl _ | apply On.alloc | apply On.drewN | apply On.drew | refine On.setCell ?_ (by (try simp) <;> omega) _ | refine On.trans ?_ a1)
    obtain ⟨hc1, hf1⟩ := bcell a1
    have z1 : w.heap.size < w1.heap.size := by have := a1.size; simp at this; omega
    clear a1
    go_wp2_with fail
    go_ret2
    exact ⟨rfl, by repeat (first | with_reducible exact On.refl _ | apply On.alloc | apply On.drewN | apply On.drew | refine On.setCell ?_ (by (try simp) <;> omega) _ | refine On.trans ?_ hO1)⟩
  | true =>
    obtain ⟨⟨l1, l2⟩, ⟨h1, h2⟩, ⟨r1, r2⟩, ⟨q3, q4⟩, d1, d2⟩ := of_okB t0
    rw [t0] at HV
    cases t1 : hasB l h r c with
    | false =>
      rw [t1, show lo2 true false l r c = 0 from rfl, show hi2 true false l r c = 0 from rfl, show code2 true false = 2 from rfl] at HV
      rw [pick_out]
      go_enter Tryd.func15, Tryd.ntmps15
      go_wp2_with fail
      refine (HV.out _ (by repeat (first | with_reducible exact On.refl _ | apply On.alloc | apply On.drewN | apply On.drew | refine On.setCell ?_ (by (try simp) <;> omega) _))).mono ?_
      rintro e w1 ⟨rfl, a1⟩
      have hO1 : On w w1 := by repeat (first | with_reducible exact On.refl _ | apply On.alloc | apply On.drewN | apply On.drew | refine On.setCell ?_ (by (try simp) <;> omega) _ | refine On.trans ?_ a1)
      obtain ⟨hc1, hf1⟩ := bcell a1
      have z1 : w.heap.size < w1.heap.size := by have := a1.size; simp at this; omega
      clear a1
      go_wp2_with fail
      go_ret2
      exact ⟨rfl, by repeat (first | with_reducible exact On.refl _ | apply On.alloc | apply On.drewN | apply On.drew | refine On.setCell ?_ (by (try simp) <;> omega) _ | refine On.trans ?_ hO1)⟩
    | true =>
      rw [t1, show lo2 true true l r c = l + c * r from rfl, show hi2 true true l r c = l + c * r + r from rfl, show code2 true true = 0 from rfl] at HV
      obtain ⟨c0, c1⟩ := of_inB (show inB c 0 (quo l h r - 1) = true from t1)
      obtain ⟨m1, m2⟩ := chan_in r1 q3 c0 c1
      rw [pick_yes]
      have en := Lib.hid (show l + c * r + (l + c * r + r - (l + c * r)) / 2 = mid l r c by unfold mid; omega)
      generalize mid l r c = m at *
      generalize c * r = y at *
      have HM := Lib.hid (fun w' => impl_middle (l + y) (l + y + r) w' (by omega) (by omega) (by omega))
      rw [en.out] at HM
      go_enter Tryd.func15, Tryd.ntmps15
      go_wp2_with fail
      refine (HV.out _ (by repeat (first | with_reducible exact On.refl _ | apply On.alloc | apply On.drewN | apply On.drew | refine On.setCell ?_ (by (try simp) <;> omega) _))).mono ?_
      rintro e w1 ⟨rfl, a1⟩
      have hO1 : On w w1 := by repeat (first | with_reducible exact On.refl _ | apply On.alloc | apply On.drewN | apply On.drew | refine On.setCell ?_ (by (try simp) <;> omega) _ | refine On.trans ?_ a1)
      obtain ⟨hc1, hf1⟩ := bcell a1
      have z1 : w.heap.size < w1.heap.size := by have := a1.size; simp at this; omega
      clear a1
      go_wp2_with fail
      refine (HM.out _).mono ?_
      rintro e w2 ⟨rfl, a2⟩
      go_wp2_with fail
      go_ret2
      exact ⟨rfl, by repeat (first | with_reducible exact On.refl _ | apply On.alloc | apply On.drewN | apply On.drew | refine On.setCell ?_ (by (try simp) <;> omega) _ | refine On.trans ?_ a2 | refine On.trans ?_ hO1)⟩

/-- The partner's frequency and code. -/
def part (b1 b2 : Bool) (l r c d : Int) : Int × Int := if b1 then (if b2 then (if d = 0 then (0, 6) else (mid l r c + d, 0)) else (0, 2)) else (0, 1)
theorem part_no (b2 : Bool) (l r c d : Int) : part false b2 l r c d = (0, 1) := rfl
theorem part_out (l r c d : Int) : part true false l r c d = (0, 2) := rfl
theorem part_zero (l r c : Int) : part true true l r c 0 = (0, 6) := rfl
theorem part_yes (l r c : Int) {d : Int} (h : ¬ d = 0) : part true true l r c d = (mid l r c + d, 0) := by unfold part; rw [if_pos rfl, if_pos rfl, if_neg h]
theorem mid_range {l h r c : Int} (l1 : 1 ≤ l) (l2 : l ≤ 100000000) (h2 : h ≤ 100000000) (r1 : 1 ≤ r) (q3 : 1 ≤ quo l h r) (c0 : 0 ≤ c) (c1 : c ≤ quo l h r - 1) : 1 ≤ mid l r c ∧ mid l r c ≤ 100000000 := by
  obtain ⟨m1, m2⟩ := chan_in r1 q3 c0 c1
  unfold mid
  generalize c * r = y at *
  omega

set_option maxHeartbeats 2000000 in
theorem spec_PartnerFrequency (x : ByteArray) (l h r d : Int) (c : Int) (w : World) (q0 : x.size ≤ 1048576) :
    Calls Tryd.prog 16 #[.agg #[.string x, .int .i64 l, .int .i64 h, .int .i64 r, .int .i64 d], .int .i64 c] w fun e w' => e = .returned (.tuple #[.int .i64 (part (okB x l h r d) (hasB l h r c) l r c d).1, .int .i64 (part (okB x l h r d) (hasB l h r c) l r c d).2]) ∧ On w w' := by
  have HF := Lib.hid (fun w' => spec_ChannelFrequency x l h r d c w' q0)
  cases t0 : okB x l h r d with
  | false =>
    rw [t0, pick_no] at HF
    rw [part_no]
    go_enter Tryd.func16, Tryd.ntmps16
    go_wp2_with fail
    refine (HF.out _).mono ?_
    rintro e w1 ⟨rfl, a1⟩
    obtain ⟨hc1, hf1⟩ := bcell a1
    have z1 : w.heap.size < w1.heap.size := by have := a1.size; simp at this; omega
    go_wp2_with fail
    go_ret2
    exact ⟨rfl, by repeat (first | with_reducible exact On.refl _ | apply On.alloc | apply On.drewN | apply On.drew | refine On.setCell ?_ (by (try simp) <;> omega) _ | refine On.trans ?_ a1)⟩
  | true =>
    obtain ⟨⟨l1, l2⟩, ⟨h1, h2⟩, ⟨r1, r2⟩, ⟨q3, q4⟩, d1, d2⟩ := of_okB t0
    rw [t0] at HF
    cases t1 : hasB l h r c with
    | false =>
      rw [t1, pick_out] at HF
      rw [part_out]
      go_enter Tryd.func16, Tryd.ntmps16
      go_wp2_with fail
      refine (HF.out _).mono ?_
      rintro e w1 ⟨rfl, a1⟩
      obtain ⟨hc1, hf1⟩ := bcell a1
      have z1 : w.heap.size < w1.heap.size := by have := a1.size; simp at this; omega
      go_wp2_with fail
      go_ret2
      exact ⟨rfl, by repeat (first | with_reducible exact On.refl _ | apply On.alloc | apply On.drewN | apply On.drew | refine On.setCell ?_ (by (try simp) <;> omega) _ | refine On.trans ?_ a1)⟩
    | true =>
      rw [t1, pick_yes] at HF
      obtain ⟨c0, c1⟩ := of_inB (show inB c 0 (quo l h r - 1) = true from t1)
      obtain ⟨m1, m2⟩ := mid_range l1 l2 h2 r1 q3 c0 c1
      by_cases hd : d = 0
      · subst hd
        rw [part_zero]
        generalize mid l r c = m at *
        go_enter Tryd.func16, Tryd.ntmps16
        go_wp2_with fail
        refine (HF.out _).mono ?_
        rintro e w1 ⟨rfl, a1⟩
        obtain ⟨hc1, hf1⟩ := bcell a1
        have z1 : w.heap.size < w1.heap.size := by have := a1.size; simp at this; omega
        go_wp2_with fail
        go_ret2
        exact ⟨rfl, by repeat (first | with_reducible exact On.refl _ | apply On.alloc | apply On.drewN | apply On.drew | refine On.setCell ?_ (by (try simp) <;> omega) _ | refine On.trans ?_ a1)⟩
      · have hd' : (d == 0) = false := beq_eq_false_iff_ne.2 hd
        rw [part_yes l r c hd]
        generalize mid l r c = m at *
        go_enter Tryd.func16, Tryd.ntmps16
        go_wp2_with fail
        refine (HF.out _).mono ?_
        rintro e w1 ⟨rfl, a1⟩
        obtain ⟨hc1, hf1⟩ := bcell a1
        have z1 : w.heap.size < w1.heap.size := by have := a1.size; simp at this; omega
        go_wp2_with fail
        go_ret2
        exact ⟨rfl, by repeat (first | with_reducible exact On.refl _ | apply On.alloc | apply On.drewN | apply On.drew | refine On.setCell ?_ (by (try simp) <;> omega) _ | refine On.trans ?_ a1)⟩

theorem impl_pmiddle (a b d : Int) (w : World) (a1 : 0 ≤ a) (a2 : a ≤ b) (b2 : b ≤ 1000000000) (d1 : 0 ≤ d) (d2 : d ≤ 1000000000) :
    Calls Tryd.prog 30 #[.agg #[.int .i64 a, .int .i64 b, .int .i64 d]] w fun e w' => e = .returned (.int .i64 (a + (b - a) / 2 + d)) ∧ On w w' := by
  have HM := Lib.hid (fun w' => impl_middle a b w' a1 a2 b2)
  obtain ⟨y, hy⟩ : ∃ y, y = a + (b - a) / 2 := ⟨_, rfl⟩
  have y1 : 0 ≤ y ∧ y ≤ 2000000000 := by omega
  obtain ⟨y1, y2⟩ := y1
  rw [← hy] at HM ⊢
  clear hy
  have wr0 : IntKind.i64.wrap (y + d) = y + d := IntWalk.i64_in _ (by omega)
  go_enter Tryd.func30, Tryd.ntmps30
  go_wp2_with fail
  refine wp_region_onh (by kernel_rfl) (by kernel_rfl) ?_
  repeat (refine rest_step (fun K hK => ?_); go_simp; first | (refine hK _ ?_; clear hK K) | (apply Exists.intro; refine ⟨fun v1 hv1 => ?_, hK _ ?_⟩; (first | with_reducible exact rfl | with_reducible exact ⟨rfl, rfl⟩ | with_reducible exact Calls.on hv1 (HM.out _) | (obtain ⟨hc, hf⟩ := bcell hv1; go_simp; first | with_reducible exact rfl | with_reducible exact ⟨rfl, rfl⟩ | exact rfl | exact ⟨rfl, rfl⟩)); clear hK K))
  refine rest_nil ?_
  intro w1 h1
  go_wp2_with fail
  go_ret
  exact ⟨rfl, by repeat (first | with_reducible exact On.refl _ | apply On.alloc | apply On.drewN | apply On.drew | refine On.setCell ?_ (by (try simp) <;> omega) _ | refine On.trans ?_ h1)⟩

set_option maxHeartbeats 2000000 in
theorem impl_PartnerFrequency (x : ByteArray) (l h r d : Int) (c : Int) (w : World) (q0 : x.size ≤ 1048576) (hg : Span.SpanG w) :
    Calls Tryd.prog 17 #[.agg #[.string x, .int .i64 l, .int .i64 h, .int .i64 r, .int .i64 d], .int .i64 c] w fun e w' => e = .returned (.tuple #[.int .i64 (part (okB x l h r d) (hasB l h r c) l r c d).1, .int .i64 (part (okB x l h r d) (hasB l h r c) l r c d).2]) ∧ On w w' := by
  have HV := Lib.hid (fun w' (ho : On w w') => impl_channelOf x l h r d c w' q0 (hg.on ho))
  clear hg
  cases t0 : okB x l h r d with
  | false =>
    rw [t0, show lo2 false (hasB l h r c) l r c = 0 from rfl, show hi2 false (hasB l h r c) l r c = 0 from rfl, show code2 false (hasB l h r c) = 1 from rfl] at HV
    rw [part_no]
    go_enter Tryd.func17, Tryd.ntmps17
    go_wp2_with fail
    refine (HV.out _ (by repeat (first | with_reducible exact On.refl _ | apply On.alloc | apply On.drewN | apply On.drew | refine On.setCell ?_ (by (try simp) <;> omega) _))).mono ?_
    rintro e w1 ⟨rfl, a1⟩
    have hO1 : On w w1 := by repeat (first | with_reducible exact On.refl _ | apply On.alloc | apply On.drewN | apply On.drew | refine On.setCell ?_ (by (try simp) <;> omega) _ | refine On.trans ?_ a1)
    obtain ⟨hc1, hf1⟩ := bcell a1
    have z1 : w.heap.size < w1.heap.size := by have := a1.size; simp at this; omega
    clear a1
    go_wp2_with fail
    go_ret2
    exact ⟨rfl, by repeat (first | with_reducible exact On.refl _ | apply On.alloc | apply On.drewN | apply On.drew | refine On.setCell ?_ (by (try simp) <;> omega) _ | refine On.trans ?_ hO1)⟩
  | true =>
    obtain ⟨⟨l1, l2⟩, ⟨h1, h2⟩, ⟨r1, r2⟩, ⟨q3, q4⟩, d1, d2⟩ := of_okB t0
    rw [t0] at HV
    cases t1 : hasB l h r c with
    | false =>
      rw [t1, show lo2 true false l r c = 0 from rfl, show hi2 true false l r c = 0 from rfl, show code2 true false = 2 from rfl] at HV
      rw [part_out]
      go_enter Tryd.func17, Tryd.ntmps17
      go_wp2_with fail
      refine (HV.out _ (by repeat (first | with_reducible exact On.refl _ | apply On.alloc | apply On.drewN | apply On.drew | refine On.setCell ?_ (by (try simp) <;> omega) _))).mono ?_
      rintro e w1 ⟨rfl, a1⟩
      have hO1 : On w w1 := by repeat (first | with_reducible exact On.refl _ | apply On.alloc | apply On.drewN | apply On.drew | refine On.setCell ?_ (by (try simp) <;> omega) _ | refine On.trans ?_ a1)
      obtain ⟨hc1, hf1⟩ := bcell a1
      have z1 : w.heap.size < w1.heap.size := by have := a1.size; simp at this; omega
      clear a1
      go_wp2_with fail
      go_ret2
      exact ⟨rfl, by repeat (first | with_reducible exact On.refl _ | apply On.alloc | apply On.drewN | apply On.drew | refine On.setCell ?_ (by (try simp) <;> omega) _ | refine On.trans ?_ hO1)⟩
    | true =>
      rw [t1, show lo2 true true l r c = l + c * r from rfl, show hi2 true true l r c = l + c * r + r from rfl, show code2 true true = 0 from rfl] at HV
      obtain ⟨c0, c1⟩ := of_inB (show inB c 0 (quo l h r - 1) = true from t1)
      obtain ⟨m1, m2⟩ := chan_in r1 q3 c0 c1
      by_cases hd : d = 0
      · subst hd
        rw [part_zero]
        generalize c * r = y at *
        go_enter Tryd.func17, Tryd.ntmps17
        go_wp2_with fail
        refine (HV.out _ (by repeat (first | with_reducible exact On.refl _ | apply On.alloc | apply On.drewN | apply On.drew | refine On.setCell ?_ (by (try simp) <;> omega) _))).mono ?_
        rintro e w1 ⟨rfl, a1⟩
        have hO1 : On w w1 := by repeat (first | with_reducible exact On.refl _ | apply On.alloc | apply On.drewN | apply On.drew | refine On.setCell ?_ (by (try simp) <;> omega) _ | refine On.trans ?_ a1)
        obtain ⟨hc1, hf1⟩ := bcell a1
        have z1 : w.heap.size < w1.heap.size := by have := a1.size; simp at this; omega
        clear a1
        go_wp2_with fail
        go_ret2
        exact ⟨rfl, by repeat (first | with_reducible exact On.refl _ | apply On.alloc | apply On.drewN | apply On.drew | refine On.setCell ?_ (by (try simp) <;> omega) _ | refine On.trans ?_ hO1)⟩
      · have hd' : (d == 0) = false := beq_eq_false_iff_ne.2 hd
        rw [part_yes l r c hd]
        have en := Lib.hid (show l + c * r + (l + c * r + r - (l + c * r)) / 2 + d = mid l r c + d by unfold mid; omega)
        generalize mid l r c = m at *
        generalize c * r = y at *
        have HM := Lib.hid (fun w' => impl_pmiddle (l + y) (l + y + r) d w' (by omega) (by omega) (by omega) (by omega) (by omega))
        rw [en.out] at HM
        go_enter Tryd.func17, Tryd.ntmps17
        go_wp2_with fail
        refine (HV.out _ (by repeat (first | with_reducible exact On.refl _ | apply On.alloc | apply On.drewN | apply On.drew | refine On.setCell ?_ (by (try simp) <;> omega) _))).mono ?_
        rintro e w1 ⟨rfl, a1⟩
        have hO1 : On w w1 := by repeat (first | with_reducible exact On.refl _ | apply On.alloc | apply On.drewN | apply On.drew | refine On.setCell ?_ (by (try simp) <;> omega) _ | refine On.trans ?_ a1)
        obtain ⟨hc1, hf1⟩ := bcell a1
        have z1 : w.heap.size < w1.heap.size := by have := a1.size; simp at this; omega
        clear a1
        go_wp2_with fail
        refine (HM.out _).mono ?_
        rintro e w2 ⟨rfl, a2⟩
        go_wp2_with fail
        go_ret2
        exact ⟨rfl, by repeat (first | with_reducible exact On.refl _ | apply On.alloc | apply On.drewN | apply On.drew | refine On.setCell ?_ (by (try simp) <;> omega) _ | refine On.trans ?_ a2 | refine On.trans ?_ hO1)⟩

end Go.Proofs.YtdkemoojlgdelaaDoor.Bnd
