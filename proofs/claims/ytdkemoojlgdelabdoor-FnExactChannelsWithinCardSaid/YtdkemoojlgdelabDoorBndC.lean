
/-
  The channels of a band, in the model and in the program: how many there are, and their middles. Conditions: at most 1048576 bytes in the name; the program's variable of spans holds what its text lays.
-/
import Derived.Test.YtdkemoojlgdelabDoorBndV
namespace Go.Proofs.YtdkemoojlgdelabDoor.Bnd
open Go.RowKit
open Plain

def hasB (l h r c : Int) : Bool := inB c 0 (quo l h r - 1)
def mid (l r c : Int) : Int := l + c * r + r / 2
/-- A value and a code, where two things are asked first. -/
def pick (b1 b2 : Bool) (k v : Int) : Int × Int := if b1 then (if b2 then (v, 0) else (0, k)) else (0, 1)
theorem pick_no (b2 : Bool) (k v : Int) : pick false b2 k v = (0, 1) := rfl
theorem pick_out (k v : Int) : pick true false k v = (0, k) := rfl
theorem pick_yes (k v : Int) : pick true true k v = (v, 0) := rfl

theorem spec_has (g : Nat) (x : ByteArray) (l h r d : Int) (c : Int) (w : World) (hp : In w g x l h r d) (l1 : 1 ≤ l) (l2 : l ≤ 100000000) (h1 : 1 ≤ h) (h2 : h ≤ 100000000) (r1 : 1 ≤ r) :
    Calls Tryd.prog 40 #[.pointer (some ⟨g, 0, none⟩), .int .i64 c] w fun e w' => e = .returned (.bool (hasB l h r c)) ∧ On w w' := by
  have en := Lib.hid (show inB c 0 (quo l h r - 1) = hasB l h r c from rfl)
  obtain ⟨q1, q2⟩ := quo_range r1 l1 l2 h1 h2
  have HC := Lib.hid (fun w' hp => spec_count g x l h r d w' hp l1 l2 h1 h2 r1)
  have HP := Lib.hid hp
  clear hp
  go_enter Tryd.func40, Tryd.ntmps40
  go_wp2_with fail
  refine (HC.out _ HP.out).mono ?_
  rintro e w1 ⟨rfl, a1⟩
  go_wp2_with fail
  refine (Arith.l00In _ _ _ _).mono ?_
  rintro e w1 ⟨rfl, rfl⟩
  go_wp2_with fail
  go_ret
  exact ⟨ret_bool en.out, by repeat (first | with_reducible exact On.refl _ | apply On.alloc | apply On.drewN | apply On.drew | refine On.setCell ?_ (by (try simp) <;> omega) _ | refine On.trans ?_ a1)⟩

theorem impl_has (x : ByteArray) (l h r d : Int) (c : Int) (w : World) (l1 : 1 ≤ l) (l2 : l ≤ 100000000) (h1 : 1 ≤ h) (h2 : h ≤ 100000000) (r1 : 1 ≤ r) :
    Calls Tryd.prog 41 #[.agg #[.string x, .int .i64 l, .int .i64 h, .int .i64 r, .int .i64 d], .int .i64 c] w fun e w' => e = .returned (.bool (hasB l h r c)) ∧ On w w' := by
  have en := Lib.hid (show inB c 0 (quo l h r - 1) = hasB l h r c from rfl)
  obtain ⟨q1, q2⟩ := quo_range r1 l1 l2 h1 h2
  have HC := Lib.hid (fun w' => impl_count x l h r d w' l1 l2 h1 h2 r1)
  go_enter Tryd.func41, Tryd.ntmps41
  go_wp2_with fail
  refine (HC.out _).mono ?_
  rintro e w1 ⟨rfl, a1⟩
  go_wp2_with fail
  refine (Arith.within _ _ _ _).mono ?_
  rintro e w2 ⟨rfl, rfl⟩
  go_wp2_with fail
  go_ret
  exact ⟨ret_bool en.out, by repeat (first | with_reducible exact On.refl _ | apply On.alloc | apply On.drewN | apply On.drew | refine On.setCell ?_ (by (try simp) <;> omega) _ | refine On.trans ?_ a1)⟩

set_option maxHeartbeats 1000000 in
theorem spec_mid (g : Nat) (x : ByteArray) (l h r d : Int) (c : Int) (w : World) (hp : In w g x l h r d) (l1 : 1 ≤ l) (l2 : l ≤ 100000000) (h1 : 1 ≤ h) (h2 : h ≤ 100000000) (r1 : 1 ≤ r) (c0 : 0 ≤ c) (c1 : c ≤ quo l h r - 1) (q3 : 1 ≤ quo l h r) :
    Calls Tryd.prog 29 #[.pointer (some ⟨g, 0, none⟩), .int .i64 c] w fun e w' => e = .returned (.int .i64 (mid l r c)) ∧ On w w' := by
  have hg := hp.lt
  obtain ⟨k0, k1, k2, k3, k4⟩ := hp
  obtain ⟨m1, m2⟩ := chan_in r1 q3 c0 c1
  obtain ⟨m, hm⟩ : ∃ m, m = c * r := ⟨_, rfl⟩
  have em : c * r = m := hm.symm
  rw [← hm] at m1 m2
  clear hm
  have e1 : Int.tdiv r 2 = r / 2 := Int.tdiv_eq_ediv_of_nonneg (by omega)
  have en := Lib.hid (show l + m + r / 2 = mid l r c by unfold mid; rw [em])
  obtain ⟨y, hy⟩ : ∃ y, y = r / 2 := ⟨_, rfl⟩
  have y1 : 0 ≤ y ∧ y ≤ 100000000 := by omega
  obtain ⟨y1, y2⟩ := y1
  rw [← hy] at e1 en
  have e2 := hy.symm
  clear q3 c0 c1 hy
  have wr0 : IntKind.i64.wrap (m) = m := IntWalk.i64_in _ (by omega)
  have wr1 : IntKind.i64.wrap (l + m) = l + m := IntWalk.i64_in _ (by omega)
  have wr2 : IntKind.i64.wrap (l + m + y) = l + m + y := IntWalk.i64_in _ (by omega)
  have wr3 : IntKind.i64.wrap (y) = y := IntWalk.i64_in _ (by omega)
  go_enter Tryd.func29, Tryd.ntmps29
  go_wp2_with fail
  refine wp_region_onh (by kernel_rfl) (by kernel_rfl) ?_
  repeat (refine rest_step (fun K hK => ?_); go_simp; first | (refine hK _ ?_; clear hK K) | (apply Exists.intro; refine ⟨fun v1 hv1 => ?_, hK _ ?_⟩; (first | with_reducible exact rfl | with_reducible exact ⟨rfl, rfl⟩ | (obtain ⟨hc, hf⟩ := bcell hv1; go_simp; first | with_reducible exact rfl | with_reducible exact ⟨rfl, rfl⟩ | exact rfl | exact ⟨rfl, rfl⟩)); clear hK K))
  refine rest_nil ?_
  intro w1 a1
  go_wp2_with fail
  go_ret
  exact ⟨ret_int en.out, a1⟩

set_option maxHeartbeats 1000000 in
theorem impl_channel (x : ByteArray) (l h r d : Int) (c : Int) (w : World) (l1 : 1 ≤ l) (l2 : l ≤ 100000000) (h1 : 1 ≤ h) (h2 : h ≤ 100000000) (r1 : 1 ≤ r) (c0 : 0 ≤ c) (c1 : c ≤ quo l h r - 1) (q3 : 1 ≤ quo l h r) :
    Calls Tryd.prog 25 #[.agg #[.string x, .int .i64 l, .int .i64 h, .int .i64 r, .int .i64 d], .int .i64 c] w fun e w' => e = .returned (.agg #[.int .i64 (l + c * r), .int .i64 (l + c * r + r)]) ∧ On w w' := by
  obtain ⟨m1, m2⟩ := chan_in r1 q3 c0 c1
  obtain ⟨m, hm⟩ : ∃ m, m = c * r := ⟨_, rfl⟩
  have em : c * r = m := hm.symm
  rw [← hm] at m1 m2
  clear hm
  rw [em]
  clear q3 c0 c1
  go_enter Tryd.func25, Tryd.ntmps25
  go_wp2_with fail
  refine bodyPost_ret (v := .agg #[.int .i64 (l + m), .int .i64 (l + m + r)]) (by simp [results, Tryd.results25, go_sem]) rfl ⟨rfl, ?_⟩
  repeat (first | with_reducible exact On.refl _ | apply On.alloc | apply On.drewN | apply On.drew | refine On.setCell ?_ (by (try simp) <;> omega) _)

theorem impl_middle (a b : Int) (w : World) (a1 : 0 ≤ a) (a2 : a ≤ b) (b2 : b ≤ 1000000000) :
    Calls Tryd.prog 64 #[.agg #[.int .i64 a, .int .i64 b]] w fun e w' => e = .returned (.int .i64 (a + (b - a) / 2)) ∧ On w w' := by
  have e1 : Int.tdiv (b - a) 2 = (b - a) / 2 := Int.tdiv_eq_ediv_of_nonneg (by omega)
  obtain ⟨y, hy⟩ : ∃ y, y = (b - a) / 2 := ⟨_, rfl⟩
  have y1 : 0 ≤ y ∧ y ≤ 1000000000 := by omega
  obtain ⟨y1, y2⟩ := y1
  rw [← hy] at e1 ⊢
  have e2 := hy.symm
  clear hy
  go_enter Tryd.func64, Tryd.ntmps64
  go_wp2_with fail
  go_ret
  exact ⟨rfl, by repeat (first | with_reducible exact On.refl _ | apply On.alloc | apply On.drewN | apply On.drew | refine On.setCell ?_ (by (try simp) <;> omega) _)⟩

def lo2 (b1 b2 : Bool) (l r c : Int) : Int := if b1 && b2 then l + c * r else 0
def hi2 (b1 b2 : Bool) (l r c : Int) : Int := if b1 && b2 then l + c * r + r else 0
def code2 (b1 b2 : Bool) : Int := if b1 then (if b2 then 0 else 2) else 1
/-- The partner's frequency and code. -/
def part (b1 b2 : Bool) (l r c d : Int) : Int × Int := if b1 then (if b2 then (if d = 0 then (0, 6) else (mid l r c + d, 0)) else (0, 2)) else (0, 1)
theorem part_no (b2 : Bool) (l r c d : Int) : part false b2 l r c d = (0, 1) := rfl
theorem part_out (l r c d : Int) : part true false l r c d = (0, 2) := rfl
theorem part_zero (l r c : Int) : part true true l r c 0 = (0, 6) := rfl
theorem part_yes (l r c : Int) {d : Int} (h : ¬ d = 0) : part true true l r c d = (mid l r c + d, 0) := by unfold part; rw [if_pos rfl, if_pos rfl, if_neg h]
theorem mid_range {l h r c : Int} (l1 : 1 ≤ l) (l2 : l ≤ 100000000) (h2 : h ≤ 100000000) (r1 : 1 ≤ r) (q3 : 1 ≤ quo l h r) (c0 : 0 ≤ c) (c1 : c ≤ quo l h r - 1) : 1 ≤ mid l r c ∧ mid l r c ≤ 100000000 := by
  obtain ⟨m1, m2⟩ := chan_in r1 q3 c0 c1
  unfold mid
  generalize c * r = y at *
  omega

end Go.Proofs.YtdkemoojlgdelabDoor.Bnd
