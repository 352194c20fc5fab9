
/-
  Whether two channels overlap, and what two bands have in common, in the model and in the program. Conditions: at most 1048576 bytes in a name; the program's variable of spans holds what its text lays.
-/
import Derived.Test.YtdkemoojlgdelabDoorBndP
namespace Go.Proofs.YtdkemoojlgdelabDoor.Bnd
open Go.RowKit
open Plain

def clashV (l r c m s n : Int) : Bool := decide (l + c * r < m + (n + 1) * s) && decide (m + n * s < l + (c + 1) * r)
def clashR (b1 b2 : Bool) (l r c m s n : Int) : Bool := if b1 && b2 then clashV l r c m s n else false
theorem clash_no (b2 : Bool) (l r c m s n : Int) : clashR false b2 l r c m s n = false := rfl
theorem clash_out (l r c m s n : Int) : clashR true false l r c m s n = false := rfl
theorem clash_yes (l r c m s n : Int) : clashR true true l r c m s n = clashV l r c m s n := rfl
theorem suc_mul (n s : Int) : (n + 1) * s = n * s + s := by rw [Int.add_mul]; omega
theorem clash_common {l r c m s n : Int} (hr : 1 ≤ r) (hs : 1 ≤ s) : decide (0 < commonV (l + c * r) (l + c * r + r) (m + n * s) (m + n * s + s)) = clashV l r c m s n := by
  rw [common_pos (by omega) (by omega)]
  unfold clashV
  rw [suc_mul, suc_mul, Int.add_assoc, Int.add_assoc]
theorem of_ok22 {x : ByteArray} {l h r d : Int} {y : ByteArray} {m k s t : Int} (hk : ok22 x l h r d y m k s t = true) : okB x l h r d = true ∧ okB y m k s t = true := by unfold ok22 at hk; exact Bool.and_eq_true_iff.1 hk
theorem of_has22 {l h r c m k s n : Int} (hk : has22 l h r c m k s n = true) : hasB l h r c = true ∧ hasB m k s n = true := by unfold has22 at hk; exact Bool.and_eq_true_iff.1 hk

set_option maxHeartbeats 4000000 in
theorem spec_Clash (x : ByteArray) (l h r d : Int) (c : Int) (y : ByteArray) (m k s t : Int) (n : Int) (w : World) (q0 : x.size ≤ 1048576) (q1 : y.size ≤ 1048576) :
    Calls Tryd.prog 14 #[.agg #[.string x, .int .i64 l, .int .i64 h, .int .i64 r, .int .i64 d], .int .i64 c, .agg #[.string y, .int .i64 m, .int .i64 k, .int .i64 s, .int .i64 t], .int .i64 n] w fun e w' => e = .returned (.tuple #[.bool (clashR (ok22 x l h r d y m k s t) (has22 l h r c m k s n) l r c m s n), .int .i64 (code2 (ok22 x l h r d y m k s t) (has22 l h r c m k s n))]) ∧ On w w' := by
  have HA := Lib.hid (fun w' hp hq => spec_ask w.heap.size (w.heap.size + 1) x l h r d c y m k s t n w' q0 q1 hp hq)
  cases tt : ok22 x l h r d y m k s t with
  | false =>
    rw [tt, code_no] at HA
    rw [clash_no, code_no]
    go_enter Tryd.func14, Tryd.ntmps14
    go_wp2_with fail
    refine (HA.out _ ⟨by simp [go_sem], by simp [go_sem], by simp [go_sem], by simp [go_sem], by simp [go_sem]⟩ ⟨by simp [go_sem], by simp [go_sem], by simp [go_sem], by simp [go_sem], by simp [go_sem]⟩).mono ?_
    rintro e w1 ⟨rfl, a1⟩
    have J1 : In w1 w.heap.size x l h r d := In.on ⟨by simp [go_sem], by simp [go_sem], by simp [go_sem], by simp [go_sem], by simp [go_sem]⟩ a1
    have J2 : In w1 (w.heap.size + 1) y m k s t := In.on ⟨by simp [go_sem], by simp [go_sem], by simp [go_sem], by simp [go_sem], by simp [go_sem]⟩ a1
    have HJ1 := Lib.hid J1
    have HJ2 := Lib.hid J2
    have zz1 := J1.lt
    have zz2 := J2.lt
    obtain ⟨j0, j1, j2, j3, j4⟩ := J1
    obtain ⟨j5, j6, j7, j8, j9⟩ := J2
    have hO1 : On w w1 := by repeat (first | with_reducible exact On.refl _ | apply On.alloc | apply On.drewN | apply On.drew | refine On.setCell ?_ (by (try simp) <;> omega) _ | refine On.trans ?_ a1)
    clear a1
    go_wp2_with fail
    go_ret2
    exact ⟨rfl, by repeat (first | with_reducible exact On.refl _ | apply On.alloc | apply On.drewN | apply On.drew | refine On.setCell ?_ (by (try simp) <;> omega) _ | refine On.trans ?_ hO1)⟩
  | true =>
    rw [tt] at HA
    cases uu : has22 l h r c m k s n with
    | false =>
      rw [uu, code_out] at HA
      rw [clash_out, code_out]
      go_enter Tryd.func14, Tryd.ntmps14
      go_wp2_with fail
      refine (HA.out _ ⟨by simp [go_sem], by simp [go_sem], by simp [go_sem], by simp [go_sem], by simp [go_sem]⟩ ⟨by simp [go_sem], by simp [go_sem], by simp [go_sem], by simp [go_sem], by simp [go_sem]⟩).mono ?_
      rintro e w1 ⟨rfl, a1⟩
      have J1 : In w1 w.heap.size x l h r d := In.on ⟨by simp [go_sem], by simp [go_sem], by simp [go_sem], by simp [go_sem], by simp [go_sem]⟩ a1
      have J2 : In w1 (w.heap.size + 1) y m k s t := In.on ⟨by simp [go_sem], by simp [go_sem], by simp [go_sem], by simp [go_sem], by simp [go_sem]⟩ a1
      have HJ1 := Lib.hid J1
      have HJ2 := Lib.hid J2
      have zz1 := J1.lt
      have zz2 := J2.lt
      obtain ⟨j0, j1, j2, j3, j4⟩ := J1
      obtain ⟨j5, j6, j7, j8, j9⟩ := J2
      have hO1 : On w w1 := by repeat (first | with_reducible exact On.refl _ | apply On.alloc | apply On.drewN | apply On.drew | refine On.setCell ?_ (by (try simp) <;> omega) _ | refine On.trans ?_ a1)
      clear a1
      go_wp2_with fail
      go_ret2
      exact ⟨rfl, by repeat (first | with_reducible exact On.refl _ | apply On.alloc | apply On.drewN | apply On.drew | refine On.setCell ?_ (by (try simp) <;> omega) _ | refine On.trans ?_ hO1)⟩
    | true =>
      rw [uu, code_yes] at HA
      obtain ⟨t0, t1⟩ := of_ok22 tt
      obtain ⟨t2, t3⟩ := of_has22 uu
      obtain ⟨⟨la1, la2⟩, ⟨ha1, ha2⟩, ⟨ra1, ra2⟩, ⟨qa1, qa2⟩, da1, da2⟩ := of_okB t0
      obtain ⟨⟨lb1, lb2⟩, ⟨hb1, hb2⟩, ⟨rb1, rb2⟩, ⟨qb1, qb2⟩, db1, db2⟩ := of_okB t1
      obtain ⟨ca0, ca1⟩ := of_inB (show inB c 0 (quo l h r - 1) = true from t2)
      obtain ⟨cb0, cb1⟩ := of_inB (show inB n 0 (quo m k s - 1) = true from t3)
      obtain ⟨e1, e2⟩ := chan_in ra1 qa1 ca0 ca1
      obtain ⟨e3, e4⟩ := chan_in rb1 qb1 cb0 cb1
      rw [clash_yes, code_yes]
      have en := Lib.hid (show clashV l r c m s n = (decide (l + c * r < m + (n + 1) * s) && decide (m + n * s < l + (c + 1) * r)) from rfl)
      have s1 := suc_mul c r
      have s2 := suc_mul n s
      clear t0 t1 t2 t3 tt uu
      obtain ⟨p1, hp1⟩ : ∃ z, z = c * r := ⟨_, rfl⟩
      obtain ⟨p2, hp2⟩ : ∃ z, z = n * s := ⟨_, rfl⟩
      obtain ⟨p3, hp3⟩ : ∃ z, z = (c + 1) * r := ⟨_, rfl⟩
      obtain ⟨p4, hp4⟩ : ∃ z, z = (n + 1) * s := ⟨_, rfl⟩
      rw [← hp1, ← hp2, ← hp3, ← hp4] at en
      rw [← hp1] at e1 e2 s1
      rw [← hp2] at e3 e4 s2
      rw [← hp3] at s1
      rw [← hp4] at s2
      have b3 : 0 ≤ p3 ∧ p3 ≤ 200000000 := by omega
      have b4 : 0 ≤ p4 ∧ p4 ≤ 200000000 := by omega
      obtain ⟨b3, b3'⟩ := b3
      obtain ⟨b4, b4'⟩ := b4
      clear s1 s2
      replace hp1 := hp1.symm
      replace hp2 := hp2.symm
      replace hp3 := hp3.symm
      replace hp4 := hp4.symm
      have wn1 : IntKind.i64.wrap (n + 1) = n + 1 := IntWalk.i64_in _ (by omega)
      have wn2 : IntKind.i64.wrap (c + 1) = c + 1 := IntWalk.i64_in _ (by omega)
      by_cases g1 : l + p1 < m + p4
      · by_cases g2 : m + p2 < l + p3
        · rw [decide_eq_true g1, decide_eq_true g2] at en
          go_enter Tryd.func14, Tryd.ntmps14
          go_wp2_with fail
          refine (HA.out _ ⟨by simp [go_sem], by simp [go_sem], by simp [go_sem], by simp [go_sem], by simp [go_sem]⟩ ⟨by simp [go_sem], by simp [go_sem], by simp [go_sem], by simp [go_sem], by simp [go_sem]⟩).mono ?_
          rintro e w1 ⟨rfl, a1⟩
          have J1 : In w1 w.heap.size x l h r d := In.on ⟨by simp [go_sem], by simp [go_sem], by simp [go_sem], by simp [go_sem], by simp [go_sem]⟩ a1
          have J2 : In w1 (w.heap.size + 1) y m k s t := In.on ⟨by simp [go_sem], by simp [go_sem], by simp [go_sem], by simp [go_sem], by simp [go_sem]⟩ a1
          have HJ1 := Lib.hid J1
          have HJ2 := Lib.hid J2
          have zz1 := J1.lt
          have zz2 := J2.lt
          obtain ⟨j0, j1, j2, j3, j4⟩ := J1
          obtain ⟨j5, j6, j7, j8, j9⟩ := J2
          have hO1 : On w w1 := by repeat (first | with_reducible exact On.refl _ | apply On.alloc | apply On.drewN | apply On.drew | refine On.setCell ?_ (by (try simp) <;> omega) _ | refine On.trans ?_ a1)
          clear a1
          go_wp2_with fail
          go_ret2
          exact ⟨by rw [en.out]; simp, by repeat (first | with_reducible exact On.refl _ | apply On.alloc | apply On.drewN | apply On.drew | refine On.setCell ?_ (by (try simp) <;> omega) _ | refine On.trans ?_ hO1)⟩
        · rw [decide_eq_true g1, decide_eq_false g2] at en
          have g2' : decide (m + p2 < l + p3) = false := decide_eq_false g2
          go_enter Tryd.func14, Tryd.ntmps14
          go_wp2_with fail
          refine (HA.out _ ⟨by simp [go_sem], by simp [go_sem], by simp [go_sem], by simp [go_sem], by simp [go_sem]⟩ ⟨by simp [go_sem], by simp [go_sem], by simp [go_sem], by simp [go_sem], by simp [go_sem]⟩).mono ?_
          rintro e w1 ⟨rfl, a1⟩
          have J1 : In w1 w.heap.size x l h r d := In.on ⟨by simp [go_sem], by simp [go_sem], by simp [go_sem], by simp [go_sem], by simp [go_sem]⟩ a1
          have J2 : In w1 (w.heap.size + 1) y m k s t := In.on ⟨by simp [go_sem], by simp [go_sem], by simp [go_sem], by simp [go_sem], by simp [go_sem]⟩ a1
          have HJ1 := Lib.hid J1
          have HJ2 := Lib.hid J2
          have zz1 := J1.lt
          have zz2 := J2.lt
          obtain ⟨j0, j1, j2, j3, j4⟩ := J1
          obtain ⟨j5, j6, j7, j8, j9⟩ := J2
          have hO1 : On w w1 := by repeat (first | with_reducible exact On.refl _ | apply On.alloc | apply On.drewN | apply On.drew | refine On.setCell ?_ (by (try simp) <;> omega) _ | refine On.trans ?_ a1)
          clear a1
          go_wp2_with fail
          go_ret2
          exact ⟨by rw [en.out]; simp, by repeat (first | with_reducible exact On.refl _ | apply On.alloc | apply On.drewN | apply On.drew | refine On.setCell ?_ (by (try simp) <;> omega) _ | refine On.trans ?_ hO1)⟩
      · rw [decide_eq_false g1] at en
        have g1' : decide (l + p1 < m + p4) = false := decide_eq_false g1
        go_enter Tryd.func14, Tryd.ntmps14
        go_wp2_with fail
        refine (HA.out _ ⟨by simp [go_sem], by simp [go_sem], by simp [go_sem], by simp [go_sem], by simp [go_sem]⟩ ⟨by simp [go_sem], by simp [go_sem], by simp [go_sem], by simp [go_sem], by simp [go_sem]⟩).mono ?_
        rintro e w1 ⟨rfl, a1⟩
        have J1 : In w1 w.heap.size x l h r d := In.on ⟨by simp [go_sem], by simp [go_sem], by simp [go_sem], by simp [go_sem], by simp [go_sem]⟩ a1
        have J2 : In w1 (w.heap.size + 1) y m k s t := In.on ⟨by simp [go_sem], by simp [go_sem], by simp [go_sem], by simp [go_sem], by simp [go_sem]⟩ a1
        have HJ1 := Lib.hid J1
        have HJ2 := Lib.hid J2
        have zz1 := J1.lt
        have zz2 := J2.lt
        obtain ⟨j0, j1, j2, j3, j4⟩ := J1
        obtain ⟨j5, j6, j7, j8, j9⟩ := J2
        have hO1 : On w w1 := by repeat (first | with_reducible exact On.refl _ | apply On.alloc | apply On.drewN | apply On.drew | refine On.setCell ?_ (by (try simp) <;> omega) _ | refine On.trans ?_ a1)
        clear a1
        go_wp2_with fail
        go_ret2
        exact ⟨by rw [en.out]; simp, by repeat (first | with_reducible exact On.refl _ | apply On.alloc | apply On.drewN | apply On.drew | refine On.setCell ?_ (by (try simp) <;> omega) _ | refine On.trans ?_ hO1)⟩

set_option maxHeartbeats 4000000 in
theorem impl_Clash (x : ByteArray) (l h r d : Int) (c : Int) (y : ByteArray) (m k s t : Int) (n : Int) (w : World) (q0 : x.size ≤ 1048576) (q1 : y.size ≤ 1048576) (hg : Span.SpanG w) :
    Calls Tryd.prog 15 #[.agg #[.string x, .int .i64 l, .int .i64 h, .int .i64 r, .int .i64 d], .int .i64 c, .agg #[.string y, .int .i64 m, .int .i64 k, .int .i64 s, .int .i64 t], .int .i64 n] w fun e w' => e = .returned (.tuple #[.bool (clashR (ok22 x l h r d y m k s t) (has22 l h r c m k s n) l r c m s n), .int .i64 (code2 (ok22 x l h r d y m k s t) (has22 l h r c m k s n))]) ∧ On w w' := by
  have HA := Lib.hid (fun w' (ho : On w w') => impl_pair x l h r d c y m k s t n w' q0 q1 (hg.on ho))
  clear hg
  cases tt : ok22 x l h r d y m k s t with
  | false =>
    rw [tt, lo4_no, hi4_no, lo4_no, hi4_no, code_no] at HA
    rw [clash_no, code_no]
    go_enter Tryd.func15, Tryd.ntmps15
    go_wp2_with fail
    refine (HA.out _ (by repeat (first | with_reducible exact On.refl _ | apply On.alloc | apply On.drewN | apply On.drew | refine On.setCell ?_ (by (try simp) <;> omega) _))).mono ?_
    rintro e w1 ⟨rfl, a1⟩
    have hO1 : On w w1 := by repeat (first | with_reducible exact On.refl _ | apply On.alloc | apply On.drewN | apply On.drew | refine On.setCell ?_ (by (try simp) <;> omega) _ | refine On.trans ?_ a1)
    clear a1
    go_wp2_with fail
    go_ret2
    exact ⟨rfl, by repeat (first | with_reducible exact On.refl _ | apply On.alloc | apply On.drewN | apply On.drew | refine On.setCell ?_ (by (try simp) <;> omega) _ | refine On.trans ?_ hO1)⟩
  | true =>
    rw [tt] at HA
    cases uu : has22 l h r c m k s n with
    | false =>
      rw [uu, lo4_out, hi4_out, lo4_out, hi4_out, code_out] at HA
      rw [clash_out, code_out]
      go_enter Tryd.func15, Tryd.ntmps15
      go_wp2_with fail
      refine (HA.out _ (by repeat (first | with_reducible exact On.refl _ | apply On.alloc | apply On.drewN | apply On.drew | refine On.setCell ?_ (by (try simp) <;> omega) _))).mono ?_
      rintro e w1 ⟨rfl, a1⟩
      have hO1 : On w w1 := by repeat (first | with_reducible exact On.refl _ | apply On.alloc | apply On.drewN | apply On.drew | refine On.setCell ?_ (by (try simp) <;> omega) _ | refine On.trans ?_ a1)
      clear a1
      go_wp2_with fail
      go_ret2
      exact ⟨rfl, by repeat (first | with_reducible exact On.refl _ | apply On.alloc | apply On.drewN | apply On.drew | refine On.setCell ?_ (by (try simp) <;> omega) _ | refine On.trans ?_ hO1)⟩
    | true =>
      rw [uu, lo4_yes, hi4_yes, lo4_yes, hi4_yes, code_yes] at HA
      obtain ⟨t0, t1⟩ := of_ok22 tt
      obtain ⟨t2, t3⟩ := of_has22 uu
      obtain ⟨⟨la1, la2⟩, ⟨ha1, ha2⟩, ⟨ra1, ra2⟩, ⟨qa1, qa2⟩, da1, da2⟩ := of_okB t0
      obtain ⟨⟨lb1, lb2⟩, ⟨hb1, hb2⟩, ⟨rb1, rb2⟩, ⟨qb1, qb2⟩, db1, db2⟩ := of_okB t1
      obtain ⟨ca0, ca1⟩ := of_inB (show inB c 0 (quo l h r - 1) = true from t2)
      obtain ⟨cb0, cb1⟩ := of_inB (show inB n 0 (quo m k s - 1) = true from t3)
      obtain ⟨e1, e2⟩ := chan_in ra1 qa1 ca0 ca1
      obtain ⟨e3, e4⟩ := chan_in rb1 qb1 cb0 cb1
      rw [clash_yes, code_yes]
      have en := Lib.hid (clash_common (l := l) (c := c) (m := m) (n := n) ra1 rb1)
      obtain ⟨u, hu⟩ : ∃ z, z = l + c * r := ⟨_, rfl⟩
      obtain ⟨v, hv⟩ : ∃ z, z = m + n * s := ⟨_, rfl⟩
      rw [← hu, ← hv] at en HA
      have hc := fun w' => impl_common u (u + r) v (v + s) w' (by omega) (by omega) (by omega) (by omega) (by omega) (by omega) (by omega) (by omega)
      generalize commonV u (u + r) v (v + s) = cv at *
      have HC := Lib.hid hc
      clear hc hu hv t0 t1 t2 t3 tt uu
      go_enter Tryd.func15, Tryd.ntmps15
      go_wp2_with fail
      refine (HA.out _ (by repeat (first | with_reducible exact On.refl _ | apply On.alloc | apply On.drewN | apply On.drew | refine On.setCell ?_ (by (try simp) <;> omega) _))).mono ?_
      rintro e w1 ⟨rfl, a1⟩
      have hO1 : On w w1 := by repeat (first | with_reducible exact On.refl _ | apply On.alloc | apply On.drewN | apply On.drew | refine On.setCell ?_ (by (try simp) <;> omega) _ | refine On.trans ?_ a1)
      clear a1
      go_wp2_with fail
      refine (HC.out _).mono ?_
      rintro e w2 ⟨rfl, a2⟩
      go_wp2_with fail
      go_ret2
      exact ⟨by rw [← en.out]; rfl, by repeat (first | with_reducible exact On.refl _ | apply On.alloc | apply On.drewN | apply On.drew | refine On.setCell ?_ (by (try simp) <;> omega) _ | refine On.trans ?_ a2 | refine On.trans ?_ hO1)⟩

def comR (b : Bool) (l h m k : Int) : Int := if b then commonV l h m k else 0
theorem comR_no (l h m k : Int) : comR false l h m k = 0 := rfl
theorem comR_yes (l h m k : Int) : comR true l h m k = commonV l h m k := rfl
def comC (b : Bool) : Int := if b then 0 else 1
theorem comC_no : comC false = 1 := rfl
theorem comC_yes : comC true = 0 := rfl

set_option maxHeartbeats 4000000 in
theorem spec_CommonPart (x : ByteArray) (l h r d : Int) (y : ByteArray) (m k s t : Int) (w : World) (q0 : x.size ≤ 1048576) (q1 : y.size ≤ 1048576) :
    Calls Tryd.prog 18 #[.agg #[.string x, .int .i64 l, .int .i64 h, .int .i64 r, .int .i64 d], .agg #[.string y, .int .i64 m, .int .i64 k, .int .i64 s, .int .i64 t]] w fun e w' => e = .returned (.tuple #[.int .i64 (comR (ok22 x l h r d y m k s t) l h m k), .int .i64 (comC (ok22 x l h r d y m k s t))]) ∧ On w w' := by
  have HA := Lib.hid (fun w' hp => spec_ok w.heap.size x l h r d w' q0 hp)
  have HB := Lib.hid (fun w' hp => spec_ok (w.heap.size + 1) y m k s t w' q1 hp)
  unfold ok22
  cases t0 : okB x l h r d with
  | false =>
    rw [t0] at HA
    rw [Bool.false_and, comR_no, comC_no]
    go_enter Tryd.func18, Tryd.ntmps18
    go_wp2_with fail
    refine (HA.out _ ⟨by simp [go_sem], by simp [go_sem], by simp [go_sem], by simp [go_sem], by simp [go_sem]⟩).mono ?_
    rintro e w1 ⟨rfl, a1⟩
    have J1 : In w1 w.heap.size x l h r d := In.on ⟨by simp [go_sem], by simp [go_sem], by simp [go_sem], by simp [go_sem], by simp [go_sem]⟩ a1
    have J2 : In w1 (w.heap.size + 1) y m k s t := In.on ⟨by simp [go_sem], by simp [go_sem], by simp [go_sem], by simp [go_sem], by simp [go_sem]⟩ a1
    have HJ1 := Lib.hid J1
    have HJ2 := Lib.hid J2
    have hO1 : On w w1 := by repeat (first | with_reducible exact On.refl _ | apply On.alloc | apply On.drewN | apply On.drew | refine On.setCell ?_ (by (try simp) <;> omega) _ | refine On.trans ?_ a1)
    clear a1 J1 J2
    go_wp2_with fail
    go_ret2
    exact ⟨rfl, by repeat (first | with_reducible exact On.refl _ | apply On.alloc | apply On.drewN | apply On.drew | refine On.setCell ?_ (by (try simp) <;> omega) _ | refine On.trans ?_ hO1)⟩
  | true =>
    rw [t0] at HA
    obtain ⟨⟨la1, la2⟩, ⟨ha1, ha2⟩, ⟨ra1, ra2⟩, ⟨qa1, qa2⟩, da1, da2⟩ := of_okB t0
    rw [Bool.true_and]
    cases t1 : okB y m k s t with
    | false =>
      rw [t1] at HB
      rw [comR_no, comC_no]
      go_enter Tryd.func18, Tryd.ntmps18
      go_wp2_with fail
      refine (HA.out _ ⟨by simp [go_sem], by simp [go_sem], by simp [go_sem], by simp [go_sem], by simp [go_sem]⟩).mono ?_
      rintro e w1 ⟨rfl, a1⟩
      have J1 : In w1 w.heap.size x l h r d := In.on ⟨by simp [go_sem], by simp [go_sem], by simp [go_sem], by simp [go_sem], by simp [go_sem]⟩ a1
      have J2 : In w1 (w.heap.size + 1) y m k s t := In.on ⟨by simp [go_sem], by simp [go_sem], by simp [go_sem], by simp [go_sem], by simp [go_sem]⟩ a1
      have HJ1 := Lib.hid J1
      have HJ2 := Lib.hid J2
      have hO1 : On w w1 := by repeat (first | with_reducible exact On.refl _ | apply On.alloc | apply On.drewN | apply On.drew | refine On.setCell ?_ (by (try simp) <;> omega) _ | refine On.trans ?_ a1)
      clear a1 J1 J2
      go_wp2_with fail
      refine (HB.out _ HJ2.out).mono ?_
      rintro e w2 ⟨rfl, a2⟩
      obtain ⟨j0, j1, j2, j3, j4⟩ := HJ1.out.on a2
      obtain ⟨j5, j6, j7, j8, j9⟩ := HJ2.out.on a2
      have zz1 := World.block_lt_of_cell? _ _ j0
      have zz2 := World.block_lt_of_cell? _ _ j5
      have hO2 : On w w2 := hO1.trans a2
      clear a2 hO1
      go_wp2_with fail
      go_ret2
      exact ⟨rfl, by repeat (first | with_reducible exact On.refl _ | apply On.alloc | apply On.drewN | apply On.drew | refine On.setCell ?_ (by (try simp) <;> omega) _ | refine On.trans ?_ hO2)⟩
    | true =>
      rw [t1] at HB
      obtain ⟨⟨lb1, lb2⟩, ⟨hb1, hb2⟩, ⟨rb1, rb2⟩, ⟨qb1, qb2⟩, db1, db2⟩ := of_okB t1
      rw [comR_yes, comC_yes]
      obtain ⟨u1, u2⟩ := min_range ha1 ha2 hb1 hb2
      obtain ⟨v1, v2⟩ := max_range la1 la2 lb1 lb2
      have H1 := Lib.hid (fun w => spec_min h k w)
      have H2 := Lib.hid (fun w => spec_max l m w)
      have en := Lib.hid (show maxI 0 (minI h k - maxI l m) = commonV l h m k from rfl)
      generalize minI h k = u at *
      generalize maxI l m = v at *
      have H3 := Lib.hid (fun w => spec_max 0 (u - v) w)
      rw [en.out] at H3
      generalize commonV l h m k = cv at *
      have wr0 : IntKind.i64.wrap (u - v) = u - v := IntWalk.i64_in _ (by omega)
      go_enter Tryd.func18, Tryd.ntmps18
      go_wp2_with fail
      refine (HA.out _ ⟨by simp [go_sem], by simp [go_sem], by simp [go_sem], by simp [go_sem], by simp [go_sem]⟩).mono ?_
      rintro e w1 ⟨rfl, a1⟩
      have J1 : In w1 w.heap.size x l h r d := In.on ⟨by simp [go_sem], by simp [go_sem], by simp [go_sem], by simp [go_sem], by simp [go_sem]⟩ a1
      have J2 : In w1 (w.heap.size + 1) y m k s t := In.on ⟨by simp [go_sem], by simp [go_sem], by simp [go_sem], by simp [go_sem], by simp [go_sem]⟩ a1
      have HJ1 := Lib.hid J1
      have HJ2 := Lib.hid J2
      have hO1 : On w w1 := by repeat (first | with_reducible exact On.refl _ | apply On.alloc | apply On.drewN | apply On.drew | refine On.setCell ?_ (by (try simp) <;> omega) _ | refine On.trans ?_ a1)
      clear a1 J1 J2
      go_wp2_with fail
      refine (HB.out _ HJ2.out).mono ?_
      rintro e w2 ⟨rfl, a2⟩
      obtain ⟨j0, j1, j2, j3, j4⟩ := HJ1.out.on a2
      obtain ⟨j5, j6, j7, j8, j9⟩ := HJ2.out.on a2
      have zz1 := World.block_lt_of_cell? _ _ j0
      have zz2 := World.block_lt_of_cell? _ _ j5
      have hO2 : On w w2 := hO1.trans a2
      clear a2 hO1
      go_wp2_with fail
      refine wp_region_onh (by kernel_rfl) (by kernel_rfl) ?_
      repeat (refine rest_step (fun K hK => ?_); go_simp; first | (refine hK _ ?_; clear hK K) | (apply Exists.intro; refine ⟨fun v1 hv1 => ?_, hK _ ?_⟩; (first | with_reducible exact rfl | with_reducible exact ⟨rfl, rfl⟩ | with_reducible exact Calls.on_same hv1 (H1.out _) | with_reducible exact Calls.on_same hv1 (H2.out _) | with_reducible exact Calls.on_same hv1 (H3.out _) | (obtain ⟨hc, hf⟩ := bcell hv1; go_simp; first | with_reducible exact rfl | with_reducible exact ⟨rfl, rfl⟩ | exact rfl | exact ⟨rfl, rfl⟩)); clear hK K))
      refine rest_nil ?_
      intro w3 a3
      go_wp2_with fail
      go_ret2
      exact ⟨rfl, by repeat (first | with_reducible exact On.refl _ | apply On.alloc | apply On.drewN | apply On.drew | refine On.setCell ?_ (by (try simp) <;> omega) _ | refine On.trans ?_ a3 | refine On.trans ?_ hO2)⟩

set_option maxHeartbeats 4000000 in
theorem impl_CommonPart (x : ByteArray) (l h r d : Int) (y : ByteArray) (m k s t : Int) (w : World) (q0 : x.size ≤ 1048576) (q1 : y.size ≤ 1048576) (hg : Span.SpanG w) :
    Calls Tryd.prog 19 #[.agg #[.string x, .int .i64 l, .int .i64 h, .int .i64 r, .int .i64 d], .agg #[.string y, .int .i64 m, .int .i64 k, .int .i64 s, .int .i64 t]] w fun e w' => e = .returned (.tuple #[.int .i64 (comR (ok22 x l h r d y m k s t) l h m k), .int .i64 (comC (ok22 x l h r d y m k s t))]) ∧ On w w' := by
  have HA := Lib.hid (fun w' (ho : On w w') => impl_ok x l h r d w' q0 (hg.on ho))
  have HB := Lib.hid (fun w' (ho : On w w') => impl_ok y m k s t w' q1 (hg.on ho))
  clear hg
  unfold ok22
  cases t0 : okB x l h r d with
  | false =>
    rw [t0] at HA
    rw [Bool.false_and, comR_no, comC_no]
    go_enter Tryd.func19, Tryd.ntmps19
    go_wp2_with fail
    refine (HA.out _ (by repeat (first | with_reducible exact On.refl _ | apply On.alloc | apply On.drewN | apply On.drew | refine On.setCell ?_ (by (try simp) <;> omega) _))).mono ?_
    rintro e w1 ⟨rfl, a1⟩
    obtain ⟨hc1, hf1⟩ := bcell a1
    obtain ⟨z1, z1'⟩ : w.heap.size < w1.heap.size ∧ w.heap.size + 1 < w1.heap.size := by have := a1.size; (try simp at this); omega
    have hO1 : On w w1 := by repeat (first | with_reducible exact On.refl _ | apply On.alloc | apply On.drewN | apply On.drew | refine On.setCell ?_ (by (try simp) <;> omega) _ | refine On.trans ?_ a1)
    clear a1
    go_wp2_with fail
    go_ret2
    exact ⟨rfl, by repeat (first | with_reducible exact On.refl _ | apply On.alloc | apply On.drewN | apply On.drew | refine On.setCell ?_ (by (try simp) <;> omega) _ | refine On.trans ?_ hO1)⟩
  | true =>
    rw [t0] at HA
    obtain ⟨⟨la1, la2⟩, ⟨ha1, ha2⟩, ⟨ra1, ra2⟩, ⟨qa1, qa2⟩, da1, da2⟩ := of_okB t0
    rw [Bool.true_and]
    cases t1 : okB y m k s t with
    | false =>
      rw [t1] at HB
      rw [comR_no, comC_no]
      go_enter Tryd.func19, Tryd.ntmps19
      go_wp2_with fail
      refine (HA.out _ (by repeat (first | with_reducible exact On.refl _ | apply On.alloc | apply On.drewN | apply On.drew | refine On.setCell ?_ (by (try simp) <;> omega) _))).mono ?_
      rintro e w1 ⟨rfl, a1⟩
      obtain ⟨hc1, hf1⟩ := bcell a1
      obtain ⟨z1, z1'⟩ : w.heap.size < w1.heap.size ∧ w.heap.size + 1 < w1.heap.size := by have := a1.size; (try simp at this); omega
      have hO1 : On w w1 := by repeat (first | with_reducible exact On.refl _ | apply On.alloc | apply On.drewN | apply On.drew | refine On.setCell ?_ (by (try simp) <;> omega) _ | refine On.trans ?_ a1)
      clear a1
      go_wp2_with fail
      refine (HB.out _ hO1).mono ?_
      rintro e w2 ⟨rfl, a2⟩
      obtain ⟨hc2, hf2⟩ := bcell a2
      obtain ⟨z2, z2'⟩ : w.heap.size < w2.heap.size ∧ w.heap.size + 1 < w2.heap.size := by have := a2.size; omega
      have hO2 : On w w2 := hO1.trans a2
      clear a2 hO1
      go_wp2_with fail
      go_ret2
      exact ⟨rfl, by repeat (first | with_reducible exact On.refl _ | apply On.alloc | apply On.drewN | apply On.drew | refine On.setCell ?_ (by (try simp) <;> omega) _ | refine On.trans ?_ hO2)⟩
    | true =>
      rw [t1] at HB
      obtain ⟨⟨lb1, lb2⟩, ⟨hb1, hb2⟩, ⟨rb1, rb2⟩, ⟨qb1, qb2⟩, db1, db2⟩ := of_okB t1
      rw [comR_yes, comC_yes]
      have H1 := Lib.hid (fun w => impl_reach x l h r d w)
      have H2 := Lib.hid (fun w => impl_reach y m k s t w)
      have H3 := Lib.hid (fun w => impl_common l h m k w (by omega) (by omega) (by omega) (by omega) (by omega) (by omega) (by omega) (by omega))
      generalize commonV l h m k = cv at *
      go_enter Tryd.func19, Tryd.ntmps19
      go_wp2_with fail
      refine (HA.out _ (by repeat (first | with_reducible exact On.refl _ | apply On.alloc | apply On.drewN | apply On.drew | refine On.setCell ?_ (by (try simp) <;> omega) _))).mono ?_
      rintro e w1 ⟨rfl, a1⟩
      obtain ⟨hc1, hf1⟩ := bcell a1
      obtain ⟨z1, z1'⟩ : w.heap.size < w1.heap.size ∧ w.heap.size + 1 < w1.heap.size := by have := a1.size; (try simp at this); omega
      have hO1 : On w w1 := by repeat (first | with_reducible exact On.refl _ | apply On.alloc | apply On.drewN | apply On.drew | refine On.setCell ?_ (by (try simp) <;> omega) _ | refine On.trans ?_ a1)
      clear a1
      go_wp2_with fail
      refine (HB.out _ hO1).mono ?_
      rintro e w2 ⟨rfl, a2⟩
      obtain ⟨hc2, hf2⟩ := bcell a2
      obtain ⟨z2, z2'⟩ : w.heap.size < w2.heap.size ∧ w.heap.size + 1 < w2.heap.size := by have := a2.size; omega
      have hO2 : On w w2 := hO1.trans a2
      clear a2 hO1
      go_wp2_with fail
      refine wp_region_onh (by kernel_rfl) (by kernel_rfl) ?_
      repeat (refine rest_step (fun K hK => ?_); go_simp; first | (refine hK _ ?_; clear hK K) | (apply Exists.intro; refine ⟨fun v1 hv1 => ?_, hK _ ?_⟩; (first | with_reducible exact rfl | with_reducible exact ⟨rfl, rfl⟩ | with_reducible exact Calls.on hv1 (H1.out _) | with_reducible exact Calls.on hv1 (H2.out _) | with_reducible exact Calls.on hv1 (H3.out _) | (obtain ⟨hc, hf⟩ := bcell hv1; go_simp; first | with_reducible exact rfl | with_reducible exact ⟨rfl, rfl⟩ | exact rfl | exact ⟨rfl, rfl⟩)); clear hK K))
      refine rest_nil ?_
      intro w3 a3
      go_wp2_with fail
      go_ret2
      exact ⟨rfl, by repeat (first | with_reducible exact On.refl _ | apply On.alloc | apply On.drewN | apply On.drew | refine On.setCell ?_ (by (try simp) <;> omega) _ | refine On.trans ?_ a3 | refine On.trans ?_ hO2)⟩

end Go.Proofs.YtdkemoojlgdelabDoor.Bnd
