
/-
  How far two channels' middles lie apart, in the model and in the program. Conditions: at most 1048576 bytes in a name; the program's variable of spans holds what its text lays.
-/
import Derived.Test.YtdkemoojlgdelabDoorBndQ
namespace Go.Proofs.YtdkemoojlgdelabDoor.Bnd
open Go.RowKit
open Plain

def absV (a b : Int) : Int := if a < b then b - a else a - b
theorem abs_lt {a b : Int} (g : a < b) : absV a b = b - a := if_pos g
theorem abs_ge {a b : Int} (g : ¬ a < b) : absV a b = a - b := if_neg g
theorem abs_diff (a b : Int) : maxI a b - minI a b = absV a b := by unfold maxI minI absV; repeat' split <;> omega
def offV (b1 b2 : Bool) (a b : Int) : Int := if b1 && b2 then absV a b else 0
theorem off_no (b2 : Bool) (a b : Int) : offV false b2 a b = 0 := rfl
theorem off_out (a b : Int) : offV true false a b = 0 := rfl
theorem off_yes (a b : Int) : offV true true a b = absV a b := rfl

set_option maxHeartbeats 4000000 in
theorem spec_Offset (x : ByteArray) (l h r d : Int) (c : Int) (y : ByteArray) (m k s t : Int) (n : Int) (w : World) (q0 : x.size ≤ 1048576) (q1 : y.size ≤ 1048576) :
    Calls Tryd.prog 16 #[.agg #[.string x, .int .i64 l, .int .i64 h, .int .i64 r, .int .i64 d], .int .i64 c, .agg #[.string y, .int .i64 m, .int .i64 k, .int .i64 s, .int .i64 t], .int .i64 n] w fun e w' => e = .returned (.tuple #[.int .i64 (offV (ok22 x l h r d y m k s t) (has22 l h r c m k s n) (mid l r c) (mid m s n)), .int .i64 (code2 (ok22 x l h r d y m k s t) (has22 l h r c m k s n))]) ∧ On w w' := by
  have HA := Lib.hid (fun w' hp hq => spec_ask w.heap.size (w.heap.size + 1) x l h r d c y m k s t n w' q0 q1 hp hq)
  cases tt : ok22 x l h r d y m k s t with
  | false =>
    rw [tt, code_no] at HA
    rw [off_no, code_no]
    go_enter Tryd.func16, Tryd.ntmps16
    go_wp2_with fail
    refine (HA.out _ ⟨by simp [go_sem], by simp [go_sem], by simp [go_sem], by simp [go_sem], by simp [go_sem]⟩ ⟨by simp [go_sem], by simp [go_sem], by simp [go_sem], by simp [go_sem], by simp [go_sem]⟩).mono ?_
    rintro e w1 ⟨rfl, a1⟩
    have J1 : In w1 w.heap.size x l h r d := In.on ⟨by simp [go_sem], by simp [go_sem], by simp [go_sem], by simp [go_sem], by simp [go_sem]⟩ a1
    have J2 : In w1 (w.heap.size + 1) y m k s t := In.on ⟨by simp [go_sem], by simp [go_sem], by simp [go_sem], by simp [go_sem], by simp [go_sem]⟩ a1
    have HJ1 := Lib.hid J1
    have HJ2 := Lib.hid J2
    have zz1 := J1.lt
    have zz2 := J2.lt
    obtain ⟨j0, j1, j2, j3, j4⟩ := J1
    obtain ⟨j5, j6, j7, j8, j9⟩ := J2
    have hO1 : On w w1 := by repeat (first | with_reducible exact On.refl _ | apply On.alloc | apply On.drewN | apply On.drew | refine On.setCell ?_ (by (try simp) <;> omega) _ | refine On.trans ?_ a1)
    clear a1
    go_wp2_with fail
    go_ret2
    exact ⟨rfl, by repeat (first | with_reducible exact On.refl _ | apply On.alloc | apply On.drewN | apply On.drew | refine On.setCell ?_ (by (try simp) <;> omega) _ | refine On.trans ?_ hO1)⟩
  | true =>
    rw [tt] at HA
    cases uu : has22 l h r c m k s n with
    | false =>
      rw [uu, code_out] at HA
      rw [off_out, code_out]
      go_enter Tryd.func16, Tryd.ntmps16
      go_wp2_with fail
      refine (HA.out _ ⟨by simp [go_sem], by simp [go_sem], by simp [go_sem], by simp [go_sem], by simp [go_sem]⟩ ⟨by simp [go_sem], by simp [go_sem], by simp [go_sem], by simp [go_sem], by simp [go_sem]⟩).mono ?_
      rintro e w1 ⟨rfl, a1⟩
      have J1 : In w1 w.heap.size x l h r d := In.on ⟨by simp [go_sem], by simp [go_sem], by simp [go_sem], by simp [go_sem], by simp [go_sem]⟩ a1
      have J2 : In w1 (w.heap.size + 1) y m k s t := In.on ⟨by simp [go_sem], by simp [go_sem], by simp [go_sem], by simp [go_sem], by simp [go_sem]⟩ a1
      have HJ1 := Lib.hid J1
      have HJ2 := Lib.hid J2
      have zz1 := J1.lt
      have zz2 := J2.lt
      obtain ⟨j0, j1, j2, j3, j4⟩ := J1
      obtain ⟨j5, j6, j7, j8, j9⟩ := J2
      have hO1 : On w w1 := by repeat (first | with_reducible exact On.refl _ | apply On.alloc | apply On.drewN | apply On.drew | refine On.setCell ?_ (by (try simp) <;> omega) _ | refine On.trans ?_ a1)
      clear a1
      go_wp2_with fail
      go_ret2
      exact ⟨rfl, by repeat (first | with_reducible exact On.refl _ | apply On.alloc | apply On.drewN | apply On.drew | refine On.setCell ?_ (by (try simp) <;> omega) _ | refine On.trans ?_ hO1)⟩
    | true =>
      rw [uu, code_yes] at HA
      obtain ⟨t0, t1⟩ := of_ok22 tt
      obtain ⟨t2, t3⟩ := of_has22 uu
      obtain ⟨⟨la1, la2⟩, ⟨ha1, ha2⟩, ⟨ra1, ra2⟩, ⟨qa1, qa2⟩, da1, da2⟩ := of_okB t0
      obtain ⟨⟨lb1, lb2⟩, ⟨hb1, hb2⟩, ⟨rb1, rb2⟩, ⟨qb1, qb2⟩, db1, db2⟩ := of_okB t1
      obtain ⟨ca0, ca1⟩ := of_inB (show inB c 0 (quo l h r - 1) = true from t2)
      obtain ⟨cb0, cb1⟩ := of_inB (show inB n 0 (quo m k s - 1) = true from t3)
      obtain ⟨e1, e2⟩ := chan_in ra1 qa1 ca0 ca1
      obtain ⟨e3, e4⟩ := chan_in rb1 qb1 cb0 cb1
      rw [off_yes, code_yes]
      have HC := Lib.hid (fun w' hp => spec_mid w.heap.size x l h r d c w' hp la1 la2 ha1 ha2 ra1 ca0 ca1 qa1)
      have HD := Lib.hid (fun w' hp => spec_mid (w.heap.size + 1) y m k s t n w' hp lb1 lb2 hb1 hb2 rb1 cb0 cb1 qb1)
      obtain ⟨u1, u2⟩ := mid_range la1 la2 ha2 ra1 qa1 ca0 ca1
      obtain ⟨v1, v2⟩ := mid_range lb1 lb2 hb2 rb1 qb1 cb0 cb1
      clear t0 t1 t2 t3 tt uu
      generalize mid l r c = u at *
      generalize mid m s n = v at *
      have wr0 : IntKind.i64.wrap (u - v) = u - v := IntWalk.i64_in _ (by omega)
      by_cases g : u < v
      · rw [abs_lt g]
        have g1 : u - v < 0 := by omega
        have en := Lib.hid (show -(u - v) = v - u by omega)
        go_enter Tryd.func16, Tryd.ntmps16
        go_wp2_with fail
        refine (HA.out _ ⟨by simp [go_sem], by simp [go_sem], by simp [go_sem], by simp [go_sem], by simp [go_sem]⟩ ⟨by simp [go_sem], by simp [go_sem], by simp [go_sem], by simp [go_sem], by simp [go_sem]⟩).mono ?_
        rintro e w1 ⟨rfl, a1⟩
        have J1 : In w1 w.heap.size x l h r d := In.on ⟨by simp [go_sem], by simp [go_sem], by simp [go_sem], by simp [go_sem], by simp [go_sem]⟩ a1
        have J2 : In w1 (w.heap.size + 1) y m k s t := In.on ⟨by simp [go_sem], by simp [go_sem], by simp [go_sem], by simp [go_sem], by simp [go_sem]⟩ a1
        have HJ1 := Lib.hid J1
        have HJ2 := Lib.hid J2
        have zz1 := J1.lt
        have zz2 := J2.lt
        obtain ⟨j0, j1, j2, j3, j4⟩ := J1
        obtain ⟨j5, j6, j7, j8, j9⟩ := J2
        have hO1 : On w w1 := by repeat (first | with_reducible exact On.refl _ | apply On.alloc | apply On.drewN | apply On.drew | refine On.setCell ?_ (by (try simp) <;> omega) _ | refine On.trans ?_ a1)
        clear a1
        go_wp2_with fail
        refine (HC.out _ HJ1.out).mono ?_
        rintro e w2 ⟨rfl, a2⟩
        go_wp2_with fail
        refine (HD.out _ (HJ2.out.on a2)).mono ?_
        rintro e w3 ⟨rfl, a3⟩
        go_wp2_with fail
        go_ret2
        exact ⟨by rw [← en.out]; rfl, by repeat (first | with_reducible exact On.refl _ | apply On.alloc | apply On.drewN | apply On.drew | refine On.setCell ?_ (by (try simp) <;> omega) _ | refine On.trans ?_ a3 | refine On.trans ?_ a2 | refine On.trans ?_ hO1)⟩
      · rw [abs_ge g]
        have g1 : ¬ u - v < 0 := by omega
        go_enter Tryd.func16, Tryd.ntmps16
        go_wp2_with fail
        refine (HA.out _ ⟨by simp [go_sem], by simp [go_sem], by simp [go_sem], by simp [go_sem], by simp [go_sem]⟩ ⟨by simp [go_sem], by simp [go_sem], by simp [go_sem], by simp [go_sem], by simp [go_sem]⟩).mono ?_
        rintro e w1 ⟨rfl, a1⟩
        have J1 : In w1 w.heap.size x l h r d := In.on ⟨by simp [go_sem], by simp [go_sem], by simp [go_sem], by simp [go_sem], by simp [go_sem]⟩ a1
        have J2 : In w1 (w.heap.size + 1) y m k s t := In.on ⟨by simp [go_sem], by simp [go_sem], by simp [go_sem], by simp [go_sem], by simp [go_sem]⟩ a1
        have HJ1 := Lib.hid J1
        have HJ2 := Lib.hid J2
        have zz1 := J1.lt
        have zz2 := J2.lt
        obtain ⟨j0, j1, j2, j3, j4⟩ := J1
        obtain ⟨j5, j6, j7, j8, j9⟩ := J2
        have hO1 : On w w1 := by repeat (first | with_reducible exact On.refl _ | apply On.alloc | apply On.drewN | apply On.drew | refine On.setCell ?_ (by (try simp) <;> omega) _ | refine On.trans ?_ a1)
        clear a1
        go_wp2_with fail
        refine (HC.out _ HJ1.out).mono ?_
        rintro e w2 ⟨rfl, a2⟩
        go_wp2_with fail
        refine (HD.out _ (HJ2.out.on a2)).mono ?_
        rintro e w3 ⟨rfl, a3⟩
        go_wp2_with fail
        go_ret2
        exact ⟨rfl, by repeat (first | with_reducible exact On.refl _ | apply On.alloc | apply On.drewN | apply On.drew | refine On.setCell ?_ (by (try simp) <;> omega) _ | refine On.trans ?_ a3 | refine On.trans ?_ a2 | refine On.trans ?_ hO1)⟩

theorem impl_difference (a b : Int) (w : World) (a1 : 0 ≤ a) (a2 : a ≤ 1000000000) (b1 : 0 ≤ b) (b2 : b ≤ 1000000000) :
    Calls Tryd.prog 44 #[.int .i64 a, .int .i64 b] w fun e w' => e = .returned (.int .i64 (absV a b)) ∧ w = w' := by
  have H1 := Lib.hid (fun w => impl_greatest a b w)
  have H2 := Lib.hid (fun w => impl_least a b w)
  obtain ⟨u1, u2⟩ := max_range a1 a2 b1 b2
  obtain ⟨v1, v2⟩ := min_range a1 a2 b1 b2
  have en := Lib.hid (abs_diff a b)
  generalize maxI a b = u at *
  generalize minI a b = v at *
  go_enter Tryd.func44, Tryd.ntmps44
  go_wp2_with fail
  refine (H1.out _).mono ?_
  rintro e w1 ⟨rfl, rfl⟩
  go_wp2_with fail
  refine (H2.out _).mono ?_
  rintro e w1 ⟨rfl, rfl⟩
  go_wp2_with fail
  go_ret
  exact ⟨ret_int en.out, rfl⟩
theorem methodMiddle (v : Value) (w : World) : (Go.method 185 45 v "loop.example/g00925/impl.middle").run Tryd.prog w = .ok (64, v) w := by kernel_rfl
set_option maxHeartbeats 1000000 in
theorem impl_apart (a a' b b' : Int) (w : World) (a1 : 0 ≤ a) (a2 : a ≤ a') (a3 : a' ≤ 500000000) (b1 : 0 ≤ b) (b2 : b ≤ b') (b3 : b' ≤ 500000000) :
    Calls Tryd.prog 30 #[.iface 45 (.agg #[.int .i64 a, .int .i64 a']), .iface 45 (.agg #[.int .i64 b, .int .i64 b'])] w fun e w' => e = .returned (.int .i64 (absV (a + (a' - a) / 2) (b + (b' - b) / 2))) ∧ On w w' := by
  have H1 := Lib.hid (fun w => impl_middle a a' w a1 a2 (by omega))
  have H2 := Lib.hid (fun w => impl_middle b b' w b1 b2 (by omega))
  obtain ⟨u, hu⟩ : ∃ z, z = a + (a' - a) / 2 := ⟨_, rfl⟩
  obtain ⟨v, hv⟩ : ∃ z, z = b + (b' - b) / 2 := ⟨_, rfl⟩
  have H3 := Lib.hid (fun w => impl_difference u v w (by omega) (by omega) (by omega) (by omega))
  rw [← hu] at H1
  rw [← hv] at H2
  rw [← hu, ← hv]
  clear hu hv
  have hm := methodMiddle
  go_enter Tryd.func30, Tryd.ntmps30
  go_wp2_with fail
  refine (H1.out _).mono ?_
  rintro e w1 ⟨rfl, h1⟩
  go_wp2_with fail
  refine (H2.out _).mono ?_
  rintro e w2 ⟨rfl, h2⟩
  go_wp2_with fail
  refine (H3.out _).mono ?_
  rintro e w3 ⟨rfl, rfl⟩
  go_wp2_with fail
  go_ret
  exact ⟨rfl, by repeat (first | with_reducible exact On.refl _ | apply On.alloc | apply On.drewN | apply On.drew | refine On.setCell ?_ (by (try simp) <;> omega) _ | refine On.trans ?_ h2 | refine On.trans ?_ h1)⟩

theorem mid_span (l r c : Int) : l + c * r + (l + c * r + r - (l + c * r)) / 2 = mid l r c := by unfold mid; omega
set_option maxHeartbeats 4000000 in
theorem impl_Offset (x : ByteArray) (l h r d : Int) (c : Int) (y : ByteArray) (m k s t : Int) (n : Int) (w : World) (q0 : x.size ≤ 1048576) (q1 : y.size ≤ 1048576) (hg : Span.SpanG w) :
    Calls Tryd.prog 17 #[.agg #[.string x, .int .i64 l, .int .i64 h, .int .i64 r, .int .i64 d], .int .i64 c, .agg #[.string y, .int .i64 m, .int .i64 k, .int .i64 s, .int .i64 t], .int .i64 n] w fun e w' => e = .returned (.tuple #[.int .i64 (offV (ok22 x l h r d y m k s t) (has22 l h r c m k s n) (mid l r c) (mid m s n)), .int .i64 (code2 (ok22 x l h r d y m k s t) (has22 l h r c m k s n))]) ∧ On w w' := by
  have HA := Lib.hid (fun w' (ho : On w w') => impl_pair x l h r d c y m k s t n w' q0 q1 (hg.on ho))
  clear hg
  cases tt : ok22 x l h r d y m k s t with
  | false =>
    rw [tt, lo4_no, hi4_no, lo4_no, hi4_no, code_no] at HA
    rw [off_no, code_no]
    go_enter Tryd.func17, Tryd.ntmps17
    go_wp2_with fail
    refine (HA.out _ (by repeat (first | with_reducible exact On.refl _ | apply On.alloc | apply On.drewN | apply On.drew | refine On.setCell ?_ (by (try simp) <;> omega) _))).mono ?_
    rintro e w1 ⟨rfl, a1⟩
    have hO1 : On w w1 := by repeat (first | with_reducible exact On.refl _ | apply On.alloc | apply On.drewN | apply On.drew | refine On.setCell ?_ (by (try simp) <;> omega) _ | refine On.trans ?_ a1)
    clear a1
    go_wp2_with fail
    go_ret2
    exact ⟨rfl, by repeat (first | with_reducible exact On.refl _ | apply On.alloc | apply On.drewN | apply On.drew | refine On.setCell ?_ (by (try simp) <;> omega) _ | refine On.trans ?_ hO1)⟩
  | true =>
    rw [tt] at HA
    cases uu : has22 l h r c m k s n with
    | false =>
      rw [uu, lo4_out, hi4_out, lo4_out, hi4_out, code_out] at HA
      rw [off_out, code_out]
      go_enter Tryd.func17, Tryd.ntmps17
      go_wp2_with fail
      refine (HA.out _ (by repeat (first | with_reducible exact On.refl _ | apply On.alloc | apply On.drewN | apply On.drew | refine On.setCell ?_ (by (try simp) <;> omega) _))).mono ?_
      rintro e w1 ⟨rfl, a1⟩
      have hO1 : On w w1 := by repeat (first | with_reducible exact On.refl _ | apply On.alloc | apply On.drewN | apply On.drew | refine On.setCell ?_ (by (try simp) <;> omega) _ | refine On.trans ?_ a1)
      clear a1
      go_wp2_with fail
      go_ret2
      exact ⟨rfl, by repeat (first | with_reducible exact On.refl _ | apply On.alloc | apply On.drewN | apply On.drew | refine On.setCell ?_ (by (try simp) <;> omega) _ | refine On.trans ?_ hO1)⟩
    | true =>
      rw [uu, lo4_yes, hi4_yes, lo4_yes, hi4_yes, code_yes] at HA
      obtain ⟨t0, t1⟩ := of_ok22 tt
      obtain ⟨t2, t3⟩ := of_has22 uu
      obtain ⟨⟨la1, la2⟩, ⟨ha1, ha2⟩, ⟨ra1, ra2⟩, ⟨qa1, qa2⟩, da1, da2⟩ := of_okB t0
      obtain ⟨⟨lb1, lb2⟩, ⟨hb1, hb2⟩, ⟨rb1, rb2⟩, ⟨qb1, qb2⟩, db1, db2⟩ := of_okB t1
      obtain ⟨ca0, ca1⟩ := of_inB (show inB c 0 (quo l h r - 1) = true from t2)
      obtain ⟨cb0, cb1⟩ := of_inB (show inB n 0 (quo m k s - 1) = true from t3)
      obtain ⟨e1, e2⟩ := chan_in ra1 qa1 ca0 ca1
      obtain ⟨e3, e4⟩ := chan_in rb1 qb1 cb0 cb1
      rw [off_yes, code_yes]
      have en1 := mid_span l r c
      have en2 := mid_span m s n
      obtain ⟨u, hu⟩ : ∃ z, z = l + c * r := ⟨_, rfl⟩
      obtain ⟨v, hv⟩ : ∃ z, z = m + n * s := ⟨_, rfl⟩
      rw [← hu] at en1 HA
      rw [← hv] at en2 HA
      have hc := fun w' => impl_apart u (u + r) v (v + s) w' (by omega) (by omega) (by omega) (by omega) (by omega) (by omega)
      rw [en1, en2] at hc
      have HC := Lib.hid hc
      clear hc hu hv en1 en2 t0 t1 t2 t3 tt uu
      go_enter Tryd.func17, Tryd.ntmps17
      go_wp2_with fail
      refine (HA.out _ (by repeat (first | with_reducible exact On.refl _ | apply On.alloc | apply On.drewN | apply On.drew | refine On.setCell ?_ (by (try simp) <;> omega) _))).mono ?_
      rintro e w1 ⟨rfl, a1⟩
      have hO1 : On w w1 := by repeat (first | with_reducible exact On.refl _ | apply On.alloc | apply On.drewN | apply On.drew | refine On.setCell ?_ (by (try simp) <;> omega) _ | refine On.trans ?_ a1)
      clear a1
      go_wp2_with fail
      refine (HC.out _).mono ?_
      rintro e w2 ⟨rfl, a2⟩
      go_wp2_with fail
      go_ret2
      exact ⟨rfl, by repeat (first | with_reducible exact On.refl _ | apply On.alloc | apply On.drewN | apply On.drew | refine On.setCell ?_ (by (try simp) <;> omega) _ | refine On.trans ?_ a2 | refine On.trans ?_ hO1)⟩

end Go.Proofs.YtdkemoojlgdelabDoor.Bnd
