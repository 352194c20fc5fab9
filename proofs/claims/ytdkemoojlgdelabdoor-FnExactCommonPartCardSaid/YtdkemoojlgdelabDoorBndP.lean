
/-
  Two channels of two bands, in the model and in the program. Conditions: at most 1048576 bytes in a name; the program's variable of spans holds what its text lays.
-/
import Derived.Test.YtdkemoojlgdelabDoorBndC
import Derived.Test.YtdkemoojlgdelabDoorTail
namespace Go.Proofs.YtdkemoojlgdelabDoor.Bnd
open Go.RowKit
open Plain

def ok22 (x : ByteArray) (l h r d : Int) (y : ByteArray) (m k s t : Int) : Bool := okB x l h r d && okB y m k s t
def has22 (l h r c m k s n : Int) : Bool := hasB l h r c && hasB m k s n
theorem code_no (b : Bool) : code2 false b = 1 := rfl
theorem code_out : code2 true false = 2 := rfl
theorem code_yes : code2 true true = 0 := rfl
def maxI (a b : Int) : Int := if b < a then a else b
def minI (a b : Int) : Int := if a < b then a else b
theorem maxI_yes {a b : Int} (g : b < a) : maxI a b = a := if_pos g
theorem maxI_no {a b : Int} (g : ¬ b < a) : maxI a b = b := if_neg g
theorem minI_yes {a b : Int} (g : a < b) : minI a b = a := if_pos g
theorem minI_no {a b : Int} (g : ¬ a < b) : minI a b = b := if_neg g
theorem max_range {a b L U : Int} (h1 : L ≤ a) (h2 : a ≤ U) (h3 : L ≤ b) (h4 : b ≤ U) : L ≤ maxI a b ∧ maxI a b ≤ U := by unfold maxI; split <;> omega
theorem min_range {a b L U : Int} (h1 : L ≤ a) (h2 : a ≤ U) (h3 : L ≤ b) (h4 : b ≤ U) : L ≤ minI a b ∧ minI a b ≤ U := by unfold minI; split <;> omega
def commonV (a a' b b' : Int) : Int := maxI 0 (minI a' b' - maxI a b)
theorem common_pos {a a' b b' : Int} (h1 : a < a') (h2 : b < b') : decide (0 < commonV a a' b b') = (decide (a < b') && decide (b < a')) := by
  unfold commonV maxI minI
  by_cases g1 : a < b' <;> by_cases g2 : b < a' <;> simp only [g1, g2, decide_true, decide_false, Bool.and_true, Bool.and_false] <;> (first | exact decide_eq_true (by repeat' split <;> omega) | exact decide_eq_false (by repeat' split <;> omega))

theorem spec_max (a b : Int) (w : World) :
    Calls Tryd.prog 31 #[.int .i64 a, .int .i64 b] w fun e w' => e = .returned (.int .i64 (maxI a b)) ∧ w = w' := by
  by_cases g : b < a
  · rw [maxI_yes g]
    go_enter Tryd.func31, Tryd.ntmps31
    go_wp2_with fail
    go_ret
    exact ⟨rfl, rfl⟩
  · rw [maxI_no g]
    go_enter Tryd.func31, Tryd.ntmps31
    go_wp2_with fail
    go_ret
    exact ⟨rfl, rfl⟩

theorem spec_min (a b : Int) (w : World) :
    Calls Tryd.prog 32 #[.int .i64 a, .int .i64 b] w fun e w' => e = .returned (.int .i64 (minI a b)) ∧ w = w' := by
  by_cases g : a < b
  · rw [minI_yes g]
    go_enter Tryd.func32, Tryd.ntmps32
    go_wp2_with fail
    go_ret
    exact ⟨rfl, rfl⟩
  · rw [minI_no g]
    go_enter Tryd.func32, Tryd.ntmps32
    go_wp2_with fail
    go_ret
    exact ⟨rfl, rfl⟩

theorem impl_greatest (a b : Int) (w : World) :
    Calls Tryd.prog 42 #[.int .i64 a, .int .i64 b] w fun e w' => e = .returned (.int .i64 (maxI a b)) ∧ w = w' := by
  by_cases g : b < a
  · rw [maxI_yes g]
    go_enter Tryd.func42, Tryd.ntmps42
    go_wp2_with fail
    go_ret
    exact ⟨rfl, rfl⟩
  · rw [maxI_no g]
    by_cases g2 : a = b
    · subst g2
      go_enter Tryd.func42, Tryd.ntmps42
      go_wp2_with fail
      go_ret
      exact ⟨rfl, rfl⟩
    · have g3 : a < b := by omega
      go_enter Tryd.func42, Tryd.ntmps42
      go_wp2_with fail
      go_ret
      exact ⟨rfl, rfl⟩

theorem impl_least (a b : Int) (w : World) :
    Calls Tryd.prog 43 #[.int .i64 a, .int .i64 b] w fun e w' => e = .returned (.int .i64 (minI a b)) ∧ w = w' := by
  by_cases g : a < b
  · rw [minI_yes g]
    go_enter Tryd.func43, Tryd.ntmps43
    go_wp2_with fail
    go_ret
    exact ⟨rfl, rfl⟩
  · rw [minI_no g]
    by_cases g2 : a = b
    · subst g2
      go_enter Tryd.func43, Tryd.ntmps43
      go_wp2_with fail
      go_ret
      exact ⟨rfl, rfl⟩
    · have g3 : b < a := by omega
      go_enter Tryd.func43, Tryd.ntmps43
      go_wp2_with fail
      go_ret
      exact ⟨rfl, rfl⟩

set_option maxHeartbeats 1000000 in
theorem impl_common (a a' b b' : Int) (w : World) (a1 : 0 ≤ a) (a2 : a ≤ 1000000000) (a3 : 0 ≤ a') (a4 : a' ≤ 1000000000) (b1 : 0 ≤ b) (b2 : b ≤ 1000000000) (b3 : 0 ≤ b') (b4 : b' ≤ 1000000000) :
    Calls Tryd.prog 28 #[.agg #[.int .i64 a, .int .i64 a'], .agg #[.int .i64 b, .int .i64 b']] w fun e w' => e = .returned (.int .i64 (commonV a a' b b')) ∧ On w w' := by
  obtain ⟨u1, u2⟩ := min_range a3 a4 b3 b4
  obtain ⟨v1, v2⟩ := max_range a1 a2 b1 b2
  have H1 := Lib.hid (fun w => impl_least a' b' w)
  have H2 := Lib.hid (fun w => impl_greatest a b w)
  have en := Lib.hid (show maxI 0 (minI a' b' - maxI a b) = commonV a a' b b' from rfl)
  generalize minI a' b' = u at *
  generalize maxI a b = v at *
  have H3 := Lib.hid (fun w => impl_greatest 0 (u - v) w)
  rw [en.out] at H3
  generalize commonV a a' b b' = cv at *
  have wr0 : IntKind.i64.wrap (u - v) = u - v := IntWalk.i64_in _ (by omega)
  go_enter Tryd.func28, Tryd.ntmps28
  go_wp2_with fail
  refine wp_region_onh (by kernel_rfl) (by kernel_rfl) ?_
  repeat (refine rest_step (fun K hK => ?_); go_simp; first | (refine hK _ ?_; clear hK K) | (apply Exists.intro; refine ⟨fun v1 hv1 => ?_, hK _ ?_⟩; (first | with_reducible exact rfl | with_reducible exact ⟨rfl, rfl⟩ | with_reducible exact Calls.on_same hv1 (H1.out _) | with_reducible exact Calls.on_same hv1 (H2.out _) | with_reducible exact Calls.on_same hv1 (H3.out _) | (obtain ⟨hc, hf⟩ := bcell hv1; go_simp; first | with_reducible exact rfl | with_reducible exact ⟨rfl, rfl⟩ | exact rfl | exact ⟨rfl, rfl⟩)); clear hK K))
  refine rest_nil ?_
  intro w1 h1
  go_wp2_with fail
  go_ret
  exact ⟨rfl, by repeat (first | with_reducible exact On.refl _ | apply On.alloc | apply On.drewN | apply On.drew | refine On.setCell ?_ (by (try simp) <;> omega) _ | refine On.trans ?_ h1)⟩

theorem impl_reach (x : ByteArray) (l h r d : Int) (w : World) :
    Calls Tryd.prog 33 #[.agg #[.string x, .int .i64 l, .int .i64 h, .int .i64 r, .int .i64 d]] w fun e w' => e = .returned (.agg #[.int .i64 l, .int .i64 h]) ∧ On w w' := by
  go_enter Tryd.func33, Tryd.ntmps33
  go_wp2_with fail
  refine bodyPost_ret (v := .agg #[.int .i64 l, .int .i64 h]) (by simp [results, Tryd.results33, go_sem]) rfl ⟨rfl, ?_⟩
  repeat (first | with_reducible exact On.refl _ | apply On.alloc | apply On.drewN | apply On.drew | refine On.setCell ?_ (by (try simp) <;> omega) _)

set_option maxHeartbeats 2000000 in
theorem spec_ask (g g2 : Nat) (x : ByteArray) (l h r d : Int) (c : Int) (y : ByteArray) (m k s t : Int) (n : Int) (w : World) (q0 : x.size ≤ 1048576) (q1 : y.size ≤ 1048576) (hp : In w g x l h r d) (hq : In w g2 y m k s t) :
    Calls Tryd.prog 26 #[.pointer (some ⟨g, 0, none⟩), .int .i64 c, .pointer (some ⟨g2, 0, none⟩), .int .i64 n] w fun e w' => e = .returned (.int .i64 (code2 (ok22 x l h r d y m k s t) (has22 l h r c m k s n))) ∧ On w w' := by
  have HP := Lib.hid hp
  have HQ := Lib.hid hq
  have HA := Lib.hid (fun w' hp => spec_ok g x l h r d w' q0 hp)
  have HB := Lib.hid (fun w' hp => spec_ok g2 y m k s t w' q1 hp)
  clear hp hq
  unfold ok22 has22
  cases t0 : okB x l h r d with
  | false =>
    rw [t0] at HA
    rw [Bool.false_and, code_no]
    go_enter Tryd.func26, Tryd.ntmps26
    go_wp2_with fail
    refine (HA.out _ HP.out).mono ?_
    rintro e w1 ⟨rfl, a1⟩
    go_wp2_with fail
    go_ret
    exact ⟨rfl, a1⟩
  | true =>
    rw [t0] at HA
    obtain ⟨⟨la1, la2⟩, ⟨ha1, ha2⟩, ⟨ra1, ra2⟩, ⟨qa1, qa2⟩, da1, da2⟩ := of_okB t0
    cases t1 : okB y m k s t with
    | false =>
      rw [t1] at HB
      rw [Bool.true_and, code_no]
      go_enter Tryd.func26, Tryd.ntmps26
      go_wp2_with fail
      refine (HA.out _ HP.out).mono ?_
      rintro e w1 ⟨rfl, a1⟩
      go_wp2_with fail
      refine (HB.out _ (HQ.out.on a1)).mono ?_
      rintro e w2 ⟨rfl, a2⟩
      go_wp2_with fail
      go_ret
      exact ⟨rfl, a1.trans a2⟩
    | true =>
      rw [t1] at HB
      obtain ⟨⟨lb1, lb2⟩, ⟨hb1, hb2⟩, ⟨rb1, rb2⟩, ⟨qb1, qb2⟩, db1, db2⟩ := of_okB t1
      rw [Bool.true_and]
      have HC := Lib.hid (fun w' hp => spec_has g x l h r d c w' hp la1 la2 ha1 ha2 ra1)
      have HD := Lib.hid (fun w' hp => spec_has g2 y m k s t n w' hp lb1 lb2 hb1 hb2 rb1)
      cases t2 : hasB l h r c with
      | false =>
        rw [t2] at HC
        rw [Bool.false_and, code_out]
        go_enter Tryd.func26, Tryd.ntmps26
        go_wp2_with fail
        refine (HA.out _ HP.out).mono ?_
        rintro e w1 ⟨rfl, a1⟩
        go_wp2_with fail
        refine (HB.out _ (HQ.out.on a1)).mono ?_
        rintro e w2 ⟨rfl, a2⟩
        go_wp2_with fail
        refine (HC.out _ (HP.out.on (a1.trans a2))).mono ?_
        rintro e w3 ⟨rfl, a3⟩
        go_wp2_with fail
        go_ret
        exact ⟨rfl, (a1.trans a2).trans a3⟩
      | true =>
        rw [t2] at HC
        rw [Bool.true_and]
        cases t3 : hasB m k s n with
        | false =>
          rw [t3] at HD
          rw [code_out]
          go_enter Tryd.func26, Tryd.ntmps26
          go_wp2_with fail
          refine (HA.out _ HP.out).mono ?_
          rintro e w1 ⟨rfl, a1⟩
          go_wp2_with fail
          refine (HB.out _ (HQ.out.on a1)).mono ?_
          rintro e w2 ⟨rfl, a2⟩
          go_wp2_with fail
          refine (HC.out _ (HP.out.on (a1.trans a2))).mono ?_
          rintro e w3 ⟨rfl, a3⟩
          go_wp2_with fail
          refine (HD.out _ (HQ.out.on ((a1.trans a2).trans a3))).mono ?_
          rintro e w4 ⟨rfl, a4⟩
          go_wp2_with fail
          go_ret
          exact ⟨rfl, ((a1.trans a2).trans a3).trans a4⟩
        | true =>
          rw [t3] at HD
          rw [code_yes]
          go_enter Tryd.func26, Tryd.ntmps26
          go_wp2_with fail
          refine (HA.out _ HP.out).mono ?_
          rintro e w1 ⟨rfl, a1⟩
          go_wp2_with fail
          refine (HB.out _ (HQ.out.on a1)).mono ?_
          rintro e w2 ⟨rfl, a2⟩
          go_wp2_with fail
          refine (HC.out _ (HP.out.on (a1.trans a2))).mono ?_
          rintro e w3 ⟨rfl, a3⟩
          go_wp2_with fail
          refine (HD.out _ (HQ.out.on ((a1.trans a2).trans a3))).mono ?_
          rintro e w4 ⟨rfl, a4⟩
          go_wp2_with fail
          go_ret
          exact ⟨rfl, ((a1.trans a2).trans a3).trans a4⟩

def lo4 (b1 b2 : Bool) (l r c : Int) : Int := if b1 && b2 then l + c * r else 0
def hi4 (b1 b2 : Bool) (l r c : Int) : Int := if b1 && b2 then l + c * r + r else 0
theorem lo4_no (b2 : Bool) (l r c : Int) : lo4 false b2 l r c = 0 := rfl
theorem hi4_no (b2 : Bool) (l r c : Int) : hi4 false b2 l r c = 0 := rfl
theorem lo4_out (l r c : Int) : lo4 true false l r c = 0 := rfl
theorem hi4_out (l r c : Int) : hi4 true false l r c = 0 := rfl
theorem lo4_yes (l r c : Int) : lo4 true true l r c = l + c * r := rfl
theorem hi4_yes (l r c : Int) : hi4 true true l r c = l + c * r + r := rfl

set_option maxHeartbeats 4000000 in
theorem impl_pair (x : ByteArray) (l h r d : Int) (c : Int) (y : ByteArray) (m k s t : Int) (n : Int) (w : World) (q0 : x.size ≤ 1048576) (q1 : y.size ≤ 1048576) (hg : Span.SpanG w) :
    Calls Tryd.prog 27 #[.agg #[.string x, .int .i64 l, .int .i64 h, .int .i64 r, .int .i64 d], .int .i64 c, .agg #[.string y, .int .i64 m, .int .i64 k, .int .i64 s, .int .i64 t], .int .i64 n] w fun e w' => e = .returned (.tuple #[.agg #[.int .i64 (lo4 (ok22 x l h r d y m k s t) (has22 l h r c m k s n) l r c), .int .i64 (hi4 (ok22 x l h r d y m k s t) (has22 l h r c m k s n) l r c)], .agg #[.int .i64 (lo4 (ok22 x l h r d y m k s t) (has22 l h r c m k s n) m s n), .int .i64 (hi4 (ok22 x l h r d y m k s t) (has22 l h r c m k s n) m s n)], .int .i64 (code2 (ok22 x l h r d y m k s t) (has22 l h r c m k s n))]) ∧ On w w' := by
  have HA := Lib.hid (fun w' (ho : On w w') => impl_ok x l h r d w' q0 (hg.on ho))
  have HB := Lib.hid (fun w' (ho : On w w') => impl_ok y m k s t w' q1 (hg.on ho))
  clear hg
  unfold ok22 has22
  cases t0 : okB x l h r d with
  | false =>
    rw [t0] at HA
    rw [Bool.false_and]
    rw [lo4_no, hi4_no, lo4_no, hi4_no, code_no]
    go_enter Tryd.func27, Tryd.ntmps27
    go_wp2_with fail
    refine (HA.out _ (by repeat (first | with_reducible exact On.refl _ | apply On.alloc | apply On.drewN | apply On.drew | refine On.setCell ?_ (by (try simp) <;> omega) _))).mono ?_
    rintro e w1 ⟨rfl, a1⟩
    obtain ⟨hc1, hf1⟩ := bcell a1
    obtain ⟨z1, z1', z1'', z1'''⟩ : w.heap.size < w1.heap.size ∧ w.heap.size + 1 < w1.heap.size ∧ w.heap.size + 1 + 1 < w1.heap.size ∧ w.heap.size + 1 + 1 + 1 < w1.heap.size := by have := a1.size; (try simp at this); omega
    go_wp2_with fail
    refine bodyPost_ret (v := .tuple #[.agg #[.int .i64 0, .int .i64 0], .agg #[.int .i64 0, .int .i64 0], .int .i64 1]) (by simp [results, Tryd.results27, go_sem, hc1]) rfl ⟨rfl, ?_⟩
    repeat (first | with_reducible exact On.refl _ | apply On.alloc | apply On.drewN | apply On.drew | refine On.setCell ?_ (by (try simp) <;> omega) _ | refine On.trans ?_ a1)
  | true =>
    rw [t0] at HA
    obtain ⟨⟨la1, la2⟩, ⟨ha1, ha2⟩, ⟨ra1, ra2⟩, ⟨qa1, qa2⟩, da1, da2⟩ := of_okB t0
    cases t1 : okB y m k s t with
    | false =>
      rw [t1] at HB
      rw [Bool.true_and]
      rw [lo4_no, hi4_no, lo4_no, hi4_no, code_no]
      go_enter Tryd.func27, Tryd.ntmps27
      go_wp2_with fail
      refine (HA.out _ (by repeat (first | with_reducible exact On.refl _ | apply On.alloc | apply On.drewN | apply On.drew | refine On.setCell ?_ (by (try simp) <;> omega) _))).mono ?_
      rintro e w1 ⟨rfl, a1⟩
      obtain ⟨hc1, hf1⟩ := bcell a1
      obtain ⟨z1, z1', z1'', z1'''⟩ : w.heap.size < w1.heap.size ∧ w.heap.size + 1 < w1.heap.size ∧ w.heap.size + 1 + 1 < w1.heap.size ∧ w.heap.size + 1 + 1 + 1 < w1.heap.size := by have := a1.size; (try simp at this); omega
      go_wp2_with fail
      refine (HB.out _ (by repeat (first | with_reducible exact On.refl _ | apply On.alloc | apply On.drewN | apply On.drew | refine On.setCell ?_ (by (try simp) <;> omega) _ | refine On.trans ?_ a1))).mono ?_
      rintro e w2 ⟨rfl, a2⟩
      obtain ⟨hc2, hf2⟩ := bcell a2
      obtain ⟨z2, z2', z2'', z2'''⟩ : w.heap.size < w2.heap.size ∧ w.heap.size + 1 < w2.heap.size ∧ w.heap.size + 1 + 1 < w2.heap.size ∧ w.heap.size + 1 + 1 + 1 < w2.heap.size := by have := a2.size; (try simp at this); omega
      go_wp2_with fail
      refine bodyPost_ret (v := .tuple #[.agg #[.int .i64 0, .int .i64 0], .agg #[.int .i64 0, .int .i64 0], .int .i64 1]) (by simp [results, Tryd.results27, go_sem, hc1, hc2, z1'', z1''']) rfl ⟨rfl, ?_⟩
      repeat (first | with_reducible exact On.refl _ | apply On.alloc | apply On.drewN | apply On.drew | refine On.setCell ?_ (by (try simp) <;> omega) _ | refine On.trans ?_ a2 | refine On.trans ?_ a1)
    | true =>
      rw [t1] at HB
      obtain ⟨⟨lb1, lb2⟩, ⟨hb1, hb2⟩, ⟨rb1, rb2⟩, ⟨qb1, qb2⟩, db1, db2⟩ := of_okB t1
      rw [Bool.true_and]
      have HC := Lib.hid (fun w' => impl_has x l h r d c w' la1 la2 ha1 ha2 ra1)
      have HD := Lib.hid (fun w' => impl_has y m k s t n w' lb1 lb2 hb1 hb2 rb1)
      cases t2 : hasB l h r c with
      | false =>
        rw [t2] at HC
        rw [Bool.false_and, lo4_out, hi4_out, lo4_out, hi4_out, code_out]
        go_enter Tryd.func27, Tryd.ntmps27
        go_wp2_with fail
        refine (HA.out _ (by repeat (first | with_reducible exact On.refl _ | apply On.alloc | apply On.drewN | apply On.drew | refine On.setCell ?_ (by (try simp) <;> omega) _))).mono ?_
        rintro e w1 ⟨rfl, a1⟩
        obtain ⟨hc1, hf1⟩ := bcell a1
        obtain ⟨z1, z1', z1'', z1'''⟩ : w.heap.size < w1.heap.size ∧ w.heap.size + 1 < w1.heap.size ∧ w.heap.size + 1 + 1 < w1.heap.size ∧ w.heap.size + 1 + 1 + 1 < w1.heap.size := by have := a1.size; (try simp at this); omega
        go_wp2_with fail
        refine (HB.out _ (by repeat (first | with_reducible exact On.refl _ | apply On.alloc | apply On.drewN | apply On.drew | refine On.setCell ?_ (by (try simp) <;> omega) _ | refine On.trans ?_ a1))).mono ?_
        rintro e w2 ⟨rfl, a2⟩
        obtain ⟨hc2, hf2⟩ := bcell a2
        obtain ⟨z2, z2', z2'', z2'''⟩ : w.heap.size < w2.heap.size ∧ w.heap.size + 1 < w2.heap.size ∧ w.heap.size + 1 + 1 < w2.heap.size ∧ w.heap.size + 1 + 1 + 1 < w2.heap.size := by have := a2.size; (try simp at this); omega
        go_wp2_with fail
        refine (HC.out _).mono ?_
        rintro e w3 ⟨rfl, a3⟩
        obtain ⟨hc3, hf3⟩ := bcell a3
        obtain ⟨z3, z3', z3'', z3'''⟩ : w.heap.size < w3.heap.size ∧ w.heap.size + 1 < w3.heap.size ∧ w.heap.size + 1 + 1 < w3.heap.size ∧ w.heap.size + 1 + 1 + 1 < w3.heap.size := by have := a3.size; (try simp at this); omega
        go_wp2_with fail
        refine bodyPost_ret (v := .tuple #[.agg #[.int .i64 0, .int .i64 0], .agg #[.int .i64 0, .int .i64 0], .int .i64 2]) (by simp [results, Tryd.results27, go_sem, hc1, hc2, hc3, z1'', z1''', z2'', z2''']) rfl ⟨rfl, ?_⟩
        repeat (first | with_reducible exact On.refl _ | apply On.alloc | apply On.drewN | apply On.drew | refine On.setCell ?_ (by (try simp) <;> omega) _ | refine On.trans ?_ a3 | refine On.trans ?_ a2 | refine On.trans ?_ a1)
      | true =>
        rw [t2] at HC
        rw [Bool.true_and]
        cases t3 : hasB m k s n with
        | false =>
          rw [t3] at HD
          rw [lo4_out, hi4_out, lo4_out, hi4_out, code_out]
          go_enter Tryd.func27, Tryd.ntmps27
          go_wp2_with fail
          refine (HA.out _ (by repeat (first | with_reducible exact On.refl _ | apply On.alloc | apply On.drewN | apply On.drew | refine On.setCell ?_ (by (try simp) <;> omega) _))).mono ?_
          rintro e w1 ⟨rfl, a1⟩
          obtain ⟨hc1, hf1⟩ := bcell a1
          obtain ⟨z1, z1', z1'', z1'''⟩ : w.heap.size < w1.heap.size ∧ w.heap.size + 1 < w1.heap.size ∧ w.heap.size + 1 + 1 < w1.heap.size ∧ w.heap.size + 1 + 1 + 1 < w1.heap.size := by have := a1.size; (try simp at this); omega
          go_wp2_with fail
          refine (HB.out _ (by repeat (first | with_reducible exact On.refl _ | apply On.alloc | apply On.drewN | apply On.drew | refine On.setCell ?_ (by (try simp) <;> omega) _ | refine On.trans ?_ a1))).mono ?_
          rintro e w2 ⟨rfl, a2⟩
          obtain ⟨hc2, hf2⟩ := bcell a2
          obtain ⟨z2, z2', z2'', z2'''⟩ : w.heap.size < w2.heap.size ∧ w.heap.size + 1 < w2.heap.size ∧ w.heap.size + 1 + 1 < w2.heap.size ∧ w.heap.size + 1 + 1 + 1 < w2.heap.size := by have := a2.size; (try simp at this); omega
          go_wp2_with fail
          refine (HC.out _).mono ?_
          rintro e w3 ⟨rfl, a3⟩
          obtain ⟨hc3, hf3⟩ := bcell a3
          obtain ⟨z3, z3', z3'', z3'''⟩ : w.heap.size < w3.heap.size ∧ w.heap.size + 1 < w3.heap.size ∧ w.heap.size + 1 + 1 < w3.heap.size ∧ w.heap.size + 1 + 1 + 1 < w3.heap.size := by have := a3.size; (try simp at this); omega
          go_wp2_with fail
          refine (HD.out _).mono ?_
          rintro e w4 ⟨rfl, a4⟩
          obtain ⟨hc4, hf4⟩ := bcell a4
          obtain ⟨z4, z4', z4'', z4'''⟩ : w.heap.size < w4.heap.size ∧ w.heap.size + 1 < w4.heap.size ∧ w.heap.size + 1 + 1 < w4.heap.size ∧ w.heap.size + 1 + 1 + 1 < w4.heap.size := by have := a4.size; (try simp at this); omega
          go_wp2_with fail
          refine bodyPost_ret (v := .tuple #[.agg #[.int .i64 0, .int .i64 0], .agg #[.int .i64 0, .int .i64 0], .int .i64 2]) (by simp [results, Tryd.results27, go_sem, hc1, hc2, hc3, hc4, z1'', z1''', z2'', z2''', z3'', z3''']) rfl ⟨rfl, ?_⟩
          repeat (first | with_reducible exact On.refl _ | apply On.alloc | apply On.drewN | apply On.drew | refine On.setCell ?_ (by (try simp) <;> omega) _ | refine On.trans ?_ a4 | refine On.trans ?_ a3 | refine On.trans ?_ a2 | refine On.trans ?_ a1)
        | true =>
          rw [t3] at HD
          obtain ⟨ca0, ca1⟩ := of_inB (show inB c 0 (quo l h r - 1) = true from t2)
          obtain ⟨cb0, cb1⟩ := of_inB (show inB n 0 (quo m k s - 1) = true from t3)
          have HE := Lib.hid (fun w' => impl_channel x l h r d c w' la1 la2 ha1 ha2 ra1 ca0 ca1 qa1)
          have HF := Lib.hid (fun w' => impl_channel y m k s t n w' lb1 lb2 hb1 hb2 rb1 cb0 cb1 qb1)
          rw [lo4_yes, hi4_yes, lo4_yes, hi4_yes, code_yes]
          generalize l + c * r = u at *
          generalize m + n * s = v at *
          go_enter Tryd.func27, Tryd.ntmps27
          go_wp2_with fail
          refine (HA.out _ (by repeat (first | with_reducible exact On.refl _ | apply On.alloc | apply On.drewN | apply On.drew | refine On.setCell ?_ (by (try simp) <;> omega) _))).mono ?_
          rintro e w1 ⟨rfl, a1⟩
          obtain ⟨hc1, hf1⟩ := bcell a1
          obtain ⟨z1, z1', z1'', z1'''⟩ : w.heap.size < w1.heap.size ∧ w.heap.size + 1 < w1.heap.size ∧ w.heap.size + 1 + 1 < w1.heap.size ∧ w.heap.size + 1 + 1 + 1 < w1.heap.size := by have := a1.size; (try simp at this); omega
          go_wp2_with fail
          refine (HB.out _ (by repeat (first | with_reducible exact On.refl _ | apply On.alloc | apply On.drewN | apply On.drew | refine On.setCell ?_ (by (try simp) <;> omega) _ | refine On.trans ?_ a1))).mono ?_
          rintro e w2 ⟨rfl, a2⟩
          obtain ⟨hc2, hf2⟩ := bcell a2
          obtain ⟨z2, z2', z2'', z2'''⟩ : w.heap.size < w2.heap.size ∧ w.heap.size + 1 < w2.heap.size ∧ w.heap.size + 1 + 1 < w2.heap.size ∧ w.heap.size + 1 + 1 + 1 < w2.heap.size := by have := a2.size; (try simp at this); omega
          go_wp2_with fail
          refine (HC.out _).mono ?_
          rintro e w3 ⟨rfl, a3⟩
          obtain ⟨hc3, hf3⟩ := bcell a3
          obtain ⟨z3, z3', z3'', z3'''⟩ : w.heap.size < w3.heap.size ∧ w.heap.size + 1 < w3.heap.size ∧ w.heap.size + 1 + 1 < w3.heap.size ∧ w.heap.size + 1 + 1 + 1 < w3.heap.size := by have := a3.size; (try simp at this); omega
          go_wp2_with fail
          refine (HD.out _).mono ?_
          rintro e w4 ⟨rfl, a4⟩
          obtain ⟨hc4, hf4⟩ := bcell a4
          obtain ⟨z4, z4', z4'', z4'''⟩ : w.heap.size < w4.heap.size ∧ w.heap.size + 1 < w4.heap.size ∧ w.heap.size + 1 + 1 < w4.heap.size ∧ w.heap.size + 1 + 1 + 1 < w4.heap.size := by have := a4.size; (try simp at this); omega
          go_wp2_with fail
          refine wp_region_on_tail 6 (by kernel_rfl) (by kernel_rfl) ?_
          simp only [List.take_succ_cons, List.take_zero, List.drop_succ_cons, List.drop_zero]
          repeat (refine wpQuiet_step (fun K hK => ?_); go_simp; first | (refine hK _ ?_; clear hK K) | (apply Exists.intro; refine ⟨fun v1 hv1 => ?_, hK _ ?_⟩; (first | with_reducible exact rfl | with_reducible exact ⟨rfl, rfl⟩ | with_reducible exact Calls.on hv1 (HE.out _) | with_reducible exact Calls.on hv1 (HF.out _) | (obtain ⟨hc, hf⟩ := bcell hv1; go_simp; first | with_reducible exact rfl | with_reducible exact ⟨rfl, rfl⟩ | exact rfl | exact ⟨rfl, rfl⟩)); clear hK K))
          refine wpQuiet_nil ?_
          intro w5 a5
          obtain ⟨hc5, hf5⟩ := bcell a5
          obtain ⟨z5, z5', z5'', z5'''⟩ : w.heap.size < w5.heap.size ∧ w.heap.size + 1 < w5.heap.size ∧ w.heap.size + 1 + 1 < w5.heap.size ∧ w.heap.size + 1 + 1 + 1 < w5.heap.size := by have := a5.size; (try simp at this); omega
          go_wp2_with fail
          refine bodyPost_ret (v := .tuple #[.agg #[.int .i64 u, .int .i64 (u + r)], .agg #[.int .i64 v, .int .i64 (v + s)], .int .i64 0]) (by simp [results, Tryd.results27, go_sem, hc1, hc2, hc3, hc4, hc5, z1'', z1''', z2'', z2''', z3'', z3''', z4'', z4''']) rfl ⟨rfl, ?_⟩
          repeat (first | with_reducible exact On.refl _ | apply On.alloc | apply On.drewN | apply On.drew | refine On.setCell ?_ (by (try simp) <;> omega) _ | refine On.trans ?_ a5 | refine On.trans ?_ a4 | refine On.trans ?_ a3 | refine On.trans ?_ a2 | refine On.trans ?_ a1)

end Go.Proofs.YtdkemoojlgdelabDoor.Bnd
