
/-
  When a band is valid, in the model and in the program. Conditions: at most 1048576 bytes in the name; the program's variable of spans holds what its text lays.
-/
import Derived.Test.YtbmhhhhodlfcbaaDoorBnd0
import Derived.Test.YtbmhhhhodlfcbaaDoorSpan
namespace Go.Proofs.YtbmhhhhodlfcbaaDoor.Bnd
open Go.RowKit
open Plain
open Ints (Ints)


set_option maxHeartbeats 1000000 in
theorem spec_count (g : Nat) (x : ByteArray) (l h r d : Int) (w : World) (hp : In w g x l h r d) (l1 : 1 ≤ l) (l2 : l ≤ 100000000) (h1 : 1 ≤ h) (h2 : h ≤ 100000000) (r1 : 1 ≤ r) :
    Calls Tryd.prog 80 #[.pointer (some ⟨g, 0, none⟩)] w fun e w' => e = .returned (.int .i64 (quo l h r)) ∧ On w w' := by
  have hg := hp.lt
  obtain ⟨k0, k1, k2, k3, k4⟩ := hp
  obtain ⟨q1, q2⟩ := quo_range r1 l1 l2 h1 h2
  obtain ⟨q, hq⟩ : ∃ q, q = quo l h r := ⟨_, rfl⟩
  have eq : Int.tdiv (h - l) r = q := hq.symm
  have r0 : ¬ r = 0 := by omega
  rw [← hq] at q1 q2 ⊢
  clear hq
  have wr0 : IntKind.i64.wrap (h - l) = h - l := IntWalk.i64_in _ (by omega)
  have wr1 : IntKind.i64.wrap (q) = q := IntWalk.i64_in _ (by omega)
  go_enter Tryd.func80, Tryd.ntmps80
  go_wp2_with fail
  refine wp_region_onh (by kernel_rfl) (by kernel_rfl) ?_
  repeat (refine rest_step (fun K hK => ?_); go_simp; first | (refine hK _ ?_; clear hK K) | (apply Exists.intro; refine ⟨fun v1 hv1 => ?_, hK _ ?_⟩; (first | with_reducible exact rfl | with_reducible exact ⟨rfl, rfl⟩ | (obtain ⟨hc, hf⟩ := bcell hv1; go_simp; first | with_reducible exact rfl | with_reducible exact ⟨rfl, rfl⟩ | exact rfl | exact ⟨rfl, rfl⟩)); clear hK K))
  refine rest_nil ?_
  intro w1 a1
  go_wp2_with fail
  go_ret
  exact ⟨rfl, a1⟩

set_option maxHeartbeats 1000000 in
theorem impl_count (x : ByteArray) (l h r d : Int) (w : World) (l1 : 1 ≤ l) (l2 : l ≤ 100000000) (h1 : 1 ≤ h) (h2 : h ≤ 100000000) (r1 : 1 ≤ r) :
    Calls Tryd.prog 85 #[.agg #[.string x, .int .i64 l, .int .i64 h, .int .i64 r, .int .i64 d]] w fun e w' => e = .returned (.int .i64 (quo l h r)) ∧ On w w' := by
  obtain ⟨q1, q2⟩ := quo_range r1 l1 l2 h1 h2
  obtain ⟨q, hq⟩ : ∃ q, q = quo l h r := ⟨_, rfl⟩
  have eq : Int.tdiv (h - l) r = q := hq.symm
  have r0 : ¬ r = 0 := by omega
  rw [← hq] at q1 q2 ⊢
  clear hq
  go_enter Tryd.func85, Tryd.ntmps85
  go_wp2_with fail
  go_ret
  exact ⟨rfl, by repeat (first | with_reducible exact On.refl _ | apply On.alloc | apply On.drewN | apply On.drew | refine On.setCell ?_ (by (try simp) <;> omega) _)⟩

set_option maxRecDepth 100000 in
set_option maxHeartbeats 4000000 in
theorem spec_ok (g : Nat) (x : ByteArray) (l h r d : Int) (w : World) (q0 : x.size ≤ 1048576) (hp : In w g x l h r d) :
    Calls Tryd.prog 45 #[.pointer (some ⟨g, 0, none⟩)] w fun e w' => e = .returned (.bool (okB x l h r d)) ∧ On w w' := by
  have HP := Lib.hid hp
  have hg := hp.lt
  obtain ⟨k0, k1, k2, k3, k4⟩ := hp
  have HN := Lib.hid (fun w => Text1.spec_l01Name x w q0)
  unfold okB
  generalize nameB x.data.toList = n at *
  cases n with
  | false =>
    have en := Lib.hid (show okN false l h r d = false from ok_0)
    go_enter Tryd.func45, Tryd.ntmps45
    go_wp2_with (first
    | (go_at_call 78; refine (HN.out _).mono ?_; rintro e w' ⟨rfl, rfl⟩)
    | (go_at_call 80; refine (HC.out _ (by repeat (first | with_reducible exact On.refl _ | apply On.alloc | apply On.drewN | apply On.drew | refine On.setCell ?_ (by (try simp) <;> omega) _))).mono ?_; rintro e w2 ⟨rfl, a2⟩; (obtain ⟨j0, j1, j2, j3, j4⟩ := HP.out.on a2); (have hg2 : g < w2.heap.size := Nat.lt_of_lt_of_le hg a2.size))
    | (go_at_call 79; refine (Arith.l00In _ _ _ _).mono ?_; rintro e w' ⟨rfl, rfl⟩))
    go_ret
    exact ⟨ret_bool en.out.symm, by repeat (first | with_reducible exact On.refl _ | apply On.alloc | apply On.drewN | apply On.drew | refine On.setCell ?_ (by (try simp) <;> omega) _)⟩
  | true =>
    cases t1 : inB l 1 100000000 with
    | false =>
      have en := Lib.hid (ok_1 (n := true) (h := h) (r := r) t1 (d := d))
      go_enter Tryd.func45, Tryd.ntmps45
      go_wp2_with (first
    | (go_at_call 78; refine (HN.out _).mono ?_; rintro e w' ⟨rfl, rfl⟩)
    | (go_at_call 80; refine (HC.out _ (by repeat (first | with_reducible exact On.refl _ | apply On.alloc | apply On.drewN | apply On.drew | refine On.setCell ?_ (by (try simp) <;> omega) _))).mono ?_; rintro e w2 ⟨rfl, a2⟩; (obtain ⟨j0, j1, j2, j3, j4⟩ := HP.out.on a2); (have hg2 : g < w2.heap.size := Nat.lt_of_lt_of_le hg a2.size))
    | (go_at_call 79; refine (Arith.l00In _ _ _ _).mono ?_; rintro e w' ⟨rfl, rfl⟩))
      go_ret
      exact ⟨ret_bool en.out.symm, by repeat (first | with_reducible exact On.refl _ | apply On.alloc | apply On.drewN | apply On.drew | refine On.setCell ?_ (by (try simp) <;> omega) _)⟩
    | true =>
      cases t2 : inB h 1 100000000 with
      | false =>
        have en := Lib.hid (ok_2 (n := true) (l := l) (r := r) t2 (d := d))
        go_enter Tryd.func45, Tryd.ntmps45
        go_wp2_with (first
    | (go_at_call 78; refine (HN.out _).mono ?_; rintro e w' ⟨rfl, rfl⟩)
    | (go_at_call 80; refine (HC.out _ (by repeat (first | with_reducible exact On.refl _ | apply On.alloc | apply On.drewN | apply On.drew | refine On.setCell ?_ (by (try simp) <;> omega) _))).mono ?_; rintro e w2 ⟨rfl, a2⟩; (obtain ⟨j0, j1, j2, j3, j4⟩ := HP.out.on a2); (have hg2 : g < w2.heap.size := Nat.lt_of_lt_of_le hg a2.size))
    | (go_at_call 79; refine (Arith.l00In _ _ _ _).mono ?_; rintro e w' ⟨rfl, rfl⟩))
        go_ret
        exact ⟨ret_bool en.out.symm, by repeat (first | with_reducible exact On.refl _ | apply On.alloc | apply On.drewN | apply On.drew | refine On.setCell ?_ (by (try simp) <;> omega) _)⟩
      | true =>
        cases t3 : inB r 1 100000 with
        | false =>
          have en := Lib.hid (ok_3 (n := true) (l := l) (h := h) t3 (d := d))
          go_enter Tryd.func45, Tryd.ntmps45
          go_wp2_with (first
    | (go_at_call 78; refine (HN.out _).mono ?_; rintro e w' ⟨rfl, rfl⟩)
    | (go_at_call 80; refine (HC.out _ (by repeat (first | with_reducible exact On.refl _ | apply On.alloc | apply On.drewN | apply On.drew | refine On.setCell ?_ (by (try simp) <;> omega) _))).mono ?_; rintro e w2 ⟨rfl, a2⟩; (obtain ⟨j0, j1, j2, j3, j4⟩ := HP.out.on a2); (have hg2 : g < w2.heap.size := Nat.lt_of_lt_of_le hg a2.size))
    | (go_at_call 79; refine (Arith.l00In _ _ _ _).mono ?_; rintro e w' ⟨rfl, rfl⟩))
          go_ret
          exact ⟨ret_bool en.out.symm, by repeat (first | with_reducible exact On.refl _ | apply On.alloc | apply On.drewN | apply On.drew | refine On.setCell ?_ (by (try simp) <;> omega) _)⟩
        | true =>
          obtain ⟨l1, l2⟩ := of_inB t1
          obtain ⟨h1, h2⟩ := of_inB t2
          obtain ⟨r1, r2⟩ := of_inB t3
          have HC := Lib.hid (fun w' (ho : On w w') => spec_count g x l h r d w' (HP.out.on ho) l1 l2 h1 h2 r1)
          cases t5 : inB d 0 100000000 with
          | false =>
            have en := Lib.hid (ok_5 (n := true) (l := l) (h := h) (r := r) t5)
            go_enter Tryd.func45, Tryd.ntmps45
            go_wp2_with (first
    | (go_at_call 78; refine (HN.out _).mono ?_; rintro e w' ⟨rfl, rfl⟩)
    | (go_at_call 80; refine (HC.out _ (by repeat (first | with_reducible exact On.refl _ | apply On.alloc | apply On.drewN | apply On.drew | refine On.setCell ?_ (by (try simp) <;> omega) _))).mono ?_; rintro e w2 ⟨rfl, a2⟩; (obtain ⟨j0, j1, j2, j3, j4⟩ := HP.out.on a2); (have hg2 : g < w2.heap.size := Nat.lt_of_lt_of_le hg a2.size))
    | (go_at_call 79; refine (Arith.l00In _ _ _ _).mono ?_; rintro e w' ⟨rfl, rfl⟩))
            go_ret
            exact ⟨ret_bool en.out.symm, by repeat (first | with_reducible exact On.refl _ | apply On.alloc | apply On.drewN | apply On.drew | refine On.setCell ?_ (by (try simp) <;> omega) _)⟩
          | true =>
            cases t4 : inB (quo l h r) 1 1000 with
            | false =>
              have en := Lib.hid (ok_4 (n := true) t4 (d := d))
              go_enter Tryd.func45, Tryd.ntmps45
              go_wp2_with (first
    | (go_at_call 78; refine (HN.out _).mono ?_; rintro e w' ⟨rfl, rfl⟩)
    | (go_at_call 80; refine (HC.out _ (by repeat (first | with_reducible exact On.refl _ | apply On.alloc | apply On.drewN | apply On.drew | refine On.setCell ?_ (by (try simp) <;> omega) _))).mono ?_; rintro e w2 ⟨rfl, a2⟩; (obtain ⟨j0, j1, j2, j3, j4⟩ := HP.out.on a2); (have hg2 : g < w2.heap.size := Nat.lt_of_lt_of_le hg a2.size))
    | (go_at_call 79; refine (Arith.l00In _ _ _ _).mono ?_; rintro e w' ⟨rfl, rfl⟩))
              go_ret
              exact ⟨ret_bool en.out.symm, by repeat (first | with_reducible exact On.refl _ | apply On.alloc | apply On.drewN | apply On.drew | refine On.setCell ?_ (by (try simp) <;> omega) _ | refine On.trans ?_ a2)⟩
            | true =>
              by_cases hd : d = 0
              · subst hd
                have en := Lib.hid (ok_zero t1 t2 t3 t4)
                go_enter Tryd.func45, Tryd.ntmps45
                go_wp2_with (first
    | (go_at_call 78; refine (HN.out _).mono ?_; rintro e w' ⟨rfl, rfl⟩)
    | (go_at_call 80; refine (HC.out _ (by repeat (first | with_reducible exact On.refl _ | apply On.alloc | apply On.drewN | apply On.drew | refine On.setCell ?_ (by (try simp) <;> omega) _))).mono ?_; rintro e w2 ⟨rfl, a2⟩; (obtain ⟨j0, j1, j2, j3, j4⟩ := HP.out.on a2); (have hg2 : g < w2.heap.size := Nat.lt_of_lt_of_le hg a2.size))
    | (go_at_call 79; refine (Arith.l00In _ _ _ _).mono ?_; rintro e w' ⟨rfl, rfl⟩))
                refine wp_region_onh (by kernel_rfl) (by kernel_rfl) ?_
                repeat (refine rest_step (fun K hK => ?_); go_simp; first | (refine hK _ ?_; clear hK K) | (apply Exists.intro; refine ⟨fun v1 hv1 => ?_, hK _ ?_⟩; (first | with_reducible exact rfl | with_reducible exact ⟨rfl, rfl⟩ | (obtain ⟨hc, hf⟩ := bcell hv1; go_simp; first | with_reducible exact rfl | with_reducible exact ⟨rfl, rfl⟩ | exact rfl | exact ⟨rfl, rfl⟩)); clear hK K))
                refine rest_nil ?_
                intro w5 a5
                go_wp2_with fail
                go_ret
                exact ⟨ret_bool en.out.symm, by repeat (first | with_reducible exact On.refl _ | apply On.alloc | apply On.drewN | apply On.drew | refine On.setCell ?_ (by (try simp) <;> omega) _ | refine On.trans ?_ a5 | refine On.trans ?_ a2)⟩
              · obtain ⟨d1, d2⟩ := of_inB t5
                have hd' : (d == 0) = false := beq_eq_false_iff_ne.2 hd
                have wr0 : IntKind.i64.wrap (h - l) = h - l := IntWalk.i64_in _ (by omega)
                have wr1 : IntKind.i64.wrap (h + d) = h + d := IntWalk.i64_in _ (by omega)
                by_cases e1 : h - l ≤ d
                · by_cases e2 : h + d ≤ 100000000
                  · skip
                    have en := Lib.hid (show okN true l h r d = true by rw [ok_main t1 t2 t3 t4 hd, decide_eq_true e1, decide_eq_true e2]; rfl)
                    go_enter Tryd.func45, Tryd.ntmps45
                    go_wp2_with (first
    | (go_at_call 78; refine (HN.out _).mono ?_; rintro e w' ⟨rfl, rfl⟩)
    | (go_at_call 80; refine (HC.out _ (by repeat (first | with_reducible exact On.refl _ | apply On.alloc | apply On.drewN | apply On.drew | refine On.setCell ?_ (by (try simp) <;> omega) _))).mono ?_; rintro e w2 ⟨rfl, a2⟩; (obtain ⟨j0, j1, j2, j3, j4⟩ := HP.out.on a2); (have hg2 : g < w2.heap.size := Nat.lt_of_lt_of_le hg a2.size))
    | (go_at_call 79; refine (Arith.l00In _ _ _ _).mono ?_; rintro e w' ⟨rfl, rfl⟩))
                    refine wp_region_onh (by kernel_rfl) (by kernel_rfl) ?_
                    repeat (refine rest_step (fun K hK => ?_); go_simp; first | (refine hK _ ?_; clear hK K) | (apply Exists.intro; refine ⟨fun v1 hv1 => ?_, hK _ ?_⟩; (first | with_reducible exact rfl | with_reducible exact ⟨rfl, rfl⟩ | (obtain ⟨hc, hf⟩ := bcell hv1; go_simp; first | with_reducible exact rfl | with_reducible exact ⟨rfl, rfl⟩ | exact rfl | exact ⟨rfl, rfl⟩)); clear hK K))
                    refine rest_nil ?_
                    intro w5 a5
                    go_wp2_with fail
                    go_ret
                    exact ⟨ret_bool en.out.symm, by repeat (first | with_reducible exact On.refl _ | apply On.alloc | apply On.drewN | apply On.drew | refine On.setCell ?_ (by (try simp) <;> omega) _ | refine On.trans ?_ a5 | refine On.trans ?_ a2)⟩
                  · have e2' : decide (h + d ≤ 100000000) = false := decide_eq_false e2
                    have e3 : (h + d ≤ 100000000) = False := eq_false e2
                    have en := Lib.hid (show okN true l h r d = false by rw [ok_main t1 t2 t3 t4 hd, decide_eq_true e1, decide_eq_false e2]; rfl)
                    go_enter Tryd.func45, Tryd.ntmps45
                    go_wp2_with (first
    | (go_at_call 78; refine (HN.out _).mono ?_; rintro e w' ⟨rfl, rfl⟩)
    | (go_at_call 80; refine (HC.out _ (by repeat (first | with_reducible exact On.refl _ | apply On.alloc | apply On.drewN | apply On.drew | refine On.setCell ?_ (by (try simp) <;> omega) _))).mono ?_; rintro e w2 ⟨rfl, a2⟩; (obtain ⟨j0, j1, j2, j3, j4⟩ := HP.out.on a2); (have hg2 : g < w2.heap.size := Nat.lt_of_lt_of_le hg a2.size))
    | (go_at_call 79; refine (Arith.l00In _ _ _ _).mono ?_; rintro e w' ⟨rfl, rfl⟩))
                    refine wp_region_onh (by kernel_rfl) (by kernel_rfl) ?_
                    repeat (refine rest_step (fun K hK => ?_); go_simp; first | (refine hK _ ?_; clear hK K) | (apply Exists.intro; refine ⟨fun v1 hv1 => ?_, hK _ ?_⟩; (first | with_reducible exact rfl | with_reducible exact ⟨rfl, rfl⟩ | (obtain ⟨hc, hf⟩ := bcell hv1; go_simp; first | with_reducible exact rfl | with_reducible exact ⟨rfl, rfl⟩ | exact rfl | exact ⟨rfl, rfl⟩)); clear hK K))
                    refine rest_nil ?_
                    intro w5 a5
                    go_wp2_with fail
                    go_ret
                    exact ⟨ret_bool en.out.symm, by repeat (first | with_reducible exact On.refl _ | apply On.alloc | apply On.drewN | apply On.drew | refine On.setCell ?_ (by (try simp) <;> omega) _ | refine On.trans ?_ a5 | refine On.trans ?_ a2)⟩
                · have e1' : decide (h - l ≤ d) = false := decide_eq_false e1
                  have e3 : (h - l ≤ d) = False := eq_false e1
                  have en := Lib.hid (show okN true l h r d = false by rw [ok_main t1 t2 t3 t4 hd, decide_eq_false e1]; rfl)
                  go_enter Tryd.func45, Tryd.ntmps45
                  go_wp2_with (first
    | (go_at_call 78; refine (HN.out _).mono ?_; rintro e w' ⟨rfl, rfl⟩)
    | (go_at_call 80; refine (HC.out _ (by repeat (first | with_reducible exact On.refl _ | apply On.alloc | apply On.drewN | apply On.drew | refine On.setCell ?_ (by (try simp) <;> omega) _))).mono ?_; rintro e w2 ⟨rfl, a2⟩; (obtain ⟨j0, j1, j2, j3, j4⟩ := HP.out.on a2); (have hg2 : g < w2.heap.size := Nat.lt_of_lt_of_le hg a2.size))
    | (go_at_call 79; refine (Arith.l00In _ _ _ _).mono ?_; rintro e w' ⟨rfl, rfl⟩))
                  refine wp_region_onh (by kernel_rfl) (by kernel_rfl) ?_
                  repeat (refine rest_step (fun K hK => ?_); go_simp; first | (refine hK _ ?_; clear hK K) | (apply Exists.intro; refine ⟨fun v1 hv1 => ?_, hK _ ?_⟩; (first | with_reducible exact rfl | with_reducible exact ⟨rfl, rfl⟩ | (obtain ⟨hc, hf⟩ := bcell hv1; go_simp; first | with_reducible exact rfl | with_reducible exact ⟨rfl, rfl⟩ | exact rfl | exact ⟨rfl, rfl⟩)); clear hK K))
                  refine rest_nil ?_
                  intro w5 a5
                  go_wp2_with fail
                  go_ret
                  exact ⟨ret_bool en.out.symm, by repeat (first | with_reducible exact On.refl _ | apply On.alloc | apply On.drewN | apply On.drew | refine On.setCell ?_ (by (try simp) <;> omega) _ | refine On.trans ?_ a5 | refine On.trans ?_ a2)⟩
end Go.Proofs.YtbmhhhhodlfcbaaDoor.Bnd
