
/-
  The text of a band, in the model and in the program. Conditions: at most 1048576 bytes in the name; for the program's, what the program's and the library's variables hold.
-/
import Derived.Test.YtbmhhhhodlfcbaaDoorBndV
import Derived.Test.YtbmhhhhodlfcbaaDoorJoin
import Derived.Test.YtbmhhhhodlfcbaaDoorPointText
import Derived.Test.YtbmhhhhodlfcbaaDoorTail
namespace Go.Proofs.YtbmhhhhodlfcbaaDoor.Bnd
open Go.RowKit
open Plain
open PointText (dec)

theorem dec_le {x : Int} (h0 : 0 ≤ x) (h1 : x ≤ 100000000) : (dec x).size ≤ 20 := by
  have := (itoa_len x h0 (by omega)).2
  show (Lib.itoa x).toArray.size ≤ 20
  simp; omega
def bandT (x : ByteArray) (l h r d : Int) : ByteArray := if okB x l h r d then x ++ ⟨#[32]⟩ ++ dec l ++ ⟨#[32]⟩ ++ dec h ++ ⟨#[32]⟩ ++ dec r ++ ⟨#[32]⟩ ++ dec d else ⟨#[]⟩
theorem bandT_no {x : ByteArray} {l h r d : Int} (k : okB x l h r d = false) : bandT x l h r d = ⟨#[]⟩ := if_neg (by rw [k]; simp)
theorem bandT_yes {x : ByteArray} {l h r d : Int} (k : okB x l h r d = true) : bandT x l h r d = x ++ ⟨#[32]⟩ ++ dec l ++ ⟨#[32]⟩ ++ dec h ++ ⟨#[32]⟩ ++ dec r ++ ⟨#[32]⟩ ++ dec d := if_pos k

set_option maxHeartbeats 4000000 in
theorem spec_text (g : Nat) (x : ByteArray) (l h r d : Int) (w : World) (q0 : x.size ≤ 1048576) (hp : In w g x l h r d) (k : okB x l h r d = true) :
    Calls Tryd.prog 46 #[.pointer (some ⟨g, 0, none⟩)] w fun e w' => e = .returned (.string (x ++ ⟨#[32]⟩ ++ dec l ++ ⟨#[32]⟩ ++ dec h ++ ⟨#[32]⟩ ++ dec r ++ ⟨#[32]⟩ ++ dec d)) ∧ On w w' := by
  obtain ⟨⟨l1, l2⟩, ⟨h1, h2⟩, ⟨r1, r2⟩, ⟨q3, q4⟩, d1, d2⟩ := of_okB k
  have hg := hp.lt
  obtain ⟨k0, k1, k2, k3, k4⟩ := hp
  have c0 := fun w => Dec.spec_dec l w (by omega) (by omega)
  have z0 := dec_le (x := l) (by omega) (by omega)
  have c1 := fun w => Dec.spec_dec h w (by omega) (by omega)
  have z1 := dec_le (x := h) (by omega) (by omega)
  have c2 := fun w => Dec.spec_dec r w (by omega) (by omega)
  have z2 := dec_le (x := r) (by omega) (by omega)
  have c3 := fun w => Dec.spec_dec d w (by omega) (by omega)
  have z3 := dec_le (x := d) (by omega) (by omega)
  rw [show (⟨(Lib.itoa l).toArray⟩ : ByteArray) = dec l from rfl] at c0
  rw [show (⟨(Lib.itoa h).toArray⟩ : ByteArray) = dec h from rfl] at c1
  rw [show (⟨(Lib.itoa r).toArray⟩ : ByteArray) = dec r from rfl] at c2
  rw [show (⟨(Lib.itoa d).toArray⟩ : ByteArray) = dec d from rfl] at c3
  generalize dec l = a at *
  generalize dec h = b at *
  generalize dec r = c at *
  generalize dec d = e at *
  have C0 := Lib.hid c0
  have C1 := Lib.hid c1
  have C2 := Lib.hid c2
  have C3 := Lib.hid c3
  clear c0 c1 c2 c3
  have g0 : ¬ 9223372036854775807 < x.size + 1 := by omega
  have g1 : ¬ 9223372036854775807 < x.size + 1 + a.size := by omega
  have g2 : ¬ 9223372036854775807 < x.size + 1 + a.size + 1 := by omega
  have g3 : ¬ 9223372036854775807 < x.size + 1 + a.size + 1 + b.size := by omega
  have g4 : ¬ 9223372036854775807 < x.size + 1 + a.size + 1 + b.size + 1 := by omega
  have g5 : ¬ 9223372036854775807 < x.size + 1 + a.size + 1 + b.size + 1 + c.size := by omega
  have g6 : ¬ 9223372036854775807 < x.size + 1 + a.size + 1 + b.size + 1 + c.size + 1 := by omega
  have g7 : ¬ 9223372036854775807 < x.size + 1 + a.size + 1 + b.size + 1 + c.size + 1 + e.size := by omega
  clear k q3 q4
  go_enter Tryd.func46, Tryd.ntmps46
  go_wp2_with fail
  refine wp_region_onh (by kernel_rfl) (by kernel_rfl) ?_
  repeat (refine rest_step (fun K hK => ?_); go_simp; first | (refine hK _ ?_; clear hK K) | (apply Exists.intro; refine ⟨fun v1 hv1 => ?_, hK _ ?_⟩; (first | with_reducible exact rfl | with_reducible exact ⟨rfl, rfl⟩ | with_reducible exact Calls.on hv1 (C0.out _) | with_reducible exact Calls.on hv1 (C1.out _) | with_reducible exact Calls.on hv1 (C2.out _) | with_reducible exact Calls.on hv1 (C3.out _) | (obtain ⟨hc, hf⟩ := bcell hv1; go_simp; first | with_reducible exact rfl | with_reducible exact ⟨rfl, rfl⟩ | exact rfl | exact ⟨rfl, rfl⟩)); clear hK K))
  refine rest_nil ?_
  intro w1 a1
  go_wp2_with fail
  go_ret
  exact ⟨rfl, a1⟩

theorem spec_BandText (x : ByteArray) (l h r d : Int) (w : World) (q0 : x.size ≤ 1048576) :
    Calls Tryd.prog 13 #[.agg #[.string x, .int .i64 l, .int .i64 h, .int .i64 r, .int .i64 d]] w fun e w' => e = .returned (.string (bandT x l h r d)) ∧ On w w' := by
  have HV := Lib.hid (fun w' hp => spec_ok w.heap.size x l h r d w' q0 hp)
  cases k : okB x l h r d with
  | false =>
    rw [k] at HV
    rw [bandT_no k]
    clear k
    go_enter Tryd.func13, Tryd.ntmps13
    go_wp2_with fail
    refine (HV.out _ ⟨by simp [go_sem], by simp [go_sem], by simp [go_sem], by simp [go_sem], by simp [go_sem]⟩).mono ?_
    rintro e w1 ⟨rfl, a1⟩
    go_wp2_with fail
    go_ret
    exact ⟨rfl, by repeat (first | with_reducible exact On.refl _ | apply On.alloc | apply On.drewN | apply On.drew | refine On.setCell ?_ (by (try simp) <;> omega) _ | refine On.trans ?_ a1)⟩
  | true =>
    rw [k] at HV
    rw [bandT_yes k]
    have HT := Lib.hid (fun w' hp => spec_text w.heap.size x l h r d w' q0 hp k)
    generalize x ++ ⟨#[32]⟩ ++ dec l ++ ⟨#[32]⟩ ++ dec h ++ ⟨#[32]⟩ ++ dec r ++ ⟨#[32]⟩ ++ dec d = u at *
    clear k
    go_enter Tryd.func13, Tryd.ntmps13
    go_wp2_with fail
    refine (HV.out _ ⟨by simp [go_sem], by simp [go_sem], by simp [go_sem], by simp [go_sem], by simp [go_sem]⟩).mono ?_
    rintro e w1 ⟨rfl, a1⟩
    have K1 : In w1 w.heap.size x l h r d := In.on ⟨by simp [go_sem], by simp [go_sem], by simp [go_sem], by simp [go_sem], by simp [go_sem]⟩ a1
    go_wp2_with fail
    refine (HT.out _ K1).mono ?_
    rintro e w2 ⟨rfl, a2⟩
    go_wp2_with fail
    go_ret
    exact ⟨rfl, by repeat (first | with_reducible exact On.refl _ | apply On.alloc | apply On.drewN | apply On.drew | refine On.setCell ?_ (by (try simp) <;> omega) _ | refine On.trans ?_ a2 | refine On.trans ?_ a1)⟩

set_option maxHeartbeats 4000000 in
theorem impl_BandText (x : ByteArray) (l h r d : Int) (w : World) (q0 : x.size ≤ 1048576) (hg : Span.SpanG w) (ht : Lib.TabBelow Tryd.prog w.heap.size w "internal/strconv.uint64pow10" .u64 Lib.pow10Tab) :
    Calls Tryd.prog 15 #[.agg #[.string x, .int .i64 l, .int .i64 h, .int .i64 r, .int .i64 d]] w fun e w' => e = .returned (.string (bandT x l h r d)) ∧ On w w' := by
  have HV := Lib.hid (fun w' (ho : On w w') => impl_ok x l h r d w' q0 (hg.on ho))
  clear hg
  cases k : okB x l h r d with
  | false =>
    rw [k] at HV
    rw [bandT_no k]
    clear k ht
    go_enter Tryd.func15, Tryd.ntmps15
    go_wp2_with fail
    refine (HV.out _ (by repeat (first | with_reducible exact On.refl _ | apply On.alloc | apply On.drewN | apply On.drew | refine On.setCell ?_ (by (try simp) <;> omega) _))).mono ?_
    rintro e w1 ⟨rfl, a1⟩
    go_wp2_with fail
    go_ret
    exact ⟨rfl, by repeat (first | with_reducible exact On.refl _ | apply On.alloc | apply On.drewN | apply On.drew | refine On.setCell ?_ (by (try simp) <;> omega) _ | refine On.trans ?_ a1)⟩
  | true =>
    rw [k] at HV
    rw [bandT_yes k]
    obtain ⟨⟨l1, l2⟩, ⟨h1, h2⟩, ⟨r1, r2⟩, ⟨q3, q4⟩, d1, d2⟩ := of_okB k
    have c0 := fun (w1 : World) (hw : On w w1) => Dec.impl_decimal l w1 (by omega) (by omega) (ht w1 hw)
    have z0 := dec_le (x := l) (by omega) (by omega)
    have c1 := fun (w1 : World) (hw : On w w1) => Dec.impl_decimal h w1 (by omega) (by omega) (ht w1 hw)
    have z1 := dec_le (x := h) (by omega) (by omega)
    have c2 := fun (w1 : World) (hw : On w w1) => Dec.impl_decimal r w1 (by omega) (by omega) (ht w1 hw)
    have z2 := dec_le (x := r) (by omega) (by omega)
    have c3 := fun (w1 : World) (hw : On w w1) => Dec.impl_decimal d w1 (by omega) (by omega) (ht w1 hw)
    have z3 := dec_le (x := d) (by omega) (by omega)
    rw [show (⟨(Lib.itoa l).toArray⟩ : ByteArray) = dec l from rfl] at c0
    rw [show (⟨(Lib.itoa h).toArray⟩ : ByteArray) = dec h from rfl] at c1
    rw [show (⟨(Lib.itoa r).toArray⟩ : ByteArray) = dec r from rfl] at c2
    rw [show (⟨(Lib.itoa d).toArray⟩ : ByteArray) = dec d from rfl] at c3
    generalize dec l = a at *
    generalize dec h = b at *
    generalize dec r = c at *
    generalize dec d = e at *
    have C0 := Lib.hid c0
    have C1 := Lib.hid c1
    have C2 := Lib.hid c2
    have C3 := Lib.hid c3
    clear c0 c1 c2 c3 ht
    clear k q3 q4
    go_enter Tryd.func15, Tryd.ntmps15
    go_wp2_with fail
    refine (HV.out _ (by repeat (first | with_reducible exact On.refl _ | apply On.alloc | apply On.drewN | apply On.drew | refine On.setCell ?_ (by (try simp) <;> omega) _))).mono ?_
    rintro e w1 ⟨rfl, a1⟩
    have K1 : In w1 w.heap.size x l h r d := In.on ⟨by simp [go_sem], by simp [go_sem], by simp [go_sem], by simp [go_sem], by simp [go_sem]⟩ a1
    have zz := K1.lt
    obtain ⟨k0, k1, k2, k3, k4⟩ := K1
    have hO1 : On w w1 := by repeat (first | with_reducible exact On.refl _ | apply On.alloc | apply On.drewN | apply On.drew | refine On.setCell ?_ (by (try simp) <;> omega) _ | refine On.trans ?_ a1)
    clear a1
    go_wp2_with fail
    refine wp_region_on_tail 14 (by kernel_rfl) (by kernel_rfl) ?_
    simp only [List.take_succ_cons, List.take_zero, List.drop_succ_cons, List.drop_zero]
    repeat (refine wpQuiet_step (fun K hK => ?_); go_simp; first | (refine hK _ ?_; clear hK K) | (apply Exists.intro; refine ⟨fun v1 hv1 => ?_, hK _ ?_⟩; (first | with_reducible exact rfl | with_reducible exact ⟨rfl, rfl⟩ | with_reducible exact Calls.on hv1 (C0.out _ (hO1.trans hv1)) | with_reducible exact Calls.on hv1 (C1.out _ (hO1.trans hv1)) | with_reducible exact Calls.on hv1 (C2.out _ (hO1.trans hv1)) | with_reducible exact Calls.on hv1 (C3.out _ (hO1.trans hv1)) | (obtain ⟨hc, hf⟩ := bcell hv1; go_simp; first | with_reducible exact rfl | with_reducible exact ⟨rfl, rfl⟩ | exact rfl | exact ⟨rfl, rfl⟩)); clear hK K))
    refine wpQuiet_nil ?_
    intro w2 a2
    go_wp2_with fail
    refine (Join.join5 x a b c e _ _ _ (by simp [go_sem]) (by simp [go_sem]) (by simp [go_sem]) (by simp [go_sem]) (by simp [go_sem]) (by omega) (by omega) (by omega) (by omega) (by omega) (by omega)).mono ?_
    rintro e w3 ⟨rfl, a3⟩
    go_wp2_with fail
    go_ret
    exact ⟨rfl, by repeat (first | with_reducible exact On.refl _ | apply On.alloc | apply On.drewN | apply On.drew | refine On.setCell ?_ (by (try simp) <;> omega) _ | refine On.trans ?_ a3 | refine On.trans ?_ a2 | refine On.trans ?_ hO1)⟩

end Go.Proofs.YtbmhhhhodlfcbaaDoor.Bnd
