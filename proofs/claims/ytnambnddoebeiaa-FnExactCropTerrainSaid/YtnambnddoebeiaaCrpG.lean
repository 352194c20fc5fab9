
/-
  A part of a terrain, in the program: the grid's own calls. Conditions: each theorem's own.
-/
import Derived.Test.YtnambnddoebeiaaCrp0
import Derived.Test.YtnambnddoebeiaaClone
import Derived.Test.YtnambnddoebeiaaTail
import Derived.Deep.OwnRows
namespace Go.Proofs.Ytnambnddoebeiaa.Crp
open Go.RowKit
open Plain Terr
open Ints (Ints Own)
open Ant (listOf listOf_len listOf_at listOf_succ)

def hasB (x y px py : Int) : Bool := inB px 0 (x - 1) && inB py 0 (y - 1)
theorem has_1 {x y px py : Int} (h : inB px 0 (x - 1) = false) : hasB x y px py = false := by unfold hasB; rw [h]; rfl
theorem has_2 {x y px py : Int} (h : inB px 0 (x - 1) = true) : hasB x y px py = inB py 0 (y - 1) := by unfold hasB; rw [h]; rfl
theorem of_has {x y px py : Int} (h : hasB x y px py = true) : (0 ≤ px ∧ px ≤ x - 1) ∧ 0 ≤ py ∧ py ≤ y - 1 := by
  unfold hasB at h
  rw [Bool.and_eq_true] at h
  exact ⟨of_inB h.1, of_inB h.2⟩
theorem made {n b : Nat} {t : TypeId} {w : World} (hb : b = w.heap.size) : (w.alloc (.cells (madeCells #[.int .i64 0] n) t)).rowIs b t n (fun _ => .int .i64 0) := by
  subst hb
  exact World.rowIs_made w _ n t
set_option maxRecDepth 100000 in
theorem slc (b off n cap q X : Nat) (h1 : q + X ≤ cap) (h2 : 0 < X) (w : World) :
    (Instr.slice 22 (.slice (some ⟨b, off, none⟩) n cap) (some (.int .i64 (q : Int))) (some (.int .i64 ((q : Int) + (X : Int)))) none).run Try.prog w = .ok (.slice (some ⟨b, off + q, none⟩) X (cap - q)) w := by
  have hne : ¬ cap = q := by omega
  have e1 : ((q : Int) + (X : Int)).toNat = q + X := by omega
  rw [run_slice_lh w 22 _ n cap Try.underlying22 _ _ _ _ (by omega) (by omega) (by omega)]
  simp [go_sem, sliced, hne, e1, Addr.add]
set_option maxHeartbeats 1000000 in
theorem idx0 (s : Int) (X Y k q : Nat) (w : World) (hq : q = k * X) (h : q ≤ 1000) :
    Calls Try.prog 35 #[.agg #[.int .i64 s, .int .i64 (X : Int), .int .i64 (Y : Int)], .int .i64 0, .int .i64 (k : Int)] w fun e w' => e = .returned (.int .i64 (q : Int)) ∧ On w w' := by
  have e1 : IntKind.i64.wrap ((k : Int) * (X : Int)) = (q : Int) := by
    rw [show (k : Int) * (X : Int) = (q : Int) by rw [hq]; simp]
    exact IntWalk.i64_in _ (by omega)
  have e2 : IntKind.i64.wrap (q : Int) = (q : Int) := IntWalk.i64_in _ (by omega)
  clear hq
  go_enter Try.func35, Try.ntmps35
  go_wp2_with fail
  go_ret
  exact ⟨rfl, by repeat (first | with_reducible exact On.refl _ | apply On.alloc)⟩
set_option maxHeartbeats 1000000 in
theorem idx1 (s : Int) (X Y k q : Nat) (w : World) (hq : q = k * X) (h : q + X ≤ 1000) :
    Calls Try.prog 35 #[.agg #[.int .i64 s, .int .i64 (X : Int), .int .i64 (Y : Int)], .int .i64 0, .int .i64 ((k : Int) + 1)] w fun e w' => e = .returned (.int .i64 ((q : Int) + (X : Int))) ∧ On w w' := by
  have e1 : IntKind.i64.wrap (((k : Int) + 1) * (X : Int)) = (q : Int) + (X : Int) := by
    rw [show ((k : Int) + 1) * (X : Int) = (q : Int) + (X : Int) by rw [hq, Int.add_mul]; simp]
    exact IntWalk.i64_in _ (by omega)
  have e2 : IntKind.i64.wrap ((q : Int) + (X : Int)) = (q : Int) + (X : Int) := IntWalk.i64_in _ (by omega)
  clear hq
  go_enter Try.func35, Try.ntmps35
  go_wp2_with fail
  go_ret
  exact ⟨rfl, by repeat (first | with_reducible exact On.refl _ | apply On.alloc)⟩
set_option maxRecDepth 100000 in
set_option maxHeartbeats 2000000 in
theorem impl_row (s : Int) (X Y b off n cap k q : Nat) (w : World) (hq : q = k * X) (h : q + X ≤ 1000) (h1 : q + X ≤ cap) (h2 : 0 < X) (hk : k ≤ 1000) :
    Calls Try.prog 36 #[.agg #[.int .i64 s, .int .i64 (X : Int), .int .i64 (Y : Int)], .slice (some ⟨b, off, none⟩) n cap, .int .i64 (k : Int)] w fun e w' => e = .returned (.slice (some ⟨b, off + q, none⟩) X (cap - q)) ∧ On w w' := by
  have I0 := Lib.hid (fun w1 => idx0 s X Y k q w1 hq (by omega))
  have I1 := Lib.hid (fun w1 => idx1 s X Y k q w1 hq (by omega))
  have sl := slc b off n cap q X h1 h2
  have e1 : IntKind.i64.wrap ((k : Int) + 1) = (k : Int) + 1 := IntWalk.i64_in _ (by omega)
  clear hq h h1 h2 hk
  go_enter Try.func36, Try.ntmps36
  go_wp2_with fail
  refine wp_region_onh (by kernel_rfl) (by kernel_rfl) ?_
  repeat (refine rest_step (fun K hK => ?_); go_simp; first | (refine hK _ ?_; clear hK K) | (apply Exists.intro; refine ⟨fun v1 hv1 => ?_, hK _ ?_⟩; (first | with_reducible exact rfl | with_reducible exact ⟨rfl, rfl⟩ | with_reducible exact Calls.on hv1 (I0.out _) | with_reducible exact Calls.on hv1 (I1.out _) | (obtain ⟨hc, hf⟩ := bcell hv1; go_simp; first | with_reducible exact rfl | with_reducible exact ⟨rfl, rfl⟩ | exact rfl | exact ⟨rfl, rfl⟩)); clear hK K))
  refine rest_nil ?_
  intro w5 h5
  go_wp2_with fail
  go_ret
  exact ⟨rfl, On.trans (by repeat (first | with_reducible exact On.refl _ | apply On.alloc)) h5⟩
theorem impl_has (s x y px py : Int) (w : World) (x0 : 2 ≤ x) (x1 : x ≤ 24) (y0 : 2 ≤ y) (y1 : y ≤ 24) :
    Calls Try.prog 33 #[.agg #[.int .i64 s, .int .i64 x, .int .i64 y], .int .i64 px, .int .i64 py] w fun e w' => e = .returned (.bool (hasB x y px py)) ∧ On w w' := by
  have w1 : IntKind.i64.wrap (x - 1) = x - 1 := IntWalk.i64_in _ (by omega)
  have w2 : IntKind.i64.wrap (y - 1) = y - 1 := IntWalk.i64_in _ (by omega)
  have H1 := Lib.hid (fun w => Arith.within px 0 (x - 1) w)
  have H2 := Lib.hid (fun w => Arith.within py 0 (y - 1) w)
  cases k1 : inB px 0 (x - 1) with
  | false =>
    rw [has_1 k1]
    rw [k1] at H1
    go_enter Try.func33, Try.ntmps33
    go_wp2_with fail
    refine (H1.out _).mono ?_
    rintro e w' ⟨rfl, rfl⟩
    go_wp2_with fail
    go_ret
    exact ⟨rfl, On.alloc (On.refl _) _⟩
  | true =>
    rw [has_2 k1]
    rw [k1] at H1
    go_enter Try.func33, Try.ntmps33
    go_wp2_with fail
    refine (H1.out _).mono ?_
    rintro e w' ⟨rfl, rfl⟩
    go_wp2_with fail
    refine (H2.out _).mono ?_
    rintro e w' ⟨rfl, rfl⟩
    go_wp2_with fail
    go_ret
    exact ⟨rfl, On.alloc (On.refl _) _⟩
set_option maxRecDepth 100000 in
set_option maxHeartbeats 4000000 in
set_option maxRecDepth 100000 in
set_option maxHeartbeats 4000000 in
theorem impl_bare (s x y : Int) (n : Nat) (w : World) (hn : (n : Int) = x * y) (n1 : n ≤ 576) :
    Calls Try.prog 34 #[.agg #[.int .i64 s, .int .i64 x, .int .i64 y]] w fun e w' => ∃ A B, e = .returned (.agg #[.int .i64 s, .int .i64 x, .int .i64 y, .slice (some ⟨A, 0, none⟩) n n, .slice (some ⟨B, 0, none⟩) n n]) ∧ w.heap.size ≤ A ∧ w.heap.size ≤ B ∧ A ≠ B ∧ w'.rowIs A 2 n (fun _ => .int .i64 0) ∧ w'.rowIs B 2 n (fun _ => .int .i64 0) ∧ On w w' := by
  have hm := fun w => run_make_row' (P := Try.prog) 22 2 (.int .i64 0) 8 Try.underlying22 Ints.info rfl .i64 .i64 n (by omega) (by omega) w
  have hxy : x * y = (n : Int) := hn.symm
  have hwn : IntKind.i64.wrap (n : Int) = (n : Int) := IntWalk.i64_in _ (by omega)
  clear hn
  go_enter Try.func34, Try.ntmps34
  go_wp2_with fail
  go_region
  all_goals
    go_wp2_with fail
    first
      | (refine bodyPost_ret (v := .agg #[.int .i64 s, .int .i64 x, .int .i64 y, .slice (some ⟨w.heap.size + 1 + 1, 0, none⟩) n n, .slice (some ⟨w.heap.size + 1 + 1 + 1, 0, none⟩) n n]) ?_ rfl ⟨w.heap.size + 1 + 1, w.heap.size + 1 + 1 + 1, rfl, by omega, by omega, by omega, ?_, ?_, ?_⟩; focus (simp [results, Try.results34, go_sem]; done))
      | (refine bodyPost_ret (v := .agg #[.int .i64 s, .int .i64 x, .int .i64 y, .slice (some ⟨w.heap.size + 1 + 1 + 1, 0, none⟩) n n, .slice (some ⟨w.heap.size + 1 + 1, 0, none⟩) n n]) ?_ rfl ⟨w.heap.size + 1 + 1 + 1, w.heap.size + 1 + 1, rfl, by omega, by omega, by omega, ?_, ?_, ?_⟩; focus (simp [results, Try.results34, go_sem]; done))
    · (repeat (first | (with_reducible refine made ?_; simp; done) | refine World.rowIs.drew ?_ | refine World.rowIs.alloc ?_ _ | refine World.rowIs.setOther ?_ (by (try simp) <;> omega) _))
    · (repeat (first | (with_reducible refine made ?_; simp; done) | refine World.rowIs.drew ?_ | refine World.rowIs.alloc ?_ _ | refine World.rowIs.setOther ?_ (by (try simp) <;> omega) _))
    · (repeat (first | with_reducible exact On.refl _ | apply On.drew | apply On.alloc | refine On.setCell ?_ (by (try simp) <;> omega) _))
end Go.Proofs.Ytnambnddoebeiaa.Crp
