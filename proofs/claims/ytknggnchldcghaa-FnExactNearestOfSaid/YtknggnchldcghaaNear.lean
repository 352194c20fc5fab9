
/-
  The nearest point of a list, in the model and in the program. Condition: at most 1048576 points.
-/
import Derived.Test.YtknggnchldcghaaWayTo
import Derived.Test.YtknggnchldcghaaPts
import Derived.Test.YtknggnchldcghaaOnH
import Derived.Deep.DeepCutAuto
import Derived.Deep.RegionWith
namespace Go.Proofs.Ytknggnchldcghaa.Near
open Go.RowKit
open Plain
open Point
open Pts (Pairs)
open WayTo (dist dist_yes)

def px (zs : List (Int × Int)) (k : Nat) : Int := (zs.getD k (0, 0)).1
def py (zs : List (Int × Int)) (k : Nat) : Int := (zs.getD k (0, 0)).2
def okAt (zs : List (Int × Int)) (k : Nat) : Bool := okB (px zs k) (py zs k)
def okL (zs : List (Int × Int)) : Bool := (List.range zs.length).all (okAt zs)
theorem okL_no {zs : List (Int × Int)} {k : Nat} (hk : k < zs.length) (h : okAt zs k = false) : okL zs = false := by
  unfold okL
  cases e : (List.range zs.length).all (okAt zs) with
  | false => rfl
  | true => rw [List.all_eq_true] at e; rw [e k (List.mem_range.2 hk)] at h; cases h
theorem okL_yes {zs : List (Int × Int)} (h : ∀ j, j < zs.length → okAt zs j = true) : okL zs = true := by
  unfold okL; rw [List.all_eq_true]; exact fun j hj => h j (List.mem_range.1 hj)
theorem all_more {q : Nat → Bool} {k : Nat} (h : ∀ j, j < k → q j = true) (e : q k = true) : ∀ j, j < k + 1 → q j = true := fun j hj => by
  by_cases g : j = k
  · rw [g]; exact e
  · exact h j (by omega)
def far (zs : List (Int × Int)) (u v : Int) (k : Nat) : Int := dist (px zs k) (py zs k) u v
/-- The first nearest one of the first k points. -/
def bestTo (zs : List (Int × Int)) (u v : Int) : Nat → Nat
  | 0 => 0
  | k + 1 => if far zs u v k < far zs u v (bestTo zs u v k) then k else bestTo zs u v k
theorem best_yes {zs : List (Int × Int)} {u v : Int} {k m : Nat} (hm : m = bestTo zs u v k) (h : far zs u v k < far zs u v m) : k = bestTo zs u v (k + 1) := by subst hm; exact (if_pos h).symm
theorem best_no {zs : List (Int × Int)} {u v : Int} {k m : Nat} (hm : m = bestTo zs u v k) (h : ¬ far zs u v k < far zs u v m) : m = bestTo zs u v (k + 1) := by subst hm; exact (if_neg h).symm
theorem best_one (zs : List (Int × Int)) (u v : Int) : 0 = bestTo zs u v 1 := best_no (k := 0) rfl (Int.lt_irrefl _)
theorem best_lt (zs : List (Int × Int)) (u v : Int) : ∀ k, 0 < k → bestTo zs u v k < k
  | 1, _ => by rw [← best_one]; omega
  | k + 2, _ => by
    have := best_lt zs u v (k + 1) (by omega)
    rw [bestTo]
    split <;> omega
def nearV (zs : List (Int × Int)) (u v : Int) : Int := if okL zs = true ∧ okB u v = true ∧ 0 < zs.length then ((bestTo zs u v zs.length : Nat) : Int) else 0
def nearC (zs : List (Int × Int)) (u v : Int) : Int := if okL zs = true ∧ okB u v = true then (if 0 < zs.length then 0 else 6) else 1
theorem near_1 {zs : List (Int × Int)} {u v : Int} (h : okL zs = false) : nearV zs u v = 0 ∧ nearC zs u v = 1 := by unfold nearV nearC; rw [h, if_neg (by simp), if_neg (by simp)]; exact ⟨rfl, rfl⟩
theorem near_2 {zs : List (Int × Int)} {u v : Int} (h : okB u v = false) : nearV zs u v = 0 ∧ nearC zs u v = 1 := by unfold nearV nearC; rw [h, if_neg (by simp), if_neg (by simp)]; exact ⟨rfl, rfl⟩
theorem near_3 {zs : List (Int × Int)} {u v : Int} (h1 : okL zs = true) (h2 : okB u v = true) (h : ¬ 0 < zs.length) : nearV zs u v = 0 ∧ nearC zs u v = 6 := by unfold nearV nearC; rw [if_neg (by intro e; exact h e.2.2), if_pos ⟨h1, h2⟩, if_neg h]; exact ⟨rfl, rfl⟩
theorem near_4 {zs : List (Int × Int)} {u v : Int} (h1 : okL zs = true) (h2 : okB u v = true) (h : 0 < zs.length) : nearV zs u v = ((bestTo zs u v zs.length : Nat) : Int) ∧ nearC zs u v = 0 := by unfold nearV nearC; rw [if_pos ⟨h1, h2, h⟩, if_pos ⟨h1, h2⟩, if_pos h]; exact ⟨rfl, rfl⟩
theorem ret_ii {a b c d : Int} (h1 : a = b) (h2 : c = d) : Ending.returned (.tuple #[.int .i64 a, .int .i64 c]) = .returned (.tuple #[.int .i64 b, .int .i64 d]) := by rw [h1, h2]
theorem cells_of {w : World} {a : Option Addr} {cap n : Nat} {zs : List (Int × Int)} (hn : n = zs.length) (h : Pairs w (.slice a n cap) zs) (h0 : 0 < n) : ∃ b off, a = some ⟨b, off, none⟩ ∧ b < w.heap.size ∧ ∀ k, k < n → w.cell? ⟨b, off + k * 2, none⟩ = some (.int .i64 (px zs k)) ∧ w.cell? ⟨b, off + k * 2 + 1, none⟩ = some (.int .i64 (py zs k)) := by
  subst hn
  exact Pts.slice_of h h0
/-- The distance of two valid points, as the model has it. -/
theorem spec_far (zs : List (Int × Int)) (u v : Int) (k : Nat) (w : World) (h1 : okAt zs k = true) (h2 : okB u v = true) :
    Calls Try.prog 101 #[.agg #[.int .i64 (px zs k), .int .i64 (py zs k)], .agg #[.int .i64 u, .int .i64 v]] w fun e w' => e = .returned (.int .i64 (far zs u v k)) ∧ On w w' := by
  obtain ⟨a1, a2, a3, a4⟩ := of_okB h1
  obtain ⟨b1, b2, b3, b4⟩ := of_okB h2
  have e : far zs u v k = _ := dist_yes h1 h2
  rw [e]
  exact WayTo.spec_apart _ _ _ _ _ (by omega) (by omega) (by omega) (by omega)
theorem impl_far (zs : List (Int × Int)) (u v : Int) (k : Nat) (w : World) (_h1 : okAt zs k = true) (_h2 : okB u v = true) :
    Calls Try.prog 102 #[.agg #[.int .i64 (px zs k), .int .i64 (py zs k)], .agg #[.int .i64 u, .int .i64 v]] w fun e w' => e = .returned (.int .i64 (far zs u v k)) ∧ On w w' := WayTo.impl_distance _ _ _ _ _
set_option maxRecDepth 100000 in
set_option maxHeartbeats 2000000 in
theorem spec_some (zs : List (Int × Int)) (u v : Int) (cap : Nat) (w : World) (n : Nat) (hn : n = zs.length) (_hn1 : n ≤ 1048576) (b off : Nat) (hb : b < w.heap.size) (hcell : ∀ k, k < n → w.cell? ⟨b, off + k * 2, none⟩ = some (.int .i64 (px zs k)) ∧ w.cell? ⟨b, off + k * 2 + 1, none⟩ = some (.int .i64 (py zs k))) (h0 : 0 < n) :
    Calls Try.prog 56 #[.slice (some ⟨b, off, none⟩) n cap, .agg #[.int .i64 u, .int .i64 v]] w fun e w' => e = .returned (.tuple #[.int .i64 (nearV zs u v), .int .i64 (nearC zs u v)]) ∧ On w w' := by
  have HN := Lib.hid hn
  have HC := Lib.hid hcell
  clear hcell
  have hn0 : ((n : Int) == 0) = false := beq_eq_false_iff_ne.2 (by omega)
  clear hn
  go_enter Try.func56, Try.ntmps56
  go_wp2_with fail
  go_loopw [6] (fun i wr => ∃ k : Nat, k ≤ n ∧ i = .int .i64 k ∧ (∀ j, j < k → okAt zs j = true) ∧ (wr.cell? ⟨w.heap.size, 0, none⟩ = some (.int .i64 u) ∧ wr.cell? ⟨w.heap.size, 1, none⟩ = some (.int .i64 v)) ∧ On w wr) (fun i _ => n - (intOf i).toNat)
  case atStart => exact ⟨0, Nat.zero_le _, rfl, fun j h => by omega, ⟨by simp [go_sem], by simp [go_sem]⟩, by repeat (first | with_reducible exact On.refl _ | apply On.alloc)⟩
  case round =>
    obtain ⟨k, hk, rfl, hall, hP, hO⟩ := hrel
    have HA := Lib.hid hall
    have HP := Lib.hid hP
    have HO := Lib.hid hO
    have hbw := hO.lts _ hb
    clear hall
    by_cases hlt : k < n
    · have hlti : (k : Int) < (n : Int) := by omega
      obtain ⟨c1, c2⟩ := HC.out k hlt
      have c1' := (hO.cell (p := ⟨b, off + k * 2, none⟩) (by exact hb)).trans c1
      have c2' := (hO.cell (p := ⟨b, off + k * 2 + 1, none⟩) (by exact hb)).trans c2
      have HK := Lib.hid (fun w => Point.spec_ok (px zs k) (py zs k) w)
      obtain ⟨q0, q1⟩ := hP
      have qy0 : w.heap.size < wr.heap.size := World.block_lt_of_cell? wr _ q0
      cases hq : okAt zs k with
      | false =>
        have en := Lib.hid (near_1 (u := u) (v := v) (okL_no (by rw [← HN.out]; exact hlt) hq))
        unfold okAt at hq
        rw [hq] at HK
        clear hq c1 c2
        generalize px zs k = x1 at *
        generalize py zs k = y1 at *
        go_wp2_with fail
        refine (HK.out _).mono ?_
        rintro e w1 ⟨rfl, h1⟩
        go_wp2_with fail
        go_ret2
        exact ⟨ret_ii en.out.1.symm en.out.2.symm, HO.out.trans (by refine On.trans ?_ h1; repeat (first | with_reducible exact On.refl _ | apply On.alloc))⟩
      | true =>
        have HN2 := Lib.hid (all_more HA.out hq)
        unfold okAt at hq
        rw [hq] at HK
        clear hq c1 c2
        generalize px zs k = x1 at *
        generalize py zs k = y1 at *
        go_wp2_with fail
        refine (HK.out _).mono ?_
        rintro e w1 ⟨rfl, h1⟩
        have h1' : On wr w1 := by refine On.trans ?_ h1; repeat (first | with_reducible exact On.refl _ | apply On.alloc)
        have HP1 := Lib.hid (show w1.cell? ⟨w.heap.size, 0, none⟩ = some (.int .i64 u) ∧ w1.cell? ⟨w.heap.size, 1, none⟩ = some (.int .i64 v) from ⟨(h1'.cell (by exact qy0)).trans q0, (h1'.cell (by exact qy0)).trans q1⟩)
        have HO1 := Lib.hid (HO.out.trans h1')
        go_wp2_with fail
        go_roundw
        case rel => exact ⟨k + 1, by omega, by go_num, HN2.out, HP1.out, HO1.out⟩
        case measure => simp [intOf]; omega
    · have hno : ¬ (k : Int) < (n : Int) := by omega
      have HA2 := Lib.hid (show ∀ j, j < n → okAt zs j = true from fun j hj => HA.out j (by omega))
      clear hP hO HA
      have HA := HA2
      clear HA2
      have hok := okL_yes (by rw [← HN.out]; exact HA.out)
      obtain ⟨p0, p1⟩ := HP.out
      have py0 : w.heap.size < wr.heap.size := World.block_lt_of_cell? wr _ p0
      cases hp : okB u v with
      | false =>
        have en := Lib.hid (near_2 (zs := zs) hp)
        have HK := Lib.hid (fun w => Point.spec_ok u v w)
        rw [hp] at HK
        go_wp2_with fail
        refine (HK.out _).mono ?_
        rintro e w1 ⟨rfl, h1⟩
        go_wp2_with fail
        go_ret2
        exact ⟨ret_ii en.out.1.symm en.out.2.symm, HO.out.trans h1⟩
      | true =>
        have HK := Lib.hid (fun w => Point.spec_ok u v w)
        rw [hp] at HK
        have HPK := Lib.hid hp
        have en := Lib.hid (near_4 hok hp (by rw [← HN.out]; omega))
        rw [← HN.out] at en
        go_wp2_with fail
        refine (HK.out _).mono ?_
        rintro e w1 ⟨rfl, h1⟩
        go_wp2_with fail
        go_loopw [7, 8] (fun s i wq => ∃ k m : Nat, k ≤ n ∧ i = .int .i64 k ∧ s = .int .i64 m ∧ m = bestTo zs u v k ∧ m < n ∧ 1 ≤ k ∧ (wq.cell? ⟨w.heap.size, 0, none⟩ = some (.int .i64 u) ∧ wq.cell? ⟨w.heap.size, 1, none⟩ = some (.int .i64 v)) ∧ On w wq) (fun _ i _ => n - (intOf i).toNat)
        case atStart => exact ⟨1, 0, by omega, rfl, rfl, best_one _ _ _, by omega, by omega, ⟨(h1.cell (by exact py0)).trans p0, (h1.cell (by exact py0)).trans p1⟩, HO.out.trans h1⟩
        case round =>
          obtain ⟨k, m, hk, rfl, rfl, hm, hmn, hk1, ⟨q0, q1⟩, hor⟩ := hrel
          have qy0 : w.heap.size < wr.heap.size := World.block_lt_of_cell? wr _ q0
          have qn := Nat.ne_of_lt qy0
          have hbq := hor.lts _ hb
          have hbn := Nat.ne_of_lt hbq
          by_cases hlt : k < n
          · have hlti : (k : Int) < (n : Int) := by omega
            have hmi : (m : Int) < (n : Int) := by omega
            obtain ⟨d1, hd1⟩ : ∃ d, d = far zs u v k := ⟨_, rfl⟩
            obtain ⟨d2, hd2⟩ : ∃ d, d = far zs u v m := ⟨_, rfl⟩
            have F1 := fun w => spec_far zs u v k w (HA.out k hlt) HPK.out
            have F2 := fun w => spec_far zs u v m w (HA.out m hmn) HPK.out
            rw [← hd1] at F1
            rw [← hd2] at F2
            obtain ⟨c1, c2⟩ := HC.out k hlt
            obtain ⟨c3, c4⟩ := HC.out m hmn
            have c1' := (hor.cell (p := ⟨b, off + k * 2, none⟩) (by exact hb)).trans c1
            have c2' := (hor.cell (p := ⟨b, off + k * 2 + 1, none⟩) (by exact hb)).trans c2
            have c3' := (hor.cell (p := ⟨b, off + m * 2, none⟩) (by exact hb)).trans c3
            have c4' := (hor.cell (p := ⟨b, off + m * 2 + 1, none⟩) (by exact hb)).trans c4
            have BY := best_yes (u := u) (v := v) (k := k) hm
            have BN := best_no (u := u) (v := v) (k := k) hm
            rw [← hd1, ← hd2] at BY BN
            have FY := Lib.hid BY
            have FN := Lib.hid BN
            have G1 := Lib.hid F1
            have G2 := Lib.hid F2
            generalize px zs k = x1 at *
            generalize py zs k = y1 at *
            clear F1 F2 BY BN c1 c2 c3 c4 hm
            by_cases hcmp : d1 < d2
            · go_wp2_with fail
              refine wp_region_onh (by kernel_rfl) (by kernel_rfl) ?_
              repeat (refine rest_step (fun K hK => ?_); go_simp; first | (refine hK _ ?_; clear hK K) | (apply Exists.intro; refine ⟨fun v1 hv1 => ?_, hK _ ?_⟩; (first | with_reducible exact rfl | with_reducible exact ⟨rfl, rfl⟩ | with_reducible exact Calls.on hv1 (G1.out _) | with_reducible exact Calls.on hv1 (G2.out _) | (obtain ⟨hc, hf⟩ := bcell hv1; go_simp; first | with_reducible exact rfl | with_reducible exact ⟨rfl, rfl⟩ | exact rfl | exact ⟨rfl, rfl⟩)); clear hK K))
              refine rest_nil ?_
              intro w5 h5
              have h5t : On wr w5 := by refine On.trans ?_ h5; repeat (first | with_reducible exact On.refl _ | apply On.alloc)
              go_wp2_with fail
              go_roundw
              case rel => exact ⟨k + 1, k, by omega, by go_num, rfl, FY.out hcmp, by omega, by omega, ⟨(h5t.cell (by exact qy0)).trans q0, (h5t.cell (by exact qy0)).trans q1⟩, hor.trans h5t⟩
              case measure => simp [intOf]; omega
            · go_wp2_with fail
              refine wp_region_onh (by kernel_rfl) (by kernel_rfl) ?_
              repeat (refine rest_step (fun K hK => ?_); go_simp; first | (refine hK _ ?_; clear hK K) | (apply Exists.intro; refine ⟨fun v1 hv1 => ?_, hK _ ?_⟩; (first | with_reducible exact rfl | with_reducible exact ⟨rfl, rfl⟩ | with_reducible exact Calls.on hv1 (G1.out _) | with_reducible exact Calls.on hv1 (G2.out _) | (obtain ⟨hc, hf⟩ := bcell hv1; go_simp; first | with_reducible exact rfl | with_reducible exact ⟨rfl, rfl⟩ | exact rfl | exact ⟨rfl, rfl⟩)); clear hK K))
              refine rest_nil ?_
              intro w5 h5
              have h5t : On wr w5 := by refine On.trans ?_ h5; repeat (first | with_reducible exact On.refl _ | apply On.alloc)
              go_wp2_with fail
              go_roundw
              case rel => exact ⟨k + 1, m, by omega, by go_num, rfl, FN.out hcmp, by omega, by omega, ⟨(h5t.cell (by exact qy0)).trans q0, (h5t.cell (by exact qy0)).trans q1⟩, hor.trans h5t⟩
              case measure => simp [intOf]; omega
          · have hkn : k = n := by omega
            have hno2 : ¬ (k : Int) < (n : Int) := by omega
            go_wp2_with fail
            go_ret2
            exact ⟨ret_ii (by first | exact en.out.1.symm | rw [en.out.1, hm, hkn] | rw [en.out.1, hm]) en.out.2.symm, hor⟩
set_option maxRecDepth 100000 in
set_option maxHeartbeats 2000000 in
theorem spec_none (zs : List (Int × Int)) (u v : Int) (cap : Nat) (w : World) (n : Nat) (hn : n = zs.length) (_hn1 : n ≤ 1048576) (a : Option Addr) (h0 : n = 0) :
    Calls Try.prog 56 #[.slice a 0 cap, .agg #[.int .i64 u, .int .i64 v]] w fun e w' => e = .returned (.tuple #[.int .i64 (nearV zs u v), .int .i64 (nearC zs u v)]) ∧ On w w' := by
  have HN := Lib.hid hn
  clear hn
  go_enter Try.func56, Try.ntmps56
  go_wp2_with fail
  refine wp_loop_rounds 1 ?_
  rw [rounds_succ]
  go_wp2_with fail
  obtain ⟨wr, hwr⟩ : ∃ wr, wr = w.alloc (.cells #[.int .i64 u, .int .i64 v] 49) := ⟨_, rfl⟩
  have hok := okL_yes (zs := zs) (by rw [← HN.out, h0]; exact fun j h => by omega)
  cases hp : okB u v with
  | false =>
    have en := Lib.hid (near_2 (zs := zs) hp)
    have HK := Lib.hid (fun w => Point.spec_ok u v w)
    rw [hp] at HK
    go_wp2_with fail
    refine (HK.out _).mono ?_
    rintro e w1 ⟨rfl, h1⟩
    go_wp2_with fail
    go_ret2
    exact ⟨ret_ii en.out.1.symm en.out.2.symm, by refine On.trans ?_ h1; repeat (first | with_reducible exact On.refl _ | apply On.alloc)⟩
  | true =>
    have en := Lib.hid (near_3 hok hp (by rw [← HN.out]; omega))
    have HK := Lib.hid (fun w => Point.spec_ok u v w)
    rw [hp] at HK
    go_wp2_with fail
    refine (HK.out _).mono ?_
    rintro e w1 ⟨rfl, h1⟩
    go_wp2_with fail
    go_ret2
    exact ⟨ret_ii en.out.1.symm en.out.2.symm, by refine On.trans ?_ h1; repeat (first | with_reducible exact On.refl _ | apply On.alloc)⟩
theorem spec_near (vl : Value) (zs : List (Int × Int)) (u v : Int) (w : World) (hn1 : zs.length ≤ 1048576) (h : Pairs w vl zs) :
    Calls Try.prog 56 #[vl, .agg #[.int .i64 u, .int .i64 v]] w fun e w' => e = .returned (.tuple #[.int .i64 (nearV zs u v), .int .i64 (nearC zs u v)]) ∧ On w w' := by
  have h' := h
  obtain ⟨a, cap, rfl, -⟩ := h
  by_cases h0 : 0 < zs.length
  · obtain ⟨b, off, rfl, hb, hc⟩ := cells_of rfl h' h0
    exact spec_some zs u v cap w zs.length rfl hn1 b off hb hc h0
  · have e : zs.length = 0 := by omega
    rw [e]
    exact spec_none zs u v cap w 0 e.symm (by omega) a rfl
set_option maxRecDepth 100000 in
set_option maxHeartbeats 2000000 in
theorem impl_some (zs : List (Int × Int)) (u v : Int) (cap : Nat) (w : World) (n : Nat) (hn : n = zs.length) (_hn1 : n ≤ 1048576) (b off : Nat) (hb : b < w.heap.size) (hcell : ∀ k, k < n → w.cell? ⟨b, off + k * 2, none⟩ = some (.int .i64 (px zs k)) ∧ w.cell? ⟨b, off + k * 2 + 1, none⟩ = some (.int .i64 (py zs k))) (h0 : 0 < n) :
    Calls Try.prog 58 #[.slice (some ⟨b, off, none⟩) n cap, .agg #[.int .i64 u, .int .i64 v]] w fun e w' => e = .returned (.tuple #[.int .i64 (nearV zs u v), .int .i64 (nearC zs u v)]) ∧ On w w' := by
  have HN := Lib.hid hn
  have HC := Lib.hid hcell
  clear hcell
  have hn0 : ((n : Int) == 0) = false := beq_eq_false_iff_ne.2 (by omega)
  clear hn
  go_enter Try.func58, Try.ntmps58
  go_wp2_with fail
  go_loopw [13] (fun i wr => ∃ k : Nat, k ≤ n ∧ i = .int .i64 k ∧ (∀ j, j < k → okAt zs j = true) ∧ (wr.cell? ⟨w.heap.size, 0, none⟩ = some (.int .i64 u) ∧ wr.cell? ⟨w.heap.size, 1, none⟩ = some (.int .i64 v)) ∧ On w wr) (fun i _ => n - (intOf i).toNat)
  case atStart => exact ⟨0, Nat.zero_le _, rfl, fun j h => by omega, ⟨by simp [go_sem], by simp [go_sem]⟩, by repeat (first | with_reducible exact On.refl _ | apply On.alloc)⟩
  case round =>
    obtain ⟨k, hk, rfl, hall, hP, hO⟩ := hrel
    have HA := Lib.hid hall
    have HP := Lib.hid hP
    have HO := Lib.hid hO
    have hbw := hO.lts _ hb
    clear hall
    by_cases hlt : k < n
    · have hlti : (k : Int) < (n : Int) := by omega
      obtain ⟨c1, c2⟩ := HC.out k hlt
      have c1' := (hO.cell (p := ⟨b, off + k * 2, none⟩) (by exact hb)).trans c1
      have c2' := (hO.cell (p := ⟨b, off + k * 2 + 1, none⟩) (by exact hb)).trans c2
      have HK := Lib.hid (fun w => Point.impl_ok (px zs k) (py zs k) w)
      obtain ⟨q0, q1⟩ := hP
      have qy0 : w.heap.size < wr.heap.size := World.block_lt_of_cell? wr _ q0
      cases hq : okAt zs k with
      | false =>
        have en := Lib.hid (near_1 (u := u) (v := v) (okL_no (by rw [← HN.out]; exact hlt) hq))
        unfold okAt at hq
        rw [hq] at HK
        clear hq c1 c2
        generalize px zs k = x1 at *
        generalize py zs k = y1 at *
        go_wp2_with fail
        refine (HK.out _).mono ?_
        rintro e w1 ⟨rfl, h1⟩
        go_wp2_with fail
        go_ret2
        exact ⟨ret_ii en.out.1.symm en.out.2.symm, HO.out.trans (by refine On.trans ?_ h1; repeat (first | with_reducible exact On.refl _ | apply On.alloc))⟩
      | true =>
        have HN2 := Lib.hid (all_more HA.out hq)
        unfold okAt at hq
        rw [hq] at HK
        clear hq c1 c2
        generalize px zs k = x1 at *
        generalize py zs k = y1 at *
        go_wp2_with fail
        refine (HK.out _).mono ?_
        rintro e w1 ⟨rfl, h1⟩
        have h1' : On wr w1 := by refine On.trans ?_ h1; repeat (first | with_reducible exact On.refl _ | apply On.alloc)
        have HP1 := Lib.hid (show w1.cell? ⟨w.heap.size, 0, none⟩ = some (.int .i64 u) ∧ w1.cell? ⟨w.heap.size, 1, none⟩ = some (.int .i64 v) from ⟨(h1'.cell (by exact qy0)).trans q0, (h1'.cell (by exact qy0)).trans q1⟩)
        have HO1 := Lib.hid (HO.out.trans h1')
        go_wp2_with fail
        go_roundw
        case rel => exact ⟨k + 1, by omega, by go_num, HN2.out, HP1.out, HO1.out⟩
        case measure => simp [intOf]; omega
    · have hno : ¬ (k : Int) < (n : Int) := by omega
      have HA2 := Lib.hid (show ∀ j, j < n → okAt zs j = true from fun j hj => HA.out j (by omega))
      clear hP hO HA
      have HA := HA2
      clear HA2
      have hok := okL_yes (by rw [← HN.out]; exact HA.out)
      obtain ⟨p0, p1⟩ := HP.out
      have py0 : w.heap.size < wr.heap.size := World.block_lt_of_cell? wr _ p0
      cases hp : okB u v with
      | false =>
        have en := Lib.hid (near_2 (zs := zs) hp)
        have HK := Lib.hid (fun w => Point.impl_ok u v w)
        rw [hp] at HK
        go_wp2_with fail
        refine (HK.out _).mono ?_
        rintro e w1 ⟨rfl, h1⟩
        go_wp2_with fail
        go_ret2
        exact ⟨ret_ii en.out.1.symm en.out.2.symm, HO.out.trans h1⟩
      | true =>
        have HK := Lib.hid (fun w => Point.impl_ok u v w)
        rw [hp] at HK
        have HPK := Lib.hid hp
        have en := Lib.hid (near_4 hok hp (by rw [← HN.out]; omega))
        rw [← HN.out] at en
        go_wp2_with fail
        refine (HK.out _).mono ?_
        rintro e w1 ⟨rfl, h1⟩
        go_wp2_with fail
        go_loopw [8, 29] (fun s i wq => ∃ k m : Nat, k ≤ n ∧ i = .int .i64 k ∧ s = .int .i64 m ∧ m = bestTo zs u v k ∧ m < n ∧ 0 ≤ k ∧ (wq.cell? ⟨w.heap.size, 0, none⟩ = some (.int .i64 u) ∧ wq.cell? ⟨w.heap.size, 1, none⟩ = some (.int .i64 v)) ∧ On w wq) (fun _ i _ => n - (intOf i).toNat)
        case atStart => exact ⟨0, 0, by omega, rfl, rfl, rfl, by omega, by omega, ⟨(h1.cell (by exact py0)).trans p0, (h1.cell (by exact py0)).trans p1⟩, HO.out.trans h1⟩
        case round =>
          obtain ⟨k, m, hk, rfl, rfl, hm, hmn, hk1, ⟨q0, q1⟩, hor⟩ := hrel
          have qy0 : w.heap.size < wr.heap.size := World.block_lt_of_cell? wr _ q0
          have qn := Nat.ne_of_lt qy0
          have hbq := hor.lts _ hb
          have hbn := Nat.ne_of_lt hbq
          by_cases hlt : k < n
          · have hlti : (k : Int) < (n : Int) := by omega
            have hmi : (m : Int) < (n : Int) := by omega
            obtain ⟨d1, hd1⟩ : ∃ d, d = far zs u v k := ⟨_, rfl⟩
            obtain ⟨d2, hd2⟩ : ∃ d, d = far zs u v m := ⟨_, rfl⟩
            have F1 := fun w => impl_far zs u v k w (HA.out k hlt) HPK.out
            have F2 := fun w => impl_far zs u v m w (HA.out m hmn) HPK.out
            rw [← hd1] at F1
            rw [← hd2] at F2
            obtain ⟨c1, c2⟩ := HC.out k hlt
            obtain ⟨c3, c4⟩ := HC.out m hmn
            have c1' := (hor.cell (p := ⟨b, off + k * 2, none⟩) (by exact hb)).trans c1
            have c2' := (hor.cell (p := ⟨b, off + k * 2 + 1, none⟩) (by exact hb)).trans c2
            have c3' := (hor.cell (p := ⟨b, off + m * 2, none⟩) (by exact hb)).trans c3
            have c4' := (hor.cell (p := ⟨b, off + m * 2 + 1, none⟩) (by exact hb)).trans c4
            have BY := best_yes (u := u) (v := v) (k := k) hm
            have BN := best_no (u := u) (v := v) (k := k) hm
            rw [← hd1, ← hd2] at BY BN
            have FY := Lib.hid BY
            have FN := Lib.hid BN
            have G1 := Lib.hid F1
            have G2 := Lib.hid F2
            generalize px zs k = x1 at *
            generalize py zs k = y1 at *
            clear F1 F2 BY BN c1 c2 c3 c4 hm
            by_cases hcmp : d1 < d2
            · go_wp2_with fail
              refine wp_region_onh (by kernel_rfl) (by kernel_rfl) ?_
              repeat (refine rest_step (fun K hK => ?_); go_simp; first | (refine hK _ ?_; clear hK K) | (apply Exists.intro; refine ⟨fun v1 hv1 => ?_, hK _ ?_⟩; (first | with_reducible exact rfl | with_reducible exact ⟨rfl, rfl⟩ | with_reducible exact Calls.on hv1 (G1.out _) | with_reducible exact Calls.on hv1 (G2.out _) | (obtain ⟨hc, hf⟩ := bcell hv1; go_simp; first | with_reducible exact rfl | with_reducible exact ⟨rfl, rfl⟩ | exact rfl | exact ⟨rfl, rfl⟩)); clear hK K))
              refine rest_nil ?_
              intro w5 h5
              have h5t : On wr w5 := by refine On.trans ?_ h5; repeat (first | with_reducible exact On.refl _ | apply On.alloc)
              go_wp2_with fail
              go_roundw
              case rel => exact ⟨k + 1, k, by omega, by go_num, rfl, FY.out hcmp, by omega, by omega, ⟨(h5t.cell (by exact qy0)).trans q0, (h5t.cell (by exact qy0)).trans q1⟩, hor.trans h5t⟩
              case measure => simp [intOf]; omega
            · go_wp2_with fail
              refine wp_region_onh (by kernel_rfl) (by kernel_rfl) ?_
              repeat (refine rest_step (fun K hK => ?_); go_simp; first | (refine hK _ ?_; clear hK K) | (apply Exists.intro; refine ⟨fun v1 hv1 => ?_, hK _ ?_⟩; (first | with_reducible exact rfl | with_reducible exact ⟨rfl, rfl⟩ | with_reducible exact Calls.on hv1 (G1.out _) | with_reducible exact Calls.on hv1 (G2.out _) | (obtain ⟨hc, hf⟩ := bcell hv1; go_simp; first | with_reducible exact rfl | with_reducible exact ⟨rfl, rfl⟩ | exact rfl | exact ⟨rfl, rfl⟩)); clear hK K))
              refine rest_nil ?_
              intro w5 h5
              have h5t : On wr w5 := by refine On.trans ?_ h5; repeat (first | with_reducible exact On.refl _ | apply On.alloc)
              go_wp2_with fail
              go_roundw
              case rel => exact ⟨k + 1, m, by omega, by go_num, rfl, FN.out hcmp, by omega, by omega, ⟨(h5t.cell (by exact qy0)).trans q0, (h5t.cell (by exact qy0)).trans q1⟩, hor.trans h5t⟩
              case measure => simp [intOf]; omega
          · have hkn : k = n := by omega
            have hno2 : ¬ (k : Int) < (n : Int) := by omega
            go_wp2_with fail
            go_ret2
            exact ⟨ret_ii (by first | exact en.out.1.symm | rw [en.out.1, hm, hkn] | rw [en.out.1, hm]) en.out.2.symm, hor⟩
set_option maxRecDepth 100000 in
set_option maxHeartbeats 2000000 in
theorem impl_none (zs : List (Int × Int)) (u v : Int) (cap : Nat) (w : World) (n : Nat) (hn : n = zs.length) (_hn1 : n ≤ 1048576) (a : Option Addr) (h0 : n = 0) :
    Calls Try.prog 58 #[.slice a 0 cap, .agg #[.int .i64 u, .int .i64 v]] w fun e w' => e = .returned (.tuple #[.int .i64 (nearV zs u v), .int .i64 (nearC zs u v)]) ∧ On w w' := by
  have HN := Lib.hid hn
  clear hn
  go_enter Try.func58, Try.ntmps58
  go_wp2_with fail
  refine wp_loop_rounds 1 ?_
  rw [rounds_succ]
  go_wp2_with fail
  obtain ⟨wr, hwr⟩ : ∃ wr, wr = w.alloc (.cells #[.int .i64 u, .int .i64 v] 49) := ⟨_, rfl⟩
  have hok := okL_yes (zs := zs) (by rw [← HN.out, h0]; exact fun j h => by omega)
  cases hp : okB u v with
  | false =>
    have en := Lib.hid (near_2 (zs := zs) hp)
    have HK := Lib.hid (fun w => Point.impl_ok u v w)
    rw [hp] at HK
    go_wp2_with fail
    refine (HK.out _).mono ?_
    rintro e w1 ⟨rfl, h1⟩
    go_wp2_with fail
    go_ret2
    exact ⟨ret_ii en.out.1.symm en.out.2.symm, by refine On.trans ?_ h1; repeat (first | with_reducible exact On.refl _ | apply On.alloc)⟩
  | true =>
    have en := Lib.hid (near_3 hok hp (by rw [← HN.out]; omega))
    have HK := Lib.hid (fun w => Point.impl_ok u v w)
    rw [hp] at HK
    go_wp2_with fail
    refine (HK.out _).mono ?_
    rintro e w1 ⟨rfl, h1⟩
    go_wp2_with fail
    go_ret2
    exact ⟨ret_ii en.out.1.symm en.out.2.symm, by refine On.trans ?_ h1; repeat (first | with_reducible exact On.refl _ | apply On.alloc)⟩
theorem impl_near (vl : Value) (zs : List (Int × Int)) (u v : Int) (w : World) (hn1 : zs.length ≤ 1048576) (h : Pairs w vl zs) :
    Calls Try.prog 58 #[vl, .agg #[.int .i64 u, .int .i64 v]] w fun e w' => e = .returned (.tuple #[.int .i64 (nearV zs u v), .int .i64 (nearC zs u v)]) ∧ On w w' := by
  have h' := h
  obtain ⟨a, cap, rfl, -⟩ := h
  by_cases h0 : 0 < zs.length
  · obtain ⟨b, off, rfl, hb, hc⟩ := cells_of rfl h' h0
    exact impl_some zs u v cap w zs.length rfl hn1 b off hb hc h0
  · have e : zs.length = 0 := by omega
    rw [e]
    exact impl_none zs u v cap w 0 e.symm (by omega) a rfl
end Go.Proofs.Ytknggnchldcghaa.Near
