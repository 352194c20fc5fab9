
/-
  The iterator over the points between both ends of a profile: its contract, at each property that the program hands it. Conditions: each theorem's own.
-/
import Derived.RangeFuncNested
import Derived.RangeFuncBound
import Derived.RangeFuncCalls
import Derived.RangeFuncLeaves
import Derived.Shelf.Abstract
import Derived.Shelf.RegionOpen
import Derived.WalkKit
import Derived.OwnWalkIn
import Derived.TacticsInMore
import Derived.LoopNIn
import Derived.LoopIn
import Derived.Test.YtmmhekakihimfaaProfAt
namespace Go.Proofs.Ytmmhekakihimfaa.Iter
open Go.RowKit Go.Shelf
open Plain
open Prof (PIn)
attribute [local go_sem] Oper.semAt_some

/-- What a round keeps: all cells but those of the bad blocks. -/
def Kp (Bad : Nat → Prop) (W W' : World) : Prop := W.heap.size ≤ W'.heap.size ∧ ∀ p v, ¬ Bad p.block → W.cell? p = some v → W'.cell? p = some v
theorem Kp.refl (Bad : Nat → Prop) (W : World) : Kp Bad W W := ⟨Nat.le_refl _, fun _ _ _ h => h⟩
theorem Kp.trans {Bad : Nat → Prop} {A B C : World} (h : Kp Bad A B) (k : Kp Bad B C) : Kp Bad A C := ⟨Nat.le_trans h.1 k.1, fun p v hp hc => k.2 p v hp (h.2 p v hp hc)⟩
theorem Kp.of_on {Bad : Nat → Prop} {W W' : World} (h : On W W') : Kp Bad W W' := ⟨h.size, fun p _ _ hc => (h.cell (World.block_lt_of_cell? W p hc)).trans hc⟩
theorem Kp.put {Bad : Nat → Prop} (W : World) (l : Nat) (o o' : Obj) (h : W.heap[l]? = some o) (hc : o.isCells = false) : Kp Bad W (W.putObj l o') :=
  ⟨(grownBy_putObj' W l o').size, fun _ _ _ hv => cell_kept hv (grownBy_putObj' W l o') (fun r e => by cases e; exact ⟨o, h, hc⟩)⟩
theorem Kp.setCell {Bad : Nat → Prop} (W : World) (b : Nat) (v : Value) (hb : Bad b) : Kp Bad W (W.setCell ⟨b, 0, none⟩ v) :=
  ⟨by simp, fun p u hp hc => (World.cell?_setCell_other (h := fun e => hp (by rw [← e]; exact hb)) ..).trans hc⟩
theorem Kp.pin {Bad : Nat → Prop} {W W' : World} {g : Nat} {d f l : Int} {v : Value} (hk : Kp Bad W W') (hg : ¬ Bad g) (h : PIn W g d f l v) : PIn W' g d f l v :=
  ⟨hk.2 _ _ hg h.1, hk.2 _ _ hg h.2.1, hk.2 _ _ hg h.2.2.1, hk.2 _ _ hg h.2.2.2⟩
theorem on_grown {W W' : World} (h : On W W') : W.grownBy W' none := ⟨h.os, h.tape, h.output, h.size, fun k hk _ => h.block k hk⟩
theorem abide {β : Type} {B : Nat} {J : β → World → Prop} (hJ : AbidesFrom B J) {s : β} {W W' : World} (h : J s W) (ho : On W W') : J s W' := hJ s W W' none h (on_grown ho) (fun r e => by cases e)
/-- The first k inner points and their values. -/
def pts (val : Nat → Int) (k : Nat) : List (Nat × Int) := (List.range k).map (fun j => (j + 1, val (j + 1)))
theorem pts_succ (val : Nat → Int) (k : Nat) : pts val (k + 1) = pts val k ++ [(k + 1, val (k + 1))] := by simp [pts, List.range_succ]
theorem pts_length (val : Nat → Int) (k : Nat) : (pts val k).length = k := by simp [pts]
set_option maxRecDepth 100000 in
set_option maxHeartbeats 2000000 in
theorem iter_parameter (n : Nat) (hn : 2 ≤ n) (Bad : Nat → Prop) (Bp Bq m cap : Nat) (d f l : Int) (a : Option Addr) (recv : Value) (val : Nat → Int) (w : World) (h1 : 1 ≤ m) (hm : m ≤ 64) (hp : PIn w Bp d f l (.slice a (m + 1) cap)) (hq : w.cell? ⟨Bq, 0, none⟩ = some (.func (Fn.func 53) #[recv] #[])) (np : ¬ Bad Bp) (nq : ¬ Bad Bq)
    (hv : ∀ (k : Nat) W', 1 ≤ k → k < m → Kp Bad w W' → Calls Try.prog 53 #[recv, .int .i64 k] W' fun e W'' => e = .returned (.int .i64 (val k)) ∧ On W' W'') :
    SeqStopsK Fence.wide n Try.prog 85 #[.pointer (some ⟨Bp, 0, none⟩), .pointer (some ⟨Bq, 0, none⟩)] (fun x : Nat × Int => #[Value.int .i64 (x.1 : Int), Value.int .i64 x.2]) (Kp Bad) (fun ys => ys = pts val (m - 1)) (fun pre => ∃ k, k ≤ m - 1 ∧ pre = pts val k) (m - 1) w := fun loop J Jx W hW hJ hJx hY h0 => by
  have HV := Lib.hid hv
  have HP := Lib.hid hp
  have HQ := Lib.hid hq
  have HJ := Lib.hid hJ
  have HJx := Lib.hid hJx
  have HY := Lib.hid hY
  have HK0 := Lib.hid (show Kp Bad w W from Kp.of_on hW)
  have HST := Lib.hid (fun w => Prof.steps d f l a (m + 1) cap w (by omega))
  clear hv hp hq hJ hJx hY hW
  refine callsIn_of_wp Try.func85 rfl trivial ?_ rfl
  simp only [Try.ntmps85, List.size_toArray, List.length_cons, List.length_nil, Nat.reduceAdd, Nat.reduceSub, Array.replicate_succ, Array.replicate_zero, List.push_toArray, List.append_toArray, List.nil_append, List.cons_append]
  gi_wp2
  gi_loopw [4] (fun i wr => ∃ k : Nat, k ≤ m - 1 ∧ i = .int .i64 ((k : Int) + 1) ∧ J (pts val k) wr ∧ Kp Bad w wr) (fun i _ => m - (intOf i).toNat)
  case atStart => exact ⟨0, Nat.zero_le _, rfl, h0, HK0.out⟩
  case round =>
    obtain ⟨k, hk, rfl, hJs, hkw⟩ := hrel
    obtain ⟨p0, p1, p2, p3⟩ := hkw.pin np HP.out
    have HKW := Lib.hid hkw
    have HJS := Lib.hid hJs
    clear hkw hJs
    by_cases hlt : k < m - 1
    · have hki : (k : Int) + 1 < (m : Int) := by omega
      gi_wp2
      refine ⟨trivial, fun _ => (by omega), (callsIn_wide.2 (HST.out _)).mono ?_⟩
      rintro e w1 ⟨rfl, g1⟩
      have HK1 := Lib.hid (HKW.out.trans (Kp.of_on g1))
      have HJ1 := Lib.hid (abide HJ.out HJS.out g1)
      have c1 := HK1.out.2 _ _ nq HQ.out
      have ek : (((k + 1 : Nat)) : Int) = (k : Int) + 1 := by omega
      have hv1 := HV.out (k + 1) w1 (by omega) (by omega) HK1.out
      rw [ek] at hv1
      have HV1 := Lib.hid hv1
      clear g1 hv1
      gi_wp2
      refine ⟨trivial, fun _ => (by omega), (callsIn_wide.2 HV1.out).mono ?_⟩
      rintro e w2 ⟨rfl, g2⟩
      have HK2 := Lib.hid (HK1.out.trans (Kp.of_on g2))
      obtain ⟨fn, tmps, assign, body, hy, hR⟩ := HY.out (pts val k) (k + 1, val (k + 1)) w2 (abide HJ.out HJ1.out g2) (by rw [pts_length]; omega)
      dsimp only at hy
      rw [ek] at hy
      clear g2
      gi_wp2
      refine ⟨fun _ => (by omega), hR.mono ?_⟩
      rintro e W3 (⟨rfl, hJ3, hk3⟩ | ⟨rfl, hJx3⟩)
      · gi_wp2
        go_roundw
        case rel => exact ⟨k + 1, by omega, by go_num, by rw [pts_succ]; exact hJ3, HK2.out.trans hk3⟩
        case measure => simp [intOf]; omega
      · gi_wp2
        refine bodyPost_ret (results_none rfl _ _ _) rfl ?_
        exact ⟨⟨_, rfl⟩, .inr ⟨_, ⟨k + 1, by omega, (pts_succ _ _).symm⟩, hJx3⟩⟩
    · obtain rfl : k = m - 1 := by omega
      have hki : ¬ (((m - 1 : Nat) : Int) + 1 < (m : Int)) := by omega
      gi_wp2
      refine ⟨trivial, fun _ => (by omega), (callsIn_wide.2 (HST.out _)).mono ?_⟩
      rintro e w1 ⟨rfl, g1⟩
      have HJ1 := Lib.hid (abide HJ.out HJS.out g1)
      clear g1
      gi_wp2
      go_end0
      exact ⟨⟨_, rfl⟩, .inl ⟨_, rfl, HJ1.out⟩⟩
set_option maxRecDepth 100000 in
set_option maxHeartbeats 2000000 in
theorem iter_share (n : Nat) (hn : 2 ≤ n) (Bad : Nat → Prop) (Bp Bq m cap : Nat) (d f l : Int) (a : Option Addr) (recv : Value) (val : Nat → Int) (w : World) (h1 : 1 ≤ m) (hm : m ≤ 64) (hp : PIn w Bp d f l (.slice a (m + 1) cap)) (hq : w.cell? ⟨Bq, 0, none⟩ = some (.func (Fn.func 70) #[recv] #[])) (np : ¬ Bad Bp) (nq : ¬ Bad Bq)
    (hv : ∀ (k : Nat) W', 1 ≤ k → k < m → Kp Bad w W' → Calls Try.prog 70 #[recv, .int .i64 k] W' fun e W'' => e = .returned (.int .i64 (val k)) ∧ On W' W'') :
    SeqStopsK Fence.wide n Try.prog 85 #[.pointer (some ⟨Bp, 0, none⟩), .pointer (some ⟨Bq, 0, none⟩)] (fun x : Nat × Int => #[Value.int .i64 (x.1 : Int), Value.int .i64 x.2]) (Kp Bad) (fun ys => ys = pts val (m - 1)) (fun pre => ∃ k, k ≤ m - 1 ∧ pre = pts val k) (m - 1) w := fun loop J Jx W hW hJ hJx hY h0 => by
  have HV := Lib.hid hv
  have HP := Lib.hid hp
  have HQ := Lib.hid hq
  have HJ := Lib.hid hJ
  have HJx := Lib.hid hJx
  have HY := Lib.hid hY
  have HK0 := Lib.hid (show Kp Bad w W from Kp.of_on hW)
  have HST := Lib.hid (fun w => Prof.steps d f l a (m + 1) cap w (by omega))
  clear hv hp hq hJ hJx hY hW
  refine callsIn_of_wp Try.func85 rfl trivial ?_ rfl
  simp only [Try.ntmps85, List.size_toArray, List.length_cons, List.length_nil, Nat.reduceAdd, Nat.reduceSub, Array.replicate_succ, Array.replicate_zero, List.push_toArray, List.append_toArray, List.nil_append, List.cons_append]
  gi_wp2
  gi_loopw [4] (fun i wr => ∃ k : Nat, k ≤ m - 1 ∧ i = .int .i64 ((k : Int) + 1) ∧ J (pts val k) wr ∧ Kp Bad w wr) (fun i _ => m - (intOf i).toNat)
  case atStart => exact ⟨0, Nat.zero_le _, rfl, h0, HK0.out⟩
  case round =>
    obtain ⟨k, hk, rfl, hJs, hkw⟩ := hrel
    obtain ⟨p0, p1, p2, p3⟩ := hkw.pin np HP.out
    have HKW := Lib.hid hkw
    have HJS := Lib.hid hJs
    clear hkw hJs
    by_cases hlt : k < m - 1
    · have hki : (k : Int) + 1 < (m : Int) := by omega
      gi_wp2
      refine ⟨trivial, fun _ => (by omega), (callsIn_wide.2 (HST.out _)).mono ?_⟩
      rintro e w1 ⟨rfl, g1⟩
      have HK1 := Lib.hid (HKW.out.trans (Kp.of_on g1))
      have HJ1 := Lib.hid (abide HJ.out HJS.out g1)
      have c1 := HK1.out.2 _ _ nq HQ.out
      have ek : (((k + 1 : Nat)) : Int) = (k : Int) + 1 := by omega
      have hv1 := HV.out (k + 1) w1 (by omega) (by omega) HK1.out
      rw [ek] at hv1
      have HV1 := Lib.hid hv1
      clear g1 hv1
      gi_wp2
      refine ⟨trivial, fun _ => (by omega), (callsIn_wide.2 HV1.out).mono ?_⟩
      rintro e w2 ⟨rfl, g2⟩
      have HK2 := Lib.hid (HK1.out.trans (Kp.of_on g2))
      obtain ⟨fn, tmps, assign, body, hy, hR⟩ := HY.out (pts val k) (k + 1, val (k + 1)) w2 (abide HJ.out HJ1.out g2) (by rw [pts_length]; omega)
      dsimp only at hy
      rw [ek] at hy
      clear g2
      gi_wp2
      refine ⟨fun _ => (by omega), hR.mono ?_⟩
      rintro e W3 (⟨rfl, hJ3, hk3⟩ | ⟨rfl, hJx3⟩)
      · gi_wp2
        go_roundw
        case rel => exact ⟨k + 1, by omega, by go_num, by rw [pts_succ]; exact hJ3, HK2.out.trans hk3⟩
        case measure => simp [intOf]; omega
      · gi_wp2
        refine bodyPost_ret (results_none rfl _ _ _) rfl ?_
        exact ⟨⟨_, rfl⟩, .inr ⟨_, ⟨k + 1, by omega, (pts_succ _ _).symm⟩, hJx3⟩⟩
    · obtain rfl : k = m - 1 := by omega
      have hki : ¬ (((m - 1 : Nat) : Int) + 1 < (m : Int)) := by omega
      gi_wp2
      refine ⟨trivial, fun _ => (by omega), (callsIn_wide.2 (HST.out _)).mono ?_⟩
      rintro e w1 ⟨rfl, g1⟩
      have HJ1 := Lib.hid (abide HJ.out HJS.out g1)
      clear g1
      gi_wp2
      go_end0
      exact ⟨⟨_, rfl⟩, .inl ⟨_, rfl, HJ1.out⟩⟩
set_option maxRecDepth 100000 in
set_option maxHeartbeats 2000000 in
theorem iter_slopeTo (n : Nat) (hn : 2 ≤ n) (Bad : Nat → Prop) (Bp Bq m cap : Nat) (d f l : Int) (a : Option Addr) (recv : Value) (val : Nat → Int) (w : World) (h1 : 1 ≤ m) (hm : m ≤ 64) (hp : PIn w Bp d f l (.slice a (m + 1) cap)) (hq : w.cell? ⟨Bq, 0, none⟩ = some (.func (Fn.func 110) #[recv] #[])) (np : ¬ Bad Bp) (nq : ¬ Bad Bq)
    (hv : ∀ (k : Nat) W', 1 ≤ k → k < m → Kp Bad w W' → Calls Try.prog 110 #[recv, .int .i64 k] W' fun e W'' => e = .returned (.int .i64 (val k)) ∧ On W' W'') :
    SeqStopsK Fence.wide n Try.prog 85 #[.pointer (some ⟨Bp, 0, none⟩), .pointer (some ⟨Bq, 0, none⟩)] (fun x : Nat × Int => #[Value.int .i64 (x.1 : Int), Value.int .i64 x.2]) (Kp Bad) (fun ys => ys = pts val (m - 1)) (fun pre => ∃ k, k ≤ m - 1 ∧ pre = pts val k) (m - 1) w := fun loop J Jx W hW hJ hJx hY h0 => by
  have HV := Lib.hid hv
  have HP := Lib.hid hp
  have HQ := Lib.hid hq
  have HJ := Lib.hid hJ
  have HJx := Lib.hid hJx
  have HY := Lib.hid hY
  have HK0 := Lib.hid (show Kp Bad w W from Kp.of_on hW)
  have HST := Lib.hid (fun w => Prof.steps d f l a (m + 1) cap w (by omega))
  clear hv hp hq hJ hJx hY hW
  refine callsIn_of_wp Try.func85 rfl trivial ?_ rfl
  simp only [Try.ntmps85, List.size_toArray, List.length_cons, List.length_nil, Nat.reduceAdd, Nat.reduceSub, Array.replicate_succ, Array.replicate_zero, List.push_toArray, List.append_toArray, List.nil_append, List.cons_append]
  gi_wp2
  gi_loopw [4] (fun i wr => ∃ k : Nat, k ≤ m - 1 ∧ i = .int .i64 ((k : Int) + 1) ∧ J (pts val k) wr ∧ Kp Bad w wr) (fun i _ => m - (intOf i).toNat)
  case atStart => exact ⟨0, Nat.zero_le _, rfl, h0, HK0.out⟩
  case round =>
    obtain ⟨k, hk, rfl, hJs, hkw⟩ := hrel
    obtain ⟨p0, p1, p2, p3⟩ := hkw.pin np HP.out
    have HKW := Lib.hid hkw
    have HJS := Lib.hid hJs
    clear hkw hJs
    by_cases hlt : k < m - 1
    · have hki : (k : Int) + 1 < (m : Int) := by omega
      gi_wp2
      refine ⟨trivial, fun _ => (by omega), (callsIn_wide.2 (HST.out _)).mono ?_⟩
      rintro e w1 ⟨rfl, g1⟩
      have HK1 := Lib.hid (HKW.out.trans (Kp.of_on g1))
      have HJ1 := Lib.hid (abide HJ.out HJS.out g1)
      have c1 := HK1.out.2 _ _ nq HQ.out
      have ek : (((k + 1 : Nat)) : Int) = (k : Int) + 1 := by omega
      have hv1 := HV.out (k + 1) w1 (by omega) (by omega) HK1.out
      rw [ek] at hv1
      have HV1 := Lib.hid hv1
      clear g1 hv1
      gi_wp2
      refine ⟨trivial, fun _ => (by omega), (callsIn_wide.2 HV1.out).mono ?_⟩
      rintro e w2 ⟨rfl, g2⟩
      have HK2 := Lib.hid (HK1.out.trans (Kp.of_on g2))
      obtain ⟨fn, tmps, assign, body, hy, hR⟩ := HY.out (pts val k) (k + 1, val (k + 1)) w2 (abide HJ.out HJ1.out g2) (by rw [pts_length]; omega)
      dsimp only at hy
      rw [ek] at hy
      clear g2
      gi_wp2
      refine ⟨fun _ => (by omega), hR.mono ?_⟩
      rintro e W3 (⟨rfl, hJ3, hk3⟩ | ⟨rfl, hJx3⟩)
      · gi_wp2
        go_roundw
        case rel => exact ⟨k + 1, by omega, by go_num, by rw [pts_succ]; exact hJ3, HK2.out.trans hk3⟩
        case measure => simp [intOf]; omega
      · gi_wp2
        refine bodyPost_ret (results_none rfl _ _ _) rfl ?_
        exact ⟨⟨_, rfl⟩, .inr ⟨_, ⟨k + 1, by omega, (pts_succ _ _).symm⟩, hJx3⟩⟩
    · obtain rfl : k = m - 1 := by omega
      have hki : ¬ (((m - 1 : Nat) : Int) + 1 < (m : Int)) := by omega
      gi_wp2
      refine ⟨trivial, fun _ => (by omega), (callsIn_wide.2 (HST.out _)).mono ?_⟩
      rintro e w1 ⟨rfl, g1⟩
      have HJ1 := Lib.hid (abide HJ.out HJS.out g1)
      clear g1
      gi_wp2
      go_end0
      exact ⟨⟨_, rfl⟩, .inl ⟨_, rfl, HJ1.out⟩⟩
end Go.Proofs.Ytmmhekakihimfaa.Iter
