
/-
  The iterator over the points of a grid, as the program walks it. Conditions: the measures of a valid terrain.
-/
import Derived.RangeFuncNested
import Derived.RangeFuncBound
import Derived.RangeFuncCalls
import Derived.RangeFuncLeaves
import Derived.Shelf.Abstract
import Derived.Shelf.RegionOpen
import Derived.WalkKit
import Derived.OwnWalkIn
import Derived.TacticsInMore
import Derived.LoopNIn
import Derived.LoopIn
import Derived.Stop.RegionWithIn
import Derived.Test.YtmpeogmlnajliaaTerrOkI
namespace Go.Proofs.Ytmpeogmlnajliaa.Hp
open Go.RowKit Go.Shelf
open Plain
attribute [local go_sem] Oper.semAt_some

/-- What a round keeps: all cells but those of the bad blocks. -/
def Kp (Bad : Nat → Prop) (W W' : World) : Prop := W.heap.size ≤ W'.heap.size ∧ ∀ p v, ¬ Bad p.block → W.cell? p = some v → W'.cell? p = some v
theorem Kp.refl (Bad : Nat → Prop) (W : World) : Kp Bad W W := ⟨Nat.le_refl _, fun _ _ _ h => h⟩
theorem Kp.trans {Bad : Nat → Prop} {A B C : World} (h : Kp Bad A B) (k : Kp Bad B C) : Kp Bad A C := ⟨Nat.le_trans h.1 k.1, fun p v hp hc => k.2 p v hp (h.2 p v hp hc)⟩
theorem Kp.of_on {Bad : Nat → Prop} {W W' : World} (h : On W W') : Kp Bad W W' := ⟨h.size, fun p _ _ hc => (h.cell (World.block_lt_of_cell? W p hc)).trans hc⟩
theorem Kp.put {Bad : Nat → Prop} (W : World) (l : Nat) (o o' : Obj) (h : W.heap[l]? = some o) (hc : o.isCells = false) : Kp Bad W (W.putObj l o') :=
  ⟨(grownBy_putObj' W l o').size, fun _ _ _ hv => cell_kept hv (grownBy_putObj' W l o') (fun r e => by cases e; exact ⟨o, h, hc⟩)⟩
theorem Kp.setCell {Bad : Nat → Prop} (W : World) (b k : Nat) (v : Value) (hb : Bad b) : Kp Bad W (W.setCell ⟨b, k, none⟩ v) :=
  ⟨by simp, fun p u hp hc => (World.cell?_setCell_other (h := fun e => hp (by rw [← e]; exact hb)) ..).trans hc⟩
theorem on_grown {W W' : World} (h : On W W') : W.grownBy W' none := ⟨h.os, h.tape, h.output, h.size, fun k hk _ => h.block k hk⟩
theorem abide {β : Type} {B : Nat} {J : β → World → Prop} (hJ : AbidesFrom B J) {s : β} {W W' : World} (h : J s W) (ho : On W W') : J s W' := hJ s W W' none h (on_grown ho) (fun r e => by cases e)
theorem range_succ (k : Nat) : List.range (k + 1) = List.range k ++ [k] := List.range_succ
/-- A number below m. -/
def cl (m k : Nat) : Nat := if k < m then k else 0
theorem cl_lt {m : Nat} (h : 0 < m) (k : Nat) : cl m k < m := by unfold cl; split <;> omega
theorem cl_of {m k : Nat} (h : k < m) : cl m k = k := if_pos h
/-- The place of a grid point. -/
def plX (s x : Int) (k : Nat) : Int := ((k : Int) % x) * s
def plY (s x : Int) (k : Nat) : Int := ((k : Int) / x) * s
theorem pl_bd {s x y : Int} {k m : Nat} (s0 : 1 ≤ s) (s1 : s ≤ 10000) (x0 : 2 ≤ x) (x1 : x ≤ 24) (y0 : 2 ≤ y) (y1 : y ≤ 24) (hm : (m : Int) = x * y) (hk : k < m) :
    (0 ≤ (k : Int) % x ∧ (k : Int) % x ≤ 23) ∧ (0 ≤ (k : Int) / x ∧ (k : Int) / x ≤ 23) ∧ (0 ≤ (k : Int) % x * s ∧ (k : Int) % x * s ≤ 230000) ∧ (0 ≤ (k : Int) / x * s ∧ (k : Int) / x * s ≤ 230000) := by
  have a0 := Int.emod_nonneg (k : Int) (show x ≠ 0 by omega)
  have a1 := Int.emod_lt_of_pos (k : Int) (show 0 < x by omega)
  have b0 : 0 ≤ (k : Int) / x := Int.ediv_nonneg (by omega) (by omega)
  have b1 : (k : Int) / x < y := Int.ediv_lt_of_lt_mul (by omega) (by rw [Int.mul_comm]; omega)
  exact ⟨⟨a0, by omega⟩, ⟨b0, by omega⟩, Terr.prod_s a0 (by omega) s0 s1, Terr.prod_s b0 (by omega) s0 s1⟩
set_option maxRecDepth 100000 in
set_option maxHeartbeats 4000000 in
theorem iter_points (n : Nat) (hn : 2 ≤ n) (Bad : Nat → Prop) (Bg m : Nat) (s x y : Int) (w : World) (s0 : 1 ≤ s) (s1 : s ≤ 10000) (x0 : 2 ≤ x) (x1 : x ≤ 24) (y0 : 2 ≤ y) (y1 : y ≤ 24) (hm : (m : Int) = x * y)
    (h0 : w.cell? ⟨Bg, 0, none⟩ = some (.int .i64 s)) (h1 : w.cell? ⟨Bg, 1, none⟩ = some (.int .i64 x)) (h2 : w.cell? ⟨Bg, 2, none⟩ = some (.int .i64 y)) (nb : ¬ Bad Bg) :
    SeqStopsK Fence.wide n Try.prog 50 #[.pointer (some ⟨Bg, 0, none⟩)] (fun k : Nat => #[Value.int .i64 ((cl m k : Nat) : Int), .agg #[.int .i64 (plX s x (cl m k)), .int .i64 (plY s x (cl m k))]]) (Kp Bad) (fun ys => ys = List.range m) (fun pre => ∃ k, k ≤ m ∧ pre = List.range k) m w := fun loop J Jx W hW hJ hJx hY hs => by
  have HP := Lib.hid (show w.cell? ⟨Bg, 0, none⟩ = some (.int .i64 s) ∧ w.cell? ⟨Bg, 1, none⟩ = some (.int .i64 x) ∧ w.cell? ⟨Bg, 2, none⟩ = some (.int .i64 y) from ⟨h0, h1, h2⟩)
  have HJ := Lib.hid hJ
  have HJx := Lib.hid hJx
  have HY := Lib.hid hY
  have HK0 := Lib.hid (show Kp Bad w W from Kp.of_on hW)
  have HM := Lib.hid hm
  obtain ⟨q0, q1⟩ := Terr.prod_n x0 x1 y0 y1
  have e1 : IntKind.i64.wrap (x * y) = x * y := IntWalk.i64_in _ (by omega)
  have xn : ¬ x = 0 := by omega
  have p0 := HK0.out.2 _ _ nb h0
  have p1 := HK0.out.2 _ _ nb h1
  have p2 := HK0.out.2 _ _ nb h2
  clear hJ hJx hY hW h0 h1 h2
  refine callsIn_of_wp Try.func50 rfl trivial ?_ rfl
  simp only [Try.ntmps50, List.size_toArray, List.length_cons, List.length_nil, Nat.reduceAdd, Nat.reduceSub, Array.replicate_succ, Array.replicate_zero, List.push_toArray, List.append_toArray, List.nil_append, List.cons_append]
  gi_wp2
  clear p0 p1 p2
  gi_loopw [9] (fun i wr => ∃ k : Nat, k ≤ m ∧ i = .int .i64 (k : Int) ∧ J (List.range k) wr ∧ Kp Bad w wr) (fun i _ => m - (intOf i).toNat)
  case atStart => exact ⟨0, Nat.zero_le _, rfl, hs, HK0.out⟩
  case round =>
    obtain ⟨k, hk, rfl, hJs, hkw⟩ := hrel
    have p0 := hkw.2 _ _ nb HP.out.1
    have p1 := hkw.2 _ _ nb HP.out.2.1
    have p2 := hkw.2 _ _ nb HP.out.2.2
    have HKW := Lib.hid hkw
    have HJS := Lib.hid hJs
    clear hkw hJs
    by_cases hlt : k < m
    · have hki : (k : Int) < x * y := by omega
      obtain ⟨⟨a0, a1⟩, ⟨b0, b1⟩, ⟨c0, c1⟩, d0, d1⟩ := pl_bd s0 s1 x0 x1 y0 y1 hm hlt
      have HPL := Lib.hid (fun w' => Terr.impl_place s x y ((k : Int) % x) ((k : Int) / x) w' c0 c1 d0 d1)
      have EX := Lib.hid (show plX s x k = (k : Int) % x * s ∧ plY s x k = (k : Int) / x * s from ⟨rfl, rfl⟩)
      have HCL := Lib.hid (cl_of hlt)
      have tx : (k : Int).tdiv x = (k : Int) / x := Int.tdiv_eq_ediv_of_nonneg (by omega)
      have tm : (k : Int).tmod x = (k : Int) % x := Int.tmod_eq_emod_of_nonneg (by omega)
      have HYK := Lib.hid (fun (w2 : World) h => HY.out (List.range k) k w2 h (by rw [List.length_range]; omega))
      generalize (k : Int) / x = Q at *
      generalize (k : Int) % x = R at *
      have wq : IntKind.i64.wrap Q = Q := IntWalk.i64_in _ (by omega)
      have wr' : IntKind.i64.wrap R = R := IntWalk.i64_in _ (by omega)
      clear hm
      gi_wp2
      gi_region_with (first
        | (refine ⟨trivial, fun _ => (by omega), (callsIn_wide.2 (HPL.out _)).mono ?_⟩; rintro e w2 ⟨rfl, g2⟩; (have gw : On wr w2 := by refine On.trans ?_ g2; repeat (first | with_reducible exact On.refl _ | apply On.drew)); have HK2 := Lib.hid (HKW.out.trans (Kp.of_on gw)); (obtain ⟨fn, tmps, assign, body, hy, hR⟩ := HYK.out w2 (abide HJ.out HJS.out gw)); (try dsimp only at hy); rw [HCL.out, EX.out.1, EX.out.2] at hy; clear g2)
        | (refine ⟨fun _ => (by omega), hR.mono ?_⟩; rintro e W3 h3; obtain ⟨sv, rfl, hsv⟩ : ∃ sv : Bool, e = .returned (.bool sv) ∧ ((sv = true ∧ J (List.range k ++ [k]) W3 ∧ Kp Bad w2 W3) ∨ (sv = false ∧ Jx (List.range k ++ [k]) W3)) := (by rcases h3 with ⟨h, h'⟩ | ⟨h, h'⟩; exact ⟨true, h, .inl ⟨rfl, h'⟩⟩; exact ⟨false, h, .inr ⟨rfl, h'⟩⟩)))
      all_goals
        rcases hsv with ⟨rfl, hJ3, hk3⟩ | ⟨rfl, hJx3⟩
        · gi_wp2
          refine ⟨⟨k + 1, by omega, by go_num, by rw [range_succ]; exact hJ3, HK2.out.trans hk3⟩, by simp [intOf]; omega⟩
        · gi_wp2
          refine bodyPost_ret (results_none rfl _ _ _) rfl ?_
          exact ⟨⟨_, rfl⟩, .inr ⟨_, ⟨k + 1, by omega, (range_succ _).symm⟩, hJx3⟩⟩
    · obtain rfl : k = m := by omega
      have hki : ¬ ((k : Int) < x * y) := by omega
      clear hm
      gi_wp2
      go_end0
      exact ⟨⟨_, rfl⟩, .inl HJS.out⟩
end Go.Proofs.Ytmpeogmlnajliaa.Hp
