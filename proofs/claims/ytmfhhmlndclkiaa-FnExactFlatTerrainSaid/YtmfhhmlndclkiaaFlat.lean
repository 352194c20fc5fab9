
/-
  A flat terrain, in the model and in the program. No condition.
-/
import Derived.Test.YtmfhhmlndclkiaaTerr1b
import Derived.Test.YtmfhhmlndclkiaaTRecOwn
import Derived.OwnWalk
import Derived.Deep.DeepCutAuto
namespace Go.Proofs.Ytmfhhmlndclkiaa.Flat
open Go.RowKit
open Plain
open Ints (Ints Own)
open Terr (sizeB of_size gB)
open TRec (OwnR In)

theorem row_on {w w' : World} {b n : Nat} {t : TypeId} {f : Nat → Value} (h : w.rowIs b t n f) (ho : On w w') : w'.rowIs b t n f := by
  have hl := h.lt
  unfold World.rowIs at *
  simpa [ho.block b hl] using h
theorem made {n b : Nat} {t : TypeId} {w : World} (hb : b = w.heap.size) : (w.alloc (.cells (madeCells #[.int .i64 0] n) t)).rowIs b t n (fun _ => .int .i64 0) := by
  subst hb
  exact World.rowIs_made w _ n t
/-- The first k heights are h, all others and all classes are 0. -/
def Rows (W : World) (B0 A B n : Nat) (h : Int) (k : Nat) : Prop := W.rowIs A 2 n (fun j => if j < k then .int .i64 h else .int .i64 0) ∧ W.rowIs B 2 n (fun _ => .int .i64 0) ∧ B0 ≤ A ∧ B0 ≤ B ∧ A ≠ B
theorem Rows.start {W : World} {B0 A B n : Nat} {h : Int} (h1 : W.rowIs A 2 n (fun _ => .int .i64 0)) (h2 : W.rowIs B 2 n (fun _ => .int .i64 0)) (hA : B0 ≤ A) (hB : B0 ≤ B) (hn : A ≠ B) : Rows W B0 A B n h 0 :=
  ⟨h1.congr fun i _ => by simp, h2, hA, hB, hn⟩
theorem Rows.step {W : World} {B0 A B n : Nat} {h : Int} {k : Nat} (hr : Rows W B0 A B n h k) : Rows (W.setCell ⟨A, k, none⟩ (.int .i64 h)) B0 A B n h (k + 1) := by
  obtain ⟨h1, h2, hA, hB, hn⟩ := hr
  refine ⟨(h1.set k _).congr fun i _ => ?_, World.rowIs.setOther h2 (by show B ≠ A; exact fun e => hn e.symm) _, hA, hB, hn⟩
  by_cases e : i = k
  · subst e; rw [if_pos rfl, if_pos (by omega)]
  · rw [if_neg e]
    by_cases e2 : i < k
    · rw [if_pos e2, if_pos (by omega)]
    · rw [if_neg e2, if_neg (by omega)]
theorem Rows.set {W : World} {B0 A B n : Nat} {h : Int} {k : Nat} (hr : Rows W B0 A B n h k) {p : Addr} (hp : p.block ≠ A) (hq : p.block ≠ B) (u : Value) : Rows (W.setCell p u) B0 A B n h k :=
  ⟨World.rowIs.setOther hr.1 (fun e => hp e.symm) _, World.rowIs.setOther hr.2.1 (fun e => hq e.symm) _, hr.2.2⟩
theorem Rows.on {W W' : World} {B0 A B n : Nat} {h : Int} {k : Nat} (hr : Rows W B0 A B n h k) (ho : On W W') : Rows W' B0 A B n h k := ⟨row_on hr.1 ho, row_on hr.2.1 ho, hr.2.2⟩
theorem Rows.own {W : World} {B0 A B n : Nat} {h : Int} (hr : Rows W B0 A B n h n) : OwnR B0 W (some ⟨A, 0, none⟩) n n (some ⟨B, 0, none⟩) n n (List.replicate n h) (List.replicate n 0) := by
  obtain ⟨h1, h2, hA, hB, hn⟩ := hr
  have e1 : W.rowIs A 2 (List.replicate n h).length (fun j => .int .i64 ((List.replicate n h).getD j 0)) := by
    rw [List.length_replicate]
    exact h1.congr fun i hi => by rw [if_pos hi]; simp [hi]
  have e2 : W.rowIs B 2 (List.replicate n (0 : Int)).length (fun j => .int .i64 ((List.replicate n (0 : Int)).getD j 0)) := by
    rw [List.length_replicate]
    exact h2.congr fun i hi => by simp [hi]
  have o1 := Own.of_row (B := B0) (cap := n) e1 hA
  have o2 := Own.of_row (B := B0) (cap := n) e2 hB
  rw [List.length_replicate] at o1 o2
  refine ⟨List.length_replicate, List.length_replicate, o1, o2, fun _ _ p q hp hq => ?_⟩
  cases hp
  cases hq
  exact hn
set_option maxRecDepth 100000 in
set_option maxHeartbeats 4000000 in
theorem impl_bare (s x y : Int) (n : Nat) (w : World) (hn : (n : Int) = x * y) (n1 : n ≤ 576) :
    Calls Try.prog 57 #[.agg #[.int .i64 s, .int .i64 x, .int .i64 y]] w fun e w' => ∃ A B, e = .returned (.agg #[.int .i64 s, .int .i64 x, .int .i64 y, .slice (some ⟨A, 0, none⟩) n n, .slice (some ⟨B, 0, none⟩) n n]) ∧ w.heap.size ≤ A ∧ w.heap.size ≤ B ∧ A ≠ B ∧ w'.rowIs A 2 n (fun _ => .int .i64 0) ∧ w'.rowIs B 2 n (fun _ => .int .i64 0) ∧ On w w' := by
  have hm := fun w => run_make_row' (P := Try.prog) 24 2 (.int .i64 0) 8 Try.underlying24 Ints.info rfl .i64 .i64 n (by omega) (by omega) w
  have hxy : x * y = (n : Int) := hn.symm
  have hwn : IntKind.i64.wrap (n : Int) = (n : Int) := IntWalk.i64_in _ (by omega)
  clear hn
  go_enter Try.func57, Try.ntmps57
  go_wp2_with fail
  go_region
  all_goals
    go_wp2_with fail
    first
      | (refine bodyPost_ret (v := .agg #[.int .i64 s, .int .i64 x, .int .i64 y, .slice (some ⟨w.heap.size + 1 + 1, 0, none⟩) n n, .slice (some ⟨w.heap.size + 1 + 1 + 1, 0, none⟩) n n]) ?_ rfl ⟨w.heap.size + 1 + 1, w.heap.size + 1 + 1 + 1, rfl, by omega, by omega, by omega, ?_, ?_, ?_⟩; focus (simp [results, Try.results57, go_sem]; done))
      | (refine bodyPost_ret (v := .agg #[.int .i64 s, .int .i64 x, .int .i64 y, .slice (some ⟨w.heap.size + 1 + 1 + 1, 0, none⟩) n n, .slice (some ⟨w.heap.size + 1 + 1, 0, none⟩) n n]) ?_ rfl ⟨w.heap.size + 1 + 1 + 1, w.heap.size + 1 + 1, rfl, by omega, by omega, by omega, ?_, ?_, ?_⟩; focus (simp [results, Try.results57, go_sem]; done))
    · (repeat (first | (with_reducible refine made ?_; simp; done) | refine World.rowIs.drew ?_ | refine World.rowIs.alloc ?_ _ | refine World.rowIs.setOther ?_ (by (try simp) <;> omega) _))
    · (repeat (first | (with_reducible refine made ?_; simp; done) | refine World.rowIs.drew ?_ | refine World.rowIs.alloc ?_ _ | refine World.rowIs.setOther ?_ (by (try simp) <;> omega) _))
    · (repeat (first | with_reducible exact On.refl _ | apply On.drew | apply On.alloc | refine On.setCell ?_ (by (try simp) <;> omega) _))
set_option maxRecDepth 100000 in
set_option maxHeartbeats 4000000 in
theorem spec_flat (s x y h : Int) (n : Nat) (w : World) (hn : (n : Int) = x * y) (n1 : n ≤ 576) :
    Calls Try.prog 54 #[.int .i64 s, .int .i64 x, .int .i64 y, .int .i64 h] w fun e w' => ∃ A B, e = .returned (.agg #[.int .i64 s, .int .i64 x, .int .i64 y, .slice (some ⟨A, 0, none⟩) n n, .slice (some ⟨B, 0, none⟩) n n]) ∧ Rows w' w.heap.size A B n h n ∧ On w w' := by
  have hm := fun w => run_make_row' (P := Try.prog) 24 2 (.int .i64 0) 8 Try.underlying24 Ints.info rfl .i64 .i64 n (by omega) (by omega) w
  have hxy : x * y = (n : Int) := hn.symm
  have hwn : IntKind.i64.wrap (n : Int) = (n : Int) := IntWalk.i64_in _ (by omega)
  clear hn
  obtain ⟨W, hW⟩ : ∃ W, W = w.alloc (.cells #[.int .i64 0, .int .i64 0, .int .i64 0, .slice none 0 0, .slice none 0 0] 41) := ⟨_, rfl⟩
  have HW := Lib.hid hW
  have HO := Lib.hid (show On w W by rw [hW]; exact (On.refl w).alloc _)
  have hz : W.heap.size = w.heap.size + 1 := by rw [hW]; simp
  have HF := Lib.hid (show ∀ i, W.frozen? ⟨w.heap.size, i, none⟩ = false by rw [hW]; intro i; simp [go_sem])
  have HR := Lib.hid (show In W w.heap.size 0 0 0 (.slice none 0 0) (.slice none 0 0) by rw [hW]; exact ⟨by simp [go_sem], by simp [go_sem], by simp [go_sem], by simp [go_sem], by simp [go_sem]⟩)
  have HZ := Lib.hid hz
  clear hW hz
  go_enter Try.func54, Try.ntmps54
  go_upto_region 1 with fail
  rw [← HW.out]
  go_cut [9] (fun sa wx => ∃ (WX : World) (g A B : Nat), WX = wx ∧ sa = .pointer (some ⟨g, 0, none⟩) ∧ W.heap.size ≤ g ∧ g ≠ A ∧ g ≠ B ∧ In WX g s x y (.slice (some ⟨A, 0, none⟩) n n) (.slice (some ⟨B, 0, none⟩) n n) ∧ Rows WX W.heap.size A B n h 0 ∧ On W WX)
  case first =>
    go_region
    all_goals
      go_wp2_with fail
      go_meet
      refine ⟨_, _, ?_, ?_, rfl, rfl, ?_, ?_, ?_, ⟨?_, ?_, ?_, ?_, ?_⟩, Rows.start ?_ ?_ ?_ ?_ ?_, ?_⟩
      rotate_left 8
      · simp [go_sem]; rfl
      · simp [go_sem]; rfl
      · (repeat (first | (with_reducible refine made ?_; simp; done) | refine World.rowIs.drew ?_ | refine World.rowIs.alloc ?_ _ | refine World.rowIs.setOther ?_ (by (try simp) <;> omega) _))
      · (repeat (first | (with_reducible refine made ?_; simp; done) | refine World.rowIs.drew ?_ | refine World.rowIs.alloc ?_ _ | refine World.rowIs.setOther ?_ (by (try simp) <;> omega) _))
      · (try simp) <;> omega
      · (try simp) <;> omega
      · (try simp) <;> omega
      · (repeat (first | with_reducible exact On.refl _ | apply On.drew | apply On.alloc | refine On.setCell ?_ (by (try simp) <;> omega) _))
      · (try simp) <;> omega
      · (try simp) <;> omega
      · (try simp) <;> omega
      · simp [go_sem]
      · simp [go_sem]
      · simp [go_sem]
  case rest =>
    obtain ⟨WX, g, A, B, hWX, rfl, hg, gA, gB, hin, hrows, hon⟩ := hcut
    rw [← hWX]
    clear hWX hm hxy HW
    have HI := Lib.hid hin
    have HQ := Lib.hid hrows
    have HX := Lib.hid hon
    clear hin hrows hon
    go_wp2_with fail
    go_loopw [10] (fun i wr => ∃ k : Nat, k ≤ n ∧ i = .int .i64 k ∧ In wr g s x y (.slice (some ⟨A, 0, none⟩) n n) (.slice (some ⟨B, 0, none⟩) n n) ∧ Rows wr W.heap.size A B n h k ∧ On W wr) (fun i _ => n - (intOf i).toNat)
    case atStart => exact ⟨0, Nat.zero_le _, rfl, HI.out, HQ.out, HX.out⟩
    case round =>
      obtain ⟨k, hk, rfl, hin, hrows, hon⟩ := hrel
      have HI2 := Lib.hid hin
      have HQ2 := Lib.hid hrows
      have HX2 := Lib.hid hon
      obtain ⟨c0, c1, c2, c3, c4⟩ := hin
      have cb := World.block_lt_of_cell? wr _ c0
      by_cases hlt : k < n
      · have hlti : (k : Int) < (n : Int) := by omega
        have r1 : wr.cell? ⟨A, k, none⟩ = some (.int .i64 0) := by have := hrows.1.cell hlt; rw [if_neg (by omega)] at this; exact this
        have r2 : wr.frozen? ⟨A, k, none⟩ = false := hrows.1.frozen k
        have r3 := hrows.1.lt
        clear hrows hon
        go_wp2_with fail
        go_roundw
        case rel =>
          refine ⟨k + 1, by omega, by go_num, ?_, HQ2.out.step, On.setCell HX2.out (by show _ ≤ A; exact HQ2.out.2.2.1) _⟩
          exact TRec.In.keep HI2.out fun i => World.cell?_setCell_other (h := fun e => gA (by have := congrArg Addr.block e; exact this.symm)) ..
        case measure => simp [intOf]; omega
      · obtain rfl : k = n := by omega
        have qz := HX2.out.size
        have hgw : w.heap.size < wr.heap.size := by have := HZ.out; omega
        have f1 : ∀ i, wr.frozen? ⟨w.heap.size, i, none⟩ = false := fun i => (HX2.out.frozen (by have := HZ.out; show w.heap.size < _; omega)).trans (HF.out i)
        have q0 : w.heap.size ≠ A := by have := HQ2.out.2.2.1; have := HZ.out; omega
        have q1 : w.heap.size ≠ B := by have := HQ2.out.2.2.2.1; have := HZ.out; omega
        have q2 : w.heap.size ≠ g := by have := HZ.out; omega
        obtain ⟨d0, d1, d2, d3, d4⟩ := HR.out.on HX2.out
        clear hrows hon
        go_wp2_with fail
        refine bodyPost_ret (v := .agg #[.int .i64 s, .int .i64 x, .int .i64 y, .slice (some ⟨A, 0, none⟩) k k, .slice (some ⟨B, 0, none⟩) k k]) (by simp [results, Try.results54, go_sem, d0, d1, d2, d3, d4]) rfl ⟨A, B, rfl, ?_, ?_⟩
        · refine ⟨(Rows.set (Rows.set (Rows.set (Rows.set (Rows.set HQ2.out (by show w.heap.size ≠ A; exact q0) (by show w.heap.size ≠ B; exact q1) _) (by show w.heap.size ≠ A; exact q0) (by show w.heap.size ≠ B; exact q1) _) (by show w.heap.size ≠ A; exact q0) (by show w.heap.size ≠ B; exact q1) _) (by show w.heap.size ≠ A; exact q0) (by show w.heap.size ≠ B; exact q1) _) (by show w.heap.size ≠ A; exact q0) (by show w.heap.size ≠ B; exact q1) _).1, (Rows.set (Rows.set (Rows.set (Rows.set (Rows.set HQ2.out (by show w.heap.size ≠ A; exact q0) (by show w.heap.size ≠ B; exact q1) _) (by show w.heap.size ≠ A; exact q0) (by show w.heap.size ≠ B; exact q1) _) (by show w.heap.size ≠ A; exact q0) (by show w.heap.size ≠ B; exact q1) _) (by show w.heap.size ≠ A; exact q0) (by show w.heap.size ≠ B; exact q1) _) (by show w.heap.size ≠ A; exact q0) (by show w.heap.size ≠ B; exact q1) _).2.1, by have := HQ2.out.2.2.1; have := HZ.out; omega, by have := HQ2.out.2.2.2.1; have := HZ.out; omega, HQ2.out.2.2.2.2⟩
        · refine On.setCell ?_ (Nat.le_refl _) _
          refine On.setCell ?_ (Nat.le_refl _) _
          refine On.setCell ?_ (Nat.le_refl _) _
          refine On.setCell ?_ (Nat.le_refl _) _
          refine On.setCell ?_ (Nat.le_refl _) _
          exact On.trans HO.out HX2.out
end Go.Proofs.Ytmfhhmlndclkiaa.Flat
