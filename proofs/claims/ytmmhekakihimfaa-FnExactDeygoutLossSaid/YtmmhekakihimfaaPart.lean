
/-
  What a part of a profile is, and the height of its ends in the program. Conditions: each theorem's own.
-/
import Derived.Test.YtmmhekakihimfaaRaise
namespace Go.Proofs.Ytmmhekakihimfaa.Nu
open Go.RowKit
open Plain
open Ints (Ints Own)
open Prof (PIn okP of_okP slice_of off off_bd)

/-- The height of an end of a part. -/
def endV (f l : Int) (n i : Nat) (z : Int) : Int := if i = 0 then f else if i = n then l else z
def cut (zs : List Int) (i k : Nat) : List Int := (zs.drop i).take (k + 1 - i)
theorem cut_len {zs : List Int} {i k : Nat} (h : k < zs.length) : (cut zs i k).length = k + 1 - i := by unfold cut; rw [List.length_take, List.length_drop]; omega
theorem cut_at {zs : List Int} {i k j : Nat} (h : j < k + 1 - i) : (cut zs i k).getD j 0 = zs.getD (i + j) 0 := by
  unfold cut
  rw [List.getD_eq_getElem?_getD, List.getD_eq_getElem?_getD, List.getElem?_take, if_pos h, List.getElem?_drop]
set_option maxHeartbeats 1000000 in
theorem impl_endAt (n cap b off i : Nat) (d f l z : Int) (w : World) (hb : b < w.heap.size) (hz : w.cell? ⟨b, off + i, none⟩ = some (.int .i64 z)) (i1 : i ≤ n) (n0 : 1 ≤ n) (n1 : n ≤ 64) :
    Calls Try.prog 62 #[.agg #[.int .i64 d, .int .i64 f, .int .i64 l, .slice (some ⟨b, off, none⟩) (n + 1) cap], .int .i64 i] w fun e w' => e = .returned (.int .i64 (endV f l n i z)) ∧ On w w' := by
  have hst := fun w => Prof.steps d f l (some ⟨b, off, none⟩) (n + 1) cap w (by omega)
  rw [show ((((n + 1 : Nat)) : Int) - 1) = n from by omega] at hst
  have HST := Lib.hid hst
  have HZ := Lib.hid hz
  clear hst hz
  by_cases h0 : i = 0
  · have en := Lib.hid (show endV f l n i z = f from if_pos h0)
    have hb0 : ((i : Int) == 0) = true := beq_iff_eq.2 (by omega)
    clear h0
    go_enter Try.func62, Try.ntmps62
    go_wp2_with fail
    go_ret
    exact ⟨ret_int en.out.symm, (by repeat (first | with_reducible exact On.refl _ | apply On.alloc))⟩
  · have hb0 : ((i : Int) == 0) = false := beq_eq_false_iff_ne.2 (by omega)
    by_cases h1 : i = n
    · have en := Lib.hid (show endV f l n i z = l by unfold endV; rw [if_neg h0, if_pos h1])
      have hb1 : ((i : Int) == (n : Int)) = true := beq_iff_eq.2 (by omega)
      clear h0 h1
      go_enter Try.func62, Try.ntmps62
      go_wp2_with fail
      refine (HST.out _).mono ?_
      rintro e w1 ⟨rfl, h1⟩
      have HO := Lib.hid (show On w w1 by refine On.trans ?_ h1; repeat (first | with_reducible exact On.refl _ | apply On.alloc))
      obtain ⟨p0, p1, p2, p3⟩ : PIn w1 w.heap.size d f l (.slice (some ⟨b, off, none⟩) (n + 1) cap) := PIn.on ⟨by simp [go_sem], by simp [go_sem], by simp [go_sem], by simp [go_sem]⟩ h1
      have hg1 := World.block_lt_of_cell? w1 _ p0
      clear h1
      go_wp2_with fail
      go_ret
      exact ⟨ret_int en.out.symm, HO.out⟩
    · have en := Lib.hid (show endV f l n i z = z by unfold endV; rw [if_neg h0, if_neg h1])
      have hb1 : ((i : Int) == (n : Int)) = false := beq_eq_false_iff_ne.2 (by omega)
      have hin : (i : Int) < (n : Int) + 1 := by omega
      have hin2 : i < n + 1 := by omega
      clear h0 h1
      go_enter Try.func62, Try.ntmps62
      go_wp2_with fail
      refine (HST.out _).mono ?_
      rintro e w1 ⟨rfl, h1⟩
      have HO := Lib.hid (show On w w1 by refine On.trans ?_ h1; repeat (first | with_reducible exact On.refl _ | apply On.alloc))
      obtain ⟨p0, p1, p2, p3⟩ : PIn w1 w.heap.size d f l (.slice (some ⟨b, off, none⟩) (n + 1) cap) := PIn.on ⟨by simp [go_sem], by simp [go_sem], by simp [go_sem], by simp [go_sem]⟩ h1
      have hz1 := (HO.out.cell (p := ⟨b, off + i, none⟩) (by exact hb)).trans HZ.out
      have hg1 := World.block_lt_of_cell? w1 _ p0
      have hb2 := World.block_lt_of_cell? w1 _ hz1
      clear h1
      go_wp2_with fail
      go_ret
      exact ⟨ret_int en.out.symm, HO.out⟩

/-- The slice reads as zs, and its room holds them. -/
def FitI (w : World) (v : Value) (zs : List Int) : Prop := Ints w v zs ∧ ∃ a c, v = .slice a zs.length c ∧ zs.length ≤ c
/-- PartProfile. -/
def ptD (d : Int) (zs : List Int) (i k : Int) : Int := off d ((zs.length : Int) - 1) k - off d ((zs.length : Int) - 1) i
def ptE (f l : Int) (zs : List Int) (i : Int) : Int := endV f l (zs.length - 1) i.toNat (zs.getD i.toNat 0)
def ptZ (zs : List Int) (i k : Int) : List Int := cut zs i.toNat k.toNat
def ptB (zs : List Int) (i k : Int) : Bool := inB i 0 ((zs.length : Int) - 1) && inB k (i + 1) ((zs.length : Int) - 1)
def ptC (d f l i k : Int) (zs : List Int) : Int := if okP d f l zs = true then (if ptB zs i k = true then (if okP (ptD d zs i k) (ptE f l zs i) (ptE f l zs k) (ptZ zs i k) = true then 0 else 6) else 2) else 1
theorem pt_1 {d f l i k : Int} {zs : List Int} (h : okP d f l zs = false) : ptC d f l i k zs = 1 := by unfold ptC; rw [h]; rfl
theorem pt_2 {d f l i k : Int} {zs : List Int} (h : okP d f l zs = true) (g : ptB zs i k = false) : ptC d f l i k zs = 2 := by unfold ptC; rw [h, g]; rfl
theorem pt_6 {d f l i k : Int} {zs : List Int} (h : okP d f l zs = true) (g : ptB zs i k = true) (q : okP (ptD d zs i k) (ptE f l zs i) (ptE f l zs k) (ptZ zs i k) = false) : ptC d f l i k zs = 6 := by unfold ptC; rw [h, g, q]; rfl
theorem pt_0 {d f l i k : Int} {zs : List Int} (h : okP d f l zs = true) (g : ptB zs i k = true) (q : okP (ptD d zs i k) (ptE f l zs i) (ptE f l zs k) (ptZ zs i k) = true) : ptC d f l i k zs = 0 := by unfold ptC; rw [h, g, q]; rfl
theorem ptZ_len {C : Int} {zs : List Int} {i k : Int} (h : zs.length ≤ 1048576) : (rZ C (ptZ zs i k)).length ≤ 1048576 := by
  refine rZ_len ?_
  unfold ptZ cut
  rw [List.length_take, List.length_drop]
  omega
end Go.Proofs.Ytmmhekakihimfaa.Nu
