
/-
  The deferred look at a result, in the program. Condition: at most 1048576 heights.
-/
import Derived.Test.YtmmhekakihimfaaProfOk2
import Derived.Test.YtmmhekakihimfaaPRecOwn
import Derived.Defers
namespace Go.Proofs.Ytmmhekakihimfaa.Nu
open Go.RowKit
open Plain
open Ints (Ints Own)
open Prof (PIn okP of_okP slice_of)

/-- The look finds a valid profile: nothing below is changed. -/
theorem drop_ok (r c : Nat) (d f l : Int) (a : Option Addr) (cap : Nat) (zs : List Int) (u : FrameMode) (w : World) (hn : zs.length ≤ 1048576) (hp : PIn w r d f l (.slice a zs.length cap)) (h : Ints w (.slice a zs.length cap) zs) (hok : okP d f l zs = true) :
    CallsD Try.prog 60 #[.pointer (some ⟨r, 0, none⟩), .pointer (some ⟨c, 0, none⟩)] u w fun e u' w' => u' = u ∧ (e = .returned (.tuple #[]) ∧ On w w') := by
  have hV := fun w' (hb : On w w') => Prof.impl_valid d f l a cap zs w' hn (h.below hb)
  rw [hok] at hV
  have HV := Lib.hid hV
  obtain ⟨p0, p1, p2, p3⟩ := hp
  have hr := World.block_lt_of_cell? w _ p0
  clear h hV
  go_enter_d Try.func60, Try.ntmps60
  go_wp2_with fail
  refine (HV.out _ (by repeat (first | with_reducible exact On.refl _ | apply On.alloc))).mono ?_
  rintro e w1 ⟨rfl, h1⟩
  have HO := Lib.hid (show On w w1 by refine On.trans ?_ h1; repeat (first | with_reducible exact On.refl _ | apply On.alloc))
  clear h1
  go_wp2_with fail
  go_end0
  exact ⟨rfl, HO.out⟩
/-- The look finds none: both results are set anew. -/
theorem drop_no (r c B : Nat) (d f l k : Int) (a : Option Addr) (cap : Nat) (zs : List Int) (u : FrameMode) (w : World) (hn : zs.length ≤ 1048576) (hp : PIn w r d f l (.slice a zs.length cap)) (h : Ints w (.slice a zs.length cap) zs) (hok : okP d f l zs = false)
    (hc : w.cell? ⟨c, 0, none⟩ = some (.int .i64 k)) (fr : ∀ i, w.frozen? ⟨r, i, none⟩ = false) (fc : w.frozen? ⟨c, 0, none⟩ = false) (hrc : r ≠ c) (hB : B ≤ r) (hB2 : B ≤ c) :
    CallsD Try.prog 60 #[.pointer (some ⟨r, 0, none⟩), .pointer (some ⟨c, 0, none⟩)] u w fun e u' w' => u' = u ∧ (e = .returned (.tuple #[]) ∧ PIn w' r 0 0 0 (.slice none 0 0) ∧ w'.cell? ⟨c, 0, none⟩ = some (.int .i64 6) ∧ Below B w w') := by
  have hV := fun w' (hb : On w w') => Prof.impl_valid d f l a cap zs w' hn (h.below hb)
  rw [hok] at hV
  have HV := Lib.hid hV
  obtain ⟨p0, p1, p2, p3⟩ := hp
  have hr := World.block_lt_of_cell? w _ p0
  have hcl := World.block_lt_of_cell? w _ hc
  have g0 := fr 0
  have g1 := fr 1
  have g2 := fr 2
  have g3 := fr 3
  have HPP := Lib.hid (show PIn w r d f l (.slice a zs.length cap) from ⟨p0, p1, p2, p3⟩)
  have HFR := Lib.hid fr
  clear h hV fr
  go_enter_d Try.func60, Try.ntmps60
  go_wp2_with fail
  refine (HV.out _ (by repeat (first | with_reducible exact On.refl _ | apply On.alloc))).mono ?_
  rintro e w1 ⟨rfl, h1⟩
  have HO := Lib.hid (show On w w1 by refine On.trans ?_ h1; repeat (first | with_reducible exact On.refl _ | apply On.alloc))
  obtain ⟨q0, q1, q2, q3⟩ := HPP.out.on HO.out
  have qc := (HO.out.cell (p := ⟨c, 0, none⟩) (by exact hcl)).trans hc
  have k0 := (HO.out.frozen (p := ⟨r, 0, none⟩) (by exact hr)).trans g0
  have k1 := (HO.out.frozen (p := ⟨r, 1, none⟩) (by exact hr)).trans g1
  have k2 := (HO.out.frozen (p := ⟨r, 2, none⟩) (by exact hr)).trans g2
  have k3 := (HO.out.frozen (p := ⟨r, 3, none⟩) (by exact hr)).trans g3
  have kc := (HO.out.frozen (p := ⟨c, 0, none⟩) (by exact hcl)).trans fc
  have hr1 := World.block_lt_of_cell? w1 _ q0
  have hcl1 := World.block_lt_of_cell? w1 _ qc
  clear h1
  go_wp2_with fail
  go_end0
  refine ⟨rfl, ⟨?_, ?_, ?_, ?_⟩, ?_, ?_⟩
  · simp [go_sem, q0]
  · simp [go_sem, q1]
  · simp [go_sem, q2]
  · simp [go_sem, q3]
  · simp [go_sem, qc]
  · exact (((((Below.mono HO.out (by omega)).setCell (p := ⟨r, 0, none⟩) hB _).setCell (p := ⟨r, 1, none⟩) hB _).setCell (p := ⟨r, 2, none⟩) hB _).setCell (p := ⟨r, 3, none⟩) hB _).setCell (p := ⟨c, 0, none⟩) hB2 _
end Go.Proofs.Ytmmhekakihimfaa.Nu
