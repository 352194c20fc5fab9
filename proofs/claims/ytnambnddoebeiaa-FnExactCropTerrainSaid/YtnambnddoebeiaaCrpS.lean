
/-
  A part of a terrain, in the model. Condition: at most 1048576 heights and classes.
-/
import Derived.Test.YtnambnddoebeiaaCrp0
import Derived.Test.YtnambnddoebeiaaClone
import Derived.Deep.AppendLies
import Derived.Deep.OwnRows
import Derived.Deep.RegionLaw
namespace Go.Proofs.Ytnambnddoebeiaa.Crp
open Go.RowKit
open Plain Terr
open Ints (Ints Own)
open Ant (listOf listOf_len listOf_at listOf_succ)
theorem own_ints {w : World} {B e n : Nat} {V : Value} {zs : List Int} (hz : zs.length = n) (h : w.ownsRow B e 1 V n (Clone.intCells zs)) : ∃ a c, V = .slice a n c ∧ Own B w (.slice a n c) zs := by
  subst hz
  exact Clone.own_of_row h
/-- Two rows of a struct's block, side by side. -/
structure Two (B g : Nat) (s A C : Int) (VH VC : Value) (n m : Nat) (zs cs : List Int) (W w : World) : Prop where
  st : TRec.In w g s A C VH VC
  rh : w.ownsRow B 2 1 VH n (Clone.intCells zs)
  rc : w.ownsRow B 2 1 VC m (Clone.intCells cs)
  ap : VH.ownBlock = none ∨ VH.ownBlock ≠ VC.ownBlock
  fz : ∀ i, w.frozen? ⟨g, i, none⟩ = false
  sz : B ≤ w.heap.size
  on : On W w
theorem own_on {w w' : World} {B e size n : Nat} {v : Value} {xs : List Value} (h : w.ownsRow B e size v n xs) (k : On w w') : w'.ownsRow B e size v n xs := by
  refine h.kept (row := none) ⟨k.os, k.tape, k.output, k.size, fun i hi _ => k.block i hi⟩ ?_
  cases v.ownBlock with
  | none => exact .inl rfl
  | some _ => exact .inr (by simp)
theorem cells_snoc (zs : List Int) (z : Int) : Clone.intCells zs ++ [Value.int .i64 z] = Clone.intCells (zs ++ [z]) := by unfold Clone.intCells; rw [List.map_append]; rfl
section
variable {B g : Nat} {s A C : Int} {VH VC : Value} {n m : Nat} {zs cs : List Int} {W w w0 w1 : World} {gg cp : Nat} {z : Int}
/-- What stands in the struct's block, and in the blocks below, behind an append to a row. -/
theorem Two.far (hT : Two B g s A C VH VC n m zs cs W w) (hg : g < B) (ho : On w w0) {V : Value} {k : Nat} {xs : List Value} (hV : w.ownsRow B 2 1 V k xs) (hgrow : w0.grownBy w1 V.ownBlock) :
    (∀ i, w1.cell? ⟨g, i, none⟩ = w.cell? ⟨g, i, none⟩) ∧ (∀ i, w1.frozen? ⟨g, i, none⟩ = false) ∧ B ≤ w1.heap.size ∧ w.heap.size ≤ w1.heap.size := by
  have hvg : V.ownBlock ≠ some g := fun e => by have := (hV.lt g e).1; omega
  have hgw : g < w.heap.size := Nat.lt_of_lt_of_le hg hT.sz
  have hgw0 : g < w0.heap.size := Nat.lt_of_lt_of_le hgw ho.size
  refine ⟨fun i => ?_, fun i => ?_, Nat.le_trans hT.sz (Nat.le_trans ho.size hgrow.size), Nat.le_trans ho.size hgrow.size⟩
  · exact (hgrow.cell_far ⟨g, i, none⟩ (by exact hgw0) (Ne.symm hvg)).trans (ho.cell (p := ⟨g, i, none⟩) (by exact hgw))
  · exact ((hgrow.frozen_far ⟨g, i, none⟩ (by exact hgw0) (Ne.symm hvg)).trans (ho.frozen (p := ⟨g, i, none⟩) (by exact hgw))).trans (hT.fz i)
theorem Two.put3 (hT : Two B g s A C VH VC n m zs cs W w) (hg : g < B) (hWg : W.heap.size ≤ g) (_hWB : W.heap.size ≤ B) (ho : On w w0)
    (hown : w1.ownsRow B 2 1 (.slice (some ⟨gg, 0, none⟩) (n + 1) cp) (n + 1) (Clone.intCells zs ++ [Value.int .i64 z])) (hgrow : w0.grownBy w1 VH.ownBlock) (hat : VH.ownBlock = some gg ∨ gg = w.heap.size + 1) :
    Two B g s A C (.slice (some ⟨gg, 0, none⟩) (n + 1) cp) VC (n + 1) m (zs ++ [z]) cs W (w1.setCell ⟨g, 3, none⟩ (.slice (some ⟨gg, 0, none⟩) (n + 1) cp)) := by
  obtain ⟨f1, f2, f3, f4⟩ := hT.far hg ho hT.rh hgrow
  obtain ⟨c0, c1, c2, c3, c4⟩ := hT.st.keep f1
  have hOn : On W w1 := Below.grown (On.trans hT.on ho) hgrow (by have := hT.on.size; have := ho.size; omega) (fun r hr => by have := (hT.rh.lt r hr).1; omega)
  have hv : (Value.slice (some ⟨gg, 0, none⟩) (n + 1) cp).ownBlock = some gg := rfl
  refine ⟨⟨?_, ?_, ?_, ?_, ?_⟩, ?_, ?_, ?_, ?_, ?_, ?_⟩
  · exact (World.cell?_setCell_other (h := fun hc => by injection hc with _ h2 _; omega) ..).trans c0
  · exact (World.cell?_setCell_other (h := fun hc => by injection hc with _ h2 _; omega) ..).trans c1
  · exact (World.cell?_setCell_other (h := fun hc => by injection hc with _ h2 _; omega) ..).trans c2
  · exact World.cell?_setCell_same (h := c3) ..
  · exact (World.cell?_setCell_other (h := fun hc => by injection hc with _ h2 _; omega) ..).trans c4
  · rw [cells_snoc] at hown; exact ownsRow_setCell_below hown (by exact hg) _
  · refine ownsRow_setCell_below ((own_on hT.rc ho).kept hgrow ?_) (by exact hg) _
    rcases hT.ap with e | e
    · rw [e]
      cases VC.ownBlock with
      | none => exact .inl rfl
      | some _ => exact .inr (by simp)
    · exact .inr (Ne.symm e)
  · refine .inr ?_
    rw [hv]
    rcases hat with e | e
    · rcases hT.ap with e2 | e2
      · rw [e] at e2; cases e2
      · rw [← e]; exact e2
    · intro e2
      have := (hT.rc.lt gg e2.symm).2
      omega
  · intro i; rw [World.frozen?_setCell]; exact f2 i
  · simpa using f3
  · exact On.setCell hOn (by exact hWg) _
theorem Two.put4 (hT : Two B g s A C VH VC n m zs cs W w) (hg : g < B) (hWg : W.heap.size ≤ g) (_hWB : W.heap.size ≤ B) (ho : On w w0)
    (hown : w1.ownsRow B 2 1 (.slice (some ⟨gg, 0, none⟩) (m + 1) cp) (m + 1) (Clone.intCells cs ++ [Value.int .i64 z])) (hgrow : w0.grownBy w1 VC.ownBlock) (hat : VC.ownBlock = some gg ∨ gg = w.heap.size + 1) :
    Two B g s A C VH (.slice (some ⟨gg, 0, none⟩) (m + 1) cp) n (m + 1) zs (cs ++ [z]) W (w1.setCell ⟨g, 4, none⟩ (.slice (some ⟨gg, 0, none⟩) (m + 1) cp)) := by
  obtain ⟨f1, f2, f3, f4⟩ := hT.far hg ho hT.rc hgrow
  obtain ⟨c0, c1, c2, c3, c4⟩ := hT.st.keep f1
  have hOn : On W w1 := Below.grown (On.trans hT.on ho) hgrow (by have := hT.on.size; have := ho.size; omega) (fun r hr => by have := (hT.rc.lt r hr).1; omega)
  have hv : (Value.slice (some ⟨gg, 0, none⟩) (m + 1) cp).ownBlock = some gg := rfl
  refine ⟨⟨?_, ?_, ?_, ?_, ?_⟩, ?_, ?_, ?_, ?_, ?_, ?_⟩
  · exact (World.cell?_setCell_other (h := fun hc => by injection hc with _ h2 _; omega) ..).trans c0
  · exact (World.cell?_setCell_other (h := fun hc => by injection hc with _ h2 _; omega) ..).trans c1
  · exact (World.cell?_setCell_other (h := fun hc => by injection hc with _ h2 _; omega) ..).trans c2
  · exact (World.cell?_setCell_other (h := fun hc => by injection hc with _ h2 _; omega) ..).trans c3
  · exact World.cell?_setCell_same (h := c4) ..
  · refine ownsRow_setCell_below ((own_on hT.rh ho).kept hgrow ?_) (by exact hg) _
    rcases hT.ap with e | e
    · exact .inl e
    · exact .inr e
  · rw [cells_snoc] at hown; exact ownsRow_setCell_below hown (by exact hg) _
  · rw [hv]
    cases hH : VH.ownBlock with
    | none => exact .inl rfl
    | some b =>
      refine .inr (fun e2 => ?_)
      injection e2 with e2
      subst e2
      rcases hat with e | e
      · rcases hT.ap with e3 | e3
        · rw [hH] at e3; cases e3
        · exact e3 (hH.trans e.symm)
      · have := (hT.rh.lt b hH).2
        omega
  · intro i; rw [World.frozen?_setCell]; exact f2 i
  · simpa using f3
  · exact On.setCell hOn (by exact hWg) _
end
set_option maxRecDepth 1000000 in
set_option maxHeartbeats 16000000 in
theorem spec_Crop (s x y px py a b : Int) (v3 v4 : Value) (z3 z4 : List Int) (w : World) (q3 : z3.length ≤ 1048576) (q4 : z4.length ≤ 1048576) (h3 : Ints w v3 z3) (h4 : Ints w v4 z4) :
    Calls Try.prog 8 #[.agg #[.int .i64 s, .int .i64 x, .int .i64 y, v3, v4], .int .i64 px, .int .i64 py, .int .i64 a, .int .i64 b] w fun e w' => ∃ a3 c3 a4 c4, e = .returned (.tuple #[.agg #[.int .i64 (crI (crC s x y px py a b z3 z4) s), .int .i64 (crI (crC s x y px py a b z3 z4) a), .int .i64 (crI (crC s x y px py a b z3 z4) b), .slice a3 (crL (crC s x y px py a b z3 z4) (crop z3 x px py a b)).length c3, .slice a4 (crL (crC s x y px py a b z3 z4) (crop z4 x px py a b)).length c4], .int .i64 (crC s x y px py a b z3 z4)]) ∧ Ints w' (.slice a3 (crL (crC s x y px py a b z3 z4) (crop z3 x px py a b)).length c3) (crL (crC s x y px py a b z3 z4) (crop z3 x px py a b)) ∧ Ints w' (.slice a4 (crL (crC s x y px py a b z3 z4) (crop z4 x px py a b)).length c4) (crL (crC s x y px py a b z3 z4) (crop z4 x px py a b)) ∧ On w w' := by
  have h3' := h3
  have h4' := h4
  obtain ⟨u3, cap3, rfl, -⟩ := h3
  obtain ⟨u4, cap4, rfl, -⟩ := h4
  have HV := Lib.hid (fun w' (hb : On w w') hp => spec_okT w.heap.size z3.length cap3 z4.length cap4 s x y u3 u4 z3 z4 w' rfl rfl q3 q4 hp (h3'.below hb) (h4'.below hb))
  cases ho : okT s x y z3 z4 with
  | false =>
    rw [ho] at HV
    rw [cr_1 ho]
    clear ho h3' h4'
    go_enter Try.func8, Try.ntmps8
    go_wp2_with fail
    refine (HV.out _ (by repeat (first | with_reducible exact On.refl _ | with_reducible exact Below.refl _ _ | apply On.alloc)) ⟨by simp [go_sem], by simp [go_sem], by simp [go_sem], by simp [go_sem], by simp [go_sem]⟩).mono ?_
    rintro e w1 ⟨rfl, k9⟩
    have O1 := Lib.hid (show On w w1 by refine On.trans ?_ k9; repeat (first | with_reducible exact On.refl _ | apply On.alloc))
    have KT := Lib.hid (show TRec.In w1 w.heap.size s x y (.slice u3 z3.length cap3) (.slice u4 z4.length cap4) from TRec.In.on ⟨by simp [go_sem], by simp [go_sem], by simp [go_sem], by simp [go_sem], by simp [go_sem]⟩ k9)
    have KR := Lib.hid (show TRec.In w1 (w.heap.size + 1) 0 0 0 (.slice none 0 0) (.slice none 0 0) from TRec.In.on ⟨by simp [go_sem], by simp [go_sem], by simp [go_sem], by simp [go_sem], by simp [go_sem]⟩ k9)
    have KF := Lib.hid (show ∀ i, w1.frozen? ⟨w.heap.size + 1, i, none⟩ = false from fun i => (k9.frozen (by simp)).trans (by simp [go_sem]))
    clear k9
    obtain ⟨r0, r1, r2, r3, r4⟩ := KR.out
    have ry := KR.out.blk
    have g0 := KF.out 0
    have g1 := KF.out 1
    have g2 := KF.out 2
    have g3 := KF.out 3
    have g4 := KF.out 4
    go_wp2_with fail
    refine bodyPost_ret (v := .tuple #[.agg #[.int .i64 0, .int .i64 0, .int .i64 0, .slice none 0 0, .slice none 0 0], .int .i64 1]) (by simp [results, Try.results8, go_sem, r0, r1, r2, r3, r4]) rfl ⟨_, _, _, _, rfl, (Own.empty 0 _ _ _).ints, (Own.empty 0 _ _ _).ints, ?_⟩
    iterate 5 refine On.setCell ?_ (by show w.heap.size ≤ w.heap.size + 1; omega) _
    exact O1.out
  | true =>
    rw [ho] at HV
    have J1 := Lib.hid (fun w => Arith.l00In a 2 24 w)
    have J2 := Lib.hid (fun w => Arith.l00In b 2 24 w)
    have J3 := Lib.hid (fun w => Arith.l00In px 0 (x - a) w)
    have J4 := Lib.hid (fun w => Arith.l00In py 0 (y - b) w)
    obtain ⟨i1, i2, i3, -⟩ := of_okT ho
    obtain ⟨y1, y2, y3, -, -⟩ := of_size i1
    cases k1 : inB a 2 24 with
    | false =>
      rw [cr_2 ho (cb_1 k1)]
      rw [k1] at J1
      clear ho h3' h4' i1 i2 i3 y1 y2 y3 k1
      go_enter Try.func8, Try.ntmps8
      go_wp2_with fail
      refine (HV.out _ (by repeat (first | with_reducible exact On.refl _ | with_reducible exact Below.refl _ _ | apply On.alloc)) ⟨by simp [go_sem], by simp [go_sem], by simp [go_sem], by simp [go_sem], by simp [go_sem]⟩).mono ?_
      rintro e w1 ⟨rfl, k9⟩
      have O1 := Lib.hid (show On w w1 by refine On.trans ?_ k9; repeat (first | with_reducible exact On.refl _ | apply On.alloc))
      have KT := Lib.hid (show TRec.In w1 w.heap.size s x y (.slice u3 z3.length cap3) (.slice u4 z4.length cap4) from TRec.In.on ⟨by simp [go_sem], by simp [go_sem], by simp [go_sem], by simp [go_sem], by simp [go_sem]⟩ k9)
      have KR := Lib.hid (show TRec.In w1 (w.heap.size + 1) 0 0 0 (.slice none 0 0) (.slice none 0 0) from TRec.In.on ⟨by simp [go_sem], by simp [go_sem], by simp [go_sem], by simp [go_sem], by simp [go_sem]⟩ k9)
      have KF := Lib.hid (show ∀ i, w1.frozen? ⟨w.heap.size + 1, i, none⟩ = false from fun i => (k9.frozen (by simp)).trans (by simp [go_sem]))
      clear k9
      obtain ⟨t0, t1, t2, t3, t4⟩ := KT.out
      have ty := KT.out.blk
      go_wp2_with fail
      refine (J1.out _).mono ?_
      rintro e w' ⟨rfl, rfl⟩
      obtain ⟨r0, r1, r2, r3, r4⟩ := KR.out
      have ry := KR.out.blk
      have g0 := KF.out 0
      have g1 := KF.out 1
      have g2 := KF.out 2
      have g3 := KF.out 3
      have g4 := KF.out 4
      go_wp2_with fail
      refine bodyPost_ret (v := .tuple #[.agg #[.int .i64 0, .int .i64 0, .int .i64 0, .slice none 0 0, .slice none 0 0], .int .i64 2]) (by simp [results, Try.results8, go_sem, r0, r1, r2, r3, r4]) rfl ⟨_, _, _, _, rfl, (Own.empty 0 _ _ _).ints, (Own.empty 0 _ _ _).ints, ?_⟩
      iterate 5 refine On.setCell ?_ (by show w.heap.size ≤ w.heap.size + 1; omega) _
      exact O1.out
    | true =>
      rw [k1] at J1
      cases k2 : inB b 2 24 with
      | false =>
        rw [cr_2 ho (cb_2 k2)]
        rw [k2] at J2
        clear ho h3' h4' i1 i2 i3 y1 y2 y3 k1 k2
        go_enter Try.func8, Try.ntmps8
        go_wp2_with fail
        refine (HV.out _ (by repeat (first | with_reducible exact On.refl _ | with_reducible exact Below.refl _ _ | apply On.alloc)) ⟨by simp [go_sem], by simp [go_sem], by simp [go_sem], by simp [go_sem], by simp [go_sem]⟩).mono ?_
        rintro e w1 ⟨rfl, k9⟩
        have O1 := Lib.hid (show On w w1 by refine On.trans ?_ k9; repeat (first | with_reducible exact On.refl _ | apply On.alloc))
        have KT := Lib.hid (show TRec.In w1 w.heap.size s x y (.slice u3 z3.length cap3) (.slice u4 z4.length cap4) from TRec.In.on ⟨by simp [go_sem], by simp [go_sem], by simp [go_sem], by simp [go_sem], by simp [go_sem]⟩ k9)
        have KR := Lib.hid (show TRec.In w1 (w.heap.size + 1) 0 0 0 (.slice none 0 0) (.slice none 0 0) from TRec.In.on ⟨by simp [go_sem], by simp [go_sem], by simp [go_sem], by simp [go_sem], by simp [go_sem]⟩ k9)
        have KF := Lib.hid (show ∀ i, w1.frozen? ⟨w.heap.size + 1, i, none⟩ = false from fun i => (k9.frozen (by simp)).trans (by simp [go_sem]))
        clear k9
        obtain ⟨t0, t1, t2, t3, t4⟩ := KT.out
        have ty := KT.out.blk
        go_wp2_with fail
        refine (J1.out _).mono ?_
        rintro e w' ⟨rfl, rfl⟩
        go_wp2_with fail
        refine (J2.out _).mono ?_
        rintro e w' ⟨rfl, rfl⟩
        obtain ⟨r0, r1, r2, r3, r4⟩ := KR.out
        have ry := KR.out.blk
        have g0 := KF.out 0
        have g1 := KF.out 1
        have g2 := KF.out 2
        have g3 := KF.out 3
        have g4 := KF.out 4
        go_wp2_with fail
        refine bodyPost_ret (v := .tuple #[.agg #[.int .i64 0, .int .i64 0, .int .i64 0, .slice none 0 0, .slice none 0 0], .int .i64 2]) (by simp [results, Try.results8, go_sem, r0, r1, r2, r3, r4]) rfl ⟨_, _, _, _, rfl, (Own.empty 0 _ _ _).ints, (Own.empty 0 _ _ _).ints, ?_⟩
        iterate 5 refine On.setCell ?_ (by show w.heap.size ≤ w.heap.size + 1; omega) _
        exact O1.out
      | true =>
        rw [k2] at J2
        have wx : IntKind.i64.wrap (x - a) = x - a := IntWalk.i64_in _ (by have := of_inB k1; omega)
        have wy : IntKind.i64.wrap (y - b) = y - b := IntWalk.i64_in _ (by have := of_inB k2; omega)
        cases k3 : inB px 0 (x - a) with
        | false =>
          rw [cr_2 ho (cb_3 k3)]
          rw [k3] at J3
          clear ho h3' h4' i1 i2 i3 y1 y2 y3 k1 k2 k3
          go_enter Try.func8, Try.ntmps8
          go_wp2_with fail
          refine (HV.out _ (by repeat (first | with_reducible exact On.refl _ | with_reducible exact Below.refl _ _ | apply On.alloc)) ⟨by simp [go_sem], by simp [go_sem], by simp [go_sem], by simp [go_sem], by simp [go_sem]⟩).mono ?_
          rintro e w1 ⟨rfl, k9⟩
          have O1 := Lib.hid (show On w w1 by refine On.trans ?_ k9; repeat (first | with_reducible exact On.refl _ | apply On.alloc))
          have KT := Lib.hid (show TRec.In w1 w.heap.size s x y (.slice u3 z3.length cap3) (.slice u4 z4.length cap4) from TRec.In.on ⟨by simp [go_sem], by simp [go_sem], by simp [go_sem], by simp [go_sem], by simp [go_sem]⟩ k9)
          have KR := Lib.hid (show TRec.In w1 (w.heap.size + 1) 0 0 0 (.slice none 0 0) (.slice none 0 0) from TRec.In.on ⟨by simp [go_sem], by simp [go_sem], by simp [go_sem], by simp [go_sem], by simp [go_sem]⟩ k9)
          have KF := Lib.hid (show ∀ i, w1.frozen? ⟨w.heap.size + 1, i, none⟩ = false from fun i => (k9.frozen (by simp)).trans (by simp [go_sem]))
          clear k9
          obtain ⟨t0, t1, t2, t3, t4⟩ := KT.out
          have ty := KT.out.blk
          go_wp2_with fail
          refine (J1.out _).mono ?_
          rintro e w' ⟨rfl, rfl⟩
          go_wp2_with fail
          refine (J2.out _).mono ?_
          rintro e w' ⟨rfl, rfl⟩
          go_wp2_with fail
          refine (J3.out _).mono ?_
          rintro e w' ⟨rfl, rfl⟩
          obtain ⟨r0, r1, r2, r3, r4⟩ := KR.out
          have ry := KR.out.blk
          have g0 := KF.out 0
          have g1 := KF.out 1
          have g2 := KF.out 2
          have g3 := KF.out 3
          have g4 := KF.out 4
          go_wp2_with fail
          refine bodyPost_ret (v := .tuple #[.agg #[.int .i64 0, .int .i64 0, .int .i64 0, .slice none 0 0, .slice none 0 0], .int .i64 2]) (by simp [results, Try.results8, go_sem, r0, r1, r2, r3, r4]) rfl ⟨_, _, _, _, rfl, (Own.empty 0 _ _ _).ints, (Own.empty 0 _ _ _).ints, ?_⟩
          iterate 5 refine On.setCell ?_ (by show w.heap.size ≤ w.heap.size + 1; omega) _
          exact O1.out
        | true =>
          rw [k3] at J3
          cases k4 : inB py 0 (y - b) with
          | false =>
            rw [cr_2 ho (cb_4 k4)]
            rw [k4] at J4
            clear ho h3' h4' i1 i2 i3 y1 y2 y3 k1 k2 k3 k4
            go_enter Try.func8, Try.ntmps8
            go_wp2_with fail
            refine (HV.out _ (by repeat (first | with_reducible exact On.refl _ | with_reducible exact Below.refl _ _ | apply On.alloc)) ⟨by simp [go_sem], by simp [go_sem], by simp [go_sem], by simp [go_sem], by simp [go_sem]⟩).mono ?_
            rintro e w1 ⟨rfl, k9⟩
            have O1 := Lib.hid (show On w w1 by refine On.trans ?_ k9; repeat (first | with_reducible exact On.refl _ | apply On.alloc))
            have KT := Lib.hid (show TRec.In w1 w.heap.size s x y (.slice u3 z3.length cap3) (.slice u4 z4.length cap4) from TRec.In.on ⟨by simp [go_sem], by simp [go_sem], by simp [go_sem], by simp [go_sem], by simp [go_sem]⟩ k9)
            have KR := Lib.hid (show TRec.In w1 (w.heap.size + 1) 0 0 0 (.slice none 0 0) (.slice none 0 0) from TRec.In.on ⟨by simp [go_sem], by simp [go_sem], by simp [go_sem], by simp [go_sem], by simp [go_sem]⟩ k9)
            have KF := Lib.hid (show ∀ i, w1.frozen? ⟨w.heap.size + 1, i, none⟩ = false from fun i => (k9.frozen (by simp)).trans (by simp [go_sem]))
            clear k9
            obtain ⟨t0, t1, t2, t3, t4⟩ := KT.out
            have ty := KT.out.blk
            go_wp2_with fail
            refine (J1.out _).mono ?_
            rintro e w' ⟨rfl, rfl⟩
            go_wp2_with fail
            refine (J2.out _).mono ?_
            rintro e w' ⟨rfl, rfl⟩
            go_wp2_with fail
            refine (J3.out _).mono ?_
            rintro e w' ⟨rfl, rfl⟩
            go_wp2_with fail
            refine (J4.out _).mono ?_
            rintro e w' ⟨rfl, rfl⟩
            obtain ⟨r0, r1, r2, r3, r4⟩ := KR.out
            have ry := KR.out.blk
            have g0 := KF.out 0
            have g1 := KF.out 1
            have g2 := KF.out 2
            have g3 := KF.out 3
            have g4 := KF.out 4
            go_wp2_with fail
            refine bodyPost_ret (v := .tuple #[.agg #[.int .i64 0, .int .i64 0, .int .i64 0, .slice none 0 0, .slice none 0 0], .int .i64 2]) (by simp [results, Try.results8, go_sem, r0, r1, r2, r3, r4]) rfl ⟨_, _, _, _, rfl, (Own.empty 0 _ _ _).ints, (Own.empty 0 _ _ _).ints, ?_⟩
            iterate 5 refine On.setCell ?_ (by show w.heap.size ≤ w.heap.size + 1; omega) _
            exact O1.out
          | true =>
            rw [k4] at J4
            rw [cr_0 ho (cb_0 k1 k2 k3 k4)]
            obtain ⟨X, Y, P, Q, A, B, rfl, rfl, rfl, rfl, rfl, rfl, ⟨s0, s1⟩, ⟨x0, x1⟩, ⟨y0, y1'⟩, ⟨a0, a1⟩, ⟨b0, b1⟩, hPX, hQY, lz, lc⟩ := nats ho k1 k2 k3 k4
            have hXY : 4 ≤ X * Y := Nat.mul_le_mul x0 y0
            obtain ⟨c, off, rfl, hb, hcell⟩ := slice_of h3' rfl (by omega)
            obtain ⟨d, doff, rfl, hd, hdell⟩ := slice_of h4' rfl (by omega)
            obtain ⟨i0, hi, hz0, hz1, hz2⟩ := info_parts Ints.info
            obtain ⟨n3, hn3⟩ : ∃ n, n = z3.length := ⟨_, rfl⟩
            have hn4 : n3 = z4.length := by omega
            rw [← hn3] at lz hcell
            rw [← hn4] at hdell
            have LZ := Lib.hid lz
            clear lz lc
            have HN3 := Lib.hid hn3
            have HN4 := Lib.hid hn4
            have HC := Lib.hid hcell
            have HD := Lib.hid hdell
            have E3 := Lib.hid (show crL 0 (crop z3 (X : Int) (P : Int) (Q : Int) (A : Int) (B : Int)) = listOf (pick z3 X P Q A) (B * A) from rfl)
            have E4 := Lib.hid (show crL 0 (crop z4 (X : Int) (P : Int) (Q : Int) (A : Int) (B : Int)) = listOf (pick z4 X P Q A) (B * A) from rfl)
            have HP3 := Lib.hid (fun (k j : Nat) (hj : j < A) => pick_at z3 X P Q (k := k) hj)
            have HP4 := Lib.hid (fun (k j : Nat) (hj : j < A) => pick_at z4 X P Q (k := k) hj)
            generalize pick z3 X P Q A = f3 at *
            generalize pick z4 X P Q A = f4 at *
            rw [← hn3, ← hn4] at HV
            clear ho h3' h4' hcell hdell i1 i2 i3 y1 y2 y3 k1 k2 k3 k4 q3 q4
            go_enter Try.func8, Try.ntmps8
            rw [← HN3.out, ← HN4.out]
            clear hn3 hn4
            go_wp2_with fail
            refine (HV.out _ (by repeat (first | with_reducible exact On.refl _ | with_reducible exact Below.refl _ _ | apply On.alloc)) ⟨by simp [go_sem], by simp [go_sem], by simp [go_sem], by simp [go_sem], by simp [go_sem]⟩).mono ?_
            rintro e w1 ⟨rfl, k9⟩
            have O1 := Lib.hid (show On w w1 by refine On.trans ?_ k9; repeat (first | with_reducible exact On.refl _ | apply On.alloc))
            have KT := Lib.hid (show TRec.In w1 w.heap.size s (X : Int) (Y : Int) (.slice (some ⟨c, off, none⟩) n3 cap3) (.slice (some ⟨d, doff, none⟩) n3 cap4) from TRec.In.on ⟨by simp [go_sem], by simp [go_sem], by simp [go_sem], by simp [go_sem], by simp [go_sem]⟩ k9)
            have KR := Lib.hid (show TRec.In w1 (w.heap.size + 1) 0 0 0 (.slice none 0 0) (.slice none 0 0) from TRec.In.on ⟨by simp [go_sem], by simp [go_sem], by simp [go_sem], by simp [go_sem], by simp [go_sem]⟩ k9)
            have KF := Lib.hid (show ∀ i, w1.frozen? ⟨w.heap.size + 1, i, none⟩ = false from fun i => (k9.frozen (by simp)).trans (by simp [go_sem]))
            clear k9
            obtain ⟨t0, t1, t2, t3, t4⟩ := KT.out
            have ty := KT.out.blk
            go_wp2_with fail
            refine (J1.out _).mono ?_
            rintro e w' ⟨rfl, rfl⟩
            go_wp2_with fail
            refine (J2.out _).mono ?_
            rintro e w' ⟨rfl, rfl⟩
            go_wp2_with fail
            refine (J3.out _).mono ?_
            rintro e w' ⟨rfl, rfl⟩
            go_wp2_with fail
            refine (J4.out _).mono ?_
            rintro e w' ⟨rfl, rfl⟩
            obtain ⟨WB, hWB⟩ : ∃ WB, WB = w1.alloc (.cells #[.int .i64 s, .int .i64 (A : Int), .int .i64 (B : Int), .slice none 0 0, .slice none 0 0] 26) := ⟨_, rfl⟩
            obtain ⟨g, hg⟩ : ∃ g, g = w1.heap.size := ⟨_, rfl⟩
            have HO := Lib.hid (show On w1 WB by rw [hWB]; exact (On.refl w1).alloc _)
            have HF := Lib.hid (show ∀ i, WB.frozen? ⟨g, i, none⟩ = false by rw [hWB, hg]; intro i; simp [go_sem])
            have HGB := Lib.hid (show g < WB.heap.size by rw [hWB, hg]; simp)
            have HI0 := Lib.hid (show TRec.In WB g s (A : Int) (B : Int) (.slice none 0 0) (.slice none 0 0) by rw [hWB, hg]; exact ⟨by simp [go_sem], by simp [go_sem], by simp [go_sem], by simp [go_sem], by simp [go_sem]⟩)
            have HWB := Lib.hid hWB
            have HG := Lib.hid hg
            have HGW := Lib.hid (show w1.heap.size ≤ g by omega)
            clear hWB hg
            go_wp2_with fail
            rw [← HWB.out]
            rw [← HG.out]
            have HT0 := Lib.hid (show Two WB.heap.size g s (A : Int) (B : Int) (.slice none 0 0) (.slice none 0 0) 0 0 (listOf f3 0) (listOf f4 0) w1 WB from ⟨HI0.out, World.ownsRow_nil _ _ _ _, World.ownsRow_nil _ _ _ _, .inl rfl, HF.out, Nat.le_refl _, HO.out⟩)
            have HWBS := Lib.hid (show w1.heap.size ≤ WB.heap.size from HO.out.size)
            clear HI0 HF
            go_loopw [13] (fun i wr => ∃ (k : Nat) (VH VC : Value), k ≤ B ∧ i = .int .i64 k ∧ Two WB.heap.size g s (A : Int) (B : Int) VH VC (k * A) (k * A) (listOf f3 (k * A)) (listOf f4 (k * A)) w1 wr) (fun i _ => B - (intOf i).toNat)
            case atStart => exact ⟨0, _, _, Nat.zero_le _, rfl, by rw [Nat.zero_mul]; exact HT0.out⟩
            case round =>
              obtain ⟨k, VH, VC, hk, rfl, hT⟩ := hrel
              have HT := Lib.hid hT
              clear hT
              by_cases hlt : k < B
              · have hlti : (k : Int) < (B : Int) := by omega
                go_wp2_with fail
                go_loopw [14] (fun i wr => ∃ (j : Nat) (VH VC : Value), j ≤ A ∧ i = .int .i64 j ∧ Two WB.heap.size g s (A : Int) (B : Int) VH VC (k * A + j) (k * A + j) (listOf f3 (k * A + j)) (listOf f4 (k * A + j)) w1 wr) (fun i _ => A - (intOf i).toNat)
                case atStart => exact ⟨0, VH, VC, Nat.zero_le _, rfl, by rw [Nat.add_zero]; exact HT.out⟩
                case round =>
                  obtain ⟨j, VH, VC, hj, rfl, hT⟩ := hrel
                  have HTj := Lib.hid hT
                  by_cases hlt2 : j < A
                  · have hlti2 : (j : Int) < (A : Int) := by omega
                    obtain ⟨n, hn⟩ : ∃ n, n = k * A + j := ⟨_, rfl⟩
                    have n576 : n ≤ 576 := by rw [hn]; exact lt_576 a1 b1 hlt hj
                    obtain ⟨u, hu⟩ : ∃ u, u = (Q + k) * X := ⟨_, rfl⟩
                    obtain ⟨q, hq⟩ : ∃ q, q = u + P + j := ⟨_, rfl⟩
                    have hqn : q < n3 := by rw [hq, hu, LZ.out]; exact at_lt hPX hQY hlt hlt2
                    have hn576 : n3 ≤ 576 := by rw [LZ.out]; exact Nat.mul_le_mul x1 y1'
                    have e1 : IntKind.i64.wrap ((Q : Int) + (k : Int)) = (Q : Int) + (k : Int) := IntWalk.i64_in _ (by omega)
                    have e2 : IntKind.i64.wrap (((Q : Int) + (k : Int)) * (X : Int)) = (u : Int) := by
                      rw [show ((Q : Int) + (k : Int)) * (X : Int) = (u : Int) by rw [hu]; simp]
                      exact IntWalk.i64_in _ (by omega)
                    have e3 : IntKind.i64.wrap ((u : Int) + (P : Int)) = (u : Int) + (P : Int) := IntWalk.i64_in _ (by omega)
                    have e4 : IntKind.i64.wrap ((u : Int) + (P : Int) + (j : Int)) = (q : Int) := by
                      rw [show (u : Int) + (P : Int) + (j : Int) = (q : Int) by omega]
                      exact IntWalk.i64_in _ (by omega)
                    have hqi : (q : Int) < (n3 : Int) := by omega
                    obtain ⟨z, hz⟩ : ∃ z, z = z3.getD q 0 := ⟨_, rfl⟩
                    obtain ⟨v, hv⟩ : ∃ v, v = z4.getD q 0 := ⟨_, rfl⟩
                    have F3 := Lib.hid (show listOf f3 (n + 1) = listOf f3 n ++ [z] by rw [listOf_succ, hn, HP3.out k j hlt2, ← hu, ← hq, hz])
                    have F4 := Lib.hid (show listOf f4 (n + 1) = listOf f4 n ++ [v] by rw [listOf_succ, hn, HP4.out k j hlt2, ← hu, ← hq, hv])
                    have HV4 := Lib.hid hv
                    rw [← hn] at HTj
                    have HN := Lib.hid (show k * A + (j + 1) = n + 1 by omega)
                    have HOR := Lib.hid (On.trans O1.out HTj.out.on)
                    have hc1 : wr.cell? ⟨c, off + q, none⟩ = some (.int .i64 z) := by rw [hz]; exact (HOR.out.cell (p := ⟨c, off + q, none⟩) (by exact hb)).trans (HC.out q hqn)
                    have hbr := HOR.out.lts _ hb
                    have hdr := HOR.out.lts _ hd
                    obtain ⟨t0, t1, t2, t3, t4⟩ := KT.out.on HTj.out.on
                    have ty' := HTj.out.on.lts _ ty
                    obtain ⟨j0, j1, j2, j3, j4⟩ := HTj.out.st
                    have hgr := HTj.out.st.blk
                    have HWr := Lib.hid HTj.out.rh
                    have hvg : VH.ownBlock ≠ some g := fun e => by have := (HWr.out.lt g e).1; have := HGB.out; omega
                    have hf3 := HTj.out.fz 3
                    have hWs := HTj.out.sz
                    clear hn hu hq hz hv hT
                    go_wp2_with fail
                    go_region_law (first
                      | (refine step_append_lies _ (by rfl) _ _ _ (by rfl) WB.heap.size 2 i0 _ 1 8 Try.underlying22 hi hz0 hz1 hz2 rfl (by omega) VH n (Clone.intCells (listOf f3 n)) (by rfl) (by first | exact (HWr.out.alloc _).drew | exact HWr.out.drew.alloc _ | exact HWr.out.alloc _) ⟨wr.heap.size, 0, none⟩ 1 1 [.int .i64 z] (by rfl) (by rfl) (World.news_of_block (cs := #[.int .i64 z]) (t := 2) (fr := (0, 0)) (heap_alloc_new wr _)) (by simp [Value.oneCell']) (by omega) (by unfold maxLen; omega) (by omega) (by simp; omega) (wr.heap.size + 1) (by simp) ?_; intro gg cp w2 hown1 hgrow hat hlt1; have c3 : w2.cell? ⟨g, 3, none⟩ = some VH := (hgrow.cell_far _ (by simp; omega) (Ne.symm hvg)).trans (((On.alloc (On.refl wr) _).cell (p := ⟨g, 3, none⟩) (by exact hgr)).trans j3); have fz3 : w2.frozen? ⟨g, 3, none⟩ = false := (hgrow.frozen_far _ (by simp; omega) (Ne.symm hvg)).trans (((On.alloc (On.refl wr) _).frozen (p := ⟨g, 3, none⟩) (by exact hgr)).trans hf3)))
                    all_goals
                      have HT1 := Lib.hid (HTj.out.put3 HGB.out HGW.out HWBS.out (by first | exact On.alloc (On.refl _) _ | exact (On.alloc (On.refl _) _).drew | exact ((On.refl _).drew).alloc _) hown1 hgrow hat)
                      rw [← F3.out] at HT1
                      clear hown1 hgrow hat hlt1
                      go_wp2_with fail
                      obtain ⟨wq, hwq⟩ : ∃ z, z = w2.setCell ⟨g, 3, none⟩ (.slice (some ⟨gg, 0, none⟩) (n + 1) cp) := ⟨_, rfl⟩
                      rw [← hwq] at HT1 ⊢
                      clear c3 fz3 hwq t0 t1 t2 t3 t4 j0 j1 j2 j3 j4 hc1 hbr hdr ty' hgr hvg hf3 hWs HWr
                      have HOR2 := Lib.hid (On.trans O1.out HT1.out.on)
                      have hc1 : wq.cell? ⟨d, doff + q, none⟩ = some (.int .i64 v) := by rw [HV4.out]; exact (HOR2.out.cell (p := ⟨d, doff + q, none⟩) (by exact hd)).trans (HD.out q hqn)
                      have hbr := HOR2.out.lts _ hb
                      have hdr := HOR2.out.lts _ hd
                      obtain ⟨t0, t1, t2, t3, t4⟩ := KT.out.on HT1.out.on
                      have ty' := HT1.out.on.lts _ ty
                      obtain ⟨j0, j1, j2, j3, j4⟩ := HT1.out.st
                      have hgr := HT1.out.st.blk
                      have HWr := Lib.hid HT1.out.rc
                      have hvg : VC.ownBlock ≠ some g := fun e => by have := (HWr.out.lt g e).1; have := HGB.out; omega
                      have hf3 := HT1.out.fz 4
                      have hWs := HT1.out.sz
                      go_region_law (first
                        | (refine step_append_lies _ (by rfl) _ _ _ (by rfl) WB.heap.size 2 i0 _ 1 8 Try.underlying22 hi hz0 hz1 hz2 rfl (by omega) VC n (Clone.intCells (listOf f4 n)) (by rfl) (by first | exact (HWr.out.alloc _).drew | exact HWr.out.drew.alloc _ | exact HWr.out.alloc _) ⟨wq.heap.size, 0, none⟩ 1 1 [.int .i64 v] (by rfl) (by rfl) (World.news_of_block (cs := #[.int .i64 v]) (t := 2) (fr := (0, 0)) (heap_alloc_new wq _)) (by simp [Value.oneCell']) (by omega) (by unfold maxLen; omega) (by omega) (by simp; omega) (wq.heap.size + 1) (by simp) ?_; intro ga cq w3 hown1 hgrow hat hlt1; have c3 : w3.cell? ⟨g, 4, none⟩ = some VC := (hgrow.cell_far _ (by simp; omega) (Ne.symm hvg)).trans (((On.alloc (On.refl wq) _).cell (p := ⟨g, 4, none⟩) (by exact hgr)).trans j4); have fz3 : w3.frozen? ⟨g, 4, none⟩ = false := (hgrow.frozen_far _ (by simp; omega) (Ne.symm hvg)).trans (((On.alloc (On.refl wq) _).frozen (p := ⟨g, 4, none⟩) (by exact hgr)).trans hf3)))
                      all_goals
                        have HT3 := Lib.hid (HT1.out.put4 HGB.out HGW.out HWBS.out (by first | exact On.alloc (On.refl _) _ | exact (On.alloc (On.refl _) _).drew | exact ((On.refl _).drew).alloc _) hown1 hgrow hat)
                        rw [← F4.out] at HT3
                        clear hown1 hgrow hat hlt1
                        go_wp2_with fail
                        go_roundw
                        case rel => first | exact ⟨j + 1, _, _, by omega, by go_num, by rw [HN.out]; exact HT3.out⟩ | ((repeat apply Exists.intro); exact ⟨⟨j + 1, _, _, by omega, by go_num, by rw [HN.out]; exact HT3.out⟩, rfl⟩)
                        case measure => simp [intOf] <;> omega
                  · obtain rfl : j = A := by omega
                    have hnot : ¬ ((j : Int) < (j : Int)) := by omega
                    clear hT
                    go_wp2_with fail
                    go_roundw
                    case rel => exact ⟨k + 1, VH, VC, by omega, by go_num, by rw [Nat.succ_mul]; exact HTj.out⟩
                    case measure => simp [intOf] <;> omega
              · obtain rfl : k = B := by omega
                have hnot : ¬ ((k : Int) < (k : Int)) := by omega
                obtain ⟨a3, c3, rfl, hO3⟩ := own_ints (listOf_len _ _) HT.out.rh
                obtain ⟨a4, c4, rfl, hO4⟩ := own_ints (listOf_len _ _) HT.out.rc
                have HO3 := Lib.hid hO3
                have HO4 := Lib.hid hO4
                obtain ⟨j0, j1, j2, j3, j4⟩ := HT.out.st
                have hgr := HT.out.st.blk
                obtain ⟨r0, r1, r2, r3, r4⟩ := KR.out.on HT.out.on
                have ry := HT.out.on.lts _ KR.out.blk
                have hlw := HT.out.sz
                have hlw2 : w.heap.size + 1 < WB.heap.size := Nat.lt_of_lt_of_le KR.out.blk HWBS.out
                have g0 := (HT.out.on.frozen (p := ⟨w.heap.size + 1, 0, none⟩) (by exact KR.out.blk)).trans (KF.out 0)
                have g1 := (HT.out.on.frozen (p := ⟨w.heap.size + 1, 1, none⟩) (by exact KR.out.blk)).trans (KF.out 1)
                have g2 := (HT.out.on.frozen (p := ⟨w.heap.size + 1, 2, none⟩) (by exact KR.out.blk)).trans (KF.out 2)
                have g3 := (HT.out.on.frozen (p := ⟨w.heap.size + 1, 3, none⟩) (by exact KR.out.blk)).trans (KF.out 3)
                have g4 := (HT.out.on.frozen (p := ⟨w.heap.size + 1, 4, none⟩) (by exact KR.out.blk)).trans (KF.out 4)
                have HFN := Lib.hid (On.trans O1.out HT.out.on)
                clear hO3 hO4
                obtain ⟨nn, hnn⟩ : ∃ nn, nn = k * A := ⟨_, rfl⟩
                rw [← hnn] at E3 E4 HO3 HO4 j3 j4
                clear hnn
                go_wp2_with fail
                refine bodyPost_ret (v := .tuple #[.agg #[.int .i64 s, .int .i64 (A : Int), .int .i64 (k : Int), .slice a3 nn c3, .slice a4 nn c4], .int .i64 0]) (by simp [results, Try.results8, go_sem, r0, r1, r2, r3, r4]) rfl ⟨a3, c3, a4, c4, ?_, ?_, ?_, ?_⟩
                · rw [E3.out, E4.out, listOf_len, listOf_len]; rfl
                · rw [E3.out, listOf_len]
                  refine Own.ints (B := WB.heap.size) ?_
                  iterate 5 refine Own.setCell ?_ (by show w.heap.size + 1 < WB.heap.size; exact hlw2) _
                  exact HO3.out
                · rw [E4.out, listOf_len]
                  refine Own.ints (B := WB.heap.size) ?_
                  iterate 5 refine Own.setCell ?_ (by show w.heap.size + 1 < WB.heap.size; exact hlw2) _
                  exact HO4.out
                · iterate 5 refine On.setCell ?_ (by show w.heap.size ≤ w.heap.size + 1; omega) _
                  exact HFN.out

end Go.Proofs.Ytnambnddoebeiaa.Crp
