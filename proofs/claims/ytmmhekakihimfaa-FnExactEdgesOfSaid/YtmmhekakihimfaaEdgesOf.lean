
/-
  The points of a profile that cause a loss, whole, in the model and in the program. Condition: at most 1048576 heights.
-/
import Derived.Test.YtmmhekakihimfaaWEdge
import Derived.Test.YtmmhekakihimfaaClone
import Derived.Maps.AppendAt
import Derived.Lib.SmallJoins
namespace Go.Proofs.Ytmmhekakihimfaa.Nu
open Go.RowKit Go.Shelf
open Plain
open Ints (Ints Own)
open Prof (PIn clr off_bd off slice_of okP of_okP ret_ii)
open Iter (Kp pts pts_succ on_grown)
open Clone (intCells own_of_row)
attribute [local go_sem] Oper.semAt_some

def edg (val : Nat → Int) : Nat → List Int
  | 0 => []
  | k + 1 => if 0 < Go.Proofs.Ytmmhekakihimfaa.Edge.edge (val (k + 1)) then edg val k ++ [(k : Int) + 1] else edg val k
theorem edg_take {val : Nat → Int} {k : Nat} (h : 0 < Go.Proofs.Ytmmhekakihimfaa.Edge.edge (val (k + 1))) : edg val (k + 1) = edg val k ++ [(k : Int) + 1] := if_pos h
theorem edg_keep {val : Nat → Int} {k : Nat} (h : ¬ 0 < Go.Proofs.Ytmmhekakihimfaa.Edge.edge (val (k + 1))) : edg val (k + 1) = edg val k := if_neg h
theorem edg_len (val : Nat → Int) : ∀ k, (edg val k).length ≤ k
  | 0 => Nat.le_refl _
  | k + 1 => by
    have := edg_len val k
    rw [edg]
    split
    · rw [List.length_append]; simp; omega
    · omega
/-- EdgesOf. -/
def edV (d f l fr : Int) (zs : List Int) : List Int := if seeC d f l zs fr = 0 then edg (nuAt d f l ((zs.length : Int) - 1) fr zs) (zs.length - 2) else []
theorem ed_no {d f l fr : Int} {zs : List Int} (h : seeC d f l zs fr ≠ 0) : edV d f l fr zs = [] := if_neg h
theorem ed_ok {d f l fr : Int} {zs : List Int} {n : Nat} (h : seeC d f l zs fr = 0) (hn : zs.length = n + 1) : edV d f l fr zs = edg (nuAt d f l n fr zs) (n - 1) := by
  unfold edV; rw [if_pos h, hn, show ((((n + 1 : Nat)) : Int) - 1) = n from by omega, show n + 1 - 2 = n - 1 from by omega]
theorem ed_len {d f l fr : Int} {zs : List Int} : (edV d f l fr zs).length ≤ zs.length := by
  unfold edV
  split
  · have := edg_len (nuAt d f l ((zs.length : Int) - 1) fr zs) (zs.length - 2); omega
  · simp
theorem ret_si {v : Value} {a b : Int} (h : a = b) : Ending.returned (.tuple #[v, .int .i64 a]) = .returned (.tuple #[v, .int .i64 b]) := by rw [h]
theorem cells_snoc (zs : List Int) (x : Int) : intCells zs ++ [.int .i64 x] = intCells (zs ++ [x]) := by unfold intCells; rw [List.map_append]; rfl
set_option maxHeartbeats 4000000 in
set_option maxRecDepth 1000000 in
theorem spec_EdgesOf (d f l fr : Int) (a : Option Addr) (cap : Nat) (zs : List Int) (w : World) (hn : zs.length ≤ 1048576) (h : Ints w (.slice a zs.length cap) zs) :
    Calls Try.prog 20 #[.agg #[.int .i64 d, .int .i64 f, .int .i64 l, .slice a zs.length cap], .int .i64 fr] w fun e w' => ∃ u, e = .returned (.tuple #[u, .int .i64 (seeC d f l zs fr)]) ∧ Ints w' u (edV d f l fr zs) ∧ On w w' := by
  obtain ⟨i0, hi, hz0, hz1, hz2⟩ := info_parts Ints.info
  have hA := fun w' (hb : On w w') hp => spec_ask w.heap.size d f l fr a cap zs w' hn hp (h.below hb)
  by_cases hs : seeC d f l zs fr = 0
  · have en0 := fun (n : Nat) (hzn : zs.length = n + 1) => ed_ok hs hzn
    rw [hs] at hA
    obtain ⟨n, hzn, n0, n1, hzb, ⟨d0, d1⟩, ⟨f0, f1⟩, ⟨l0, l1⟩, fr0, fr1⟩ := see_at hs
    obtain ⟨b, off, rfl, hb, hcell⟩ := slice_of h (by omega)
    obtain ⟨val, hval⟩ : ∃ val : Nat → Int, val = nuAt d f l n fr zs := ⟨_, rfl⟩
    have hvb : ∀ k, -1000000 ≤ val k ∧ val k ≤ 1000000 := fun k => by rw [hval]; exact nu_bd _ _ _ _ _ _ _
    have en1 := (en0 n hzn)
    have HS0 := Lib.hid hs
    have hN := fun (k : Nat) (hk : k < n - 1) w' (hw : On w w') hp => spec_nu w.heap.size n cap (k + 1) b off d f l (zs.getD (k + 1) 0) fr w' hp (hw.lts _ hb) ((hw.cell (p := ⟨b, off + (k + 1), none⟩) (by exact hb)).trans (hcell (k + 1) (by omega))) (hzb (k + 1) (by omega)).1 (hzb (k + 1) (by omega)).2 d0 d1 f0 f1 l0 l1 (by omega) n0 n1 fr0 fr1
    have HN := Lib.hid (fun (k : Nat) (hk : k < n - 1) w' (hw : On w w') hp => show Calls Try.prog 49 #[.pointer (some ⟨w.heap.size, 0, none⟩), .int .i64 fr, .int .i64 ((k : Int) + 1)] w' (fun e w'' => e = .returned (.int .i64 (val (k + 1))) ∧ On w' w'') by
      rw [hval]; exact hN k hk w' hw hp)
    have HVB := Lib.hid hvb
    rw [← hval] at en1
    have en := Lib.hid en1
    have HA := Lib.hid hA
    rw [hzn] at HA ⊢
    clear hA h hs hzn hcell hzb hval hN hvb en0 en1
    go_enter Try.func20, Try.ntmps20
    go_wp2_with fail
    refine (HA.out _ (by repeat (first | with_reducible exact On.refl _ | apply On.alloc)) ⟨by simp [go_sem], by simp [go_sem], by simp [go_sem], by simp [go_sem]⟩).mono ?_
    rintro e w1 ⟨rfl, q, hq⟩
    have HO1 := Lib.hid (show On w w1 by rw [hq]; repeat (first | with_reducible exact On.refl _ | apply On.drewN | apply On.alloc))
    obtain ⟨p0, p1, p2, p3⟩ : PIn w1 w.heap.size d f l (.slice (some ⟨b, off, none⟩) (n + 1) cap) := by rw [hq]; exact ⟨by simp [go_sem], by simp [go_sem], by simp [go_sem], by simp [go_sem]⟩
    clear hq
    go_wp2_with fail
    have HP1 := Lib.hid (show PIn w1 w.heap.size d f l (.slice (some ⟨b, off, none⟩) (n + 1) cap) from ⟨p0, p1, p2, p3⟩)
    clear p0 p1 p2 p3
    go_loopw [7, 8] (fun v i wr => ∃ k : Nat, i = .int .i64 ((k : Int) + 1) ∧ k ≤ n - 1 ∧ wr.ownsRow w1.heap.size 2 1 v (edg val k).length (intCells (edg val k)) ∧ On w1 wr) (fun _ i _ => n - (intOf i).toNat)
    case atStart => exact ⟨0, rfl, Nat.zero_le _, World.ownsRow_lit w1 #[] 0 (Nat.le_refl _) (by unfold maxLen; omega) rfl, On.alloc (On.refl _) _⟩
    case round =>
      obtain ⟨k, rfl, hk, hown, ho⟩ := hrel
      obtain ⟨q0, q1, q2, q3⟩ := HP1.out.on ho
      have hg := World.block_lt_of_cell? wr _ q0
      have HO := Lib.hid hown
      have HW := Lib.hid ho
      have hsz := ho.size
      clear hown ho
      by_cases hlt : k < n - 1
      · have hki : (k : Int) + 1 < (n : Int) := by omega
        have HC := Lib.hid (HN.out k hlt wr (HO1.out.trans HW.out) (HP1.out.on HW.out))
        have hvk := HVB.out (k + 1)
        have hlen := edg_len val k
        have ET := Lib.hid (edg_take (val := val) (k := k))
        have EK := Lib.hid (edg_keep (val := val) (k := k))
        have HE := Lib.hid (fun w => Go.Proofs.Ytmmhekakihimfaa.Edge.spec_edge (val (k + 1)) w hvk.1 hvk.2)
        by_cases hpos : 0 < Go.Proofs.Ytmmhekakihimfaa.Edge.edge (val (k + 1))
        · have T := Lib.hid (ET.out hpos)
          generalize Go.Proofs.Ytmmhekakihimfaa.Edge.edge (val (k + 1)) = y at *
          clear ET EK hvk
          go_wp2_with fail
          refine HC.out.mono ?_
          rintro e wa ⟨rfl, ha⟩
          have HOa := Lib.hid (HO.out.kept (on_grown ha) (Classical.em _))
          have HWa := Lib.hid (HW.out.trans ha)
          have hsa := HWa.out.size
          clear ha
          go_wp2_with fail
          refine (HE.out _).mono ?_
          rintro e wb ⟨rfl, rfl⟩
          go_wp2_with (at_builtin; refine wpList_append_own _ rfl (.tmp 28) (.tmp 30) 24 rfl w1.heap.size 2 i0 (.int .i64 0) 1 8 Try.underlying24 hi hz0 hz1 hz2 rfl (by decide) _ (edg val k).length _ rfl (HOa.out.alloc _) ⟨wa.heap.size, 0, none⟩ 1 1 [.int .i64 ((k : Int) + 1)] rfl rfl ?c1 ?c2 ?c3 ?c4 ?c5 ?_)
          case c1 => exact cell_one_new _ _ _
          case c2 => intro u hu; simp at hu; subst hu; rfl
          case c3 => unfold maxLen; omega
          case c4 => omega
          case c5 => simp; omega
          intro v' w3 hown' hgrow _
          have hl : (edg val k).length + 1 = (edg val (k + 1)).length := by rw [T.out, List.length_append]; rfl
          rw [cells_snoc, ← T.out, hl] at hown'
          have HO2 := Lib.hid hown'
          have HB2 := Lib.hid (show On w1 w3 from Below.grown (On.alloc HWa.out _) hgrow (by simp; omega) (fun k hk => (HOa.out.lt k hk).1))
          clear hown' hgrow hl
          go_wp2
          go_roundw
          case rel => first | exact ⟨k + 1, by go_num, by omega, HO2.out, HB2.out⟩ | ((repeat apply Exists.intro); exact ⟨⟨k + 1, by go_num, by omega, HO2.out, HB2.out⟩, rfl⟩)
          case measure => simp [intOf]; omega
        · have T := Lib.hid (EK.out hpos)
          generalize Go.Proofs.Ytmmhekakihimfaa.Edge.edge (val (k + 1)) = y at *
          clear ET EK hvk
          go_wp2_with fail
          refine HC.out.mono ?_
          rintro e wa ⟨rfl, ha⟩
          have HOa := Lib.hid (HO.out.kept (on_grown ha) (Classical.em _))
          have HWa := Lib.hid (HW.out.trans ha)
          clear ha
          go_wp2_with fail
          refine (HE.out _).mono ?_
          rintro e wb ⟨rfl, rfl⟩
          go_wp2_with fail
          go_roundw
          case rel => exact ⟨k + 1, by go_num, by omega, by rw [T.out]; exact HOa.out, HWa.out⟩
          case measure => simp [intOf]; omega
      · obtain rfl : k = n - 1 := by omega
        have hki : ¬ (((n - 1 : Nat) : Int) + 1 < (n : Int)) := by omega
        obtain ⟨a', c', rfl, hov⟩ := own_of_row HO.out
        have HV := Lib.hid hov
        clear hov
        go_wp2
        go_ret2
        exact ⟨_, ret_si HS0.out.symm, by rw [en.out]; exact HV.out.ints, HO1.out.trans HW.out⟩
  · have en := Lib.hid (ed_no hs)
    have hb : (seeC d f l zs fr == 0) = false := beq_eq_false_iff_ne.2 hs
    have hb2 : (seeC d f l zs fr != 0) = true := bne_iff_ne.2 hs
    have HA := Lib.hid hA
    clear hA h hs
    go_enter Try.func20, Try.ntmps20
    go_wp2_with fail
    refine (HA.out _ (by repeat (first | with_reducible exact On.refl _ | apply On.alloc)) ⟨by simp [go_sem], by simp [go_sem], by simp [go_sem], by simp [go_sem]⟩).mono ?_
    rintro e w1 ⟨rfl, q, hq⟩
    have HO1 := Lib.hid (show On w w1 by rw [hq]; repeat (first | with_reducible exact On.refl _ | apply On.drewN | apply On.alloc))
    obtain ⟨p0, p1, p2, p3⟩ : PIn w1 w.heap.size d f l (.slice a zs.length cap) := by rw [hq]; exact ⟨by simp [go_sem], by simp [go_sem], by simp [go_sem], by simp [go_sem]⟩
    clear hq
    go_wp2_with fail
    go_ret2
    exact ⟨_, rfl, by rw [en.out]; exact (Ints.Own.empty 0 _ _ _).ints, HO1.out⟩
/-- What has come of edges. -/
def edgP (pre : List (Nat × Int)) : List Int := pre.foldl (fun s x => if 0 < Go.Proofs.Ytmmhekakihimfaa.Edge.edgeLoss x.2 then s ++ [(x.1 : Int)] else s) []
theorem edgP_take {pre : List (Nat × Int)} {x : Nat × Int} (h : 0 < Go.Proofs.Ytmmhekakihimfaa.Edge.edgeLoss x.2) : edgP (pre ++ [x]) = edgP pre ++ [(x.1 : Int)] := by unfold edgP; rw [List.foldl_append]; simp [h]
theorem edgP_keep {pre : List (Nat × Int)} {x : Nat × Int} (h : ¬ 0 < Go.Proofs.Ytmmhekakihimfaa.Edge.edgeLoss x.2) : edgP (pre ++ [x]) = edgP pre := by unfold edgP; rw [List.foldl_append]; simp [h]
theorem edgP_len (pre : List (Nat × Int)) : (edgP pre).length ≤ pre.length := by
  suffices ∀ (s : List Int), (pre.foldl (fun s x => if 0 < Go.Proofs.Ytmmhekakihimfaa.Edge.edgeLoss x.2 then s ++ [(x.1 : Int)] else s) s).length ≤ s.length + pre.length by simpa [edgP] using this []
  induction pre with
  | nil => intro s; simp
  | cons x r ih =>
    intro s
    rw [List.foldl_cons]
    refine Nat.le_trans (ih _) ?_
    split <;> simp <;> omega
theorem edgP_pts {val : Nat → Int} (hv : ∀ k, -1000000 ≤ val k ∧ val k ≤ 1000000) : ∀ k, edgP (pts val k) = edg val k
  | 0 => rfl
  | k + 1 => by
    have e : Go.Proofs.Ytmmhekakihimfaa.Edge.edgeLoss (val (k + 1)) = Go.Proofs.Ytmmhekakihimfaa.Edge.edge (val (k + 1)) := Go.Proofs.Ytmmhekakihimfaa.Edge.loss_in (inB_yes (hv _).1 (hv _).2)
    rw [pts_succ]
    by_cases h : 0 < Go.Proofs.Ytmmhekakihimfaa.Edge.edge (val (k + 1))
    · rw [edgP_take (by rw [e]; exact h), edg_take h, edgP_pts hv k]; simp
    · rw [edgP_keep (by rw [e]; exact h), edg_keep h, edgP_pts hv k]
/-- 'out = append(out, v)' where the row lies beyond the box. -/
theorem appended2 {W w1 : World} {R B : Nat} {t e : TypeId} {size : Nat} {v v' : Value} {k m : Nat} {xs ys : List Value} {tmp : Obj}
    (hv : Boxed W B t v) (hte : t ≠ e) (hrow : W.ownsRow R e size v k xs) (hR : R ≤ W.heap.size)
    (hown' : w1.ownsRow R e size v' m ys) (hgrow : (W.alloc tmp).grownBy w1 v.ownBlock) :
    Boxed w1 B t v ∧ Boxed (w1.setCell ⟨B, 0, none⟩ v') B t v' ∧ (w1.setCell ⟨B, 0, none⟩ v').ownsRow R e size v' m ys ∧ KeepsOthers W (w1.setCell ⟨B, 0, none⟩ v') ∧ Kp (fun k => k = B ∨ R ≤ k) W (w1.setCell ⟨B, 0, none⟩ v') ∧ ∀ n₀, n₀ ≤ B → n₀ ≤ R → Below n₀ W (w1.setCell ⟨B, 0, none⟩ v') := by
  obtain ⟨h1, h2, -, h4, -⟩ := hv.appended hte (Joins.ownsRow_le hrow (Nat.zero_le _)) (Nat.zero_le _) (Nat.zero_le _) (Joins.ownsRow_le hown' (Nat.zero_le _)) hgrow
  have hb : Below R W w1 := ((Below.refl R W).alloc hR tmp).grown hgrow (by simp; omega) (fun j ej => (hrow.lt j ej).1)
  refine ⟨h1, h2, hown'.kept (grownBy_setCell' w1 B v') (.inr (h1.not_row hte hown').symm), h4, ⟨by have := hb.size; simp; omega, fun p u hp hc => ?_⟩, fun n₀ hn hn2 => (hv.appended hte (Joins.ownsRow_le hrow hn2) (Nat.le_trans hn2 hR) hn (Joins.ownsRow_le hown' hn2) hgrow).2.2.2.2⟩
  have hpB : p.block ≠ B := fun e => hp (.inl e)
  have hpR : p.block < R := by
    rcases Nat.lt_or_ge p.block R with g | g
    · exact g
    · exact absurd (.inr g) hp
  exact (World.cell?_setCell_other (h := fun e => hpB (by rw [← e])) ..).trans ((hb.cell hpR).trans hc)
set_option maxRecDepth 1000000 in
set_option maxHeartbeats 4000000 in
theorem impl_EdgesOf (d f l fr : Int) (a : Option Addr) (cap : Nat) (zs : List Int) (w : World) (hn : zs.length ≤ 1048576) (h : Ints w (.slice a zs.length cap) zs) :
    Calls Try.prog 21 #[.agg #[.int .i64 d, .int .i64 f, .int .i64 l, .slice a zs.length cap], .int .i64 fr] w fun e w' => ∃ u, e = .returned (.tuple #[u, .int .i64 (seeC d f l zs fr)]) ∧ Ints.Own w.heap.size w' u (edV d f l fr zs) ∧ On w w' := by
  obtain ⟨i0, hi, hz0, hz1, hz2⟩ := info_parts Ints.info
  have hA := fun w' (hb : On w w') => impl_sightAlong d f l fr a cap zs w' hn (h.below hb)
  by_cases hs : seeC d f l zs fr = 0
  · have en0 := fun (n : Nat) (hzn : zs.length = n + 1) => ed_ok hs hzn
    rw [hs] at hA
    have HA := Lib.hid hA
    obtain ⟨n, hzn, n0, n1, hzb, ⟨d0, d1⟩, ⟨f0, f1⟩, ⟨l0, l1⟩, fr0, fr1⟩ := see_at hs
    obtain ⟨b, off, rfl, hb, hcell⟩ := slice_of h (by omega)
    obtain ⟨val, hval⟩ : ∃ val : Nat → Int, val = nuAt d f l n fr zs := ⟨_, rfl⟩
    have hvb : ∀ k, -1000000 ≤ val k ∧ val k ≤ 1000000 := fun k => by rw [hval]; exact nu_bd _ _ _ _ _ _ _
    have en1 := en0 n hzn
    rw [← hval] at en1
    rw [← edgP_pts hvb] at en1
    have en := Lib.hid en1
    have HS0 := Lib.hid hs
    have HV := Lib.hid (fun (Bad : Nat → Prop) (W1 : World) (ho : On w W1) (hbad : ¬ Bad b) (k : Nat) W' (k0 : 1 ≤ k) (k1 : k < n) (hk : Kp Bad W1 W') => show Calls Try.prog 53 #[.agg #[.int .i64 d, .int .i64 f, .int .i64 l, .slice (some ⟨b, off, none⟩) (n + 1) cap, .int .i64 fr], .int .i64 k] W' (fun e W'' => e = .returned (.int .i64 (val k)) ∧ On W' W'') by
      rw [hval]
      exact impl_parameter n cap k b off d f l (zs.getD k 0) fr W' (Nat.lt_of_lt_of_le (ho.lts _ hb) hk.1) (hk.2 _ _ hbad ((ho.cell (p := ⟨b, off + k, none⟩) (by exact hb)).trans (hcell k (by omega)))) (hzb k (by omega)).1 (hzb k (by omega)).2 d0 d1 f0 f1 l0 l1 (by omega) n0 n1 fr0 fr1)
    rw [hzn] at HA ⊢
    clear hA h hs hzn hcell hzb hval hvb en0 en1
    refine (callsIn_wide (n := 6)).1 ?_
    refine callsIn_of_wp_marks Try.func21 rfl trivial ?_ rfl
    simp only [Try.ntmps21, List.size_toArray, List.length_cons, List.length_nil, Nat.reduceAdd, Nat.reduceSub, Array.replicate_succ, Array.replicate_zero, List.push_toArray, List.append_toArray, List.nil_append, List.cons_append]
    gi_wp2
    refine ⟨trivial, (callsIn_wide.2 (HA.out _ (by repeat (first | with_reducible exact On.refl _ | apply On.alloc)))).mono ?_⟩
    rintro e w1 ⟨v, rfl, hv, -, h1⟩
    obtain rfl := hv trivial
    have HO := Lib.hid (show On w w1 by refine On.trans ?_ h1; repeat (first | with_reducible exact On.refl _ | apply On.alloc))
    clear h1 hv
    gi_wp2
    refine ⟨trivial, (callsIn_wide.2 (Iter.inner d f l (some ⟨b, off, none⟩) (n + 1) cap 53 #[.agg #[.int .i64 d, .int .i64 f, .int .i64 l, .slice (some ⟨b, off, none⟩) (n + 1) cap, .int .i64 fr]] _)).mono ?_⟩
    rintro e w2 ⟨rfl, hp2, hq2, h2⟩
    simp only [World.size_alloc] at hp2 hq2
    have bx : Boxed w2 (w1.heap.size + 1) 24 (.slice none 0 0) := (h2.block _ (by simp)).trans (by
      have := World.alloc_heap_new (w1.alloc (.cells #[.int .i64 d, .int .i64 f, .int .i64 l, .slice (some ⟨b, off, none⟩) (n + 1) cap, .int .i64 fr] 54)) (.cells #[.slice none 0 0] 24)
      rw [World.size_alloc] at this
      exact this)
    have HO2 := Lib.hid (show On w w2 by refine On.trans ?_ h2; repeat (first | with_reducible exact HO.out | apply On.alloc | refine On.setCell ?_ (by (try simp) <;> omega) _))
    have hsz2 : w1.heap.size + 1 + 1 + 1 < w2.heap.size := World.block_lt_of_cell? w2 _ hq2
    have hbb := Nat.ne_of_lt (HO.out.lts _ hb)
    have hb1 := HO.out.lts _ hb
    have hwz := HO.out.size
    clear h2
    have Bb : ¬ (b = w1.heap.size + 1 ∨ w2.heap.size ≤ b) := by omega
    gi_wp2
    refine wpIn_rangeFunc_ownG rfl (by omega) (gf := 85) (lb := #[.pointer (some ⟨w1.heap.size + 1 + 1, 0, none⟩), .pointer (some ⟨w1.heap.size + 1 + 1 + 1, 0, none⟩)]) rfl trivial (enters_of Try.func85 (by kernel_rfl) rfl)
      (Iter.iter_parameter 5 (by omega) (fun k => k = w1.heap.size + 1 ∨ w2.heap.size ≤ k) (w1.heap.size + 1 + 1) (w1.heap.size + 1 + 1 + 1) n cap d f l (some ⟨b, off, none⟩) (.agg #[.int .i64 d, .int .i64 f, .int .i64 l, .slice (some ⟨b, off, none⟩) (n + 1) cap, .int .i64 fr]) val w2 n0 n1 hp2 hq2 (by omega) (by omega) (fun k W' k0 k1 hk => HV.out _ w2 HO2.out Bb k W' k0 k1 hk))
      (fun h k => Kp.trans h k) (fun W l o o' _ h hc _ => Kp.put W l o o' h hc) (Below.refl _ _) (fun _ => rfl)
      (fun pre W => (∃ v, Boxed W (w1.heap.size + 1) 24 v ∧ W.ownsRow w2.heap.size 2 1 v (edgP pre).length (intCells (edgP pre)) ∧ True) ∧ Below w.heap.size w2 W)
      (fun _ _ _ => False)
      (OwnFrom.and (Own.from (holdsRow_own w2.heap.size (w1.heap.size + 1) 24 2 1 (fun pre => (edgP pre).length) (fun pre => intCells (edgP pre)) (fun _ _ => True)) _) (ownFrom_below (by omega) (by omega)))
      (fun _ _ _ _ _ hs _ _ => hs)
      ⟨⟨_, bx, World.ownsRow_nil _ _ _ _, trivial⟩, Below.refl _ _⟩
      (fun x => { tmps := #[Value.agg #[Value.int IntKind.i64 d, Value.int IntKind.i64 f, Value.int IntKind.i64 l, Value.slice (some ⟨b, off, none⟩) (n + 1) cap], Value.int IntKind.i64 fr, Value.pointer (some ⟨w.heap.size, 0, none⟩), undef, Value.slice none 0 0, Value.int IntKind.i64 0, Value.pointer (some ⟨w1.heap.size, 0, none⟩), Value.int IntKind.i64 0, Value.pointer (some ⟨w1.heap.size + 1, 0, none⟩), .int .i64 (x.1 : Int), .int .i64 x.2, Value.tuple #[Value.agg #[Value.int IntKind.i64 d, Value.int IntKind.i64 f, Value.int IntKind.i64 l, Value.slice (some ⟨b, off, none⟩) (n + 1) cap, Value.int IntKind.i64 fr], Value.int IntKind.i64 0], Value.agg #[Value.int IntKind.i64 d, Value.int IntKind.i64 f, Value.int IntKind.i64 l, Value.slice (some ⟨b, off, none⟩) (n + 1) cap], Value.int IntKind.i64 fr, Value.tuple #[Value.agg #[Value.int IntKind.i64 d, Value.int IntKind.i64 f, Value.int IntKind.i64 l, Value.slice (some ⟨b, off, none⟩) (n + 1) cap, Value.int IntKind.i64 fr], Value.int IntKind.i64 0], Value.agg #[Value.int IntKind.i64 d, Value.int IntKind.i64 f, Value.int IntKind.i64 l, Value.slice (some ⟨b, off, none⟩) (n + 1) cap, Value.int IntKind.i64 fr], Value.int IntKind.i64 0, Value.int IntKind.i64 0, Value.bool false, undef, Value.pointer (some ⟨w1.heap.size, 0, none⟩), Value.agg #[Value.int IntKind.i64 d, Value.int IntKind.i64 f, Value.int IntKind.i64 l, Value.slice (some ⟨b, off, none⟩) (n + 1) cap], Value.agg #[Value.int IntKind.i64 d, Value.int IntKind.i64 f, Value.int IntKind.i64 l, Value.slice (some ⟨b, off, none⟩) (n + 1) cap, Value.int IntKind.i64 fr], Value.func (Fn.func 53) #[Value.agg #[Value.int IntKind.i64 d, Value.int IntKind.i64 f, Value.int IntKind.i64 l, Value.slice (some ⟨b, off, none⟩) (n + 1) cap, Value.int IntKind.i64 fr]] #[], Value.func (Fn.func 85) #[] #[Value.pointer (some ⟨w1.heap.size + 1 + 1, 0, none⟩), Value.pointer (some ⟨w1.heap.size + 1 + 1 + 1, 0, none⟩)], .int .i64 (x.1 : Int), .int .i64 x.2, undef, undef, undef, undef, undef, undef, undef, undef], defers := [] }) ?assign ?body ?done ?stop
    case assign =>
      intro l x W K hK
      gi_wp2
      exact hK
    case body =>
      rintro lp pre x W ⟨⟨v, hv, hrow, -⟩, hB⟩ hlt
      have hpl := edgP_len pre
      have hsW := hB.size
      have HE := Lib.hid (fun w => Go.Proofs.Ytmmhekakihimfaa.Edge.impl_EdgeLoss x.2 w)
      have TAKE := Lib.hid (edgP_take (pre := pre) (x := x))
      have KEEP := Lib.hid (edgP_keep (pre := pre) (x := x))
      by_cases hpos : 0 < Go.Proofs.Ytmmhekakihimfaa.Edge.edgeLoss x.2
      · have T := Lib.hid (TAKE.out hpos)
        generalize Go.Proofs.Ytmmhekakihimfaa.Edge.edgeLoss x.2 = y at *
        clear TAKE KEEP
        gi_wp2
        refine ⟨trivial, (CallsIn.inRound lp (callsIn_wide.2 (HE.out _))).mono ?_⟩
        rintro e wa ⟨rfl, ha⟩
        have hva := hv.kept (on_grown ha) (by simp)
        have hrowa := hrow.kept (on_grown ha) (Classical.em _)
        have hRa : w2.heap.size ≤ wa.heap.size := Nat.le_trans hsW ha.size
        have hc := hva.cell
        gi_wp2_with (gi_at_builtin; refine wpListIn_append_own _ rfl _ _ 24 rfl w2.heap.size 2 i0 (.int .i64 0) 1 8 Try.underlying24 hi hz0 hz1 hz2 rfl (by decide) _ _ _ rfl (hrowa.alloc _) ⟨wa.heap.size, 0, none⟩ 1 1 [.int .i64 (x.1 : Int)] rfl rfl (cell_one_new _ _ _) (by simp [Value.oneCell']) (by unfold maxLen; omega) (by omega) (by simp; omega) ?_; intro v' w3 hown' hgrow _; obtain ⟨g', cap', rfl⟩ := ownsRow_succ hown'; obtain ⟨hv1, hv2, hr2, hk2, hp3, hb2⟩ := appended2 hva (by decide) hrowa hRa hown' hgrow; have hc1 := hv1.cell; have hf1 := hv1.frozen)
        refine ⟨((KeepsOthers.of_grownBy (on_grown ha) (fun j o e _ => by cases e)).trans hk2).from _, (Kp.of_on ha).trans hp3, ⟨_, hv2, ?_, trivial⟩, (hB.trans (Below.mono ha (by omega))).trans (hb2 _ (by omega) (by omega))⟩
        rw [T.out, List.length_append, ← cells_snoc]
        exact hr2
      · have T := Lib.hid (KEEP.out hpos)
        generalize Go.Proofs.Ytmmhekakihimfaa.Edge.edgeLoss x.2 = y at *
        clear TAKE KEEP
        gi_wp2
        refine ⟨trivial, (CallsIn.inRound lp (callsIn_wide.2 (HE.out _))).mono ?_⟩
        rintro e wa ⟨rfl, ha⟩
        have hva := hv.kept (on_grown ha) (by simp)
        have hrowa := hrow.kept (on_grown ha) (Classical.em _)
        gi_wp2
        exact ⟨(KeepsOthers.of_grownBy (on_grown ha) (fun j o e _ => by cases e)).from _, Kp.of_on ha, ⟨v, hva, by rw [T.out]; exact hrowa, trivial⟩, hB.trans (Below.mono ha (by omega))⟩
    case done =>
      rintro D ys W hD rfl ⟨⟨v, hv, hrow, -⟩, hB⟩ hK
      have hrow' := ownsRow_putObj hrow (.deferred none) hK rfl
      obtain ⟨a', c', rfl, hov⟩ := own_of_row hrow'
      have HOV := Lib.hid hov
      have hc := hv.cell
      have HK := Lib.hid hK
      clear hov hrow hrow'
      gi_wp2
      refine ⟨by simp, .inl ⟨_, _, rfl, run_takeDeferred hK, ?_⟩⟩
      refine ⟨_, results_tmp2 rfl _ _ _, ?_⟩
      exact ⟨_, ret_si HS0.out.symm, by rw [en.out]; exact HOV.out.mono (by omega), (Below.trans HO2.out hB).trans (belowK_b (w := w) (Nat.le_refl _) W D _ _ (by omega) HK.out rfl rfl)⟩
    case stop =>
      rintro D c pre W _ _ h _
      exact h.elim
  · have en := Lib.hid (ed_no hs)
    have hb : (seeC d f l zs fr == 0) = false := beq_eq_false_iff_ne.2 hs
    have hb2 : (seeC d f l zs fr != 0) = true := bne_iff_ne.2 hs
    have HS := Lib.hid hs
    have HA := Lib.hid hA
    clear hA h hs
    go_enter Try.func21, Try.ntmps21
    go_wp2_with fail
    refine (HA.out _ (by repeat (first | with_reducible exact On.refl _ | apply On.alloc))).mono ?_
    rintro e w1 ⟨v, rfl, hv, hv', h1⟩
    have HO := Lib.hid (show On w w1 by refine On.trans ?_ h1; repeat (first | with_reducible exact On.refl _ | apply On.alloc))
    obtain rfl := hv' HS.out
    clear h1 hv hv'
    go_wp2_with fail
    go_ret2
    exact ⟨_, rfl, by rw [en.out]; exact Ints.Own.empty _ _ _ _, by repeat (first | with_reducible exact HO.out | apply On.alloc | refine On.setCell ?_ (by (try simp) <;> omega) _)⟩
end Go.Proofs.Ytmmhekakihimfaa.Nu
