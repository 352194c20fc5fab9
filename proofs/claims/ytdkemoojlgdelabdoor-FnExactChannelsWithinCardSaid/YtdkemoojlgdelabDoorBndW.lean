
/-
  The channels of a band that lie within a range, in the model and in the program. Conditions: at most 1048576 bytes in the name; the program's variable of spans holds what its text lays.
-/
import Derived.Test.YtdkemoojlgdelabDoorBndC
import Derived.Test.YtdkemoojlgdelabDoorInts
import Derived.Maps.AppendAt
import Derived.Lib.SmallJoins
import Derived.OpenShut
namespace Go.Proofs.YtdkemoojlgdelabDoor.Bnd
open Go.RowKit
open Plain
open Ints (Ints Own)

def intCells (zs : List Int) : List Value := zs.map (.int .i64 ·)
theorem cells_snoc (zs : List Int) (x : Int) : intCells zs ++ [.int .i64 x] = intCells (zs ++ [x]) := by unfold intCells; rw [List.map_append]; rfl
theorem own_of_row {w : World} {B : Nat} {e : TypeId} {v : Value} {zs : List Int} (h : w.ownsRow B e 1 v zs.length (intCells zs)) : ∃ a cap, v = .slice a zs.length cap ∧ Own B w (.slice a zs.length cap) zs := by
  have hlt := h.lt
  have hc := fun g (hg : v.ownBlock = some g) => h.cells hg
  obtain ⟨_, ⟨rfl, h2⟩ | ⟨g, cap, cur, rfl, hB, hh, _⟩⟩ := h
  · exact ⟨none, 0, by rw [h2], none, 0, rfl, fun h0 => by omega⟩
  · refine ⟨_, cap, rfl, _, cap, rfl, fun _ => ⟨g, 0, rfl, hB, (hlt g rfl).2, fun j hj => ?_, fun j hj => ?_⟩⟩
    · simp [World.frozen?, hh]
    · have := hc g rfl j (.int .i64 (zs.getD j 0)) (by simp [intCells, hj])
      have e : (⟨g, 0, none⟩ : Addr).add j = ⟨g, 0 + j, none⟩ := by cases j <;> simp [Addr.add]
      rw [e] at this
      exact this
theorem on_grown {W W' : World} (h : On W W') : W.grownBy W' none := ⟨h.os, h.tape, h.output, h.size, fun k hk _ => h.block k hk⟩
/-- Whether the channel k lies within the range. -/
def inC (l r lo hi : Int) (k : Nat) : Bool := decide (lo ≤ l + (k : Int) * r) && decide (l + (k : Int) * r + r ≤ hi)
def pk (l r lo hi : Int) : Nat → List Int
  | 0 => []
  | k + 1 => if inC l r lo hi k = true then pk l r lo hi k ++ [(k : Int)] else pk l r lo hi k
theorem pk_take {l r lo hi : Int} {k : Nat} (h : inC l r lo hi k = true) : pk l r lo hi (k + 1) = pk l r lo hi k ++ [(k : Int)] := if_pos h
theorem pk_keep {l r lo hi : Int} {k : Nat} (h : inC l r lo hi k = false) : pk l r lo hi (k + 1) = pk l r lo hi k := if_neg (by rw [h]; simp)
theorem pk_len (l r lo hi : Int) : ∀ k, (pk l r lo hi k).length ≤ k
  | 0 => Nat.le_refl _
  | k + 1 => by
    have := pk_len l r lo hi k
    rw [pk]
    split
    · rw [List.length_append]; simp; omega
    · omega
def wiV (b1 : Bool) (l h r lo hi : Int) : List Int := if b1 && decide (lo ≤ hi) then pk l r lo hi (quo l h r).toNat else []
def wiC (b1 : Bool) (lo hi : Int) : Int := if b1 then (if lo ≤ hi then 0 else 2) else 1
theorem wi_no (l h r lo hi : Int) : wiV false l h r lo hi = [] := rfl
theorem wc_no (lo hi : Int) : wiC false lo hi = 1 := rfl
theorem wi_out (l h r : Int) {lo hi : Int} (g : ¬ lo ≤ hi) : wiV true l h r lo hi = [] := by unfold wiV; rw [decide_eq_false g]; rfl
theorem wc_out {lo hi : Int} (g : ¬ lo ≤ hi) : wiC true lo hi = 2 := by unfold wiC; rw [if_pos rfl, if_neg g]
theorem wi_yes (l h r : Int) {lo hi : Int} (g : lo ≤ hi) : wiV true l h r lo hi = pk l r lo hi (quo l h r).toNat := by unfold wiV; rw [decide_eq_true g]; rfl
theorem wc_yes {lo hi : Int} (g : lo ≤ hi) : wiC true lo hi = 0 := by unfold wiC; rw [if_pos rfl, if_pos g]
theorem wi_len {x : ByteArray} {l h r d lo hi : Int} : (wiV (okB x l h r d) l h r lo hi).length ≤ 1000 := by
  cases t : okB x l h r d with
  | false => rw [wi_no]; simp
  | true =>
    obtain ⟨_, _, _, ⟨q3, q4⟩, _, _⟩ := of_okB t
    by_cases g : lo ≤ hi
    · rw [wi_yes l h r g]
      have := pk_len l r lo hi (quo l h r).toNat
      omega
    · rw [wi_out l h r g]; simp

set_option maxRecDepth 1000000 in
set_option maxHeartbeats 4000000 in
theorem spec_within (g : Nat) (x : ByteArray) (l h r d lo hi : Int) (w : World) (hp : In w g x l h r d) (l1 : 1 ≤ l) (l2 : l ≤ 100000000) (h1 : 1 ≤ h) (h2 : h ≤ 100000000) (r1 : 1 ≤ r) (r2 : r ≤ 100000) (q3 : 1 ≤ quo l h r) (q4 : quo l h r ≤ 1000) :
    Calls Tryd.prog 21 #[.pointer (some ⟨g, 0, none⟩), .int .i64 lo, .int .i64 hi] w fun e w' => ∃ u, e = .returned u ∧ Ints w' u (pk l r lo hi (quo l h r).toNat) ∧ On w w' := by
  obtain ⟨i0, hi0, hz0, hz1, hz2⟩ := info_parts Ints.info
  have HP := Lib.hid hp
  have hg := hp.lt
  have hC := fun w' (hw : On w w') => spec_count g x l h r d w' (hp.on hw) l1 l2 h1 h2 r1
  have hX := fun (k : Nat) (hk : (k : Int) ≤ quo l h r - 1) => chan_in (l := l) (h := h) (c := (k : Int)) r1 q3 (by omega) hk
  obtain ⟨n, hn⟩ : ∃ n : Nat, n = (quo l h r).toNat := ⟨_, rfl⟩
  have hq : quo l h r = (n : Int) := by omega
  have hn1 : n ≤ 1000 := by omega
  rw [← hn]
  rw [hq] at hC hX
  have HX := Lib.hid (fun (k : Nat) (hk : k < n) => hX k (by omega))
  have HCC := Lib.hid hC
  clear hC hX hq hn hp q3 q4
  go_enter Tryd.func21, Tryd.ntmps21
  go_wp2_with fail
  go_loopw [7, 8] (fun v i wr => ∃ k : Nat, i = .int .i64 k ∧ k ≤ n ∧ wr.ownsRow w.heap.size 2 1 v (pk l r lo hi k).length (intCells (pk l r lo hi k)) ∧ On w wr) (fun _ i _ => n - (intOf i).toNat)
  case atStart => exact ⟨0, rfl, Nat.zero_le _, World.ownsRow_lit w #[] 0 (Nat.le_refl _) (by unfold maxLen; omega) rfl, On.alloc (On.refl _) _⟩
  case round =>
    obtain ⟨k, rfl, hk, hown, ho⟩ := hrel
    have HC := Lib.hid (HCC.out wr ho)
    have HO := Lib.hid hown
    have HW := Lib.hid ho
    have hsz := ho.size
    clear hown ho
    by_cases hlt : k < n
    · have hki : (k : Int) < (n : Int) := by omega
      obtain ⟨e1, e2⟩ := HX.out k hlt
      have s1 : ((k : Int) + 1) * r = (k : Int) * r + r := by rw [Int.add_mul]; omega
      have hlen := pk_len l r lo hi k
      have ET := Lib.hid (pk_take (l := l) (r := r) (lo := lo) (hi := hi) (k := k))
      have EK := Lib.hid (pk_keep (l := l) (r := r) (lo := lo) (hi := hi) (k := k))
      have EN := Lib.hid (show inC l r lo hi k = (decide (lo ≤ l + (k : Int) * r) && decide (l + (k : Int) * r + r ≤ hi)) from rfl)
      obtain ⟨p1, hp1⟩ : ∃ z, z = (k : Int) * r := ⟨_, rfl⟩
      obtain ⟨p2, hp2⟩ : ∃ z, z = ((k : Int) + 1) * r := ⟨_, rfl⟩
      rw [← hp1] at e1 e2 s1 EN
      rw [← hp2] at s1
      have hk1 : (k : Int) * r = p1 := hp1.symm
      have hk2 : ((k : Int) + 1) * r = p2 := hp2.symm
      have wp1 : IntKind.i64.wrap p1 = p1 := IntWalk.i64_in _ (by omega)
      have wp2 : IntKind.i64.wrap p2 = p2 := IntWalk.i64_in _ (by omega)
      have wp3 : IntKind.i64.wrap (l + p1) = l + p1 := IntWalk.i64_in _ (by omega)
      have wp4 : IntKind.i64.wrap (l + p2) = l + p2 := IntWalk.i64_in _ (by omega)
      have wp5 : IntKind.i64.wrap ((k : Int) + 1) = (k : Int) + 1 := IntWalk.i64_in _ (by omega)
      have s2 := Lib.hid (show l + p1 + r = l + p2 by omega)
      rw [s2.out] at EN
      clear hp1 hp2 s1 s2
      cases g1 : decide (lo ≤ l + p1) with
      | false =>
        have T := Lib.hid (EK.out (by rw [EN.out, g1]; rfl))
        clear ET EK EN
        go_wp2_with fail
        refine HC.out.mono ?_
        rintro e wb ⟨rfl, hb⟩
        have HOb := Lib.hid (HO.out.kept (on_grown hb) (Classical.em _))
        have HWb := Lib.hid (HW.out.trans hb)
        obtain ⟨j0, j1, j2, j3, j4⟩ := HP.out.on HWb.out
        have zz := World.block_lt_of_cell? _ _ j0
        clear hb
        go_wp2_with fail
        refine wp_region_onh (by kernel_rfl) (by kernel_rfl) ?_
        repeat (refine rest_step (fun K hK => ?_); go_simp; first | (refine hK _ ?_; clear hK K) | (apply Exists.intro; refine ⟨fun v1 hv1 => ?_, hK _ ?_⟩; (first | with_reducible exact rfl | with_reducible exact ⟨rfl, rfl⟩ | (obtain ⟨hc, hf⟩ := bcell hv1; go_simp; first | with_reducible exact rfl | with_reducible exact ⟨rfl, rfl⟩ | exact rfl | exact ⟨rfl, rfl⟩)); clear hK K))
        refine rest_nil ?_
        intro wa ha
        have HOa := Lib.hid (HOb.out.kept (on_grown ha) (Classical.em _))
        have HWa := Lib.hid (HWb.out.trans ha)
        have hsa := HWa.out.size
        clear ha j0 j1 j2 j3 j4 zz HOb HWb
        go_wp2_with fail
        go_roundw
        case rel => exact ⟨k + 1, by go_num, by omega, by rw [T.out]; exact HOa.out, HWa.out⟩
        case measure => simp [intOf]; omega
      | true =>
        cases g2 : decide (l + p2 ≤ hi) with
        | false =>
          have T := Lib.hid (EK.out (by rw [EN.out, g1, g2]; rfl))
          clear ET EK EN
          go_wp2_with fail
          refine HC.out.mono ?_
          rintro e wb ⟨rfl, hb⟩
          have HOb := Lib.hid (HO.out.kept (on_grown hb) (Classical.em _))
          have HWb := Lib.hid (HW.out.trans hb)
          obtain ⟨j0, j1, j2, j3, j4⟩ := HP.out.on HWb.out
          have zz := World.block_lt_of_cell? _ _ j0
          clear hb
          go_wp2_with fail
          refine wp_region_onh (by kernel_rfl) (by kernel_rfl) ?_
          repeat (refine rest_step (fun K hK => ?_); go_simp; first | (refine hK _ ?_; clear hK K) | (apply Exists.intro; refine ⟨fun v1 hv1 => ?_, hK _ ?_⟩; (first | with_reducible exact rfl | with_reducible exact ⟨rfl, rfl⟩ | (obtain ⟨hc, hf⟩ := bcell hv1; go_simp; first | with_reducible exact rfl | with_reducible exact ⟨rfl, rfl⟩ | exact rfl | exact ⟨rfl, rfl⟩)); clear hK K))
          refine rest_nil ?_
          intro wa ha
          have HOa := Lib.hid (HOb.out.kept (on_grown ha) (Classical.em _))
          have HWa := Lib.hid (HWb.out.trans ha)
          have hsa := HWa.out.size
          clear ha j0 j1 j2 j3 j4 zz HOb HWb
          go_wp2_with fail
          go_roundw
          case rel => exact ⟨k + 1, by go_num, by omega, by rw [T.out]; exact HOa.out, HWa.out⟩
          case measure => simp [intOf]; omega
        | true =>
          have T := Lib.hid (ET.out (by rw [EN.out, g1, g2]; rfl))
          clear ET EK EN
          go_wp2_with fail
          refine HC.out.mono ?_
          rintro e wb ⟨rfl, hb⟩
          have HOb := Lib.hid (HO.out.kept (on_grown hb) (Classical.em _))
          have HWb := Lib.hid (HW.out.trans hb)
          obtain ⟨j0, j1, j2, j3, j4⟩ := HP.out.on HWb.out
          have zz := World.block_lt_of_cell? _ _ j0
          clear hb
          go_wp2_with fail
          refine wp_region_onh (by kernel_rfl) (by kernel_rfl) ?_
          repeat (refine rest_step (fun K hK => ?_); go_simp; first | (refine hK _ ?_; clear hK K) | (apply Exists.intro; refine ⟨fun v1 hv1 => ?_, hK _ ?_⟩; (first | with_reducible exact rfl | with_reducible exact ⟨rfl, rfl⟩ | (obtain ⟨hc, hf⟩ := bcell hv1; go_simp; first | with_reducible exact rfl | with_reducible exact ⟨rfl, rfl⟩ | exact rfl | exact ⟨rfl, rfl⟩)); clear hK K))
          refine rest_nil ?_
          intro wa ha
          have HOa := Lib.hid (HOb.out.kept (on_grown ha) (Classical.em _))
          have HWa := Lib.hid (HWb.out.trans ha)
          have hsa := HWa.out.size
          clear ha j0 j1 j2 j3 j4 zz HOb HWb
          go_wp2_with (at_builtin; refine wpList_append_own _ rfl (.tmp 45) (.tmp 47) 25 rfl w.heap.size 2 i0 (.int .i64 0) 1 8 Tryd.underlying25 hi0 hz0 hz1 hz2 rfl (by decide) _ (pk l r lo hi k).length _ rfl (HOa.out.alloc _) ⟨wa.heap.size, 0, none⟩ 1 1 [.int .i64 (k : Int)] rfl rfl ?c1 ?c2 ?c3 ?c4 ?c5 ?_)
          case c1 => exact cell_one_new _ _ _
          case c2 => intro u hu; simp at hu; subst hu; rfl
          case c3 => unfold maxLen; omega
          case c4 => omega
          case c5 => simp; omega
          intro v' w3 hown' hgrow _
          have hl : (pk l r lo hi k).length + 1 = (pk l r lo hi (k + 1)).length := by rw [T.out, List.length_append]; rfl
          rw [cells_snoc, ← T.out, hl] at hown'
          have HO2 := Lib.hid hown'
          have HB2 := Lib.hid (show On w w3 from Below.grown (On.alloc HWa.out _) hgrow (by simp; omega) (fun k hk => (HOa.out.lt k hk).1))
          clear hown' hgrow hl
          go_wp2
          go_roundw
          case rel => first | exact ⟨k + 1, by go_num, by omega, HO2.out, HB2.out⟩ | ((repeat apply Exists.intro); exact ⟨⟨k + 1, by go_num, by omega, HO2.out, HB2.out⟩, rfl⟩)
          case measure => simp [intOf]; omega
    · obtain rfl : k = n := by omega
      have hki : ¬ ((k : Int) < (k : Int)) := by omega
      obtain ⟨a', c', rfl, hov⟩ := own_of_row HO.out
      have HV := Lib.hid hov
      clear hov
      go_wp2_with fail
      refine HC.out.mono ?_
      rintro e wb ⟨rfl, hb⟩
      go_wp2_with fail
      go_ret
      exact ⟨_, rfl, (HV.out.below hb).ints, HW.out.trans hb⟩

set_option maxHeartbeats 2000000 in
theorem spec_Within (x : ByteArray) (l h r d lo hi : Int) (w : World) (q0 : x.size ≤ 1048576) :
    Calls Tryd.prog 8 #[.agg #[.string x, .int .i64 l, .int .i64 h, .int .i64 r, .int .i64 d], .int .i64 lo, .int .i64 hi] w fun e w' => ∃ u, e = .returned (.tuple #[u, .int .i64 (wiC (okB x l h r d) lo hi)]) ∧ Ints w' u (wiV (okB x l h r d) l h r lo hi) ∧ On w w' := by
  have HV := Lib.hid (fun w' hp => spec_ok w.heap.size x l h r d w' q0 hp)
  cases t0 : okB x l h r d with
  | false =>
    rw [t0] at HV
    rw [wi_no, wc_no]
    go_enter Tryd.func8, Tryd.ntmps8
    go_wp2_with fail
    refine (HV.out _ ⟨by simp [go_sem], by simp [go_sem], by simp [go_sem], by simp [go_sem], by simp [go_sem]⟩).mono ?_
    rintro e w1 ⟨rfl, a1⟩
    have K1 : In w1 w.heap.size x l h r d := In.on ⟨by simp [go_sem], by simp [go_sem], by simp [go_sem], by simp [go_sem], by simp [go_sem]⟩ a1
    have HK1 := Lib.hid K1
    have hO1 : On w w1 := by repeat (first | with_reducible exact On.refl _ | apply On.alloc | apply On.drewN | apply On.drew | refine On.setCell ?_ (by (try simp) <;> omega) _ | refine On.trans ?_ a1)
    clear a1 K1
    go_wp2_with fail
    go_ret2
    exact ⟨_, rfl, (Own.empty 0 _ _ _).ints, hO1⟩
  | true =>
    obtain ⟨⟨l1, l2⟩, ⟨h1, h2⟩, ⟨r1, r2⟩, ⟨q3, q4⟩, d1, d2⟩ := of_okB t0
    rw [t0] at HV
    have HW := Lib.hid (fun w' hp => spec_within w.heap.size x l h r d lo hi w' hp l1 l2 h1 h2 r1 r2 q3 q4)
    by_cases g : lo ≤ hi
    · rw [wi_yes l h r g, wc_yes g]
      have g' : ¬ hi < lo := by omega
      go_enter Tryd.func8, Tryd.ntmps8
      go_wp2_with fail
      refine (HV.out _ ⟨by simp [go_sem], by simp [go_sem], by simp [go_sem], by simp [go_sem], by simp [go_sem]⟩).mono ?_
      rintro e w1 ⟨rfl, a1⟩
      have K1 : In w1 w.heap.size x l h r d := In.on ⟨by simp [go_sem], by simp [go_sem], by simp [go_sem], by simp [go_sem], by simp [go_sem]⟩ a1
      have HK1 := Lib.hid K1
      have hO1 : On w w1 := by repeat (first | with_reducible exact On.refl _ | apply On.alloc | apply On.drewN | apply On.drew | refine On.setCell ?_ (by (try simp) <;> omega) _ | refine On.trans ?_ a1)
      clear a1 K1
      go_wp2_with fail
      refine (HW.out _ HK1.out).mono ?_
      rintro e w2 ⟨u, rfl, hu, a2⟩
      go_wp2_with fail
      go_ret2
      exact ⟨_, rfl, hu, hO1.trans a2⟩
    · rw [wi_out l h r g, wc_out g]
      have g' : hi < lo := by omega
      go_enter Tryd.func8, Tryd.ntmps8
      go_wp2_with fail
      refine (HV.out _ ⟨by simp [go_sem], by simp [go_sem], by simp [go_sem], by simp [go_sem], by simp [go_sem]⟩).mono ?_
      rintro e w1 ⟨rfl, a1⟩
      have K1 : In w1 w.heap.size x l h r d := In.on ⟨by simp [go_sem], by simp [go_sem], by simp [go_sem], by simp [go_sem], by simp [go_sem]⟩ a1
      have HK1 := Lib.hid K1
      have hO1 : On w w1 := by repeat (first | with_reducible exact On.refl _ | apply On.alloc | apply On.drewN | apply On.drew | refine On.setCell ?_ (by (try simp) <;> omega) _ | refine On.trans ?_ a1)
      clear a1 K1
      go_wp2_with fail
      go_ret2
      exact ⟨_, rfl, (Own.empty 0 _ _ _).ints, hO1⟩

theorem impl_holds (a a' b b' : Int) (w : World) :
    Calls Tryd.prog 24 #[.agg #[.int .i64 a, .int .i64 a'], .agg #[.int .i64 b, .int .i64 b']] w fun e w' => e = .returned (.bool (decide (a ≤ b) && decide (b' ≤ a'))) ∧ On w w' := by
  by_cases g1 : a ≤ b
  · by_cases g2 : b' ≤ a'
    · have en := Lib.hid (show (decide (a ≤ b) && decide (b' ≤ a')) = true by rw [decide_eq_true g1, decide_eq_true g2]; rfl)
      go_enter Tryd.func24, Tryd.ntmps24
      go_wp2_with fail
      go_ret
      exact ⟨ret_bool (by first | rfl | (rw [en.out]; done) | (rw [en.out]; simp)), by repeat (first | with_reducible exact On.refl _ | apply On.alloc | apply On.drewN | apply On.drew | refine On.setCell ?_ (by (try simp) <;> omega) _)⟩
    · have en := Lib.hid (show (decide (a ≤ b) && decide (b' ≤ a')) = false by rw [decide_eq_true g1, decide_eq_false g2]; rfl)
      have g2' : decide (b' ≤ a') = false := decide_eq_false g2
      go_enter Tryd.func24, Tryd.ntmps24
      go_wp2_with fail
      go_ret
      exact ⟨ret_bool (by first | rfl | (rw [en.out]; done) | (rw [en.out]; simp)), by repeat (first | with_reducible exact On.refl _ | apply On.alloc | apply On.drewN | apply On.drew | refine On.setCell ?_ (by (try simp) <;> omega) _)⟩
  · have en := Lib.hid (show (decide (a ≤ b) && decide (b' ≤ a')) = false by rw [decide_eq_false g1]; rfl)
    have g1' : decide (a ≤ b) = false := decide_eq_false g1
    go_enter Tryd.func24, Tryd.ntmps24
    go_wp2_with fail
    go_ret
    exact ⟨ret_bool (by first | rfl | (rw [en.out]; done) | (rw [en.out]; simp)), by repeat (first | with_reducible exact On.refl _ | apply On.alloc | apply On.drewN | apply On.drew | refine On.setCell ?_ (by (try simp) <;> omega) _)⟩

set_option maxRecDepth 1000000 in
set_option maxHeartbeats 4000000 in
theorem impl_Within (x : ByteArray) (l h r d lo hi : Int) (w : World) (q0 : x.size ≤ 1048576) (hg : Span.SpanG w) :
    Calls Tryd.prog 10 #[.agg #[.string x, .int .i64 l, .int .i64 h, .int .i64 r, .int .i64 d], .int .i64 lo, .int .i64 hi] w fun e w' => ∃ a c, e = .returned (.tuple #[.slice a (wiV (okB x l h r d) l h r lo hi).length c, .int .i64 (wiC (okB x l h r d) lo hi)]) ∧ Own w.heap.size w' (.slice a (wiV (okB x l h r d) l h r lo hi).length c) (wiV (okB x l h r d) l h r lo hi) ∧ On w w' := by
  have HV := Lib.hid (fun w' (ho : On w w') => impl_ok x l h r d w' q0 (hg.on ho))
  clear hg
  cases t0 : okB x l h r d with
  | false =>
    rw [t0] at HV
    rw [wi_no, wc_no]
    go_enter Tryd.func10, Tryd.ntmps10
    go_wp2_with fail
    refine (HV.out _ (by repeat (first | with_reducible exact On.refl _ | apply On.alloc | apply On.drewN | apply On.drew | refine On.setCell ?_ (by (try simp) <;> omega) _))).mono ?_
    rintro e w1 ⟨rfl, a1⟩
    have K1 : In w1 w.heap.size x l h r d := In.on ⟨by simp [go_sem], by simp [go_sem], by simp [go_sem], by simp [go_sem], by simp [go_sem]⟩ a1
    have HK1 := Lib.hid K1
    have z1 := K1.lt
    obtain ⟨k0, k1, k2, k3, k4⟩ := K1
    have hO1 : On w w1 := by repeat (first | with_reducible exact On.refl _ | apply On.alloc | apply On.drewN | apply On.drew | refine On.setCell ?_ (by (try simp) <;> omega) _ | refine On.trans ?_ a1)
    clear a1
    go_wp2_with fail
    go_ret2
    exact ⟨_, _, rfl, Own.empty _ _ _ _, hO1⟩
  | true =>
    obtain ⟨⟨l1, l2⟩, ⟨h1, h2⟩, ⟨r1, r2⟩, ⟨q3, q4⟩, d1, d2⟩ := of_okB t0
    rw [t0] at HV
    by_cases g : lo ≤ hi
    · rw [wi_yes l h r g, wc_yes g]
      have g' : ¬ hi < lo := by omega
      obtain ⟨i0, hi0, hz0, hz1, hz2⟩ := info_parts Ints.info
      have hC := fun w' => impl_count x l h r d w' l1 l2 h1 h2 r1
      have hX := fun (k : Nat) (hk : (k : Int) ≤ quo l h r - 1) => chan_in (l := l) (h := h) (c := (k : Int)) r1 q3 (by omega) hk
      have hY := fun (k : Nat) (hk : (k : Int) ≤ quo l h r - 1) w' => impl_channel x l h r d (k : Int) w' l1 l2 h1 h2 r1 (by omega) hk q3
      obtain ⟨n, hn⟩ : ∃ n : Nat, n = (quo l h r).toNat := ⟨_, rfl⟩
      have hq : quo l h r = (n : Int) := by omega
      have hn1 : n ≤ 1000 := by omega
      rw [← hn]
      rw [hq] at hC hX hY
      have HX := Lib.hid (fun (k : Nat) (hk : k < n) => hX k (by omega))
      have HY := Lib.hid (fun (k : Nat) (hk : k < n) => hY k (by omega))
      have HCC := Lib.hid hC
      clear hC hX hY hq hn q3 q4
      go_enter Tryd.func10, Tryd.ntmps10
      go_wp2_with fail
      refine (HV.out _ (by repeat (first | with_reducible exact On.refl _ | apply On.alloc | apply On.drewN | apply On.drew | refine On.setCell ?_ (by (try simp) <;> omega) _))).mono ?_
      rintro e w1 ⟨rfl, a1⟩
      have K1 : In w1 w.heap.size x l h r d := In.on ⟨by simp [go_sem], by simp [go_sem], by simp [go_sem], by simp [go_sem], by simp [go_sem]⟩ a1
      have HK1 := Lib.hid K1
      have z1 := K1.lt
      obtain ⟨k0, k1, k2, k3, k4⟩ := K1
      have hO1 : On w w1 := by repeat (first | with_reducible exact On.refl _ | apply On.alloc | apply On.drewN | apply On.drew | refine On.setCell ?_ (by (try simp) <;> omega) _ | refine On.trans ?_ a1)
      clear a1
      go_wp2_with fail
      refine (HCC.out _).mono ?_
      rintro e w2 ⟨rfl, a2⟩
      have K2 : In w2 w.heap.size x l h r d := HK1.out.on (by repeat (first | with_reducible exact On.refl _ | apply On.alloc | apply On.drewN | apply On.drew | refine On.setCell ?_ (by (try simp) <;> omega) _ | refine On.trans ?_ a2))
      have S2 : w2.cell? ⟨w1.heap.size, 0, none⟩ = some (.int .i64 lo) ∧ w2.cell? ⟨w1.heap.size, 1, none⟩ = some (.int .i64 hi) := by
        obtain ⟨hc2, hf2⟩ := bcell a2
        exact ⟨(hc2 _ _ (by simp)).trans (by simp [go_sem]), (hc2 _ _ (by simp)).trans (by simp [go_sem])⟩
      have HK2 := Lib.hid K2
      have HS2 := Lib.hid S2
      have hO2 : On w w2 := by repeat (first | with_reducible exact On.refl _ | apply On.alloc | apply On.drewN | apply On.drew | refine On.setCell ?_ (by (try simp) <;> omega) _ | refine On.trans ?_ a2 | refine On.trans ?_ hO1)
      have hs2 := hO2.size
      clear a2 K2 S2 k0 k1 k2 k3 k4
      go_wp2_with fail
      go_loopw [9, 22] (fun v i wr => ∃ k : Nat, i = .int .i64 k ∧ k ≤ n ∧ wr.ownsRow w2.heap.size 2 1 v (pk l r lo hi k).length (intCells (pk l r lo hi k)) ∧ On w2 wr) (fun _ i _ => n - (intOf i).toNat)
      case atStart => exact ⟨0, rfl, Nat.zero_le _, World.ownsRow_nil _ _ _ _, On.refl _⟩
      case round =>
        obtain ⟨k, rfl, hk, hown, ho⟩ := hrel
        have HO := Lib.hid hown
        have HW := Lib.hid ho
        have hsz := ho.size
        obtain ⟨m0, m1, m2, m3, m4⟩ := HK2.out.on ho
        have zz := World.block_lt_of_cell? _ _ m0
        have m5 : wr.cell? ⟨w1.heap.size, 0, none⟩ = some (.int .i64 lo) := (ho.cell (by exact World.block_lt_of_cell? _ _ HS2.out.1)).trans HS2.out.1
        have m6 : wr.cell? ⟨w1.heap.size, 1, none⟩ = some (.int .i64 hi) := (ho.cell (by exact World.block_lt_of_cell? _ _ HS2.out.2)).trans HS2.out.2
        have zz2 := World.block_lt_of_cell? _ _ m5
        clear hown ho
        by_cases hlt : k < n
        · have hki : (k : Int) < (n : Int) := by omega
          obtain ⟨e1, e2⟩ := HX.out k hlt
          have hCH := fun w' => HY.out k hlt w'
          have hHO := fun w' => impl_holds lo hi (l + (k : Int) * r) (l + (k : Int) * r + r) w'
          have hlen := pk_len l r lo hi k
          have ET := Lib.hid (pk_take (l := l) (r := r) (lo := lo) (hi := hi) (k := k))
          have EK := Lib.hid (pk_keep (l := l) (r := r) (lo := lo) (hi := hi) (k := k))
          have EN := Lib.hid (show inC l r lo hi k = (decide (lo ≤ l + (k : Int) * r) && decide (l + (k : Int) * r + r ≤ hi)) from rfl)
          obtain ⟨u, hu⟩ : ∃ z, z = l + (k : Int) * r := ⟨_, rfl⟩
          rw [← hu] at hCH hHO EN
          have HCH := Lib.hid hCH
          rw [← EN.out] at hHO
          have HHO := Lib.hid hHO
          clear hCH hHO hu EN e1 e2
          cases g1 : inC l r lo hi k with
          | false =>
            have T := Lib.hid (EK.out g1)
            rw [g1] at HHO
            clear ET EK
            go_wp2_with fail
            refine wp_region_onh (by kernel_rfl) (by kernel_rfl) ?_
            repeat (refine rest_step (fun K hK => ?_); go_simp; first | (refine hK _ ?_; clear hK K) | (apply Exists.intro; refine ⟨fun v1 hv1 => ?_, hK _ ?_⟩; (first | with_reducible exact rfl | with_reducible exact ⟨rfl, rfl⟩ | with_reducible exact Calls.on hv1 (HCH.out _) | with_reducible exact Calls.on hv1 (HHO.out _) | (obtain ⟨hc, hf⟩ := bcell hv1; go_simp; first | with_reducible exact rfl | with_reducible exact ⟨rfl, rfl⟩ | exact rfl | exact ⟨rfl, rfl⟩)); clear hK K))
            refine rest_nil ?_
            intro wa ha
            have HOa := Lib.hid (HO.out.kept (on_grown ha) (Classical.em _))
            have HWa := Lib.hid (HW.out.trans ha)
            have hsa := HWa.out.size
            clear ha m0 m1 m2 m3 m4 m5 m6 zz zz2
            go_wp2_with fail
            go_roundw
            case rel => exact ⟨k + 1, by go_num, by omega, by rw [T.out]; exact HOa.out, HWa.out⟩
            case measure => simp [intOf]; omega
          | true =>
            have T := Lib.hid (ET.out g1)
            rw [g1] at HHO
            clear ET EK
            go_wp2_with fail
            refine wp_region_onh (by kernel_rfl) (by kernel_rfl) ?_
            repeat (refine rest_step (fun K hK => ?_); go_simp; first | (refine hK _ ?_; clear hK K) | (apply Exists.intro; refine ⟨fun v1 hv1 => ?_, hK _ ?_⟩; (first | with_reducible exact rfl | with_reducible exact ⟨rfl, rfl⟩ | with_reducible exact Calls.on hv1 (HCH.out _) | with_reducible exact Calls.on hv1 (HHO.out _) | (obtain ⟨hc, hf⟩ := bcell hv1; go_simp; first | with_reducible exact rfl | with_reducible exact ⟨rfl, rfl⟩ | exact rfl | exact ⟨rfl, rfl⟩)); clear hK K))
            refine rest_nil ?_
            intro wa ha
            have HOa := Lib.hid (HO.out.kept (on_grown ha) (Classical.em _))
            have HWa := Lib.hid (HW.out.trans ha)
            have hsa := HWa.out.size
            clear ha m0 m1 m2 m3 m4 m5 m6 zz zz2
            go_wp2_with (at_builtin; refine wpList_append_own _ rfl (.tmp 30) (.tmp 32) 25 rfl w2.heap.size 2 i0 (.int .i64 0) 1 8 Tryd.underlying25 hi0 hz0 hz1 hz2 rfl (by decide) _ (pk l r lo hi k).length _ rfl (HOa.out.alloc _) ⟨wa.heap.size, 0, none⟩ 1 1 [.int .i64 (k : Int)] rfl rfl ?c1 ?c2 ?c3 ?c4 ?c5 ?_)
            case c1 => exact cell_one_new _ _ _
            case c2 => intro u hu; simp at hu; subst hu; rfl
            case c3 => unfold maxLen; omega
            case c4 => omega
            case c5 => simp; omega
            intro v' w3 hown' hgrow _
            have hl : (pk l r lo hi k).length + 1 = (pk l r lo hi (k + 1)).length := by rw [T.out, List.length_append]; rfl
            rw [cells_snoc, ← T.out, hl] at hown'
            have HO2 := Lib.hid hown'
            have HB2 := Lib.hid (show On w2 w3 from Below.grown (On.alloc HWa.out _) hgrow (by simp; omega) (fun k hk => (HOa.out.lt k hk).1))
            clear hown' hgrow hl
            go_wp2
            go_roundw
            case rel => first | exact ⟨k + 1, by go_num, by omega, HO2.out, HB2.out⟩ | ((repeat apply Exists.intro); exact ⟨⟨k + 1, by go_num, by omega, HO2.out, HB2.out⟩, rfl⟩)
            case measure => simp [intOf]; omega
        · obtain rfl : k = n := by omega
          have hki : ¬ ((k : Int) < (k : Int)) := by omega
          obtain ⟨a', c', rfl, hov⟩ := own_of_row HO.out
          have HV2 := Lib.hid (hov.mono (B' := w.heap.size) hs2)
          clear hov
          go_wp2_with fail
          go_ret2
          exact ⟨_, _, rfl, HV2.out, hO2.trans HW.out⟩
    · rw [wi_out l h r g, wc_out g]
      have g' : hi < lo := by omega
      go_enter Tryd.func10, Tryd.ntmps10
      go_wp2_with fail
      refine (HV.out _ (by repeat (first | with_reducible exact On.refl _ | apply On.alloc | apply On.drewN | apply On.drew | refine On.setCell ?_ (by (try simp) <;> omega) _))).mono ?_
      rintro e w1 ⟨rfl, a1⟩
      have K1 : In w1 w.heap.size x l h r d := In.on ⟨by simp [go_sem], by simp [go_sem], by simp [go_sem], by simp [go_sem], by simp [go_sem]⟩ a1
      have HK1 := Lib.hid K1
      have z1 := K1.lt
      obtain ⟨k0, k1, k2, k3, k4⟩ := K1
      have hO1 : On w w1 := by repeat (first | with_reducible exact On.refl _ | apply On.alloc | apply On.drewN | apply On.drew | refine On.setCell ?_ (by (try simp) <;> omega) _ | refine On.trans ?_ a1)
      clear a1
      go_wp2_with fail
      go_ret2
      exact ⟨_, _, rfl, Own.empty _ _ _ _, hO1⟩

end Go.Proofs.YtdkemoojlgdelabDoor.Bnd
