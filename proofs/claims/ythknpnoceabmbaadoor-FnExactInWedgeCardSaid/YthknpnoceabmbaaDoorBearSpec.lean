
/-
  What the model's bearing is. No condition.
-/
import Derived.Test.YthknpnoceabmbaaDoorSine
import Derived.Test.YthknpnoceabmbaaDoorBearing
namespace Go.Proofs.YthknpnoceabmbaaDoor.Bear
open Go.RowKit
open Plain
open Sine (TabG TabAt)
open _root_.Go.Proofs.YthknpnoceabmbaaDoor.Reach
open Point

def fold90 (d : Nat) : Nat := if 90 < d then 180 - d else d
theorem sinN_mod {k : Nat} (h : k < 360) : sinN k = if 180 ≤ k then -sinT (fold90 (k % 180)) else sinT (fold90 (k % 180)) := by
  unfold sinN sin2 fold90
  by_cases g : 180 ≤ k
  · rw [if_pos g, if_pos g, show k % 180 = k - 180 from by omega]
  · rw [if_neg g, if_neg g, Nat.mod_eq_of_lt (show k < 180 by omega)]
def BSt (e n : Int) (k : Nat) (b m : Int) : Prop := (k = 0 ∧ b = 0 ∧ m = -4611686018427387904) ∨ (0 < k ∧ b = (Plain.best e n (k - 1) : Nat) ∧ m = reach e n (Plain.best e n (k - 1)))
theorem bst_gt {e n : Int} {k : Nat} {b m : Int} (h : BSt e n k b m) (hg : m < reach e n k) : BSt e n (k + 1) k (reach e n k) := by
  refine .inr ⟨by omega, ?_⟩
  rw [Nat.add_sub_cancel]
  rcases h with ⟨rfl, _, _⟩ | ⟨h0, _, h2⟩
  · exact ⟨rfl, rfl⟩
  · obtain ⟨j, rfl⟩ : ∃ j, k = j + 1 := ⟨k - 1, by omega⟩
    rw [Nat.add_sub_cancel] at h2
    unfold Plain.best
    rw [if_pos (by rw [← h2]; exact hg)]
    exact ⟨rfl, rfl⟩
theorem bst_le {e n : Int} {k : Nat} {b m : Int} (h : BSt e n k b m) (hk : reach e n k ≤ 4000000000000) (hk2 : -4000000000000 ≤ reach e n k) (hg : ¬ m < reach e n k) : BSt e n (k + 1) b m := by
  rcases h with ⟨_, _, h2⟩ | ⟨h0, h1, h2⟩
  · omega
  · obtain ⟨j, rfl⟩ : ∃ j, k = j + 1 := ⟨k - 1, by omega⟩
    rw [Nat.add_sub_cancel] at h1 h2
    refine .inr ⟨by omega, ?_⟩
    rw [Nat.add_sub_cancel]
    unfold Plain.best
    rw [if_neg (by rw [← h2]; exact hg)]
    exact ⟨h1, h2⟩
theorem reach_bd {e n : Int} (e0 : -1000000 ≤ e) (e1 : e ≤ 1000000) (n0 : -1000000 ≤ n) (n1 : n ≤ 1000000) (k : Nat) : -4000000000000 ≤ reach e n k ∧ reach e n k ≤ 4000000000000 := by
  have h1 := sin_bd (k % 360) (by omega)
  have h2 := cos_bd (k % 360) (by omega)
  have p := prod_bd2 e0 e1 h1.1 h1.2
  have q := prod_bd2 n0 n1 h2.1 h2.2
  unfold reach
  omega
theorem bst_bd {e n : Int} (e0 : -1000000 ≤ e) (e1 : e ≤ 1000000) (n0 : -1000000 ≤ n) (n1 : n ≤ 1000000) {k : Nat} {b m : Int} (h : BSt e n k b m) : -4611686018427387904 ≤ m ∧ m ≤ 4000000000000 := by
  rcases h with ⟨_, _, h2⟩ | ⟨h0, h1, h2⟩
  · omega
  · have := reach_bd e0 e1 n0 n1 (Plain.best e n (k - 1)); omega
set_option maxHeartbeats 4000000 in
set_option maxRecDepth 100000 in
theorem spec_l03Bearing (x y u v : Int) (w : World) (k1 : okB x y = true) (k2 : okB u v = true) :
    Calls Tryd.prog 31 #[.agg #[.int .i64 x, .int .i64 y], .agg #[.int .i64 u, .int .i64 v]] w fun r w' => r = .returned (.int .i64 (bearing (u - x) (v - y) : Nat)) ∧ On w w' := by
  obtain ⟨x0, x1, y0, y1⟩ := of_okB k1
  obtain ⟨u0, u1, v0, v1⟩ := of_okB k2
  have E0 : -1000000 ≤ u - x := by omega
  have E1 : u - x ≤ 1000000 := by omega
  have N0 : -1000000 ≤ v - y := by omega
  have N1 : v - y ≤ 1000000 := by omega
  clear k1 k2
  go_enter Tryd.func31, Tryd.ntmps31
  go_wp2_with fail
  refine (Sine.spec_table _).mono ?_
  rintro r w1 ⟨rfl, h1, ht, _⟩
  obtain ⟨hc1, hf1⟩ := bcell h1
  have ht' : TabAt w1 (w.heap.size + 1 + 1) := by simpa using ht
  have HT := Lib.hid ht'
  clear ht ht'
  go_wp2_with fail
  go_loop [5, 6, 8] (fun p q r => ∃ (k : Nat) (b m : Int), p = .int .i64 b ∧ q = .int .i64 m ∧ r = .int .i64 k ∧ k ≤ 360 ∧ BSt (u - x) (v - y) k b m) (fun _ _ r => (360 - intOf r).toNat)
  case atStart => exact ⟨0, 0, _, rfl, rfl, rfl, by omega, .inl ⟨rfl, rfl, rfl⟩⟩
  case round =>
    obtain ⟨k, b, m, rfl, rfl, rfl, hk, hst⟩ := hrel
    by_cases hlt : k < 360
    · obtain ⟨s1, hs1⟩ : ∃ s, s = k % 180 := ⟨_, rfl⟩
      obtain ⟨e1, he1⟩ : ∃ s, s = (k + 90) % 360 := ⟨_, rfl⟩
      obtain ⟨s2, hs2⟩ : ∃ s, s = e1 % 180 := ⟨_, rfl⟩
      obtain ⟨T1, hT1⟩ : ∃ t, t = sinT (fold90 s1) := ⟨_, rfl⟩
      obtain ⟨T2, hT2⟩ : ∃ t, t = sinT (fold90 s2) := ⟨_, rfl⟩
      have l1 : fold90 s1 < 91 := by unfold fold90; split <;> omega
      have l2 : fold90 s2 < 91 := by unfold fold90; split <;> omega
      obtain ⟨t10, t11⟩ := tab_bd _ l1
      obtain ⟨t20, t21⟩ := tab_bd _ l2
      have A1 := HT.out _ l1
      have A2 := HT.out _ l2
      rw [← hT1] at A1 t10 t11
      rw [← hT2] at A2 t20 t21
      obtain ⟨P1, P2⟩ := prod_bd2 E0 E1 (show -1000000 ≤ T1 by omega) t11
      obtain ⟨Q1, Q2⟩ := prod_bd2 N0 N1 (show -1000000 ≤ T2 by omega) t21
      obtain ⟨P3, P4⟩ := prod_bd2 E0 E1 (show -1000000 ≤ -T1 by omega) (show -T1 ≤ 1000000 by omega)
      obtain ⟨Q3, Q4⟩ := prod_bd2 N0 N1 (show -1000000 ≤ -T2 by omega) (show -T2 ≤ 1000000 by omega)
      have sk : sinN k = if 180 ≤ k then -T1 else T1 := by rw [hT1, hs1]; exact sinN_mod hlt
      have ck : cosN k = if 180 ≤ e1 then -T2 else T2 := by rw [hT2, hs2, he1]; exact sinN_mod (Nat.mod_lt _ (by omega))
      have hv : (u - x) * (if 180 ≤ k then -T1 else T1) + (v - y) * (if 180 ≤ e1 then -T2 else T2) = reach (u - x) (v - y) k := by unfold reach; rw [Nat.mod_eq_of_lt hlt, sk, ck]
      obtain ⟨rb0, rb1⟩ := reach_bd E0 E1 N0 N1 k
      obtain ⟨mb0, mb1⟩ := bst_bd E0 E1 N0 N1 hst
      have HST := Lib.hid hst
      have F1 : (90 < s1 ∧ fold90 s1 = 180 - s1) ∨ (¬ 90 < s1 ∧ fold90 s1 = s1) := by unfold fold90; split <;> omega
      have F2 : (90 < s2 ∧ fold90 s2 = 180 - s2) ∨ (¬ 90 < s2 ∧ fold90 s2 = s2) := by unfold fold90; split <;> omega
      clear sk ck hT1 hT2 hst
      rcases F1 with ⟨a, f1⟩ | ⟨a, f1⟩ <;> rcases F2 with ⟨c, f2⟩ | ⟨c, f2⟩ <;> rcases Nat.lt_or_ge k 180 with b1 | b1 <;> rcases Nat.lt_or_ge e1 180 with d | d
      all_goals first
        | (exfalso; omega)
        | skip
      all_goals
        rw [f1] at A1
        rw [f2] at A2
        have S1 : (k : Int) % 180 = s1 := by omega
        have EE : ((k : Int) + 90) % 360 = e1 := by omega
        have S2 : (e1 : Int) % 180 = s2 := by omega
        have i1 : ((180 : Int) - s1).toNat = 180 - s1 := by omega
        have i2 : ((180 : Int) - s2).toNat = 180 - s2 := by omega
        have b1' : (180 ≤ k) = (¬ k < 180) := by simp
        first | rw [if_pos (show 180 ≤ k by omega)] at hv | rw [if_neg (show ¬ 180 ≤ k by omega)] at hv
        first | rw [if_pos (show 180 ≤ e1 by omega)] at hv | rw [if_neg (show ¬ 180 ≤ e1 by omega)] at hv
        have HV := Lib.hid hv
        have s1l : s1 < 180 := by omega
        have s2l : s2 < 180 := by omega
        have e1l : e1 < 360 := by omega
        clear hv hs1 he1 hs2 f1 f2 l1 l2 b1'
        go_wp2
        all_goals
          go_round
          case rel => first
            | exact ⟨k + 1, k, reach (u - x) (v - y) k, rfl, congrArg (Value.int .i64) (by have := HV.out; omega), by go_num, by omega, bst_gt HST.out (by have := HV.out; omega)⟩
            | exact ⟨k + 1, b, m, rfl, rfl, by go_num, by omega, bst_le HST.out rb1 rb0 (by have := HV.out; omega)⟩
          case measure => simp [intOf]; omega
    · obtain rfl : k = 360 := by omega
      rcases hst with ⟨h0, _, _⟩ | ⟨_, hb, _⟩
      · omega
      · have HB := Lib.hid hb
        clear hb
        go_wp2
        go_ret
        exact ⟨ret_int (by rw [HB.out]; rfl), by repeat (first | exact On.refl _ | apply On.alloc | refine On.trans ?_ h1)⟩
end Go.Proofs.YthknpnoceabmbaaDoor.Bear
