
/-
  The program's method that reads a table at a frequency. Condition: the table is as it asks.
-/
import Derived.Test.YtednfkjdidlenaaDoorTabI
namespace Go.Proofs.YtednfkjdidlenaaDoor.Tab
open Go.RowKit
open Plain
open Line (line)

set_option maxHeartbeats 4000000 in
theorem impl_valueAt (x : Int) (b : Nat) (ps vs : List Int) (m n : Nat) (w : World) (hok : Ok ps vs n) (hm : m = n + 2) (hc : Curve w b ps vs m) :
    Calls Tryd.prog 40 #[.slice (some ⟨b, 0, none⟩) m m, .int .i64 x] w fun e w' => e = .returned (.int .i64 (tabV ps vs x)) ∧ On w w' := by
  subst hm
  obtain ⟨lp, lv, few, bp, bv, hfirst, hlast⟩ := hok
  have BP := Lib.hid bp
  have BV := Lib.hid bv
  have LP := Lib.hid lp
  have LV := Lib.hid lv
  have HC := Lib.hid hc
  have hb : b < w.heap.size := World.block_lt_of_cell? w _ (hc 0 (by omega)).1
  have wn : IntKind.i64.wrap (((n + 2 : Nat) : Int) - 1) = (n : Int) + 1 := by rw [show ((n + 2 : Nat) : Int) - 1 = (n : Int) + 1 by omega]; exact IntWalk.i64_in _ (by omega)
  have en0 := Lib.hid (show ((n + 2 : Nat) : Int) - 1 = (n : Int) + 1 by omega)
  clear bp bv hfirst hlast hc lp lv
  go_enter Tryd.func40, Tryd.ntmps40
  go_wp2_with fail
  go_loop [5] (fun i => ∃ k : Nat, k ≤ n ∧ i = .int .i64 ((k : Int) + 1) ∧ ∀ j, 1 ≤ j → j < k + 1 → ps.getD j 0 < x) (fun i => n + 2 - (intOf i).toNat)
  case atStart => exact ⟨0, by omega, by go_num, fun j a b => by omega⟩
  case round =>
    obtain ⟨k, hk, rfl, hall⟩ := hrel
    have HA := Lib.hid hall
    clear hall
    have wk : IntKind.i64.wrap ((k : Int) + 1) = (k : Int) + 1 := IntWalk.i64_in _ (by omega)
    by_cases hlt : k < n
    · have hltn : (k : Int) + 1 < (n : Int) + 1 := by omega
      have hltj : (k : Int) + 1 < ((n + 2 : Nat) : Int) - 1 := by omega
      by_cases hle : ps.getD (k + 1) 0 < x
      · have HS := Lib.hid (show ∀ j, 1 ≤ j → j < k + 1 + 1 → ps.getD j 0 < x from fun j h0 h1 => by
          by_cases g : j = k + 1
          · rw [g]; exact hle
          · exact HA.out j h0 (by omega))
        obtain ⟨z, hz⟩ : ∃ y, y = ps.getD (k + 1) 0 := ⟨_, rfl⟩
        have c1 := (HC.out (k + 1) (by omega)).1
        rw [← hz] at c1 hle
        have hlt1 : k + 1 < n + 2 := by omega
        have hlti1 : (k : Int) + 1 < (n : Int) + 2 := by omega
        clear hz
        go_wp2_with fail
        go_round
        case rel => exact ⟨k + 1, by omega, by go_num, HS.out⟩
        case measure => simp [intOf]; omega
      · have en := Lib.hid (tab_mid (ps := ps) (vs := vs) (x := x) (k := k + 1) (by omega) (by rw [LP.out]; omega) (fun j a b => HA.out j a b) (.inr hle))
        rw [show k + 1 - 1 = k by omega] at en
        obtain ⟨z', hz'⟩ : ∃ y, y = ps.getD k 0 := ⟨_, rfl⟩
        obtain ⟨y', hy'⟩ : ∃ y, y = vs.getD k 0 := ⟨_, rfl⟩
        obtain ⟨z, hz⟩ : ∃ y, y = ps.getD (k + 1) 0 := ⟨_, rfl⟩
        obtain ⟨y, hy⟩ : ∃ y, y = vs.getD (k + 1) 0 := ⟨_, rfl⟩
        obtain ⟨c2, c3⟩ := HC.out k (by omega)
        obtain ⟨c1, c4⟩ := HC.out (k + 1) (by omega)
        rw [← hz'] at c2
        rw [← hy'] at c3
        rw [← hz] at c1
        rw [← hy] at c4
        have p1 := getD_all BP.out (k := k) (by rw [LP.out]; omega)
        have p2 := getD_all BP.out (k := k + 1) (by rw [LP.out]; omega)
        have p3 := getD_all BV.out (k := k) (by rw [LV.out]; omega)
        have p4 := getD_all BV.out (k := k + 1) (by rw [LV.out]; omega)
        rw [← hz', ← hy', ← hz, ← hy] at en
        rw [← hz'] at p1
        rw [← hz] at p2
        rw [← hy'] at p3
        rw [← hy] at p4
        have HM := Lib.hid (fun w1 => show Calls Tryd.prog 47 #[.int .i64 z', .int .i64 y', .int .i64 z, .int .i64 y, .int .i64 x] w1 fun e w' => e = .returned (.int .i64 (line z' y' z y x)) ∧ ∃ n, w' = w1.drewN n from by
          have := Line.impl_between z' y' z y x w1
          rw [Line.between_yes (inB_yes p1.1 p1.2) (inB_yes p3.1 p3.2) (inB_yes p2.1 p2.2) (inB_yes p4.1 p4.2)] at this
          exact this)
        have hlt0 : k < n + 2 := by omega
        have hlti0 : (k : Int) < (n : Int) + 2 := by omega
        have hlt1 : k + 1 < n + 2 := by omega
        have hlti1 : (k : Int) + 1 < (n : Int) + 2 := by omega
        have ek : (k : Int) + 1 - 1 = (k : Int) := by omega
        have wk0 : IntKind.i64.wrap (k : Int) = (k : Int) := IntWalk.i64_in _ (by omega)
        rw [← hz] at hle
        clear hz hy hz' hy' p1 p2 p3 p4
        go_wp2_with fail
        go_region
        all_goals
          go_wp2_with fail
          refine (HM.out _).mono ?_
          rintro e w5 ⟨rfl, n5, rfl⟩
          go_wp2_with fail
          go_ret
          exact ⟨ret_int en.out.symm, by repeat (first | with_reducible exact On.refl _ | apply On.drewN | apply On.drew | apply On.alloc | refine On.setCell ?_ (by (try simp) <;> omega) _)⟩
    · obtain rfl : k = n := by omega
      have en := Lib.hid (tab_mid (ps := ps) (vs := vs) (x := x) (k := k + 1) (by omega) (by rw [LP.out]; omega) (fun j a b => HA.out j a b) (.inl (by rw [LP.out])))
      rw [show k + 1 - 1 = k by omega] at en
      obtain ⟨z', hz'⟩ : ∃ y, y = ps.getD k 0 := ⟨_, rfl⟩
      obtain ⟨y', hy'⟩ : ∃ y, y = vs.getD k 0 := ⟨_, rfl⟩
      obtain ⟨z, hz⟩ : ∃ y, y = ps.getD (k + 1) 0 := ⟨_, rfl⟩
      obtain ⟨y, hy⟩ : ∃ y, y = vs.getD (k + 1) 0 := ⟨_, rfl⟩
      obtain ⟨c2, c3⟩ := HC.out k (by omega)
      obtain ⟨c1, c4⟩ := HC.out (k + 1) (by omega)
      rw [← hz'] at c2
      rw [← hy'] at c3
      rw [← hz] at c1
      rw [← hy] at c4
      have p1 := getD_all BP.out (k := k) (by rw [LP.out]; omega)
      have p2 := getD_all BP.out (k := k + 1) (by rw [LP.out]; omega)
      have p3 := getD_all BV.out (k := k) (by rw [LV.out]; omega)
      have p4 := getD_all BV.out (k := k + 1) (by rw [LV.out]; omega)
      rw [← hz', ← hy', ← hz, ← hy] at en
      rw [← hz'] at p1
      rw [← hz] at p2
      rw [← hy'] at p3
      rw [← hy] at p4
      have HM := Lib.hid (fun w1 => show Calls Tryd.prog 47 #[.int .i64 z', .int .i64 y', .int .i64 z, .int .i64 y, .int .i64 x] w1 fun e w' => e = .returned (.int .i64 (line z' y' z y x)) ∧ ∃ n, w' = w1.drewN n from by
        have := Line.impl_between z' y' z y x w1
        rw [Line.between_yes (inB_yes p1.1 p1.2) (inB_yes p3.1 p3.2) (inB_yes p2.1 p2.2) (inB_yes p4.1 p4.2)] at this
        exact this)
      have hlt0 : k < k + 2 := by omega
      have hlti0 : (k : Int) < (k : Int) + 2 := by omega
      have hlt1 : k + 1 < k + 2 := by omega
      have hlti1 : (k : Int) + 1 < (k : Int) + 2 := by omega
      have ek : (k : Int) + 1 - 1 = (k : Int) := by omega
      have wk0 : IntKind.i64.wrap (k : Int) = (k : Int) := IntWalk.i64_in _ (by omega)
      clear hz hy hz' hy' p1 p2 p3 p4
      go_wp2_with fail
      go_region
      all_goals
        go_wp2_with fail
        refine (HM.out _).mono ?_
        rintro e w5 ⟨rfl, n5, rfl⟩
        go_wp2_with fail
        go_ret
        exact ⟨ret_int en.out.symm, by repeat (first | with_reducible exact On.refl _ | apply On.drewN | apply On.drew | apply On.alloc | refine On.setCell ?_ (by (try simp) <;> omega) _)⟩
theorem impl_at (f : Int) (b : Nat) (ps vs : List Int) (m n : Nat) (w : World) (hok : Ok ps vs n) (hm : m = n + 2) (hc : Curve w b ps vs m) (f0 : 0 ≤ f) (_f1 : f ≤ 100000000) :
    Calls Tryd.prog 26 #[.slice (some ⟨b, 0, none⟩) m m, .int .i64 f] w fun e w' => e = .returned (.int .i64 (tabV ps vs (f / 1000))) ∧ On w w' := by
  have HV := Lib.hid (impl_valueAt (f / 1000) b ps vs m n w hok hm hc)
  clear hok hm hc
  go_enter Tryd.func26, Tryd.ntmps26
  go_wp2_with fail
  refine HV.out.mono ?_
  rintro e w1 ⟨rfl, k1⟩
  go_wp2_with fail
  go_ret
  exact ⟨rfl, k1⟩
end Go.Proofs.YtednfkjdidlenaaDoor.Tab
