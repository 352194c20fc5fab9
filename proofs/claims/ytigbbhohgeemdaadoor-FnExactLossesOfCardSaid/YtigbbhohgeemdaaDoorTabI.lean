
/-
  The value of a table at a place, in the model and in the program, and the program's tables. Conditions: each theorem's own.
-/
import Derived.Test.YtigbbhohgeemdaaDoorTab
import Derived.Test.YtigbbhohgeemdaaDoorLossP
import Derived.Test.YtigbbhohgeemdaaDoorInts
import Derived.Test.YtigbbhohgeemdaaDoorOnH
import Derived.Handy
import Derived.OwnWalk
namespace Go.Proofs.YtigbbhohgeemdaaDoor.Tab
open Go.RowKit
open Plain
open Ints (Ints)
open Line (line)

theorem slice_of {w : World} {a : Option Addr} {n cap : Nat} {zs : List Int} (h : Ints w (.slice a n cap) zs) (hl : zs.length = n) (h0 : 0 < n) : ∃ b off, a = some ⟨b, off, none⟩ ∧ b < w.heap.size ∧ ∀ i, i < n → w.cell? ⟨b, off + i, none⟩ = some (.int .i64 (zs.getD i 0)) := by
  obtain ⟨a', cap', he, hc⟩ := h
  injection he with h1 h2 h3
  subst h1
  obtain ⟨b, off, ha, hb, hcell⟩ := hc (by omega)
  exact ⟨b, off, ha, hb, fun i hi => hcell i (by omega)⟩
theorem ret_int {k : IntKind} {a b : Int} (h : a = b) : Ending.returned (.int k a) = .returned (.int k b) := by rw [h]
/-- What a table of n rows asks. -/
structure Ok (ps vs : List Int) (n : Nat) : Prop where
  lp : ps.length = n + 2
  lv : vs.length = n + 2
  few : n ≤ 62
  bp : ∀ p ∈ ps, -1000000 ≤ p ∧ p ≤ 1000000
  bv : ∀ p ∈ vs, -1000000 ≤ p ∧ p ≤ 1000000
  first : ps.getD 0 0 ≤ ps.getD 1 0
  last : ps.getD n 0 < ps.getD (n + 1) 0
theorem rain_k : Ok rainP rainK 5 := ⟨rfl, rfl, by decide, by decide, by decide, by decide, by decide⟩
theorem rain_a : Ok rainP rainA 5 := ⟨rfl, rfl, by decide, by decide, by decide, by decide, by decide⟩
theorem gas_v : Ok gasP gasV 7 := ⟨rfl, rfl, by decide, by decide, by decide, by decide, by decide⟩
theorem leaf_v : Ok leafP leafV 2 := ⟨rfl, rfl, by decide, by decide, by decide, by decide, by decide⟩
set_option maxHeartbeats 1000000 in
theorem spec_table (x : Int) (vp vv : Value) (ps vs : List Int) (n : Nat) (w : World) (hok : Ok ps vs n) (hp : Ints w vp ps) (hv : Ints w vv vs) :
    Calls Tryd.prog 52 #[.int .i64 x, vp, vv] w fun e w' => e = .returned (.int .i64 (tabV ps vs x)) ∧ On w w' := by
  obtain ⟨lp, lv, few, bp, bv, hfirst, hlast⟩ := hok
  have hp' := hp
  have hv' := hv
  obtain ⟨a0, cap0, rfl, -⟩ := hp
  obtain ⟨a1, cap1, rfl, -⟩ := hv
  obtain ⟨b0, o0, rfl, hb0, hc0⟩ := slice_of hp' rfl (by omega)
  obtain ⟨b1, o1, rfl, hb1, hc1⟩ := slice_of hv' rfl (by omega)
  rw [lp] at hc0 ⊢
  rw [lv] at hc1 ⊢
  have BP := Lib.hid bp
  have BV := Lib.hid bv
  have HF := Lib.hid hfirst
  have HL := Lib.hid hlast
  have LP := Lib.hid lp
  have LV := Lib.hid lv
  have H0 := Lib.hid hc0
  have H1 := Lib.hid hc1
  obtain ⟨z0, hz0⟩ : ∃ z, z = ps.getD 0 0 := ⟨_, rfl⟩
  obtain ⟨y0, hy0⟩ : ∃ z, z = vs.getD 0 0 := ⟨_, rfl⟩
  have c0 : w.cell? ⟨b0, o0, none⟩ = some (.int .i64 z0) := by rw [hz0]; exact hc0 0 (by omega)
  have d0 : w.cell? ⟨b1, o1, none⟩ = some (.int .i64 y0) := by rw [hy0]; exact hc1 0 (by omega)
  have wn : IntKind.i64.wrap (((n + 2 : Nat) : Int) - 1) = (n : Int) + 1 := by rw [show ((n + 2 : Nat) : Int) - 1 = (n : Int) + 1 by omega]; exact IntWalk.i64_in _ (by omega)
  have en0 := Lib.hid (show ((n + 2 : Nat) : Int) - 1 = (n : Int) + 1 by omega)
  clear hp' hv' bp bv hfirst hlast hc0 hc1 lp lv
  by_cases hx : x ≤ z0
  · have en := Lib.hid (tab_first (ps := ps) (vs := vs) (x := x) (by rw [LP.out]; omega) HF.out (by rw [← hz0]; exact hx))
    rw [← hy0] at en
    clear hz0 hy0
    go_enter Tryd.func52, Tryd.ntmps52
    go_wp2_with fail
    go_ret
    exact ⟨ret_int en.out.symm, by repeat (first | with_reducible exact On.refl _ | apply On.drewN | apply On.drew)⟩
  · have HX := Lib.hid (show ps.getD 0 0 < x by rw [← hz0]; omega)
    clear hz0 hy0
    go_enter Tryd.func52, Tryd.ntmps52
    go_wp2_with fail
    go_loop [8] (fun i => ∃ k : Nat, k ≤ n + 1 ∧ i = .int .i64 ((k : Int) + 1) ∧ ∀ j, j ≤ k → ps.getD j 0 < x) (fun i => n + 2 - (intOf i).toNat)
    case atStart => exact ⟨0, by omega, by go_num, fun j hj => by rw [show j = 0 by omega]; exact HX.out⟩
    case round =>
      obtain ⟨k, hk, rfl, hall⟩ := hrel
      have HA := Lib.hid hall
      clear hall
      have wk : IntKind.i64.wrap ((k : Int) + 1) = (k : Int) + 1 := IntWalk.i64_in _ (by omega)
      by_cases hlt : k + 1 ≤ n + 1
      · have hlti : (k : Int) + 1 ≤ (n : Int) + 1 := by omega
        have hltj : (k : Int) + 1 < (n : Int) + 2 := by omega
        have hltn : k + 1 < n + 2 := by omega
        obtain ⟨z, hz⟩ : ∃ z, z = ps.getD (k + 1) 0 := ⟨_, rfl⟩
        have c1 : w.cell? ⟨b0, o0 + (k + 1), none⟩ = some (.int .i64 z) := by rw [hz]; exact H0.out (k + 1) (by omega)
        by_cases hle : x ≤ z
        · have en := Lib.hid (tab_mid (ps := ps) (vs := vs) (x := x) (k := k + 1) (by omega) (by rw [LP.out]; omega) (fun j a b => HA.out j (by omega)) (.inr (by rw [← hz]; omega)))
          rw [show k + 1 - 1 = k by omega] at en
          obtain ⟨z', hz'⟩ : ∃ y, y = ps.getD k 0 := ⟨_, rfl⟩
          obtain ⟨y', hy'⟩ : ∃ y, y = vs.getD k 0 := ⟨_, rfl⟩
          obtain ⟨y, hy⟩ : ∃ y, y = vs.getD (k + 1) 0 := ⟨_, rfl⟩
          have c2 : w.cell? ⟨b0, o0 + k, none⟩ = some (.int .i64 z') := by rw [hz']; exact H0.out k (by omega)
          have c3 : w.cell? ⟨b1, o1 + k, none⟩ = some (.int .i64 y') := by rw [hy']; exact H1.out k (by omega)
          have c4 : w.cell? ⟨b1, o1 + (k + 1), none⟩ = some (.int .i64 y) := by rw [hy]; exact H1.out (k + 1) (by omega)
          have p1 := getD_all BP.out (k := k) (by rw [LP.out]; omega)
          have p2 := getD_all BP.out (k := k + 1) (by rw [LP.out]; omega)
          have p3 := getD_all BV.out (k := k) (by rw [LV.out]; omega)
          have p4 := getD_all BV.out (k := k + 1) (by rw [LV.out]; omega)
          rw [← hz', ← hy', ← hz, ← hy] at en
          rw [← hz'] at p1
          rw [← hz] at p2
          rw [← hy'] at p3
          rw [← hy] at p4
          have HM := Lib.hid (fun w1 => Line.spec_line z' y' z y x w1 p1.1 p1.2 p3.1 p3.2 p2.1 p2.2 p4.1 p4.2)
          have hlt0 : k < n + 2 := by omega
          have hlti0 : (k : Int) < (n : Int) + 2 := by omega
          have ek : (k : Int) + 1 - 1 = (k : Int) := by omega
          have wk0 : IntKind.i64.wrap (k : Int) = (k : Int) := IntWalk.i64_in _ (by omega)
          clear hy hy' hz hz' p1 p2 p3 p4
          go_wp2_with fail
          refine wp_region_onh (by kernel_rfl) (by kernel_rfl) ?_
          repeat (refine rest_step (fun K hK => ?_); go_simp; first | (refine hK _ ?_; clear hK K) | (apply Exists.intro; refine ⟨fun v1 hv1 => ?_, hK _ ?_⟩; (first | with_reducible exact rfl | with_reducible exact ⟨rfl, rfl⟩ | with_reducible exact Calls.on_drew hv1 (HM.out _) | (obtain ⟨hc, hf⟩ := bcell hv1; go_simp; first | with_reducible exact rfl | with_reducible exact ⟨rfl, rfl⟩ | exact rfl | exact ⟨rfl, rfl⟩)); clear hK K))
          refine rest_nil ?_
          intro w9 hw9
          go_wp2_with fail
          go_ret
          exact ⟨ret_int en.out.symm, hw9⟩
        · have HS := Lib.hid (show ∀ j, j ≤ k + 1 → ps.getD j 0 < x from fun j hj => by
            by_cases g : j = k + 1
            · rw [g, ← hz]; omega
            · exact HA.out j (by omega))
          clear hz
          go_wp2_with fail
          go_round
          case rel => exact ⟨k + 1, by omega, by go_num, HS.out⟩
          case measure => simp [intOf]; omega
      · obtain rfl : k = n + 1 := by omega
        have en := Lib.hid (tab_last (ps := ps) (vs := vs) (x := x) (n := n) LP.out HL.out (fun j a b => HA.out j (by omega)))
        obtain ⟨y, hy⟩ : ∃ y, y = vs.getD (n + 1) 0 := ⟨_, rfl⟩
        have c4 : w.cell? ⟨b1, o1 + (n + 1), none⟩ = some (.int .i64 y) := by rw [hy]; exact H1.out (n + 1) (by omega)
        rw [← hy] at en
        have hltn : n + 1 < n + 2 := by omega
        have hltj : (n : Int) + 1 < (n : Int) + 2 := by omega
        clear hy
        go_wp2_with fail
        go_ret
        exact ⟨ret_int en.out.symm, by repeat (first | with_reducible exact On.refl _ | apply On.drewN | apply On.drew)⟩
/-- The value v is a slice that reads as the rows of a table in the world w. -/
def Curve (w : World) (b : Nat) (ps vs : List Int) (n : Nat) : Prop := ∀ k, k < n → w.cell? ⟨b, k * 2, none⟩ = some (.int .i64 (ps.getD k 0)) ∧ w.cell? ⟨b, k * 2 + 1, none⟩ = some (.int .i64 (vs.getD k 0))
set_option maxHeartbeats 1000000 in
theorem impl_rainFactors (w : World) :
    Calls Tryd.prog 62 #[] w fun e w' => e = .returned (.slice (some ⟨w.heap.size, 0, none⟩) 7 7) ∧ On w w' ∧ Curve w' w.heap.size rainP rainK 7 ∧ w.heap.size < w'.heap.size := by
  go_enter Tryd.func62, Tryd.ntmps62
  go_wp2
  go_ret
  refine ⟨rfl, by repeat (first | with_reducible exact On.refl _ | apply On.alloc), fun k hk => ?_, by simp⟩
  match k, hk with
    | 0, _ => exact ⟨by rw [World.cell?_alloc_mark]; kernel_rfl, by rw [World.cell?_alloc_mark]; kernel_rfl⟩
    | 1, _ => exact ⟨by rw [World.cell?_alloc_mark]; kernel_rfl, by rw [World.cell?_alloc_mark]; kernel_rfl⟩
    | 2, _ => exact ⟨by rw [World.cell?_alloc_mark]; kernel_rfl, by rw [World.cell?_alloc_mark]; kernel_rfl⟩
    | 3, _ => exact ⟨by rw [World.cell?_alloc_mark]; kernel_rfl, by rw [World.cell?_alloc_mark]; kernel_rfl⟩
    | 4, _ => exact ⟨by rw [World.cell?_alloc_mark]; kernel_rfl, by rw [World.cell?_alloc_mark]; kernel_rfl⟩
    | 5, _ => exact ⟨by rw [World.cell?_alloc_mark]; kernel_rfl, by rw [World.cell?_alloc_mark]; kernel_rfl⟩
    | 6, _ => exact ⟨by rw [World.cell?_alloc_mark]; kernel_rfl, by rw [World.cell?_alloc_mark]; kernel_rfl⟩
set_option maxHeartbeats 1000000 in
theorem impl_rainExponents (w : World) :
    Calls Tryd.prog 63 #[] w fun e w' => e = .returned (.slice (some ⟨w.heap.size, 0, none⟩) 7 7) ∧ On w w' ∧ Curve w' w.heap.size rainP rainA 7 ∧ w.heap.size < w'.heap.size := by
  go_enter Tryd.func63, Tryd.ntmps63
  go_wp2
  go_ret
  refine ⟨rfl, by repeat (first | with_reducible exact On.refl _ | apply On.alloc), fun k hk => ?_, by simp⟩
  match k, hk with
    | 0, _ => exact ⟨by rw [World.cell?_alloc_mark]; kernel_rfl, by rw [World.cell?_alloc_mark]; kernel_rfl⟩
    | 1, _ => exact ⟨by rw [World.cell?_alloc_mark]; kernel_rfl, by rw [World.cell?_alloc_mark]; kernel_rfl⟩
    | 2, _ => exact ⟨by rw [World.cell?_alloc_mark]; kernel_rfl, by rw [World.cell?_alloc_mark]; kernel_rfl⟩
    | 3, _ => exact ⟨by rw [World.cell?_alloc_mark]; kernel_rfl, by rw [World.cell?_alloc_mark]; kernel_rfl⟩
    | 4, _ => exact ⟨by rw [World.cell?_alloc_mark]; kernel_rfl, by rw [World.cell?_alloc_mark]; kernel_rfl⟩
    | 5, _ => exact ⟨by rw [World.cell?_alloc_mark]; kernel_rfl, by rw [World.cell?_alloc_mark]; kernel_rfl⟩
    | 6, _ => exact ⟨by rw [World.cell?_alloc_mark]; kernel_rfl, by rw [World.cell?_alloc_mark]; kernel_rfl⟩
set_option maxHeartbeats 1000000 in
theorem impl_gases (w : World) :
    Calls Tryd.prog 48 #[] w fun e w' => e = .returned (.slice (some ⟨w.heap.size, 0, none⟩) 9 9) ∧ On w w' ∧ Curve w' w.heap.size gasP gasV 9 ∧ w.heap.size < w'.heap.size := by
  go_enter Tryd.func48, Tryd.ntmps48
  go_wp2
  go_ret
  refine ⟨rfl, by repeat (first | with_reducible exact On.refl _ | apply On.alloc), fun k hk => ?_, by simp⟩
  match k, hk with
    | 0, _ => exact ⟨by rw [World.cell?_alloc_mark]; kernel_rfl, by rw [World.cell?_alloc_mark]; kernel_rfl⟩
    | 1, _ => exact ⟨by rw [World.cell?_alloc_mark]; kernel_rfl, by rw [World.cell?_alloc_mark]; kernel_rfl⟩
    | 2, _ => exact ⟨by rw [World.cell?_alloc_mark]; kernel_rfl, by rw [World.cell?_alloc_mark]; kernel_rfl⟩
    | 3, _ => exact ⟨by rw [World.cell?_alloc_mark]; kernel_rfl, by rw [World.cell?_alloc_mark]; kernel_rfl⟩
    | 4, _ => exact ⟨by rw [World.cell?_alloc_mark]; kernel_rfl, by rw [World.cell?_alloc_mark]; kernel_rfl⟩
    | 5, _ => exact ⟨by rw [World.cell?_alloc_mark]; kernel_rfl, by rw [World.cell?_alloc_mark]; kernel_rfl⟩
    | 6, _ => exact ⟨by rw [World.cell?_alloc_mark]; kernel_rfl, by rw [World.cell?_alloc_mark]; kernel_rfl⟩
    | 7, _ => exact ⟨by rw [World.cell?_alloc_mark]; kernel_rfl, by rw [World.cell?_alloc_mark]; kernel_rfl⟩
    | 8, _ => exact ⟨by rw [World.cell?_alloc_mark]; kernel_rfl, by rw [World.cell?_alloc_mark]; kernel_rfl⟩
set_option maxHeartbeats 1000000 in
theorem impl_leaves (w : World) :
    Calls Tryd.prog 53 #[] w fun e w' => e = .returned (.slice (some ⟨w.heap.size, 0, none⟩) 4 4) ∧ On w w' ∧ Curve w' w.heap.size leafP leafV 4 ∧ w.heap.size < w'.heap.size := by
  go_enter Tryd.func53, Tryd.ntmps53
  go_wp2
  go_ret
  refine ⟨rfl, by repeat (first | with_reducible exact On.refl _ | apply On.alloc), fun k hk => ?_, by simp⟩
  match k, hk with
    | 0, _ => exact ⟨by rw [World.cell?_alloc_mark]; kernel_rfl, by rw [World.cell?_alloc_mark]; kernel_rfl⟩
    | 1, _ => exact ⟨by rw [World.cell?_alloc_mark]; kernel_rfl, by rw [World.cell?_alloc_mark]; kernel_rfl⟩
    | 2, _ => exact ⟨by rw [World.cell?_alloc_mark]; kernel_rfl, by rw [World.cell?_alloc_mark]; kernel_rfl⟩
    | 3, _ => exact ⟨by rw [World.cell?_alloc_mark]; kernel_rfl, by rw [World.cell?_alloc_mark]; kernel_rfl⟩
end Go.Proofs.YtigbbhohgeemdaaDoor.Tab
