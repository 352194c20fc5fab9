
/-
  The loss of a valid mask at an offset, in the model. Condition: the mask is valid.
-/
import Derived.Test.YtompiicgbmpoiaaMskOk2
import Derived.Test.YtompiicgbmpoiaaLine
namespace Go.Proofs.Ytompiicgbmpoiaa.Msk
open Go.RowKit
open Plain
open Ints (Ints Own)
open Line (line line_first line_last line_mid)

theorem ret_ii {a b c d : Int} (h1 : a = b) (h2 : c = d) : Ending.returned (.tuple #[.int .i64 a, .int .i64 c]) = .returned (.tuple #[.int .i64 b, .int .i64 d]) := by rw [h1, h2]
set_option maxRecDepth 100000 in
set_option maxHeartbeats 4000000 in
theorem spec_loss (g : Nat) (v0 v1 : Value) (os ls : List Int) (x : Int) (w : World) (hv : okM os ls = true) (x0 : -4000000 ≤ x) (x1 : x ≤ 4000000) (hp : In w g v0 v1) (h0 : Ints w v0 os) (h1 : Ints w v1 ls) :
    Calls Try.prog 31 #[.pointer (some ⟨g, 0, none⟩), .int .i64 x] w fun e w' => e = .returned (.int .i64 (lossM os ls x)) ∧ On w w' := by
  have hg : g < w.heap.size := World.block_lt_of_cell? w _ hp.1
  obtain ⟨k0, k1⟩ := hp
  obtain ⟨⟨n2, n12⟩, hl, ho, hs⟩ := of_okM hv
  obtain ⟨n, hn⟩ : ∃ n, n = os.length := ⟨_, rfl⟩
  have h0' := h0
  have h1' := h1
  obtain ⟨a0, cap0, rfl, -⟩ := h0
  obtain ⟨a1, cap1, rfl, -⟩ := h1
  rw [hl] at h1' k1
  rw [← hn] at h0' h1' k0 k1 n2 n12 hl
  obtain ⟨b0, o0, rfl, hb0, hc0⟩ := slice_of h0' hn.symm (by omega)
  obtain ⟨b1, o1, rfl, hb1, hc1⟩ := slice_of h1' hl (by omega)
  obtain ⟨a, ha⟩ : ∃ a : Int, a = (x.natAbs : Nat) := ⟨_, rfl⟩
  have a0 : 0 ≤ a := by omega
  have a1 : a ≤ 4000000 := by omega
  have E := Lib.hid (show lossM os ls x = lossA os ls a by rw [ha]; rfl)
  have H0 := Lib.hid hc0
  have H1 := Lib.hid hc1
  have HO := Lib.hid ho
  have HS := Lib.hid hs
  have HN := Lib.hid hn
  have HL := Lib.hid hl
  have hcall : ∀ i, i + 1 < n → ∀ w1 y0 z0 y1 z1, y0 = os.getD i 0 → z0 = ls.getD i 0 → y1 = os.getD (i + 1) 0 → z1 = ls.getD (i + 1) 0 →
      Calls Try.prog 58 #[.int .i64 y0, .int .i64 z0, .int .i64 y1, .int .i64 z1, .int .i64 a] w1 fun e w' => e = .returned (.int .i64 (line y0 z0 y1 z1 a)) ∧ ∃ n, w' = w1.drewN n := fun i hi w1 y0 z0 y1 z1 e1 e2 e3 e4 => by
    have p1 := HO.out.bd (by omega) (k := i) (by rw [← hn]; omega)
    have p2 := HS.out.bd (by omega) (k := i) (by rw [hl]; omega)
    have p3 := HO.out.bd (by omega) (k := i + 1) (by rw [← hn]; omega)
    have p4 := HS.out.bd (by omega) (k := i + 1) (by rw [hl]; omega)
    rw [← e1] at p1
    rw [← e2] at p2
    rw [← e3] at p3
    rw [← e4] at p4
    exact Line.spec_line y0 z0 y1 z1 a w1 (by omega) (by omega) (by omega) (by omega) (by omega) (by omega) (by omega) (by omega)
  have HCALL := Lib.hid hcall
  clear hc0 hc1 ho hs hn hl hcall h0' h1' hv
  have n0 : (0 : Int) < ((n : Nat) : Int) := by omega
  by_cases hx : x < 0
  · obtain rfl : x = -a := by omega
    clear ha
    have na : - -a = a := by omega
    go_enter Try.func31, Try.ntmps31
    go_wp2_with fail
    go_loop [5] (fun i => ∃ k : Nat, k + 1 ≤ n ∧ i = .int .i64 ((k : Int) + 1) ∧ ∀ j, j < k → os.getD (j + 1) 0 < a) (fun i => n - (intOf i).toNat)
    case atStart => exact ⟨0, by omega, by go_num, fun j hj => by omega⟩
    case round =>
      obtain ⟨k, hk, rfl, hall⟩ := hrel
      have HA := Lib.hid hall
      clear hall
      have wk : IntKind.i64.wrap ((k : Int) + 1) = (k : Int) + 1 := IntWalk.i64_in _ (by omega)
      by_cases hlt : k + 1 < n
      · have hlti : (k : Int) + 1 < (n : Int) := by omega
        obtain ⟨y, hy⟩ : ∃ y, y = os.getD (k + 1) 0 := ⟨_, rfl⟩
        have c1 : w.cell? ⟨b0, o0 + (k + 1), none⟩ = some (.int .i64 y) := by rw [hy]; exact H0.out (k + 1) hlt
        by_cases hle : a ≤ y
        · have en := Lib.hid (loss_at (ls := ls) HO.out a0 (by rw [← HN.out]; exact hlt) HA.out (by rw [← hy]; exact hle))
          obtain ⟨y', hy'⟩ : ∃ y, y = os.getD k 0 := ⟨_, rfl⟩
          obtain ⟨z', hz'⟩ : ∃ y, y = ls.getD k 0 := ⟨_, rfl⟩
          obtain ⟨z, hz⟩ : ∃ y, y = ls.getD (k + 1) 0 := ⟨_, rfl⟩
          have c2 : w.cell? ⟨b0, o0 + k, none⟩ = some (.int .i64 y') := by rw [hy']; exact H0.out k (by omega)
          have c3 : w.cell? ⟨b1, o1 + k, none⟩ = some (.int .i64 z') := by rw [hz']; exact H1.out k (by omega)
          have c4 : w.cell? ⟨b1, o1 + (k + 1), none⟩ = some (.int .i64 z) := by rw [hz]; exact H1.out (k + 1) hlt
          have HM := Lib.hid (fun w1 => HCALL.out k hlt w1 y' z' y z hy' hz' hy hz)
          rw [← hy, ← hy', ← hz, ← hz'] at en
          have hlt0 : k < n := by omega
          have hlti0 : (k : Int) < (n : Int) := by omega
          have ek : (k : Int) + 1 - 1 = (k : Int) := by omega
          have wk0 : IntKind.i64.wrap (k : Int) = (k : Int) := IntWalk.i64_in _ (by omega)
          clear hy hy' hz hz'
          go_wp2_with fail
          refine wp_region_onh (by kernel_rfl) (by kernel_rfl) ?_
          repeat (refine rest_step (fun K hK => ?_); go_simp; first | (refine hK _ ?_; clear hK K) | (apply Exists.intro; refine ⟨fun v1 hv1 => ?_, hK _ ?_⟩; (first | with_reducible exact rfl | with_reducible exact ⟨rfl, rfl⟩ | with_reducible exact Calls.on_drew hv1 (HM.out _) | (obtain ⟨hc, hf⟩ := bcell hv1; go_simp; first | with_reducible exact rfl | with_reducible exact ⟨rfl, rfl⟩ | exact rfl | exact ⟨rfl, rfl⟩)); clear hK K))
          refine rest_nil ?_
          intro w9 hw9
          go_wp2_with fail
          go_ret
          exact ⟨ret_int (by rw [E.out, ← en.out]), hw9⟩
        · have HS := Lib.hid (show ∀ j, j < k + 1 → os.getD (j + 1) 0 < a from fun j hj => by
            by_cases g : j = k
            · rw [g, ← hy]; omega
            · exact HA.out j (by omega))
          clear hy
          go_wp2_with fail
          go_round
          case rel => exact ⟨k + 1, by omega, by go_num, HS.out⟩
          case measure => simp [intOf]; omega
      · obtain ⟨m, rfl⟩ : ∃ m, n = m + 1 := ⟨n - 1, by omega⟩
        obtain rfl : k = m := by omega
        have en := Lib.hid (loss_end (ls := ls) HO.out a0 (fun j hj => HA.out j (by have := HN.out; omega)))
        obtain ⟨z, hz⟩ : ∃ y, y = ls.getD k 0 := ⟨_, rfl⟩
        have c4 : w.cell? ⟨b1, o1 + k, none⟩ = some (.int .i64 z) := by rw [hz]; exact H1.out k (by omega)
        rw [← HN.out, show k + 1 - 1 = k by omega, ← hz] at en
        have ek : (k : Int) + 1 - 1 = (k : Int) := by omega
        have wk0 : IntKind.i64.wrap (k : Int) = (k : Int) := IntWalk.i64_in _ (by omega)
        clear hz
        go_wp2_with fail
        go_quiet (fail)
        go_wp2_with fail
        go_ret
        exact ⟨ret_int (by rw [E.out, ← en.out]), by repeat (first | with_reducible exact On.refl _ | apply On.drewN)⟩
  · obtain rfl : a = x := by omega
    clear ha
    go_enter Try.func31, Try.ntmps31
    go_wp2_with fail
    go_loop [5] (fun i => ∃ k : Nat, k + 1 ≤ n ∧ i = .int .i64 ((k : Int) + 1) ∧ ∀ j, j < k → os.getD (j + 1) 0 < a) (fun i => n - (intOf i).toNat)
    case atStart => exact ⟨0, by omega, by go_num, fun j hj => by omega⟩
    case round =>
      obtain ⟨k, hk, rfl, hall⟩ := hrel
      have HA := Lib.hid hall
      clear hall
      have wk : IntKind.i64.wrap ((k : Int) + 1) = (k : Int) + 1 := IntWalk.i64_in _ (by omega)
      by_cases hlt : k + 1 < n
      · have hlti : (k : Int) + 1 < (n : Int) := by omega
        obtain ⟨y, hy⟩ : ∃ y, y = os.getD (k + 1) 0 := ⟨_, rfl⟩
        have c1 : w.cell? ⟨b0, o0 + (k + 1), none⟩ = some (.int .i64 y) := by rw [hy]; exact H0.out (k + 1) hlt
        by_cases hle : a ≤ y
        · have en := Lib.hid (loss_at (ls := ls) HO.out a0 (by rw [← HN.out]; exact hlt) HA.out (by rw [← hy]; exact hle))
          obtain ⟨y', hy'⟩ : ∃ y, y = os.getD k 0 := ⟨_, rfl⟩
          obtain ⟨z', hz'⟩ : ∃ y, y = ls.getD k 0 := ⟨_, rfl⟩
          obtain ⟨z, hz⟩ : ∃ y, y = ls.getD (k + 1) 0 := ⟨_, rfl⟩
          have c2 : w.cell? ⟨b0, o0 + k, none⟩ = some (.int .i64 y') := by rw [hy']; exact H0.out k (by omega)
          have c3 : w.cell? ⟨b1, o1 + k, none⟩ = some (.int .i64 z') := by rw [hz']; exact H1.out k (by omega)
          have c4 : w.cell? ⟨b1, o1 + (k + 1), none⟩ = some (.int .i64 z) := by rw [hz]; exact H1.out (k + 1) hlt
          have HM := Lib.hid (fun w1 => HCALL.out k hlt w1 y' z' y z hy' hz' hy hz)
          rw [← hy, ← hy', ← hz, ← hz'] at en
          have hlt0 : k < n := by omega
          have hlti0 : (k : Int) < (n : Int) := by omega
          have ek : (k : Int) + 1 - 1 = (k : Int) := by omega
          have wk0 : IntKind.i64.wrap (k : Int) = (k : Int) := IntWalk.i64_in _ (by omega)
          clear hy hy' hz hz'
          go_wp2_with fail
          refine wp_region_onh (by kernel_rfl) (by kernel_rfl) ?_
          repeat (refine rest_step (fun K hK => ?_); go_simp; first | (refine hK _ ?_; clear hK K) | (apply Exists.intro; refine ⟨fun v1 hv1 => ?_, hK _ ?_⟩; (first | with_reducible exact rfl | with_reducible exact ⟨rfl, rfl⟩ | with_reducible exact Calls.on_drew hv1 (HM.out _) | (obtain ⟨hc, hf⟩ := bcell hv1; go_simp; first | with_reducible exact rfl | with_reducible exact ⟨rfl, rfl⟩ | exact rfl | exact ⟨rfl, rfl⟩)); clear hK K))
          refine rest_nil ?_
          intro w9 hw9
          go_wp2_with fail
          go_ret
          exact ⟨ret_int (by rw [E.out, ← en.out]), hw9⟩
        · have HS := Lib.hid (show ∀ j, j < k + 1 → os.getD (j + 1) 0 < a from fun j hj => by
            by_cases g : j = k
            · rw [g, ← hy]; omega
            · exact HA.out j (by omega))
          clear hy
          go_wp2_with fail
          go_round
          case rel => exact ⟨k + 1, by omega, by go_num, HS.out⟩
          case measure => simp [intOf]; omega
      · obtain ⟨m, rfl⟩ : ∃ m, n = m + 1 := ⟨n - 1, by omega⟩
        obtain rfl : k = m := by omega
        have en := Lib.hid (loss_end (ls := ls) HO.out a0 (fun j hj => HA.out j (by have := HN.out; omega)))
        obtain ⟨z, hz⟩ : ∃ y, y = ls.getD k 0 := ⟨_, rfl⟩
        have c4 : w.cell? ⟨b1, o1 + k, none⟩ = some (.int .i64 z) := by rw [hz]; exact H1.out k (by omega)
        rw [← HN.out, show k + 1 - 1 = k by omega, ← hz] at en
        have ek : (k : Int) + 1 - 1 = (k : Int) := by omega
        have wk0 : IntKind.i64.wrap (k : Int) = (k : Int) := IntWalk.i64_in _ (by omega)
        clear hz
        go_wp2_with fail
        go_quiet (fail)
        go_wp2_with fail
        go_ret
        exact ⟨ret_int (by rw [E.out, ← en.out]), by repeat (first | with_reducible exact On.refl _ | apply On.drewN)⟩
end Go.Proofs.Ytompiicgbmpoiaa.Msk
