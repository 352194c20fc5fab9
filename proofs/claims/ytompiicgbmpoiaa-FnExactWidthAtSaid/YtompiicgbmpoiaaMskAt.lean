
/-
  The loss of a valid mask at an offset, in the program. Condition: the mask is valid.
-/
import Derived.Test.YtompiicgbmpoiaaMskLoss
import Derived.Test.YtompiicgbmpoiaaSearch
import Derived.Test.YtompiicgbmpoiaaTurn
namespace Go.Proofs.Ytompiicgbmpoiaa.Msk
open Go.RowKit
open Plain
open Ints (Ints Own)
open Line (line line_first line_last line_mid)

/-- What the closure holds on to. -/
def Clo (w : World) (g : Nat) (v0 v1 : Value) (a : Int) : Prop := w.cell? ⟨g, 0, none⟩ = some v0 ∧ w.cell? ⟨g, 1, none⟩ = some v1 ∧ w.cell? ⟨g + 1, 0, none⟩ = some (.int .i64 a)
theorem Clo.on {w w' : World} {g : Nat} {v0 v1 : Value} {a : Int} (h : Clo w g v0 v1 a) (ho : On w w') : Clo w' g v0 v1 a :=
  ⟨(ho.cell (World.block_lt_of_cell? w _ h.1)).trans h.1, (ho.cell (World.block_lt_of_cell? w _ h.2.1)).trans h.2.1, (ho.cell (World.block_lt_of_cell? w _ h.2.2)).trans h.2.2⟩
theorem not_upTo {os : List Int} {a y : Int} {k : Nat} (hy : y = os.getD k 0) : decide (a < y) = !upTo os a k := by
  unfold upTo
  rw [← hy]
  by_cases h : y ≤ a
  · rw [decide_eq_true h, decide_eq_false (by omega)]; rfl
  · rw [decide_eq_false h, decide_eq_true (by omega)]; rfl
theorem gap_abs (x : Int) : gap x 0 = ((x.natAbs : Nat) : Int) := by unfold gap; split <;> omega
set_option maxRecDepth 100000 in
set_option maxHeartbeats 2000000 in
theorem impl_closure (g b off n cap k : Nat) (v1 : Value) (os : List Int) (a : Int) (w : World) (hk : k < n) (_ : b < w.heap.size) (hc : ∀ k, k < n → w.cell? ⟨b, off + k, none⟩ = some (.int .i64 (os.getD k 0))) (hp : Clo w g (.slice (some ⟨b, off, none⟩) n cap) v1 a) :
    Calls Try.prog 61 #[.int .i64 k, .pointer (some ⟨g, 0, none⟩), .pointer (some ⟨g + 1, 0, none⟩)] w fun e w' => e = .returned (.bool (!upTo os a k)) ∧ On w w' := by
  obtain ⟨k0, k1, k2⟩ := hp
  have hg : g < w.heap.size := World.block_lt_of_cell? w _ k0
  have hg1 : g + 1 < w.heap.size := World.block_lt_of_cell? w _ k2
  have hc1 := hc k hk
  have hki : (k : Int) < (n : Int) := by omega
  obtain ⟨y, hy⟩ : ∃ y, y = os.getD k 0 := ⟨_, rfl⟩
  rw [← hy] at hc1
  have en := Lib.hid (not_upTo (a := a) hy)
  clear hc hy
  go_enter Try.func61, Try.ntmps61
  go_wp2_with fail
  go_quiet (fail)
  go_wp2_with fail
  go_ret
  exact ⟨ret_bool en.out, by repeat (first | with_reducible exact On.refl _ | apply On.drewN)⟩
set_option maxRecDepth 100000 in
set_option maxHeartbeats 4000000 in
theorem impl_lossAt (v0 v1 : Value) (os ls : List Int) (x : Int) (w : World) (hv : okM os ls = true) (x0 : -4000000 ≤ x) (x1 : x ≤ 4000000) (h0 : Ints w v0 os) (h1 : Ints w v1 ls) :
    Calls Try.prog 34 #[.agg #[v0, v1], .int .i64 x] w fun e w' => e = .returned (.int .i64 (lossM os ls x)) ∧ On w w' := by
  obtain ⟨⟨n2, n12⟩, hl, ho, hs⟩ := of_okM hv
  obtain ⟨n, hn⟩ : ∃ n, n = os.length := ⟨_, rfl⟩
  have h0' := h0
  have h1' := h1
  obtain ⟨a0, cap0, rfl, -⟩ := h0
  obtain ⟨a1, cap1, rfl, -⟩ := h1
  rw [hl] at h1' ⊢
  rw [← hn] at h0' h1' n2 n12 hl ⊢
  obtain ⟨b0, o0, rfl, hb0, hc0⟩ := slice_of h0' hn.symm (by omega)
  obtain ⟨b1, o1, rfl, hb1, hc1⟩ := slice_of h1' hl (by omega)
  obtain ⟨a, ha⟩ : ∃ a : Int, a = (x.natAbs : Nat) := ⟨_, rfl⟩
  have a0 : 0 ≤ a := by omega
  have HD := Lib.hid (fun w => show Calls Try.prog 60 #[.int .i64 x, .int .i64 0] w fun e w' => e = .returned (.int .i64 a) ∧ w = w' from by
    have := Turn.impl_difference x 0 w (by omega) (by omega) (by omega) (by omega); rw [gap_abs, ← ha] at this; exact this)
  have E := Lib.hid (show lossM os ls x = lossA os ls a by rw [ha]; rfl)
  have hmono : Mono (upTo os a) n := by rw [hn]; exact mono_upTo ho
  have HSE := Lib.hid (fun g w1 (h : On w w1) hp => Search.loss (.pointer (some ⟨g, 0, none⟩)) (.pointer (some ⟨g + 1, 0, none⟩)) (upTo os a) n w1 (by omega) hmono
    (fun k hk w2 ho => impl_closure g b0 o0 n cap0 k (.slice (some ⟨b1, o1, none⟩) n cap1) os a w2 hk ((h.trans ho).lts _ hb0) (fun k hk => ((h.trans ho).cell (by exact hb0)).trans (hc0 k hk)) (Clo.on hp ho)))
  obtain ⟨m, hm⟩ : ∃ m, m = cntM os a := ⟨_, rfl⟩
  have HK := Lib.hid (show leadN (upTo os a) n = m by rw [hm, hn]; rfl)
  rw [HK.out] at HSE
  have hp := cntM_pos ho (by omega) a0
  have hle := cntM_le os a
  rw [← hm] at hp hle
  rw [← hn] at hle
  obtain ⟨k, rfl⟩ : ∃ k, m = k + 1 := ⟨m - 1, by omega⟩
  have ek : (((k + 1 : Nat) : Int)) - 1 = (k : Int) := by omega
  have wk : IntKind.i64.wrap (((k + 1 : Nat) : Int) - 1) = (k : Int) := by rw [ek]; exact IntWalk.i64_in _ (by omega)
  have wk0 : IntKind.i64.wrap (k : Int) = (k : Int) := IntWalk.i64_in _ (by omega)
  have hk0 : k < n := by omega
  have hki0 : (k : Int) < (n : Int) := by omega
  obtain ⟨z', hz'⟩ : ∃ y, y = ls.getD k 0 := ⟨_, rfl⟩
  have c3 : w.cell? ⟨b1, o1 + k, none⟩ = some (.int .i64 z') := by rw [hz']; exact hc1 k (by omega)
  by_cases hlt : k + 1 < n
  · obtain ⟨nn, nn'⟩ := ne_b (x := (((k + 1 : Nat) : Int))) (y := ((n : Nat) : Int)) (by omega)
    have hlti : (((k + 1 : Nat) : Int)) < (n : Int) := by omega
    have hlti1 : (k : Int) + 1 < (n : Int) := by omega
    have wk1 : IntKind.i64.wrap ((k : Int) + 1) = (k : Int) + 1 := IntWalk.i64_in _ (by omega)
    have ek1 : (k : Int) + 1 - 1 = (k : Int) := by omega
    have en := Lib.hid (lossA_line (ls := ls) hm.symm (by omega))
    obtain ⟨y', hy'⟩ : ∃ y, y = os.getD k 0 := ⟨_, rfl⟩
    obtain ⟨y, hy⟩ : ∃ y, y = os.getD (k + 1) 0 := ⟨_, rfl⟩
    obtain ⟨z, hz⟩ : ∃ y, y = ls.getD (k + 1) 0 := ⟨_, rfl⟩
    have c1 : w.cell? ⟨b0, o0 + (k + 1), none⟩ = some (.int .i64 y) := by rw [hy]; exact hc0 (k + 1) hlt
    have c2 : w.cell? ⟨b0, o0 + k, none⟩ = some (.int .i64 y') := by rw [hy']; exact hc0 k (by omega)
    have c4 : w.cell? ⟨b1, o1 + (k + 1), none⟩ = some (.int .i64 z) := by rw [hz]; exact hc1 (k + 1) hlt
    have p1 := ho.bd (by omega) (k := k) (by omega)
    have p2 := hs.bd (by omega) (k := k) (by omega)
    have p3 := ho.bd (by omega) (k := k + 1) (by omega)
    have p4 := hs.bd (by omega) (k := k + 1) (by omega)
    rw [← hy', ← hz', ← hy, ← hz] at en
    rw [← hy'] at p1
    rw [← hz'] at p2
    rw [← hy] at p3
    rw [← hz] at p4
    have HM := Lib.hid (fun w1 => show Calls Try.prog 62 #[.int .i64 y', .int .i64 z', .int .i64 y, .int .i64 z, .int .i64 a] w1 fun e w' => e = .returned (.int .i64 (line y' z' y z a)) ∧ ∃ n, w' = w1.drewN n from by
      have := Line.impl_between y' z' y z a w1
      rw [Line.between_yes (inB_yes (by omega) (by omega)) (inB_yes (by omega) (by omega)) (inB_yes (by omega) (by omega)) (inB_yes (by omega) (by omega))] at this
      exact this)
    clear hc0 hc1 hn hm ha hv ho hs hl hmono h0' h1' hy hy' hz hz' p1 p2 p3 p4 hp hle
    go_enter Try.func34, Try.ntmps34
    go_wp2_with (go_at_call 60; refine (HD.out _).mono ?_; rintro e w' ⟨rfl, rfl⟩)
    refine (HSE.out _ _ (by repeat (first | with_reducible exact On.refl _ | apply On.alloc | refine On.setCell ?_ (by (try simp) <;> omega) _)) ⟨by simp [go_sem], by simp [go_sem], by simp [go_sem]⟩).mono ?_
    rintro e w2 ⟨rfl, h2⟩
    obtain ⟨r0, r1, r2⟩ : Clo w2 w.heap.size (.slice (some ⟨b0, o0, none⟩) n cap0) (.slice (some ⟨b1, o1, none⟩) n cap1) a := Clo.on ⟨by simp [go_sem], by simp [go_sem], by simp [go_sem]⟩ h2
    have y1 : w.heap.size < w2.heap.size := World.block_lt_of_cell? w2 _ r0
    have y2 : w.heap.size + 1 < w2.heap.size := World.block_lt_of_cell? w2 _ r2
    have HO2 := Lib.hid (show On w w2 from by refine On.trans ?_ h2; repeat (first | with_reducible exact On.refl _ | apply On.alloc | refine On.setCell ?_ (by (try simp) <;> omega) _))
    have d1 := (HO2.out.cell (p := ⟨b0, o0 + (k + 1), none⟩) (by exact hb0)).trans c1
    have d2 := (HO2.out.cell (p := ⟨b0, o0 + k, none⟩) (by exact hb0)).trans c2
    have d3 := (HO2.out.cell (p := ⟨b1, o1 + k, none⟩) (by exact hb1)).trans c3
    have d4 := (HO2.out.cell (p := ⟨b1, o1 + (k + 1), none⟩) (by exact hb1)).trans c4
    have e0 := HO2.out.lts _ hb0
    have e1 := HO2.out.lts _ hb1
    clear h2
    go_wp2_with fail
    refine wp_region_onh (by kernel_rfl) (by kernel_rfl) ?_
    repeat (refine rest_step (fun K hK => ?_); go_simp; first | (refine hK _ ?_; clear hK K) | (apply Exists.intro; refine ⟨fun v1 hv1 => ?_, hK _ ?_⟩; (first | with_reducible exact rfl | with_reducible exact ⟨rfl, rfl⟩ | with_reducible exact Calls.on_drew hv1 (HM.out _) | (obtain ⟨hc, hf⟩ := bcell hv1; go_simp; first | with_reducible exact rfl | with_reducible exact ⟨rfl, rfl⟩ | exact rfl | exact ⟨rfl, rfl⟩)); clear hK K))
    refine rest_nil ?_
    intro w9 hw9
    go_wp2_with fail
    go_ret
    exact ⟨ret_int (by rw [E.out, ← en.out]), HO2.out.trans hw9⟩
  · obtain rfl : n = k + 1 := by omega
    obtain ⟨nn, nn'⟩ := eq_b (x := (((k + 1 : Nat) : Int))) (y := (((k + 1 : Nat)) : Int)) rfl
    have en := Lib.hid (show lossA os ls a = z' by rw [lossA_last (by rw [← hm, hn]), ← hn, hz']; rfl)
    clear hc0 hc1 hn hm ha hv ho hs hl hmono h0' h1' hz' hp hle
    go_enter Try.func34, Try.ntmps34
    go_wp2_with (go_at_call 60; refine (HD.out _).mono ?_; rintro e w' ⟨rfl, rfl⟩)
    refine (HSE.out _ _ (by repeat (first | with_reducible exact On.refl _ | apply On.alloc | refine On.setCell ?_ (by (try simp) <;> omega) _)) ⟨by simp [go_sem], by simp [go_sem], by simp [go_sem]⟩).mono ?_
    rintro e w2 ⟨rfl, h2⟩
    obtain ⟨r0, r1, r2⟩ : Clo w2 w.heap.size (.slice (some ⟨b0, o0, none⟩) (k + 1) cap0) (.slice (some ⟨b1, o1, none⟩) (k + 1) cap1) a := Clo.on ⟨by simp [go_sem], by simp [go_sem], by simp [go_sem]⟩ h2
    have y1 : w.heap.size < w2.heap.size := World.block_lt_of_cell? w2 _ r0
    have HO2 := Lib.hid (show On w w2 from by refine On.trans ?_ h2; repeat (first | with_reducible exact On.refl _ | apply On.alloc | refine On.setCell ?_ (by (try simp) <;> omega) _))
    have d3 := (HO2.out.cell (p := ⟨b1, o1 + k, none⟩) (by exact hb1)).trans c3
    have e1 := HO2.out.lts _ hb1
    clear h2
    go_wp2_with fail
    go_ret
    exact ⟨ret_int (by rw [E.out, ← en.out]), HO2.out⟩
theorem impl_last (v0 v1 : Value) (os ls : List Int) (w : World) (hv : okM os ls = true) (h0 : Ints w v0 os) (h1 : Ints w v1 ls) :
    Calls Try.prog 36 #[.agg #[v0, v1]] w fun e w' => e = .returned (.int .i64 (os.getD (os.length - 1) 0)) ∧ On w w' := by
  obtain ⟨⟨n2, n12⟩, hl, ho, hs⟩ := of_okM hv
  obtain ⟨n, hn⟩ : ∃ n, n + 1 = os.length := ⟨os.length - 1, by omega⟩
  have h0' := h0
  obtain ⟨a0, cap0, rfl, -⟩ := h0
  obtain ⟨a1, cap1, rfl, -⟩ := h1
  rw [← hn] at h0' n2 n12 ⊢
  obtain ⟨b0, o0, rfl, hb0, hc0⟩ := slice_of h0' hn.symm (by omega)
  have c1 := hc0 n (by omega)
  rw [show n + 1 - 1 = n by omega]
  generalize os.getD n 0 = y at *
  have ek : (((n + 1 : Nat) : Int)) - 1 = (n : Int) := by omega
  have wk : IntKind.i64.wrap (((n + 1 : Nat) : Int) - 1) = (n : Int) := by rw [ek]; exact IntWalk.i64_in _ (by omega)
  have hk0 : n < n + 1 := by omega
  have hki0 : (n : Int) < (((n + 1 : Nat)) : Int) := by omega
  clear hc0 hn hv ho hs hl h0'
  go_enter Try.func36, Try.ntmps36
  go_wp2_with fail
  go_ret
  exact ⟨rfl, by repeat (first | with_reducible exact On.refl _ | apply On.alloc | apply On.drewN)⟩
end Go.Proofs.Ytompiicgbmpoiaa.Msk
