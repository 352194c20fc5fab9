
/-
  Whether two problems are equal, in the model and in the program. Condition: at most 1048576 lists of at most 1048576 numbers.
-/
import Derived.Test.YtofoffdmhekceaaCon0
import Derived.Test.YtofoffdmhekceaaSame
import Derived.Test.YtofoffdmhekceaaOnH
import Derived.Deep.QuietTactic
import Derived.BigQuiet
import Derived.IntWalk
namespace Go.Proofs.Ytofoffdmhekceaa.SmP
open Go.RowKit
open Prb (T)

theorem ext_lists {zs ys : List (List Int)} {n : Nat} (hz : zs.length = n) (hy : ys.length = n) (h : ∀ j, j < n → zs.getD j [] = ys.getD j []) : zs = ys :=
  List.ext_getElem (by rw [hz, hy]) fun j h1 h2 => by
    have := h j (by omega)
    simpa [h1, h2] using this
set_option maxHeartbeats 4000000 in
theorem spec_lists (v v2 : Value) (zs ys : List (List Int)) (w : World) (hn : zs.length ≤ 1048576) (hr : ∀ i, i < zs.length → (zs.getD i []).length ≤ 1048576) (h : Mats.Rows w v zs) (h2 : Mats.Rows w v2 ys) :
    Calls Try.prog 42 #[v, v2] w fun e w' => e = .returned (.bool (decide (zs = ys))) ∧ On w w' := by
  have h' := h
  have h2' := h2
  obtain ⟨a, cap, rfl, -⟩ := h
  obtain ⟨a2, cap2, rfl, -⟩ := h2
  obtain ⟨n, hnn⟩ : ∃ n, n = zs.length := ⟨_, rfl⟩
  obtain ⟨m, hm⟩ : ∃ m, m = ys.length := ⟨_, rfl⟩
  by_cases he : n = m
  case neg =>
    have en := Lib.hid (show decide (zs = ys) = false from decide_eq_false (fun h => he (by rw [hnn, hm, h])))
    rw [← hnn, ← hm]
    have b1 : ((n : Int) == (m : Int)) = false := beq_eq_false_iff_ne.2 (by omega)
    have b2 : ((n : Int) != (m : Int)) = true := by rw [bne, b1]; rfl
    have b3 : (n == m) = false := beq_eq_false_iff_ne.2 he
    clear hnn hm h' h2' hr hn
    go_enter Try.func42, Try.ntmps42
    go_wp2_with fail
    go_ret
    exact ⟨ret_bool en.out.symm, On.refl _⟩
  subst he
  have HN := Lib.hid hnn
  have HM := Lib.hid hm
  have HR := Lib.hid hr
  have HZ := Lib.hid (show 0 < zs.length → _ from Mats.slice_of h')
  have HY := Lib.hid (show 0 < ys.length → _ from Mats.slice_of h2')
  rw [← hnn] at hn ⊢
  rw [← hm]
  clear hnn hm h' h2' hr
  go_enter Try.func42, Try.ntmps42
  go_wp2_with fail
  go_loopw [5] (fun i wr => ∃ k : Nat, k ≤ n ∧ i = .int .i64 k ∧ (∀ j, j < k → zs.getD j [] = ys.getD j []) ∧ On w wr) (fun i _ => n - (intOf i).toNat)
  case atStart => exact ⟨0, Nat.zero_le _, rfl, fun j hj => absurd hj (by omega), On.refl _⟩
  case round =>
    obtain ⟨k, hk, rfl, hall, ho⟩ := hrel
    have HA := Lib.hid hall
    have HO := Lib.hid ho
    clear hall
    by_cases hlt : k < n
    · have hlti : (k : Int) < (n : Int) := by omega
      obtain ⟨b, off, rfl, hb, hcell⟩ := HZ.out (by rw [← HN.out]; omega)
      obtain ⟨b2, off2, rfl, hb2, hcell2⟩ := HY.out (by rw [← HM.out]; omega)
      obtain ⟨u, hu, hz⟩ := hcell k (by rw [← HN.out]; exact hlt)
      obtain ⟨u2, hu2, hz2⟩ := hcell2 k (by rw [← HM.out]; exact hlt)
      have c1 : wr.cell? ⟨b, off + k, none⟩ = some u := (ho.cell (by exact hb)).trans hu
      have c2 : wr.cell? ⟨b2, off2 + k, none⟩ = some u2 := (ho.cell (by exact hb2)).trans hu2
      have s1 := ho.lts _ hb
      have s2 := ho.lts _ hb2
      have HL := Lib.hid (fun w' (h : On wr w') => Same.spec u u2 (zs.getD k []) (ys.getD k []) w' (HR.out k (by rw [← HN.out]; exact hlt)) (hz.below (HO.out.trans h)) (hz2.below (HO.out.trans h)))
      obtain ⟨d, e, hv, -⟩ := hz
      obtain ⟨d2, e2, hv2, -⟩ := hz2
      obtain ⟨l, hl⟩ : ∃ l, l = (zs.getD k []).length := ⟨_, rfl⟩
      obtain ⟨l2, hl2⟩ : ∃ l, l = (ys.getD k []).length := ⟨_, rfl⟩
      rw [← hl] at hv
      rw [← hl2] at hv2
      subst hv hv2
      clear hl hl2 hu hu2 hcell hcell2 ho
      by_cases hq : zs.getD k [] = ys.getD k []
      · rw [decide_eq_true hq] at HL
        have HS := Lib.hid (fun j (hj : j < k + 1) => show zs.getD j [] = ys.getD j [] by
          by_cases g : j = k
          · rw [g]; exact hq
          · exact HA.out j (by omega))
        clear hq
        go_wp2_with fail
        refine wp_region_onh (by kernel_rfl) (by kernel_rfl) ?_
        repeat (refine rest_step (fun K hK => ?_); go_simp; first | (refine hK _ ?_; clear hK K) | (apply Exists.intro; refine ⟨fun v1 hv1 => ?_, hK _ ?_⟩; (first | with_reducible exact rfl | with_reducible exact ⟨rfl, rfl⟩ | with_reducible exact Calls.on hv1 (HL.out _ hv1) | (obtain ⟨hc, hf⟩ := bcell hv1; go_simp; first | with_reducible exact rfl | with_reducible exact ⟨rfl, rfl⟩ | exact rfl | exact ⟨rfl, rfl⟩)); clear hK K))
        refine rest_nil ?_
        intro w9 hw9
        go_wp2_with fail
        go_roundw
        case rel => exact ⟨k + 1, by omega, by go_num, HS.out, HO.out.trans hw9⟩
        case measure => simp [intOf]; omega
      · rw [decide_eq_false hq] at HL
        have en := Lib.hid (show decide (zs = ys) = false from decide_eq_false (fun h => hq (by rw [h])))
        clear hq
        go_wp2_with fail
        refine wp_region_onh (by kernel_rfl) (by kernel_rfl) ?_
        repeat (refine rest_step (fun K hK => ?_); go_simp; first | (refine hK _ ?_; clear hK K) | (apply Exists.intro; refine ⟨fun v1 hv1 => ?_, hK _ ?_⟩; (first | with_reducible exact rfl | with_reducible exact ⟨rfl, rfl⟩ | with_reducible exact Calls.on hv1 (HL.out _ hv1) | (obtain ⟨hc, hf⟩ := bcell hv1; go_simp; first | with_reducible exact rfl | with_reducible exact ⟨rfl, rfl⟩ | exact rfl | exact ⟨rfl, rfl⟩)); clear hK K))
        refine rest_nil ?_
        intro w9 hw9
        go_wp2_with fail
        go_ret
        exact ⟨ret_bool en.out.symm, HO.out.trans hw9⟩
    · obtain rfl : k = n := by omega
      have en := Lib.hid (show decide (zs = ys) = true from decide_eq_true (ext_lists HN.out.symm HM.out.symm HA.out))
      clear ho
      go_wp2_with fail
      go_ret
      exact ⟨ret_bool en.out.symm, HO.out⟩
set_option maxHeartbeats 4000000 in
theorem lib_lists (v v2 : Value) (zs ys : List (List Int)) (w : World) (hn : zs.length ≤ 1048576) (hr : ∀ i, i < zs.length → (zs.getD i []).length ≤ 1048576) (h : Mats.Rows w v zs) (h2 : Mats.Rows w v2 ys) :
    Calls Try.prog 44 #[v, v2, .func (Fn.func 43) #[] #[]] w fun e w' => e = .returned (.bool (decide (zs = ys))) ∧ On w w' := by
  have h' := h
  have h2' := h2
  obtain ⟨a, cap, rfl, -⟩ := h
  obtain ⟨a2, cap2, rfl, -⟩ := h2
  obtain ⟨n, hnn⟩ : ∃ n, n = zs.length := ⟨_, rfl⟩
  obtain ⟨m, hm⟩ : ∃ m, m = ys.length := ⟨_, rfl⟩
  by_cases he : n = m
  case neg =>
    have en := Lib.hid (show decide (zs = ys) = false from decide_eq_false (fun h => he (by rw [hnn, hm, h])))
    rw [← hnn, ← hm]
    have b1 : ((n : Int) == (m : Int)) = false := beq_eq_false_iff_ne.2 (by omega)
    have b2 : ((n : Int) != (m : Int)) = true := by rw [bne, b1]; rfl
    have b3 : (n == m) = false := beq_eq_false_iff_ne.2 he
    clear hnn hm h' h2' hr hn
    go_enter Try.func44, Try.ntmps44
    go_wp2_with fail
    go_ret
    exact ⟨ret_bool en.out.symm, On.refl _⟩
  subst he
  have HN := Lib.hid hnn
  have HM := Lib.hid hm
  have HR := Lib.hid hr
  have HZ := Lib.hid (show 0 < zs.length → _ from Mats.slice_of h')
  have HY := Lib.hid (show 0 < ys.length → _ from Mats.slice_of h2')
  rw [← hnn] at hn ⊢
  rw [← hm]
  clear hnn hm h' h2' hr
  go_enter Try.func44, Try.ntmps44
  go_wp2_with fail
  go_loopw [17] (fun i wr => ∃ k : Nat, k ≤ n ∧ i = .int .i64 k ∧ (∀ j, j < k → zs.getD j [] = ys.getD j []) ∧ On w wr) (fun i _ => n - (intOf i).toNat)
  case atStart => exact ⟨0, Nat.zero_le _, rfl, fun j hj => absurd hj (by omega), On.refl _⟩
  case round =>
    obtain ⟨k, hk, rfl, hall, ho⟩ := hrel
    have HA := Lib.hid hall
    have HO := Lib.hid ho
    clear hall
    by_cases hlt : k < n
    · have hlti : (k : Int) < (n : Int) := by omega
      obtain ⟨b, off, rfl, hb, hcell⟩ := HZ.out (by rw [← HN.out]; omega)
      obtain ⟨b2, off2, rfl, hb2, hcell2⟩ := HY.out (by rw [← HM.out]; omega)
      obtain ⟨u, hu, hz⟩ := hcell k (by rw [← HN.out]; exact hlt)
      obtain ⟨u2, hu2, hz2⟩ := hcell2 k (by rw [← HM.out]; exact hlt)
      have c1 : wr.cell? ⟨b, off + k, none⟩ = some u := (ho.cell (by exact hb)).trans hu
      have c2 : wr.cell? ⟨b2, off2 + k, none⟩ = some u2 := (ho.cell (by exact hb2)).trans hu2
      have s1 := ho.lts _ hb
      have s2 := ho.lts _ hb2
      have HL := Lib.hid (Same.lib u u2 (zs.getD k []) (ys.getD k []) wr (HR.out k (by rw [← HN.out]; exact hlt)) (hz.below ho) (hz2.below ho))
      obtain ⟨d, e, hv, -⟩ := hz
      obtain ⟨d2, e2, hv2, -⟩ := hz2
      obtain ⟨l, hl⟩ : ∃ l, l = (zs.getD k []).length := ⟨_, rfl⟩
      obtain ⟨l2, hl2⟩ : ∃ l, l = (ys.getD k []).length := ⟨_, rfl⟩
      rw [← hl] at hv
      rw [← hl2] at hv2
      subst hv hv2
      clear hl hl2 hu hu2 hcell hcell2 ho
      by_cases hq : zs.getD k [] = ys.getD k []
      · rw [decide_eq_true hq] at HL
        have HS := Lib.hid (fun j (hj : j < k + 1) => show zs.getD j [] = ys.getD j [] by
          by_cases g : j = k
          · rw [g]; exact hq
          · exact HA.out j (by omega))
        clear hq
        go_wp2_with fail
        refine HL.out.mono ?_
        rintro e w9 ⟨rfl, hw9⟩
        go_wp2_with fail
        go_roundw
        case rel => exact ⟨k + 1, by omega, by go_num, HS.out, HO.out.trans hw9⟩
        case measure => simp [intOf]; omega
      · rw [decide_eq_false hq] at HL
        have en := Lib.hid (show decide (zs = ys) = false from decide_eq_false (fun h => hq (by rw [h])))
        clear hq
        go_wp2_with fail
        refine HL.out.mono ?_
        rintro e w9 ⟨rfl, hw9⟩
        go_wp2_with fail
        go_ret
        exact ⟨ret_bool en.out.symm, HO.out.trans hw9⟩
    · obtain rfl : k = n := by omega
      have en := Lib.hid (show decide (zs = ys) = true from decide_eq_true (ext_lists HN.out.symm HM.out.symm HA.out))
      clear ho
      go_wp2_with fail
      go_ret
      exact ⟨ret_bool en.out.symm, HO.out⟩
def sameB (N M : T) : Bool := decide (N.f0 = M.f0) && decide (N.f1 = M.f1)
set_option maxHeartbeats 4000000 in
theorem spec_SameProblem (v u : Value) (N M : T) (w : World) (hs : N.Small 1048576) (h : Prb.Is w v N) (k : Prb.Is w u M) :
    Calls Try.prog 15 #[v, u] w fun e w' => e = .returned (.bool (sameB N M)) ∧ On w w' := by
  obtain ⟨a0, a1, c0, c1, rfl, r0, r1⟩ := Con.Is.shape h
  obtain ⟨d0, d1, e0, e1, rfl, s0, s1⟩ := Con.Is.shape k
  have H0 := Lib.hid (fun w1 (h1 : On w w1) => spec_lists _ _ N.f0 M.f0 w1 hs.1.1 hs.1.2 (r0.below h1) (s0.below h1))
  have H1 := Lib.hid (fun w1 (h1 : On w w1) => spec_lists _ _ N.f1 M.f1 w1 hs.2.1 hs.2.2 (r1.below h1) (s1.below h1))
  obtain ⟨b0, hb0⟩ : ∃ b, b = decide (N.f0 = M.f0) := ⟨_, rfl⟩
  obtain ⟨b1, hb1⟩ : ∃ b, b = decide (N.f1 = M.f1) := ⟨_, rfl⟩
  have en := Lib.hid (show sameB N M = (b0 && b1) by unfold sameB; rw [hb0, hb1])
  rw [← hb0] at H0
  rw [← hb1] at H1
  generalize N.f0.length = n0 at *
  generalize N.f1.length = n1 at *
  generalize M.f0.length = m0 at *
  generalize M.f1.length = m1 at *
  clear hb0 hb1 r0 r1 s0 s1 h k hs
  cases b0 with
  | false =>
    go_enter Try.func15, Try.ntmps15
    go_wp2_with fail
    refine (H0.out _ (by repeat (first | with_reducible exact On.refl _ | with_reducible apply On.alloc))).mono ?_
    rintro e w1 ⟨rfl, g1⟩
    have HG := Lib.hid (show On w w1 by refine On.trans ?_ g1; repeat (first | with_reducible exact On.refl _ | with_reducible apply On.alloc))
    clear g1
    go_wp2_with fail
    go_ret
    exact ⟨ret_bool en.out.symm, HG.out⟩
  | true =>
    go_enter Try.func15, Try.ntmps15
    go_wp2_with fail
    refine (H0.out _ (by repeat (first | with_reducible exact On.refl _ | with_reducible apply On.alloc))).mono ?_
    rintro e w1 ⟨rfl, g1⟩
    obtain ⟨hcc, hff⟩ := bcell g1
    obtain ⟨s0, s1⟩ : w.heap.size < w1.heap.size ∧ w.heap.size + 1 < w1.heap.size := by have := g1.size; simp at this; omega
    have HG := Lib.hid (show On w w1 by refine On.trans ?_ g1; repeat (first | with_reducible exact On.refl _ | with_reducible apply On.alloc))
    clear g1
    go_wp2_with fail
    refine (H1.out _ HG.out).mono ?_
    rintro e w2 ⟨rfl, g2⟩
    have HG2 := Lib.hid (HG.out.trans g2)
    clear g2
    go_wp2_with fail
    go_ret
    exact ⟨ret_bool en.out.symm, HG2.out⟩
set_option maxHeartbeats 4000000 in
theorem impl_SameProblem (v u : Value) (N M : T) (w : World) (hs : N.Small 1048576) (h : Prb.Is w v N) (k : Prb.Is w u M) :
    Calls Try.prog 16 #[v, u] w fun e w' => e = .returned (.bool (sameB N M)) ∧ On w w' := by
  obtain ⟨a0, a1, c0, c1, rfl, r0, r1⟩ := Con.Is.shape h
  obtain ⟨d0, d1, e0, e1, rfl, s0, s1⟩ := Con.Is.shape k
  have H0 := Lib.hid (fun w1 (h1 : On w w1) => lib_lists _ _ N.f0 M.f0 w1 hs.1.1 hs.1.2 (r0.below h1) (s0.below h1))
  have H1 := Lib.hid (fun w1 (h1 : On w w1) => lib_lists _ _ N.f1 M.f1 w1 hs.2.1 hs.2.2 (r1.below h1) (s1.below h1))
  obtain ⟨b0, hb0⟩ : ∃ b, b = decide (N.f0 = M.f0) := ⟨_, rfl⟩
  obtain ⟨b1, hb1⟩ : ∃ b, b = decide (N.f1 = M.f1) := ⟨_, rfl⟩
  have en := Lib.hid (show sameB N M = (b0 && b1) by unfold sameB; rw [hb0, hb1])
  rw [← hb0] at H0
  rw [← hb1] at H1
  generalize N.f0.length = n0 at *
  generalize N.f1.length = n1 at *
  generalize M.f0.length = m0 at *
  generalize M.f1.length = m1 at *
  clear hb0 hb1 r0 r1 s0 s1 h k hs
  cases b0 with
  | false =>
    go_enter Try.func16, Try.ntmps16
    go_wp2_with fail
    refine (H0.out _ (by repeat (first | with_reducible exact On.refl _ | with_reducible apply On.alloc))).mono ?_
    rintro e w1 ⟨rfl, g1⟩
    have HG := Lib.hid (show On w w1 by refine On.trans ?_ g1; repeat (first | with_reducible exact On.refl _ | with_reducible apply On.alloc))
    clear g1
    go_wp2_with fail
    go_ret
    exact ⟨ret_bool en.out.symm, HG.out⟩
  | true =>
    go_enter Try.func16, Try.ntmps16
    go_wp2_with fail
    refine (H0.out _ (by repeat (first | with_reducible exact On.refl _ | with_reducible apply On.alloc))).mono ?_
    rintro e w1 ⟨rfl, g1⟩
    obtain ⟨hcc, hff⟩ := bcell g1
    obtain ⟨s0, s1⟩ : w.heap.size < w1.heap.size ∧ w.heap.size + 1 < w1.heap.size := by have := g1.size; simp at this; omega
    have HG := Lib.hid (show On w w1 by refine On.trans ?_ g1; repeat (first | with_reducible exact On.refl _ | with_reducible apply On.alloc))
    clear g1
    go_wp2_with fail
    refine (H1.out _ HG.out).mono ?_
    rintro e w2 ⟨rfl, g2⟩
    have HG2 := Lib.hid (HG.out.trans g2)
    clear g2
    go_wp2_with fail
    go_ret
    exact ⟨ret_bool en.out.symm, HG2.out⟩
end Go.Proofs.Ytofoffdmhekceaa.SmP
