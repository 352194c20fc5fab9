
/-
  Whether rows of levels are valid, in the model and in the program. Condition: the program's variable of spans holds what its text lays.
-/
import Derived.Test.YtkcjbcllpbojhaaDoorEvR
import Derived.Test.YtkcjbcllpbojhaaDoorSpan
namespace Go.Proofs.YtkcjbcllpbojhaaDoor.VRows
open Go.RowKit
open Plain
open Ints (Ints)

def lvl (x : Int) : Bool := inB x (-300000) 300000
def rowB (z : List Int) : Bool := inB z.length 1 24 && z.all lvl
theorem rowB_bad {z : List Int} {k : Nat} (hk : k < z.length) (h : lvl (z.getD k 0) = false) : rowB z = false := by unfold rowB; rw [all_bad hk h]; simp
theorem rowB_no {z : List Int} (h : ¬ (1 ≤ z.length ∧ z.length ≤ 24)) : rowB z = false := by unfold rowB; rw [inB_no (by omega)]; rfl
theorem rowB_yes {z : List Int} (h : AllTo lvl z z.length) (h1 : 1 ≤ z.length) (h2 : z.length ≤ 24) : rowB z = true := by unfold rowB; rw [all_all h, inB_yes (by omega) (by omega)]; rfl
def stepB (n : Nat) (z : List Int) : Bool := rowB z && decide (z.length = n)
def rowsB (zs : List (List Int)) : Bool := inB zs.length 1 32 && zs.all (stepB (zs.getD 0 []).length)
theorem spec_level (v : Int) (w : World) :
    Calls Tryd.prog 36 #[.int .i64 v] w fun e w' => e = .returned (.bool (lvl v)) ∧ w = w' := by
  go_enter Tryd.func36, Tryd.ntmps36
  go_wp2_with (go_at_call 29; refine (Arith.l00In _ _ _ _).mono ?_; rintro e w' ⟨rfl, rfl⟩)
  go_ret
  exact ⟨rfl, rfl⟩
set_option maxHeartbeats 1000000 in
theorem spec_row (v : Value) (z : List Int) (w : World) (hn : z.length ≤ 1048576) (h : Ints w v z) :
    Calls Tryd.prog 26 #[v] w fun e w' => e = .returned (.bool (rowB z)) ∧ w = w' := by
  obtain ⟨a, cap, rfl, hc⟩ := h
  obtain ⟨n, hnn⟩ : ∃ n, n = z.length := ⟨_, rfl⟩
  have HN := Lib.hid hnn
  have HC := Lib.hid hc
  rw [← hnn] at hn ⊢
  clear hc hnn
  go_enter Tryd.func26, Tryd.ntmps26
  go_wp2_with fail
  go_loop [3] (fun i => ∃ k : Nat, k ≤ n ∧ i = .int .i64 k ∧ AllTo lvl z k) (fun i => n - (intOf i).toNat)
  case atStart => exact ⟨0, Nat.zero_le _, rfl, allTo_zero _ _⟩
  case round =>
    obtain ⟨k, hk, rfl, hall⟩ := hrel
    have HA := Lib.hid hall
    clear hall
    by_cases hlt : k < n
    · have hlti : (k : Int) < (n : Int) := by omega
      obtain ⟨b, off, rfl, hb, hcell⟩ := HC.out (by rw [← HN.out]; omega)
      obtain ⟨x, hx⟩ : ∃ x, x = z.getD k 0 := ⟨_, rfl⟩
      have hc1 := hcell k (by rw [← HN.out]; exact hlt)
      rw [← hx] at hc1
      have HL := Lib.hid (fun w => spec_level x w)
      cases hin : lvl x with
      | true =>
        rw [hin] at HL
        have HS := Lib.hid (allTo_succ (p := lvl) HA.out (by rw [← hx]; exact hin))
        clear hx hcell hin
        go_wp2_with fail
        refine (HL.out _).mono ?_
        rintro e w1 ⟨rfl, rfl⟩
        go_wp2_with fail
        go_round
        case rel => exact ⟨k + 1, by omega, by go_num, HS.out⟩
        case measure => simp [intOf]; omega
      | false =>
        rw [hin] at HL
        have en := Lib.hid (rowB_bad (by rw [← HN.out]; exact hlt) (show lvl (z.getD k 0) = false by rw [← hx]; exact hin))
        clear hx hcell hin
        go_wp2_with fail
        refine (HL.out _).mono ?_
        rintro e w1 ⟨rfl, rfl⟩
        go_wp2_with fail
        go_ret
        exact ⟨ret_bool en.out.symm, rfl⟩
    · obtain rfl : k = n := by omega
      by_cases h1 : 0 < k
      · by_cases h2 : k ≤ 24
        · have en := Lib.hid (rowB_yes (by rw [← HN.out]; exact HA.out) (by rw [← HN.out]; exact h1) (by rw [← HN.out]; exact h2))
          have h1i : (0 : Int) < (k : Int) := by omega
          have h2i : (k : Int) ≤ 24 := by omega
          go_wp2_with fail
          go_ret
          exact ⟨ret_bool en.out.symm, rfl⟩
        · have en := Lib.hid (rowB_no (z := z) (by rw [← HN.out]; omega))
          have h1i : (0 : Int) < (k : Int) := by omega
          have h2i : ¬ (k : Int) ≤ 24 := by omega
          have h2d : decide ((k : Int) ≤ 24) = false := decide_eq_false h2i
          go_wp2_with fail
          go_ret
          exact ⟨ret_bool en.out.symm, rfl⟩
      · have en := Lib.hid (rowB_no (z := z) (by rw [← HN.out]; omega))
        obtain rfl : k = 0 := by omega
        go_wp2_with fail
        go_ret
        exact ⟨ret_bool en.out.symm, rfl⟩
set_option maxHeartbeats 1000000 in
theorem impl_row (v : Value) (z : List Int) (w : World) (hn : z.length ≤ 1048576) (h : Ints w v z) (hg : Span.SpanG w) :
    Calls Tryd.prog 25 #[v] w fun e w' => e = .returned (.bool (rowB z)) ∧ On w w' := by
  have HA := Lib.hid (Span.allows_2 v z w hn h hg)
  clear hg
  obtain ⟨a, cap, rfl, hc⟩ := h
  clear hc
  obtain ⟨n, hnn⟩ : ∃ n, n = z.length := ⟨_, rfl⟩
  have HW := Lib.hid (fun w => Arith.within n 1 24 w)
  cases hin : inB n 1 24 with
  | false =>
    rw [hin] at HW
    have en := Lib.hid (show rowB z = false by unfold rowB; rw [← hnn, hin]; rfl)
    rw [← hnn] at hn HA ⊢
    clear hin hnn
    go_enter Tryd.func25, Tryd.ntmps25
    go_wp2_with fail
    refine (HW.out _).mono ?_
    rintro e w1 ⟨rfl, rfl⟩
    go_wp2_with fail
    go_ret
    exact ⟨ret_bool en.out.symm, On.refl _⟩
  | true =>
    rw [hin] at HW
    have en := Lib.hid (show rowB z = z.all (fun x => inB x (-300000) 300000) by unfold rowB; rw [← hnn, hin]; rfl)
    rw [← hnn] at hn HA ⊢
    clear hin hnn
    go_enter Tryd.func25, Tryd.ntmps25
    go_wp2_with fail
    refine (HW.out _).mono ?_
    rintro e w1 ⟨rfl, rfl⟩
    go_wp2_with fail
    refine HA.out.mono ?_
    rintro e w1 ⟨rfl, h1⟩
    go_wp2_with fail
    go_ret
    exact ⟨ret_bool en.out.symm, h1⟩
/-- The program's look at one row: the rows lie behind the captured variable. -/
theorem impl_look (g0 : Nat) (u : Value) (z z0 : List Int) (b off cap n : Nat) (u0 : Value) (w : World) (hz : z.length ≤ 1048576) (hz0 : z0.length ≤ 1048576) (hn : 0 < n) (hnm : n ≤ 1048576) (h : Ints w u z) (hg : Span.SpanG w)
    (hb : b < w.heap.size) (hgl : g0 < w.heap.size) (hbox : w.cell? ⟨g0, 0, none⟩ = some (.slice (some ⟨b, off, none⟩) n cap)) (hc : w.cell? ⟨b, off, none⟩ = some u0) (h0 : Ints w u0 z0) :
    Calls Tryd.prog 24 #[u, .pointer (some ⟨g0, 0, none⟩)] w fun e w' => e = .returned (.bool (stepB z0.length z)) ∧ On w w' := by
  have HR := Lib.hid (impl_row u z w hz h hg)
  have hni : (0 : Int) < (n : Int) := by omega
  obtain ⟨a, c1, rfl, -⟩ := h
  obtain ⟨a0, c0, rfl, -⟩ := h0
  obtain ⟨m, hm⟩ : ∃ m, m = z.length := ⟨_, rfl⟩
  obtain ⟨m0, hm0⟩ : ∃ m, m = z0.length := ⟨_, rfl⟩
  rw [← hm0] at hc hz0
  rw [← hm] at HR hz
  clear hg
  cases hr : rowB z with
  | false =>
    rw [hr] at HR
    have en := Lib.hid (show stepB z0.length z = false by unfold stepB; rw [hr]; rfl)
    rw [← hm, ← hm0] at *
    clear hm hm0
    go_enter Tryd.func24, Tryd.ntmps24
    go_wp2_with fail
    refine HR.out.mono ?_
    rintro e w1 ⟨rfl, h1⟩
    go_wp2_with fail
    go_ret
    exact ⟨ret_bool en.out.symm, h1⟩
  | true =>
    rw [hr] at HR
    have en := Lib.hid (show stepB z0.length z = decide (m = m0) by unfold stepB; rw [hr, hm, hm0]; rfl)
    rw [← hm0] at en
    rw [← hm, ← hm0]
    clear hm hm0 hr
    by_cases he : m = m0
    · subst he
      have en2 := Lib.hid (en.out.trans (decide_eq_true rfl))
      go_enter Tryd.func24, Tryd.ntmps24
      go_wp2_with fail
      refine HR.out.mono ?_
      rintro e w1 ⟨rfl, h1⟩
      obtain ⟨hc2, hf2⟩ := bcell h1
      have HO := Lib.hid h1
      clear h1
      go_wp2_with fail
      go_ret
      exact ⟨ret_bool en2.out.symm, HO.out⟩
    · have en2 := Lib.hid (en.out.trans (decide_eq_false he))
      have he2 : (m == m0) = false := beq_eq_false_iff_ne.2 he
      have he3 : ((m : Int) == (m0 : Int)) = false := beq_eq_false_iff_ne.2 (by omega)
      go_enter Tryd.func24, Tryd.ntmps24
      go_wp2_with fail
      refine HR.out.mono ?_
      rintro e w1 ⟨rfl, h1⟩
      obtain ⟨hc2, hf2⟩ := bcell h1
      have HO := Lib.hid h1
      clear h1
      go_wp2_with fail
      go_ret
      exact ⟨ret_bool en2.out.symm, HO.out⟩
theorem rowsB_bad {zs : List (List Int)} {k : Nat} (hk : k < zs.length) (h : stepB (zs.getD 0 []).length (zs.getD k []) = false) : rowsB zs = false := by unfold rowsB; rw [EvR.all_bad_rows hk h]; simp
theorem rowsB_no {zs : List (List Int)} (h : ¬ (1 ≤ zs.length ∧ zs.length ≤ 32)) : rowsB zs = false := by unfold rowsB; rw [inB_no (by omega)]; rfl
theorem rowsB_yes {zs : List (List Int)} (h : ∀ i, i < zs.length → stepB (zs.getD 0 []).length (zs.getD i []) = true) (h1 : 1 ≤ zs.length) (h2 : zs.length ≤ 32) : rowsB zs = true := by unfold rowsB; rw [EvR.all_upto_rows h, inB_yes (by omega) (by omega)]; rfl
set_option maxHeartbeats 1000000 in
theorem impl_ValidRows (v : Value) (zs : List (List Int)) (w : World) (hn : zs.length ≤ 1048576) (hr : ∀ i, i < zs.length → (zs.getD i []).length ≤ 1048576) (h : Mats.Rows w v zs) (hg : Span.SpanG w) :
    Calls Tryd.prog 9 #[v] w fun e w' => e = .returned (.bool (rowsB zs)) ∧ On w w' := by
  have h' := h
  obtain ⟨a, cap, rfl, -⟩ := h
  obtain ⟨n, hnn⟩ : ∃ n, n = zs.length := ⟨_, rfl⟩
  have HW := Lib.hid (fun w => Arith.within n 1 32 w)
  cases hin : inB n 1 32 with
  | false =>
    rw [hin] at HW
    have en := Lib.hid (show rowsB zs = false by unfold rowsB; rw [← hnn, hin]; rfl)
    rw [← hnn] at hn ⊢
    clear hin hnn h' hg hr
    go_enter Tryd.func9, Tryd.ntmps9
    go_wp2_with fail
    refine (HW.out _).mono ?_
    rintro e w1 ⟨rfl, rfl⟩
    go_wp2_with fail
    go_ret
    exact ⟨ret_bool en.out.symm, by repeat (first | with_reducible exact On.refl _ | with_reducible apply On.alloc)⟩
  | true =>
    rw [hin] at HW
    obtain ⟨n0, n1⟩ := of_inB hin
    have h0 : 0 < zs.length := by omega
    have en := Lib.hid (show zs.all (stepB (zs.getD 0 []).length) = rowsB zs by unfold rowsB; rw [← hnn, hin]; rfl)
    obtain ⟨b, off, rfl, hlt, hcell⟩ := Mats.slice_of h' h0
    obtain ⟨u0, hu0, hz0⟩ := hcell 0 h0
    rw [Nat.add_zero] at hu0
    have HO := Lib.hid (On.alloc (On.refl w) (.cells #[.slice (some ⟨b, off, none⟩) n cap] 22 (0, 0)))
    have HE := Lib.hid (EvR.every_row w.heap.size (stepB (zs.getD 0 []).length) b off cap zs (w.alloc (.cells #[.slice (some ⟨b, off, none⟩) n cap] 22 (0, 0))) hn (HO.out.lts _ hlt)
      (fun i hi => by obtain ⟨u, hu, hz⟩ := hcell i hi; exact ⟨u, (HO.out.cell (by exact hlt)).trans hu, hz.below HO.out⟩)
      (fun k u w1 hk h1 hz => impl_look w.heap.size u (zs.getD k []) (zs.getD 0 []) b off cap n u0 w1 (hr k hk) (hr 0 h0) (by omega) (by omega) hz (hg.on (HO.out.trans h1)) ((HO.out.trans h1).lts _ hlt) (h1.lts _ (by simp)) ((h1.cell (by simp)).trans (by simp [go_sem])) (((HO.out.trans h1).cell (by exact hlt)).trans hu0) (hz0.below (HO.out.trans h1))))
    rw [← hnn] at hn HE ⊢
    clear hin hnn h' hg hr hcell hu0 hz0 h0
    go_enter Tryd.func9, Tryd.ntmps9
    go_wp2_with fail
    refine (HW.out _).mono ?_
    rintro e w1 ⟨rfl, rfl⟩
    go_wp2_with fail
    refine HE.out.mono ?_
    rintro e w1 ⟨rfl, h1⟩
    go_wp2_with fail
    go_ret
    exact ⟨ret_bool en.out, HO.out.trans h1⟩
set_option maxHeartbeats 2000000 in
theorem spec_rows (v : Value) (zs : List (List Int)) (w : World) (hn : zs.length ≤ 1048576) (hr : ∀ i, i < zs.length → (zs.getD i []).length ≤ 1048576) (h : Mats.Rows w v zs) :
    Calls Tryd.prog 21 #[v] w fun e w' => e = .returned (.bool (rowsB zs)) ∧ On w w' := by
  have h' := h
  obtain ⟨a, cap, rfl, -⟩ := h
  obtain ⟨n, hnn⟩ : ∃ n, n = zs.length := ⟨_, rfl⟩
  have HN := Lib.hid hnn
  have HS := Lib.hid (show 0 < zs.length → _ from Mats.slice_of h')
  have HR := Lib.hid hr
  rw [← hnn] at hn ⊢
  clear h' hnn hr
  go_enter Tryd.func21, Tryd.ntmps21
  go_wp2_with fail
  go_loopw [3] (fun i wr => ∃ k : Nat, k ≤ n ∧ i = .int .i64 k ∧ (∀ j, j < k → stepB (zs.getD 0 []).length (zs.getD j []) = true) ∧ On w wr) (fun i _ => n - (intOf i).toNat)
  case atStart => exact ⟨0, Nat.zero_le _, rfl, fun j hj => absurd hj (by omega), On.refl _⟩
  case round =>
    obtain ⟨k, hk, rfl, hall, ho⟩ := hrel
    have HA := Lib.hid hall
    have HB := Lib.hid ho
    clear hall
    by_cases hlt : k < n
    · have hlti : (k : Int) < (n : Int) := by omega
      have hni : (0 : Int) < (n : Int) := by omega
      have hnp : 0 < n := by omega
      obtain ⟨b, off, rfl, hb, hcell⟩ := HS.out (by rw [← HN.out]; omega)
      obtain ⟨u, hu, hz⟩ := hcell k (by rw [← HN.out]; exact hlt)
      obtain ⟨u0, hu0, hz0⟩ := hcell 0 (by rw [← HN.out]; exact hnp)
      rw [Nat.add_zero] at hu0
      have c1 : wr.cell? ⟨b, off + k, none⟩ = some u := (HB.out.cell (by exact hb)).trans hu
      have c0 : wr.cell? ⟨b, off, none⟩ = some u0 := (HB.out.cell (by exact hb)).trans hu0
      have gb := ho.lts _ hb
      have HL := Lib.hid (fun w' (h : On wr w') => spec_row u _ w' (HR.out k (by rw [← HN.out]; exact hlt)) (Ints.Ints.below hz (HB.out.trans h)))
      obtain ⟨a1, cap1, hu1, -⟩ := hz
      obtain ⟨a0, cap0, hu10, -⟩ := hz0
      obtain ⟨m, hm⟩ : ∃ m, m = (zs.getD k []).length := ⟨_, rfl⟩
      obtain ⟨m0, hm0⟩ : ∃ m, m = (zs.getD 0 []).length := ⟨_, rfl⟩
      rw [← hm] at hu1
      rw [← hm0] at hu10
      subst hu1 hu10
      cases hq : rowB (zs.getD k []) with
      | false =>
        rw [hq] at HL
        have en := Lib.hid (rowsB_bad (by rw [← HN.out]; exact hlt) (show stepB (zs.getD 0 []).length (zs.getD k []) = false by unfold stepB; rw [hq]; rfl))
        clear hm hm0 hq hu hu0 hcell ho
        go_wp2_with fail
        refine wp_region_onh (by kernel_rfl) (by kernel_rfl) ?_
        repeat (refine rest_step (fun K hK => ?_); go_simp; first | (refine hK _ ?_; clear hK K) | (apply Exists.intro; refine ⟨fun v1 hv1 => ?_, hK _ ?_⟩; (first | with_reducible exact rfl | with_reducible exact ⟨rfl, rfl⟩ | with_reducible exact Calls.on_same hv1 (HL.out _ hv1) | (obtain ⟨hc, hf⟩ := bcell hv1; go_simp; first | with_reducible exact rfl | with_reducible exact ⟨rfl, rfl⟩ | exact rfl | exact ⟨rfl, rfl⟩)); clear hK K))
        refine rest_nil ?_
        intro w1 h1
        go_wp2_with fail
        go_ret
        exact ⟨ret_bool en.out.symm, HB.out.trans h1⟩
      | true =>
        rw [hq] at HL
        by_cases he : m = m0
        · have HSS := Lib.hid (fun j (hj : j < k + 1) => show stepB (zs.getD 0 []).length (zs.getD j []) = true by
            by_cases e : j = k
            · rw [e]; unfold stepB; rw [hq, ← hm, ← hm0, he]; simp
            · exact HA.out j (by omega))
          subst he
          clear hm hm0 hq hu hu0 hcell ho
          go_wp2_with fail
          refine wp_region_onh (by kernel_rfl) (by kernel_rfl) ?_
          repeat (refine rest_step (fun K hK => ?_); go_simp; first | (refine hK _ ?_; clear hK K) | (apply Exists.intro; refine ⟨fun v1 hv1 => ?_, hK _ ?_⟩; (first | with_reducible exact rfl | with_reducible exact ⟨rfl, rfl⟩ | with_reducible exact Calls.on_same hv1 (HL.out _ hv1) | (obtain ⟨hc, hf⟩ := bcell hv1; go_simp; first | with_reducible exact rfl | with_reducible exact ⟨rfl, rfl⟩ | exact rfl | exact ⟨rfl, rfl⟩)); clear hK K))
          refine rest_nil ?_
          intro w1 h1
          go_wp2_with fail
          go_roundw
          case rel => exact ⟨k + 1, by omega, by go_num, HSS.out, HB.out.trans h1⟩
          case measure => simp [intOf]; omega
        · have en := Lib.hid (rowsB_bad (by rw [← HN.out]; exact hlt) (show stepB (zs.getD 0 []).length (zs.getD k []) = false by unfold stepB; rw [← hm, ← hm0, decide_eq_false he]; simp))
          have he2 : (m == m0) = false := beq_eq_false_iff_ne.2 he
          have he3 : ((m : Int) == (m0 : Int)) = false := beq_eq_false_iff_ne.2 (by omega)
          have he4 : ((m : Int) != (m0 : Int)) = true := by rw [bne, he3]; rfl
          have he5 : (m != m0) = true := by rw [bne, he2]; rfl
          clear hm hm0 hq hu hu0 hcell ho
          go_wp2_with fail
          refine wp_region_onh (by kernel_rfl) (by kernel_rfl) ?_
          repeat (refine rest_step (fun K hK => ?_); go_simp; first | (refine hK _ ?_; clear hK K) | (apply Exists.intro; refine ⟨fun v1 hv1 => ?_, hK _ ?_⟩; (first | with_reducible exact rfl | with_reducible exact ⟨rfl, rfl⟩ | with_reducible exact Calls.on_same hv1 (HL.out _ hv1) | (obtain ⟨hc, hf⟩ := bcell hv1; go_simp; first | with_reducible exact rfl | with_reducible exact ⟨rfl, rfl⟩ | exact rfl | exact ⟨rfl, rfl⟩)); clear hK K))
          refine rest_nil ?_
          intro w1 h1
          go_wp2_with fail
          go_ret
          exact ⟨ret_bool en.out.symm, HB.out.trans h1⟩
    · obtain rfl : k = n := by omega
      clear ho
      by_cases h1 : 0 < k
      · by_cases h2 : k ≤ 32
        · have en := Lib.hid (rowsB_yes (by rw [← HN.out]; exact HA.out) (by rw [← HN.out]; exact h1) (by rw [← HN.out]; exact h2))
          have h1i : (0 : Int) < (k : Int) := by omega
          have h2i : (k : Int) ≤ 32 := by omega
          go_wp2_with fail
          go_ret
          exact ⟨ret_bool en.out.symm, HB.out⟩
        · have en := Lib.hid (rowsB_no (zs := zs) (by rw [← HN.out]; omega))
          have h1i : (0 : Int) < (k : Int) := by omega
          have h2i : ¬ (k : Int) ≤ 32 := by omega
          have h2d : decide ((k : Int) ≤ 32) = false := decide_eq_false h2i
          go_wp2_with fail
          go_ret
          exact ⟨ret_bool en.out.symm, HB.out⟩
      · have en := Lib.hid (rowsB_no (zs := zs) (by rw [← HN.out]; omega))
        obtain rfl : k = 0 := by omega
        go_wp2_with fail
        go_ret
        exact ⟨ret_bool en.out.symm, HB.out⟩
theorem spec_ValidRows (v : Value) (zs : List (List Int)) (w : World) (hn : zs.length ≤ 1048576) (hr : ∀ i, i < zs.length → (zs.getD i []).length ≤ 1048576) (h : Mats.Rows w v zs) :
    Calls Tryd.prog 7 #[v] w fun e w' => e = .returned (.bool (rowsB zs)) ∧ On w w' := by
  have HS := Lib.hid (spec_rows v zs w hn hr h)
  obtain ⟨a, cap, rfl, -⟩ := h
  go_enter Tryd.func7, Tryd.ntmps7
  go_wp2_with fail
  refine HS.out.mono ?_
  rintro e w1 ⟨rfl, h1⟩
  go_wp2_with fail
  go_ret
  exact ⟨rfl, h1⟩
end Go.Proofs.YtkcjbcllpbojhaaDoor.VRows
