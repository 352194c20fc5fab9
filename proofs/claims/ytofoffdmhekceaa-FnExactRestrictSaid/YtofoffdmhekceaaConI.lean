
/-
  When a problem of assignment is valid, in the program. Condition: at most 1048576 lists of at most 1048576 numbers.
-/
import Derived.Test.YtofoffdmhekceaaConS
import Derived.Test.YtofoffdmhekceaaEvI
namespace Go.Proofs.Ytofoffdmhekceaa.Con
open Go.RowKit
open Plain
open Ints (Ints)
open Prb (T)

theorem impl_asg (v : Int) (w : World) :
    Calls Try.prog 63 #[.int .i64 v] w fun e w' => e = .returned (.bool (inB v 0 999)) ∧ On w w' := by
  go_enter Try.func63, Try.ntmps63
  go_wp2_with (go_at_call 68; refine (Arith.within _ _ _ _).mono ?_; rintro e w' ⟨rfl, rfl⟩)
  go_ret
  exact ⟨rfl, On.refl _⟩
theorem impl_apt (v : Int) (w : World) :
    Calls Try.prog 40 #[.int .i64 v] w fun e w' => e = .returned (.bool (inB v 0 100)) ∧ On w w' := by
  go_enter Try.func40, Try.ntmps40
  go_wp2_with (go_at_call 68; refine (Arith.within _ _ _ _).mono ?_; rintro e w' ⟨rfl, rfl⟩)
  go_ret
  exact ⟨rfl, On.refl _⟩
set_option maxHeartbeats 2000000 in
theorem impl_ascend (v : Value) (zs : List Int) (w : World) (hz : zs.length ≤ 1048576) (h0 : 0 < zs.length) (h : Ints w v zs) :
    Calls Try.prog 84 #[v] w fun e w' => e = .returned (.bool (ascB zs)) ∧ On w w' := by
  have h' := h
  obtain ⟨a, cap, rfl, -⟩ := h
  obtain ⟨n, hn⟩ : ∃ n, n = zs.length := ⟨_, rfl⟩
  obtain ⟨b, off, rfl, hb, hcell⟩ := slice_of (n := n) (by rw [hn]; exact h') hn.symm (by omega)
  have HN := Lib.hid hn
  have HC := Lib.hid hcell
  rw [← hn] at hz h0 ⊢
  clear h' hn hcell
  go_enter Try.func84, Try.ntmps84
  go_wp2_with fail
  go_loopw [3] (fun i wr => ∃ k : Nat, k < n ∧ i = .int .i64 ((k : Int) + 1) ∧ AllN (ascAt zs) (k + 1) ∧ On w wr) (fun i _ => n - (intOf i).toNat)
  case atStart => exact ⟨0, h0, rfl, fun i hi => by rw [show i = 0 by omega]; exact asc_0 _, On.refl _⟩
  case round =>
    obtain ⟨k, hk, rfl, hall, ho⟩ := hrel
    have HA := Lib.hid hall
    have HO := Lib.hid ho
    clear hall
    have wk : IntKind.i64.wrap ((k : Int) + 1) = (k : Int) + 1 := IntWalk.i64_in _ (by omega)
    by_cases hlt : k + 1 < n
    · have hlti : (k : Int) + 1 < (n : Int) := by omega
      obtain ⟨y, hy⟩ : ∃ y, y = zs.getD k 0 := ⟨_, rfl⟩
      obtain ⟨z, hz1⟩ : ∃ z, z = zs.getD (k + 1) 0 := ⟨_, rfl⟩
      have c1 : wr.cell? ⟨b, off + k, none⟩ = some (.int .i64 y) := by rw [hy, ho.cell (by exact hb)]; exact HC.out k hk
      have c2 : wr.cell? ⟨b, off + (k + 1), none⟩ = some (.int .i64 z) := by rw [hz1, ho.cell (by exact hb)]; exact HC.out (k + 1) hlt
      have s0 := ho.lts _ hb
      have e1 : (k : Int) + 1 - 1 = (k : Int) := by omega
      have e2 : ((k : Int) + 1).toNat = k + 1 := by omega
      have wm : IntKind.i64.wrap (k : Int) = (k : Int) := IntWalk.i64_in _ (by omega)
      have hki : (k : Int) < (n : Int) := by omega
      have hk0 : (0 : Int) ≤ (k : Int) + 1 := by omega
      by_cases hr : y < z
      · have HS := Lib.hid (allN_succ HA.out (show ascAt zs (k + 1) = true from asc_yes (by rw [← hz1, ← hy]; exact hr)))
        have hr2 : ¬ z ≤ y := by omega
        clear hz1 hy ho
        go_wp2_with fail
        refine wp_region_onh (by kernel_rfl) (by kernel_rfl) ?_
        repeat (refine rest_step (fun K hK => ?_); go_simp; first | (refine hK _ ?_; clear hK K) | (apply Exists.intro; refine ⟨fun v1 hv1 => ?_, hK _ ?_⟩; (first | with_reducible exact rfl | with_reducible exact ⟨rfl, rfl⟩ | (obtain ⟨hc, hf⟩ := bcell hv1; go_simp; first | with_reducible exact rfl | with_reducible exact ⟨rfl, rfl⟩ | exact rfl | exact ⟨rfl, rfl⟩)); clear hK K))
        refine rest_nil ?_
        intro w9 hw9
        clear wk e1 e2 wm
        go_wp2_with fail
        go_roundw
        case rel => exact ⟨k + 1, by omega, by go_num, HS.out, HO.out.trans hw9⟩
        case measure => simp [intOf]; omega
      · have en := Lib.hid (show ascB zs = false from allN_bad (k := k + 1) (by rw [← HN.out]; exact hlt) (asc_no (by rw [← hz1, ← hy]; exact hr)))
        have hr2 : z ≤ y := by omega
        clear hz1 hy ho
        go_wp2_with fail
        refine wp_region_onh (by kernel_rfl) (by kernel_rfl) ?_
        repeat (refine rest_step (fun K hK => ?_); go_simp; first | (refine hK _ ?_; clear hK K) | (apply Exists.intro; refine ⟨fun v1 hv1 => ?_, hK _ ?_⟩; (first | with_reducible exact rfl | with_reducible exact ⟨rfl, rfl⟩ | (obtain ⟨hc, hf⟩ := bcell hv1; go_simp; first | with_reducible exact rfl | with_reducible exact ⟨rfl, rfl⟩ | exact rfl | exact ⟨rfl, rfl⟩)); clear hK K))
        refine rest_nil ?_
        intro w9 hw9
        clear wk e1 e2 wm
        go_wp2_with fail
        go_ret
        exact ⟨ret_bool en.out.symm, HO.out.trans hw9⟩
    · obtain rfl : k + 1 = n := by omega
      have en := Lib.hid (show ascB zs = true from allN_all (by rw [← HN.out]; exact HA.out))
      clear ho
      go_wp2_with fail
      go_ret
      exact ⟨ret_bool en.out.symm, HO.out⟩
set_option maxHeartbeats 2000000 in
theorem impl_domain (v : Value) (z : List Int) (w : World) (hz : z.length ≤ 1048576) (h : Ints w v z) :
    Calls Try.prog 70 #[v] w fun e w' => e = .returned (.bool (domB z)) ∧ On w w' := by
  have h' := h
  obtain ⟨a, cap, rfl, -⟩ := h
  obtain ⟨n, hn⟩ : ∃ n, n = z.length := ⟨_, rfl⟩
  have HW := Lib.hid (fun w => Arith.within n 1 32 w)
  rw [← dom_eq]
  cases hin : inB n 1 32 with
  | false =>
    rw [hin] at HW
    have en := Lib.hid (show domI z = false by unfold domI; rw [← hn, hin]; rfl)
    rw [← hn] at hz ⊢
    clear hin hn h'
    go_enter Try.func70, Try.ntmps70
    go_wp2_with fail
    refine (HW.out _).mono ?_
    rintro e w1 ⟨rfl, rfl⟩
    go_wp2_with fail
    go_ret
    exact ⟨ret_bool en.out.symm, On.refl _⟩
  | true =>
    rw [hin] at HW
    obtain ⟨n0, n1⟩ := of_inB hin
    have h0 : 0 < z.length := by omega
    obtain ⟨b, off, rfl, hb, hcell⟩ := slice_of h' rfl h0
    have HE := Lib.hid (EvI.every_asg (fun x => inB x 0 999) b off cap z w hz hb hcell (fun k hk w1 h1 => impl_asg _ w1))
    have HA := Lib.hid (fun w1 (h1 : On w w1) => impl_ascend _ z w1 hz h0 (h'.below h1))
    have en0 := Lib.hid (show domI z = (z.all (fun x => inB x 0 999) && ascB z) by unfold domI; rw [← hn, hin]; rfl)
    cases hall : z.all (fun x => inB x 0 999) with
    | false =>
      rw [hall] at HE
      have en := Lib.hid (en0.out.trans (show (z.all (fun x => inB x 0 999) && ascB z) = false by rw [hall]; rfl))
      rw [← hn] at hz HE ⊢
      clear hin hn h' h0 hcell hall HA en0
      go_enter Try.func70, Try.ntmps70
      go_wp2_with fail
      refine (HW.out _).mono ?_
      rintro e w1 ⟨rfl, rfl⟩
      go_wp2_with fail
      refine HE.out.mono ?_
      rintro e w1 ⟨rfl, g1⟩
      go_wp2_with fail
      go_ret
      exact ⟨ret_bool en.out.symm, g1⟩
    | true =>
      rw [hall] at HE
      have en := Lib.hid (en0.out.trans (show (z.all (fun x => inB x 0 999) && ascB z) = ascB z by rw [hall]; rfl))
      rw [← hn] at hz HE HA ⊢
      clear hin hn h' h0 hcell hall en0
      go_enter Try.func70, Try.ntmps70
      go_wp2_with fail
      refine (HW.out _).mono ?_
      rintro e w1 ⟨rfl, rfl⟩
      go_wp2_with fail
      refine HE.out.mono ?_
      rintro e w1 ⟨rfl, g1⟩
      go_wp2_with fail
      refine (HA.out _ g1).mono ?_
      rintro e w2 ⟨rfl, g2⟩
      go_wp2_with fail
      go_ret
      exact ⟨ret_bool en.out.symm, g1.trans g2⟩
set_option maxHeartbeats 2000000 in
theorem impl_are (v : Value) (zs : List (List Int)) (w : World) (hn : zs.length ≤ 1048576) (hr : ∀ i, i < zs.length → (zs.getD i []).length ≤ 1048576) (h : Mats.Rows w v zs) :
    Calls Try.prog 38 #[v] w fun e w' => e = .returned (.bool (areB zs)) ∧ On w w' := by
  have h' := h
  obtain ⟨a, cap, rfl, -⟩ := h
  obtain ⟨n, hnn⟩ : ∃ n, n = zs.length := ⟨_, rfl⟩
  have HW := Lib.hid (fun w => Arith.within n 1 24 w)
  cases hin : inB n 1 24 with
  | false =>
    rw [hin] at HW
    have en := Lib.hid (show areB zs = false by unfold areB; rw [← hnn, hin]; rfl)
    rw [← hnn] at hn ⊢
    clear hin hnn h' hr
    go_enter Try.func38, Try.ntmps38
    go_wp2_with fail
    refine (HW.out _).mono ?_
    rintro e w1 ⟨rfl, rfl⟩
    go_wp2_with fail
    go_ret
    exact ⟨ret_bool en.out.symm, On.refl _⟩
  | true =>
    rw [hin] at HW
    obtain ⟨n0, n1⟩ := of_inB hin
    have h0 : 0 < zs.length := by omega
    have en := Lib.hid (show areB zs = zs.all domB by unfold areB; rw [← hnn, hin]; rfl)
    obtain ⟨b, off, rfl, hb, hcell⟩ := Mats.slice_of h' h0
    have HE := Lib.hid (EvI.every_dom domB b off cap zs w hn hb hcell (fun k u w1 hk h1 hz => impl_domain u _ w1 (hr k hk) hz))
    rw [← hnn] at hn HE ⊢
    clear hin hnn h' hr hcell h0
    go_enter Try.func38, Try.ntmps38
    go_wp2_with fail
    refine (HW.out _).mono ?_
    rintro e w1 ⟨rfl, rfl⟩
    go_wp2_with fail
    refine HE.out.mono ?_
    rintro e w1 ⟨rfl, g1⟩
    go_wp2_with fail
    go_ret
    exact ⟨ret_bool en.out.symm, g1⟩
set_option maxHeartbeats 2000000 in
/-- The look at one row of a square matrix: the matrix and what is asked of an element lie behind the captured variables. -/
theorem impl_row (g1 g2 : Nat) (u : Value) (z : List Int) (a : Option Addr) (n cap : Nat) (w : World) (hz : z.length ≤ 1048576) (hn : n ≤ 1048576) (hn0 : 0 < n) (h : Ints w u z)
    (_l1 : g1 < w.heap.size) (_l2 : g2 < w.heap.size) (k1 : w.cell? ⟨g1, 0, none⟩ = some (.slice a n cap)) (k2 : w.cell? ⟨g2, 0, none⟩ = some (.func (Fn.func 40) #[] #[])) :
    Calls Try.prog 71 #[u, .pointer (some ⟨g1, 0, none⟩), .pointer (some ⟨g2, 0, none⟩)] w fun e w' => e = .returned (.bool (rowB n z)) ∧ On w w' := by
  have h' := h
  obtain ⟨d, e, rfl, -⟩ := h
  obtain ⟨m, hm⟩ : ∃ m, m = z.length := ⟨_, rfl⟩
  by_cases he : m = n
  · have en := Lib.hid (show rowB n z = z.all (fun x => inB x 0 100) by unfold rowB; rw [← hm, decide_eq_true he]; rfl)
    subst he
    obtain ⟨b, off, rfl, hb, hcell⟩ := slice_of h' rfl (by omega)
    have HE := Lib.hid (EvI.every_apt (fun x => inB x 0 100) b off e z w hz hb hcell (fun k hk w1 h1 => impl_apt _ w1))
    rw [← hm] at hz HE ⊢
    clear h' hm hcell
    go_enter Try.func71, Try.ntmps71
    go_wp2_with fail
    refine HE.out.mono ?_
    rintro e w1 ⟨rfl, g1⟩
    go_wp2_with fail
    go_ret
    exact ⟨ret_bool en.out.symm, g1⟩
  · have en := Lib.hid (show rowB n z = false by unfold rowB; rw [← hm, decide_eq_false he]; rfl)
    have z1 : ((m : Int) == (n : Int)) = false := beq_eq_false_iff_ne.2 (by omega)
    have z3 : (m == n) = false := beq_eq_false_iff_ne.2 he
    rw [← hm] at hz ⊢
    clear h' hm
    go_enter Try.func71, Try.ntmps71
    go_wp2_with fail
    go_ret
    exact ⟨ret_bool en.out.symm, On.refl _⟩
set_option maxHeartbeats 4000000 in
theorem impl_square (v : Value) (zs : List (List Int)) (w : World) (hn : zs.length ≤ 1048576) (hr : ∀ i, i < zs.length → (zs.getD i []).length ≤ 1048576) (h : Mats.Rows w v zs) :
    Calls Try.prog 39 #[v, .int .i64 24, .func (Fn.func 40) #[] #[]] w fun e w' => e = .returned (.bool (squareB zs)) ∧ On w w' := by
  have h' := h
  obtain ⟨a, cap, rfl, -⟩ := h
  obtain ⟨n, hnn⟩ : ∃ n, n = zs.length := ⟨_, rfl⟩
  have HW := Lib.hid (fun w => Arith.within n 1 24 w)
  cases hin : inB n 1 24 with
  | false =>
    rw [hin] at HW
    have en := Lib.hid (show squareB zs = false by unfold squareB; rw [← hnn, hin]; rfl)
    rw [← hnn] at hn ⊢
    clear hin hnn h' hr
    go_enter Try.func39, Try.ntmps39
    go_wp2_with fail
    refine (HW.out _).mono ?_
    rintro e w1 ⟨rfl, rfl⟩
    go_wp2_with fail
    go_ret
    exact ⟨ret_bool en.out.symm, by repeat (first | with_reducible exact On.refl _ | with_reducible apply On.alloc)⟩
  | true =>
    rw [hin] at HW
    obtain ⟨n0, n1⟩ := of_inB hin
    have h0 : 0 < zs.length := by omega
    have en := Lib.hid (show zs.all (rowB n) = squareB zs by unfold squareB; rw [← hnn, hin]; rfl)
    obtain ⟨b, off, rfl, hb, hcell⟩ := Mats.slice_of h' h0
    have HO := Lib.hid (On.alloc (On.alloc (On.refl w) (.cells #[.slice (some ⟨b, off, none⟩) n cap] 22 (0, 0))) (.cells #[.func (Fn.func 40) #[] #[]] 56 (0, 0)))
    have HE := Lib.hid (EvI.every_sq w.heap.size (w.heap.size + 1) (rowB n) b off cap zs ((w.alloc (.cells #[.slice (some ⟨b, off, none⟩) n cap] 22 (0, 0))).alloc (.cells #[.func (Fn.func 40) #[] #[]] 56 (0, 0))) hn (HO.out.lts _ hb)
      (fun i hi => by obtain ⟨u, hu, hz⟩ := hcell i hi; exact ⟨u, (HO.out.cell (by exact hb)).trans hu, hz.below HO.out⟩)
      (fun k u w1 hk h1 hz => impl_row _ _ u (zs.getD k []) (some ⟨b, off, none⟩) n cap w1 (hr k hk) (by omega) (by omega) hz (h1.lts _ (by simp <;> omega)) (h1.lts _ (by simp <;> omega)) ((h1.cell (by simp <;> omega)).trans (by simp [go_sem])) ((h1.cell (by simp <;> omega)).trans (by simp [go_sem]))))
    rw [← hnn] at hn HE ⊢
    clear hin hnn h' hr hcell h0
    go_enter Try.func39, Try.ntmps39
    go_wp2_with fail
    refine (HW.out _).mono ?_
    rintro e w1 ⟨rfl, rfl⟩
    go_wp2_with fail
    refine HE.out.mono ?_
    rintro e w1 ⟨rfl, g1⟩
    go_wp2_with fail
    go_ret
    exact ⟨ret_bool en.out, HO.out.trans g1⟩
set_option maxHeartbeats 4000000 in
theorem impl_mutual (v : Value) (zs : List (List Int)) (w : World) (h1 : 0 < zs.length) (h2 : zs.length ≤ 24) (hsq : ∀ i, i < zs.length → (zs.getD i []).length = zs.length) (h : Mats.Rows w v zs) :
    Calls Try.prog 41 #[v] w fun e w' => e = .returned (.bool (mutB zs)) ∧ On w w' := by
  have h' := h
  obtain ⟨a, cap, rfl, -⟩ := h
  obtain ⟨n, hnn⟩ : ∃ n, n = zs.length := ⟨_, rfl⟩
  obtain ⟨b, off, rfl, hb, hcell⟩ := Mats.slice_of h' h1
  have HN := Lib.hid hnn
  have HX := Lib.hid (show ∀ i, i < n → ∃ b1 o1 c1, w.cell? ⟨b, off + i, none⟩ = some (.slice (some ⟨b1, o1, none⟩) n c1) ∧ b1 < w.heap.size ∧ ∀ k, k < n → w.cell? ⟨b1, o1 + k, none⟩ = some (.int .i64 (at2 zs i k)) from fun i hi => by
    obtain ⟨u, hu, hz⟩ := hcell i (by omega)
    obtain ⟨a1, c1, rfl, hc1⟩ := hz
    have hl := hsq i (by omega)
    rw [hl, ← hnn] at hc1 hu
    obtain ⟨b1, o1, rfl, hb1, hk⟩ := hc1 (by omega)
    exact ⟨b1, o1, c1, hu, hb1, hk⟩)
  rw [← hnn] at h1 h2 ⊢
  clear h' hnn hcell hsq
  go_enter Try.func41, Try.ntmps41
  go_wp2_with fail
  go_loopw [8] (fun i wr => ∃ k : Nat, k ≤ n ∧ i = .int .i64 k ∧ AllN (mutAt zs) k ∧ On w wr) (fun i _ => n - (intOf i).toNat)
  case atStart => exact ⟨0, Nat.zero_le _, rfl, allN_zero _, On.refl _⟩
  case round =>
    obtain ⟨k, hk, rfl, hall, ho⟩ := hrel
    have HL := Lib.hid hall
    have HO := Lib.hid ho
    clear hall
    by_cases hlt : k < n
    · have hlti : (k : Int) < (n : Int) := by omega
      obtain ⟨b1, o1, c1, hu, hb1, hk1⟩ := HX.out k hlt
      have HR := Lib.hid hk1
      obtain ⟨x, hx⟩ : ∃ x, x = at2 zs k k := ⟨_, rfl⟩
      have q1 : wr.cell? ⟨b, off + k, none⟩ = some (.slice (some ⟨b1, o1, none⟩) n c1) := (ho.cell (by exact hb)).trans hu
      have q2 : wr.cell? ⟨b1, o1 + k, none⟩ = some (.int .i64 x) := (ho.cell (by exact hb1)).trans (by rw [hx]; exact hk1 k hlt)
      have s1 := ho.lts _ hb
      have s2 := ho.lts _ hb1
      have HXX := Lib.hid hx
      clear hu hk1 hx
      by_cases hx0 : x = 0
      case neg =>
        have en := Lib.hid (show mutB zs = false from allN_bad (k := k) (by rw [← HN.out]; exact hlt) (by unfold mutAt; rw [decide_eq_false (by rw [← HXX.out]; exact hx0)]; rfl))
        have z1 : (x == 0) = false := beq_eq_false_iff_ne.2 hx0
        have z2 : (x != 0) = true := by rw [bne, z1]; rfl
        clear ho
        go_wp2_with fail
        go_ret
        exact ⟨ret_bool en.out.symm, HO.out⟩
      subst hx0
      clear ho
      go_wp2_with fail
      clear q1 q2
      go_loopw [19] (fun i wq => ∃ q : Nat, q ≤ k ∧ i = .int .i64 q ∧ AllN (pairB zs k) q ∧ On w wq) (fun i _ => k - (intOf i).toNat)
      case atStart => exact ⟨0, Nat.zero_le _, rfl, allN_zero _, HO.out⟩
      case round =>
        obtain ⟨q, hq, rfl, hall, ho⟩ := hrel
        have HQ := Lib.hid hall
        have HO2 := Lib.hid ho
        clear hall
        by_cases hlt3 : q < k
        · have hqi : (q : Int) < (k : Int) := by omega
          have hqn : (q : Int) < (n : Int) := by omega
          obtain ⟨b3, o3, c3, hu3, hb3, hk3⟩ := HX.out q (by omega)
          obtain ⟨y, hy⟩ : ∃ y, y = at2 zs k q := ⟨_, rfl⟩
          obtain ⟨y2, hy2⟩ : ∃ y, y = at2 zs q k := ⟨_, rfl⟩
          have p1 : wr.cell? ⟨b1, o1 + q, none⟩ = some (.int .i64 y) := (ho.cell (by exact hb1)).trans (by rw [hy]; exact HR.out q (by omega))
          have p2 : wr.cell? ⟨b, off + q, none⟩ = some (.slice (some ⟨b3, o3, none⟩) n c3) := (ho.cell (by exact hb)).trans hu3
          have p3 : wr.cell? ⟨b3, o3 + k, none⟩ = some (.int .i64 y2) := (ho.cell (by exact hb3)).trans (by rw [hy2]; exact hk3 k hlt)
          have s1 := ho.lts _ hb
          have s2 := ho.lts _ hb1
          have s3 := ho.lts _ hb3
          by_cases hyy : y = y2
          · have HS2 := Lib.hid (allN_succ HQ.out (show pairB zs k q = true from decide_eq_true (by rw [← hy, ← hy2]; exact hyy)))
            clear hy hy2 hu3 hk3 ho
            subst hyy
            go_wp2_with fail
            refine wp_region_onh (by kernel_rfl) (by kernel_rfl) ?_
            repeat (refine rest_step (fun K hK => ?_); go_simp; first | (refine hK _ ?_; clear hK K) | (apply Exists.intro; refine ⟨fun v1 hv1 => ?_, hK _ ?_⟩; (first | with_reducible exact rfl | with_reducible exact ⟨rfl, rfl⟩ | (obtain ⟨hc, hf⟩ := bcell hv1; go_simp; first | with_reducible exact rfl | with_reducible exact ⟨rfl, rfl⟩ | exact rfl | exact ⟨rfl, rfl⟩)); clear hK K))
            refine rest_nil ?_
            intro w9 hw9
            go_wp2_with fail
            go_roundw
            case rel => exact ⟨q + 1, by omega, by go_num, HS2.out, HO2.out.trans hw9⟩
            case measure => simp [intOf]; omega
          · have en := Lib.hid (show mutB zs = false from allN_bad (k := k) (by rw [← HN.out]; exact hlt) (by unfold mutAt; rw [allN_bad hlt3 (show pairB zs k q = false from decide_eq_false (by rw [← hy, ← hy2]; exact hyy)), Bool.and_false]))
            have z1 : (y == y2) = false := beq_eq_false_iff_ne.2 hyy
            have z2 : (y != y2) = true := by rw [bne, z1]; rfl
            clear hy hy2 hu3 hk3 ho hyy
            go_wp2_with fail
            refine wp_region_onh (by kernel_rfl) (by kernel_rfl) ?_
            repeat (refine rest_step (fun K hK => ?_); go_simp; first | (refine hK _ ?_; clear hK K) | (apply Exists.intro; refine ⟨fun v1 hv1 => ?_, hK _ ?_⟩; (first | with_reducible exact rfl | with_reducible exact ⟨rfl, rfl⟩ | (obtain ⟨hc, hf⟩ := bcell hv1; go_simp; first | with_reducible exact rfl | with_reducible exact ⟨rfl, rfl⟩ | exact rfl | exact ⟨rfl, rfl⟩)); clear hK K))
            refine rest_nil ?_
            intro w9 hw9
            go_wp2_with fail
            go_ret
            exact ⟨ret_bool en.out.symm, HO2.out.trans hw9⟩
        · obtain rfl : q = k := by omega
          have HE := Lib.hid (allN_succ HL.out (show mutAt zs q = true by unfold mutAt; rw [decide_eq_true HXX.out.symm, allN_all HQ.out]; rfl))
          clear ho
          go_wp2_with fail
          go_roundw
          case rel => exact ⟨q + 1, by omega, by go_num, HE.out, HO2.out⟩
          case measure => simp [intOf]; omega
    · obtain rfl : k = n := by omega
      have en := Lib.hid (show mutB zs = true from allN_all (by rw [← HN.out]; exact HL.out))
      clear ho
      go_wp2_with fail
      go_ret
      exact ⟨ret_bool en.out.symm, HO.out⟩
set_option maxHeartbeats 4000000 in
/-- The program's look at a problem. -/
theorem impl_ValidProblem (v : Value) (N : T) (w : World) (hs : N.Small 1048576) (h : Prb.Is w v N) :
    Calls Try.prog 13 #[v] w fun e w' => e = .returned (.bool (okB N)) ∧ On w w' := by
  obtain ⟨a0, a1, c0, c1, rfl, r0, r1⟩ := Is.shape h
  have HA := Lib.hid (fun w1 (h1 : On w w1) => impl_are _ N.f0 w1 hs.1.1 hs.1.2 (r0.below h1))
  have HQ := Lib.hid (fun w1 (h1 : On w w1) => impl_square _ N.f1 w1 hs.2.1 hs.2.2 (r1.below h1))
  have R1 := Lib.hid r1
  obtain ⟨n, hn⟩ : ∃ n, n = N.f0.length := ⟨_, rfl⟩
  obtain ⟨m, hm⟩ : ∃ m, m = N.f1.length := ⟨_, rfl⟩
  have HN := Lib.hid hn
  have HM := Lib.hid hm
  rw [← hn] at HA ⊢
  rw [← hm] at HQ ⊢
  clear hn hm h hs r0 r1
  cases ha : areB N.f0 with
  | false =>
    rw [ha] at HA
    have en := Lib.hid (okI_are ha)
    clear ha
    go_enter Try.func13, Try.ntmps13
    go_wp2_with fail
    refine (HA.out _ (by repeat (first | with_reducible exact On.refl _ | with_reducible apply On.alloc))).mono ?_
    rintro e w1 ⟨rfl, g1⟩
    obtain ⟨hcc, hff⟩ := bcell g1
    have HG := Lib.hid (show On w w1 by refine On.trans ?_ g1; repeat (first | with_reducible exact On.refl _ | with_reducible apply On.alloc))
    clear g1
    go_wp2_with fail
    go_ret
    exact ⟨ret_bool en.out.symm, HG.out⟩
  | true =>
    rw [ha] at HA
    have h24 : 1 ≤ n ∧ n ≤ 24 := by
      unfold areB at ha
      rw [Bool.and_eq_true] at ha
      have := of_inB ha.1
      rw [← HN.out] at this
      omega
    have HAA := Lib.hid ha
    clear ha
    by_cases hl : m = n
    case neg =>
      have en := Lib.hid (okI_len (N := N) (by rw [← HN.out, ← HM.out]; exact hl))
      have z1 : ((m : Int) == (n : Int)) = false := beq_eq_false_iff_ne.2 (by omega)
      have z2 : ((m : Int) != (n : Int)) = true := by rw [bne, z1]; rfl
      have z3 : (m == n) = false := beq_eq_false_iff_ne.2 hl
      go_enter Try.func13, Try.ntmps13
      go_wp2_with fail
      refine (HA.out _ (by repeat (first | with_reducible exact On.refl _ | with_reducible apply On.alloc))).mono ?_
      rintro e w1 ⟨rfl, g1⟩
      obtain ⟨hcc, hff⟩ := bcell g1
      have s1 : w.heap.size < w1.heap.size := by have := g1.size; simp at this; omega
      have HG := Lib.hid (show On w w1 by refine On.trans ?_ g1; repeat (first | with_reducible exact On.refl _ | with_reducible apply On.alloc))
      clear g1
      go_wp2_with fail
      go_ret
      exact ⟨ret_bool en.out.symm, HG.out⟩
    subst hl
    cases hq : squareB N.f1 with
    | false =>
      rw [hq] at HQ
      have en := Lib.hid (okI_sq hq)
      clear hq
      go_enter Try.func13, Try.ntmps13
      go_wp2_with fail
      refine (HA.out _ (by repeat (first | with_reducible exact On.refl _ | with_reducible apply On.alloc))).mono ?_
      rintro e w1 ⟨rfl, g1⟩
      obtain ⟨hcc, hff⟩ := bcell g1
      have s1 : w.heap.size < w1.heap.size := by have := g1.size; simp at this; omega
      have HG := Lib.hid (show On w w1 by refine On.trans ?_ g1; repeat (first | with_reducible exact On.refl _ | with_reducible apply On.alloc))
      clear g1
      go_wp2_with fail
      refine (HQ.out _ HG.out).mono ?_
      rintro e w2 ⟨rfl, g2⟩
      have HG2 := Lib.hid (HG.out.trans g2)
      clear g2
      go_wp2_with fail
      go_ret
      exact ⟨ret_bool en.out.symm, HG2.out⟩
    | true =>
      rw [hq] at HQ
      have en := Lib.hid (okI_mut HAA.out (by rw [← HN.out, ← HM.out]) hq)
      have HU := Lib.hid (fun w1 (h1 : On w w1) => impl_mutual _ N.f1 w1 (by rw [← HM.out]; omega) (by rw [← HM.out]; omega) (square_len hq) (R1.out.below h1))
      rw [← HM.out] at HU
      clear hq
      go_enter Try.func13, Try.ntmps13
      go_wp2_with fail
      refine (HA.out _ (by repeat (first | with_reducible exact On.refl _ | with_reducible apply On.alloc))).mono ?_
      rintro e w1 ⟨rfl, g1⟩
      obtain ⟨hcc, hff⟩ := bcell g1
      have s1 : w.heap.size < w1.heap.size := by have := g1.size; simp at this; omega
      have HG := Lib.hid (show On w w1 by refine On.trans ?_ g1; repeat (first | with_reducible exact On.refl _ | with_reducible apply On.alloc))
      clear g1
      go_wp2_with fail
      refine (HQ.out _ HG.out).mono ?_
      rintro e w2 ⟨rfl, g2⟩
      obtain ⟨hcc2, hff2⟩ := bcell g2
      have s2 : w.heap.size < w2.heap.size := by have := g2.size; omega
      have HG2 := Lib.hid (HG.out.trans g2)
      clear g2
      go_wp2_with fail
      refine (HU.out _ HG2.out).mono ?_
      rintro e w3 ⟨rfl, g3⟩
      have HG3 := Lib.hid (HG2.out.trans g3)
      clear g3
      go_wp2_with fail
      go_ret
      exact ⟨ret_bool en.out.symm, HG3.out⟩
set_option maxHeartbeats 2000000 in
theorem spec_ValidProblem (v : Value) (N : T) (w : World) (hs : N.Small 1048576) (h : Prb.Is w v N) :
    Calls Try.prog 11 #[v] w fun e w' => e = .returned (.bool (okB N)) ∧ On w w' := by
  obtain ⟨a0, a1, c0, c1, rfl, r0, r1⟩ := Is.shape h
  have HO := Lib.hid (On.alloc (On.refl w) (.cells #[.slice a0 N.f0.length c0, .slice a1 N.f1.length c1] 27 (0, 0)))
  have HS := Lib.hid (spec_ok w.heap.size N a0 a1 c0 c1 _ hs ⟨by simp, by simp [go_sem], by simp [go_sem], r0.below HO.out, r1.below HO.out⟩)
  clear r0 r1 hs h
  go_enter Try.func11, Try.ntmps11
  go_wp2_with fail
  refine HS.out.mono ?_
  rintro e w1 ⟨rfl, g1⟩
  go_wp2_with fail
  go_ret
  exact ⟨rfl, HO.out.trans g1⟩
end Go.Proofs.Ytofoffdmhekceaa.Con
