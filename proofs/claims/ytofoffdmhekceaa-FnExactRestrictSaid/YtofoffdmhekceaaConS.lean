
/-
  When a problem of assignment is valid, in the model. Condition: at most 1048576 lists of at most 1048576 numbers.
-/
import Derived.Test.YtofoffdmhekceaaCon0
import Derived.Test.YtofoffdmhekceaaArith
import Derived.Test.YtofoffdmhekceaaOnH
import Derived.Deep.QuietTactic
import Derived.BigQuiet
import Derived.IntWalk
namespace Go.Proofs.Ytofoffdmhekceaa.Con
open Go.RowKit
open Plain
open Ints (Ints)
open Prb (T)

theorem slice_of {w : World} {a : Option Addr} {n cap : Nat} {zs : List Int} (h : Ints w (.slice a n cap) zs) (hl : zs.length = n) (h0 : 0 < n) : ∃ b off, a = some ⟨b, off, none⟩ ∧ b < w.heap.size ∧ ∀ i, i < n → w.cell? ⟨b, off + i, none⟩ = some (.int .i64 (zs.getD i 0)) := by
  obtain ⟨a', cap', he, hc⟩ := h
  injection he with h1 h2 h3
  subst h1
  subst hl
  exact hc h0
set_option maxHeartbeats 4000000 in
theorem spec_rises (v : Value) (zs : List Int) (lo hi : Int) (w : World) (hz : zs.length ≤ 1048576) (h : Ints w v zs) :
    Calls Try.prog 81 #[v, .int .i64 lo, .int .i64 hi] w fun e w' => e = .returned (.bool (rise lo hi zs)) ∧ On w w' := by
  have h' := h
  obtain ⟨a, cap, rfl, -⟩ := h
  obtain ⟨n, hn⟩ : ∃ n, n = zs.length := ⟨_, rfl⟩
  have HN := Lib.hid hn
  have HC := Lib.hid (fun h0 => slice_of (n := n) (by rw [hn]; exact h') hn.symm h0)
  rw [← hn] at hz ⊢
  clear h' hn
  go_enter Try.func81, Try.ntmps81
  go_wp2_with fail
  go_loopw [7] (fun i wr => ∃ k : Nat, k ≤ n ∧ i = .int .i64 k ∧ AllN (riseAt lo hi zs) k ∧ On w wr) (fun i _ => n - (intOf i).toNat)
  case atStart => exact ⟨0, Nat.zero_le _, rfl, allN_zero _, On.refl _⟩
  case round =>
    obtain ⟨k, hk, rfl, hall, ho⟩ := hrel
    have HA := Lib.hid hall
    have HO := Lib.hid ho

    by_cases hlt : k < n
    · have hlti : (k : Int) < (n : Int) := by omega
      obtain ⟨b, off, rfl, hb, hcell⟩ := HC.out (by omega)
      obtain ⟨z, hz1⟩ : ∃ z, z = zs.getD k 0 := ⟨_, rfl⟩
      have c1 : wr.cell? ⟨b, off + k, none⟩ = some (.int .i64 z) := by rw [hz1, ho.cell (by exact hb)]; exact hcell k hlt
      have hb' := ho.lts _ hb
      cases hin : inB z lo hi with
      | false =>
        have HI := Lib.hid (show ∀ w1, Calls Try.prog 59 #[.int .i64 z, .int .i64 lo, .int .i64 hi] w1 (fun e w' => e = .returned (.bool false) ∧ w1 = w') from fun w1 => by have := Arith.l00In z lo hi w1; rw [hin] at this; exact this)
        have en := Lib.hid (show rise lo hi zs = false from allN_bad (k := k) (by rw [← HN.out]; exact hlt) (rise_in (by rw [← hz1]; exact hin)))
        clear hz1 hcell ho hin hall
        go_wp2_with fail
        refine wp_region_onh (by kernel_rfl) (by kernel_rfl) ?_
        repeat (refine rest_step (fun K hK => ?_); go_simp; first | (refine hK _ ?_; clear hK K) | (apply Exists.intro; refine ⟨fun v1 hv1 => ?_, hK _ ?_⟩; (first | with_reducible exact rfl | with_reducible exact ⟨rfl, rfl⟩ | with_reducible exact Calls.on_same hv1 (HI.out _) | (obtain ⟨hc, hf⟩ := bcell hv1; go_simp; first | with_reducible exact rfl | with_reducible exact ⟨rfl, rfl⟩ | exact rfl | exact ⟨rfl, rfl⟩)); clear hK K))
        refine rest_nil ?_
        intro w9 hw9
        go_wp2_with fail
        go_ret
        exact ⟨ret_bool en.out.symm, HO.out.trans hw9⟩
      | true =>
        have HI := Lib.hid (show ∀ w1, Calls Try.prog 59 #[.int .i64 z, .int .i64 lo, .int .i64 hi] w1 (fun e w' => e = .returned (.bool true) ∧ w1 = w') from fun w1 => by have := Arith.l00In z lo hi w1; rw [hin] at this; exact this)
        cases k with
        | zero =>
          have c0 : wr.cell? ⟨b, off, none⟩ = some (.int .i64 z) := c1
          have hn0 : (0 : Int) < (n : Int) := by omega
          have HS := Lib.hid (allN_succ HA.out (show riseAt lo hi zs 0 = true from rise_0 (by rw [← hz1]; exact hin)))
          clear hz1 hcell ho hin hall c1 hlti
          try simp only [Int.natCast_zero, Int.ofNat_zero, Int.Nat.cast_ofNat_Int, Nat.cast_zero] at *
          go_wp2_with fail
          refine wp_region_onh (by kernel_rfl) (by kernel_rfl) ?_
          repeat (refine rest_step (fun K hK => ?_); go_simp; first | (refine hK _ ?_; clear hK K) | (apply Exists.intro; refine ⟨fun v1 hv1 => ?_, hK _ ?_⟩; (first | with_reducible exact rfl | with_reducible exact ⟨rfl, rfl⟩ | with_reducible exact Calls.on_same hv1 (HI.out _) | (obtain ⟨hc, hf⟩ := bcell hv1; go_simp; first | with_reducible exact rfl | with_reducible exact ⟨rfl, rfl⟩ | exact rfl | exact ⟨rfl, rfl⟩)); clear hK K))
          refine rest_nil ?_
          intro w9 hw9
          go_wp2_with fail
          go_roundw
          case rel => exact ⟨1, by omega, by go_num, HS.out, HO.out.trans hw9⟩
          case measure => simp [intOf]; omega
        | succ m =>
          obtain ⟨y, hy⟩ : ∃ y, y = zs.getD m 0 := ⟨_, rfl⟩
          have c2 : wr.cell? ⟨b, off + m, none⟩ = some (.int .i64 y) := by rw [hy, ho.cell (by exact hb)]; exact hcell m (by omega)
          have k0' : (0 : Int) < ((m + 1 : Nat) : Int) := by omega
          have wm : IntKind.i64.wrap (m : Int) = (m : Int) := IntWalk.i64_in _ (by omega)
          have hm0 : (m : Int) < (n : Int) := by omega
          have hm1 : (m : Int) + 1 < (n : Int) := by omega
          have hm2 : m < n := by omega
          by_cases hr : y < z
          · have HS := Lib.hid (allN_succ HA.out (show riseAt lo hi zs (m + 1) = true from rise_yes (by rw [← hz1]; exact hin) (by rw [← hz1, ← hy]; omega)))
            clear hz1 hcell hy ho hin hall
            go_wp2_with fail
            refine wp_region_onh (by kernel_rfl) (by kernel_rfl) ?_
            repeat (refine rest_step (fun K hK => ?_); go_simp; first | (refine hK _ ?_; clear hK K) | (apply Exists.intro; refine ⟨fun v1 hv1 => ?_, hK _ ?_⟩; (first | with_reducible exact rfl | with_reducible exact ⟨rfl, rfl⟩ | with_reducible exact Calls.on_same hv1 (HI.out _) | (obtain ⟨hc, hf⟩ := bcell hv1; go_simp; first | with_reducible exact rfl | with_reducible exact ⟨rfl, rfl⟩ | exact rfl | exact ⟨rfl, rfl⟩)); clear hK K))
            refine rest_nil ?_
            intro w9 hw9
            go_wp2_with fail
            go_roundw
            case rel => exact ⟨m + 1 + 1, by omega, by go_num, HS.out, HO.out.trans hw9⟩
            case measure => simp [intOf]; omega
          · have en := Lib.hid (show rise lo hi zs = false from allN_bad (k := m + 1) (by rw [← HN.out]; exact hlt) (rise_no (by rw [← hz1, ← hy]; omega)))
            clear hz1 hcell hy ho hin hall
            go_wp2_with fail
            refine wp_region_onh (by kernel_rfl) (by kernel_rfl) ?_
            repeat (refine rest_step (fun K hK => ?_); go_simp; first | (refine hK _ ?_; clear hK K) | (apply Exists.intro; refine ⟨fun v1 hv1 => ?_, hK _ ?_⟩; (first | with_reducible exact rfl | with_reducible exact ⟨rfl, rfl⟩ | with_reducible exact Calls.on_same hv1 (HI.out _) | (obtain ⟨hc, hf⟩ := bcell hv1; go_simp; first | with_reducible exact rfl | with_reducible exact ⟨rfl, rfl⟩ | exact rfl | exact ⟨rfl, rfl⟩)); clear hK K))
            refine rest_nil ?_
            intro w9 hw9
            go_wp2_with fail
            go_ret
            exact ⟨ret_bool en.out.symm, HO.out.trans hw9⟩
    · obtain rfl : k = n := by omega
      have en := Lib.hid (show rise lo hi zs = true from allN_all (by rw [← HN.out]; exact HA.out))
      clear ho
      go_wp2_with fail
      go_ret
      exact ⟨ret_bool en.out.symm, HO.out⟩
theorem spec_domain (v : Value) (z : List Int) (w : World) (hz : z.length ≤ 1048576) (h : Ints w v z) :
    Calls Try.prog 67 #[v] w fun e w' => e = .returned (.bool (domB z)) ∧ On w w' := by
  have HR := Lib.hid (spec_rises v z 0 999 w hz h)
  obtain ⟨a, cap, rfl, -⟩ := h
  obtain ⟨n, hn⟩ : ∃ n, n = z.length := ⟨_, rfl⟩
  by_cases h1 : 1 ≤ n
  · by_cases h2 : n ≤ 32
    · have en := Lib.hid (dom_yes (z := z) (by rw [← hn]; exact inB_yes (by omega) (by omega)))
      rw [← hn] at HR hz ⊢
      clear hn
      have h1i : (0 : Int) < (n : Int) := by omega
      have h1n : 0 < n := by omega
      have h2i : (n : Int) ≤ 32 := by omega
      go_enter Try.func67, Try.ntmps67
      go_wp2_with fail
      refine HR.out.mono ?_
      rintro e w1 ⟨rfl, ho⟩
      go_wp2_with fail
      go_ret
      exact ⟨ret_bool en.out.symm, ho⟩
    · have en := Lib.hid (dom_no (z := z) (by rw [← hn]; exact inB_no (by omega)))
      rw [← hn] at hz ⊢
      clear hn HR
      have h1i : (0 : Int) < (n : Int) := by omega
      have h1n : 0 < n := by omega
      have h2i : ¬ (n : Int) ≤ 32 := by omega
      have h2d : decide ((n : Int) ≤ 32) = false := decide_eq_false h2i
      go_enter Try.func67, Try.ntmps67
      go_wp2_with fail
      go_ret
      exact ⟨ret_bool en.out.symm, On.refl _⟩
  · have en := Lib.hid (dom_no (z := z) (by rw [← hn]; exact inB_no (by omega)))
    rw [← hn] at hz ⊢
    obtain rfl : n = 0 := by omega
    clear hn HR
    go_enter Try.func67, Try.ntmps67
    go_wp2_with fail
    go_ret
    exact ⟨ret_bool en.out.symm, On.refl _⟩
set_option maxRecDepth 100000 in
set_option maxHeartbeats 8000000 in
theorem spec_ok (g : Nat) (N : T) (a0 a1 : Option Addr) (c0 c1 : Nat) (w : World) (hs : N.Small 1048576) (h : At w g N a0 a1 c0 c1) :
    Calls Try.prog 36 #[.pointer (some ⟨g, 0, none⟩)] w fun e w' => e = .returned (.bool (okB N)) ∧ On w w' := by
  have hlt := h.lt
  have k0 := h.k0
  have k1 := h.k1
  obtain ⟨n, hn⟩ : ∃ n, n = N.f0.length := ⟨_, rfl⟩
  obtain ⟨m, hm⟩ : ∃ m, m = N.f1.length := ⟨_, rfl⟩
  have HA := Lib.hid h
  have HN := Lib.hid hn
  have HM := Lib.hid hm
  have HS := Lib.hid hs
  have hn2 : n ≤ 1048576 := by rw [hn]; exact hs.1.1
  have hm2 : m ≤ 1048576 := by rw [hm]; exact hs.2.1
  rw [← hn] at k0
  rw [← hm] at k1
  clear h hs hn hm
  by_cases h1 : 1 ≤ n
  case neg =>
    have en := Lib.hid (ok_n (N := N) (inB_no (by rw [← HN.out]; omega)))
    obtain rfl : n = 0 := by omega
    go_enter Try.func36, Try.ntmps36
    go_wp2_with fail
    go_ret
    exact ⟨ret_bool en.out.symm, On.refl _⟩
  by_cases h2 : n ≤ 24
  case neg =>
    have en := Lib.hid (ok_n (N := N) (inB_no (by rw [← HN.out]; omega)))
    have h1i : ¬ (n : Int) < 1 := by omega
    have h2i : (24 : Int) < (n : Int) := by omega
    go_enter Try.func36, Try.ntmps36
    go_wp2_with fail
    go_ret
    exact ⟨ret_bool en.out.symm, On.refl _⟩
  have h1i : ¬ (n : Int) < 1 := by omega
  have h2i : ¬ (24 : Int) < (n : Int) := by omega
  by_cases h3 : m = n
  case neg =>
    have en := Lib.hid (ok_len (N := N) (by rw [← HN.out, ← HM.out]; exact h3))
    have b1 : ((m : Int) == (n : Int)) = false := beq_eq_false_iff_ne.2 (by omega)
    have b2 : ((m : Int) != (n : Int)) = true := by rw [bne, b1]; rfl
    have b3 : (m == n) = false := beq_eq_false_iff_ne.2 h3
    go_enter Try.func36, Try.ntmps36
    go_wp2_with fail
    go_ret
    exact ⟨ret_bool en.out.symm, On.refl _⟩
  subst h3
  obtain ⟨b0, o0, rfl, hb0, hr0⟩ := Mats.slice_of HA.out.r0 (by rw [← HN.out]; omega)
  obtain ⟨b1, o1, rfl, hb1, hr1⟩ := Mats.slice_of HA.out.r1 (by rw [← HM.out]; omega)
  have R0 := Lib.hid hr0
  have R1 := Lib.hid hr1
  clear hr0 hr1
  go_enter Try.func36, Try.ntmps36
  go_wp2_with fail
  go_loopw [4] (fun i wr => ∃ k : Nat, k ≤ m ∧ i = .int .i64 k ∧ AllN (lineB N) k ∧ On w wr) (fun i _ => m - (intOf i).toNat)
  case atStart => exact ⟨0, Nat.zero_le _, rfl, allN_zero _, On.refl _⟩
  case round =>
    obtain ⟨k, hk, rfl, hall, ho⟩ := hrel
    have HL := Lib.hid hall
    have HO := Lib.hid ho
    clear hall
    by_cases hlt2 : k < m
    · have hlti : (k : Int) < (m : Int) := by omega
      have q0 : wr.cell? ⟨g, 0, none⟩ = some (.slice (some ⟨b0, o0, none⟩) m c0) := (ho.cell (by exact hlt)).trans k0
      have q1 : wr.cell? ⟨g, 1, none⟩ = some (.slice (some ⟨b1, o1, none⟩) m c1) := (ho.cell (by exact hlt)).trans k1
      have s0 := ho.lts _ hlt
      have s1 := ho.lts _ hb0
      have s2 := ho.lts _ hb1
      obtain ⟨u0, hu0, hz0⟩ := R0.out k (by rw [← HN.out]; exact hlt2)
      obtain ⟨u1, hu1, hz1⟩ := R1.out k (by rw [← HM.out]; exact hlt2)
      have HD := Lib.hid (spec_domain u0 (N.f0.getD k []) wr (HS.out.1.2 k (by rw [← HN.out]; exact hlt2)) (hz0.below ho))
      have q2 : wr.cell? ⟨b0, o0 + k, none⟩ = some u0 := (ho.cell (by exact hb0)).trans hu0
      have q3 : wr.cell? ⟨b1, o1 + k, none⟩ = some u1 := (ho.cell (by exact hb1)).trans hu1
      have HQ3 := Lib.hid hu1
      obtain ⟨d0, e0, hv0, -⟩ := hz0
      obtain ⟨l0, hl0⟩ : ∃ l, l = (N.f0.getD k []).length := ⟨_, rfl⟩
      rw [← hl0] at hv0
      obtain ⟨d1, e1, hv1, hc1⟩ := hz1
      obtain ⟨l1, hl1⟩ : ∃ l, l = (N.f1.getD k []).length := ⟨_, rfl⟩
      have HC1 := Lib.hid hc1
      rw [← hl1] at hv1
      have HL1 := Lib.hid hl1
      subst hv0 hv1
      clear hc1 hl1 hl0 hu0 hu1
      cases hd : domB (N.f0.getD k []) with
      | false =>
        rw [hd] at HD
        have en := Lib.hid (ok_line (by rw [← HN.out]; exact hlt2) (line_dom hd))
        clear hd ho
        go_wp2_with fail
        refine HD.out.mono ?_
        rintro e w1 ⟨rfl, g1⟩
        obtain ⟨hcc, hff⟩ := bcell g1
        have HG := Lib.hid g1
        clear g1
        go_wp2_with fail
        go_ret
        exact ⟨ret_bool en.out.symm, HO.out.trans HG.out⟩
      | true =>
        rw [hd] at HD
        have HDD := Lib.hid hd
        clear hd
        by_cases hl : l1 = m
        case neg =>
          have en := Lib.hid (ok_line (by rw [← HN.out]; exact hlt2) (line_len (N := N) (i := k) (by rw [← HN.out, ← HL1.out]; exact hl)))
          have z1 : ((l1 : Int) == (m : Int)) = false := beq_eq_false_iff_ne.2 (by omega)
          have z2 : ((l1 : Int) != (m : Int)) = true := by rw [bne, z1]; rfl
          have z3 : (l1 == m) = false := beq_eq_false_iff_ne.2 hl
          clear ho
          go_wp2_with fail
          refine HD.out.mono ?_
          rintro e w1 ⟨rfl, g1⟩
          obtain ⟨hcc, hff⟩ := bcell g1
          have HG := Lib.hid g1
          clear g1
          go_wp2_with fail
          go_ret
          exact ⟨ret_bool en.out.symm, HO.out.trans HG.out⟩
        subst hl
        obtain ⟨b2, o2, rfl, hb2, hcell2⟩ := HC1.out (by rw [← HL1.out]; omega)
        have HX := Lib.hid (show ∀ i, i < l1 → w.cell? ⟨b2, o2 + i, none⟩ = some (.int .i64 (at2 N.f1 k i)) from fun i hi => hcell2 i (by rw [← HL1.out]; exact hi))
        clear hcell2 HC1
        obtain ⟨x, hx⟩ : ∃ x, x = at2 N.f1 k k := ⟨_, rfl⟩
        have s3 := ho.lts _ hb2
        have q4 : wr.cell? ⟨b2, o2 + k, none⟩ = some (.int .i64 x) := (ho.cell (by exact hb2)).trans (by rw [hx]; exact HX.out k hlt2)
        have HXX := Lib.hid hx
        clear hx
        by_cases hx0 : x = 0
        case neg =>
          have en := Lib.hid (ok_line (by rw [← HN.out]; exact hlt2) (line_diag (N := N) (i := k) (by rw [← HXX.out]; exact hx0)))
          have z1 : (x == 0) = false := beq_eq_false_iff_ne.2 hx0
          have z2 : (x != 0) = true := by rw [bne, z1]; rfl
          clear ho
          go_wp2_with fail
          refine HD.out.mono ?_
          rintro e w1 ⟨rfl, g1⟩
          obtain ⟨hcc, hff⟩ := bcell g1
          have HG := Lib.hid g1
          clear g1
          go_wp2_with fail
          go_ret
          exact ⟨ret_bool en.out.symm, HO.out.trans HG.out⟩
        subst hx0
        clear ho
        go_wp2_with fail
        refine HD.out.mono ?_
        rintro e w1 ⟨rfl, g1⟩
        obtain ⟨hcc, hff⟩ := bcell g1
        have HG := Lib.hid (HO.out.trans g1)
        clear g1
        go_wp2_with fail
        clear q0 q1 q2 q3 q4 hcc hff
        go_loopw [5] (fun i wq => ∃ q : Nat, q ≤ l1 ∧ i = .int .i64 q ∧ AllN (cellB N.f1 k) q ∧ On w wq) (fun i _ => l1 - (intOf i).toNat)
        case atStart => exact ⟨0, Nat.zero_le _, rfl, allN_zero _, HG.out⟩
        case round =>
          obtain ⟨q, hq, rfl, hall, ho⟩ := hrel
          have HQ := Lib.hid hall
          have HO2 := Lib.hid ho
          clear hall
          by_cases hlt3 : q < l1
          · have hqi : (q : Int) < (l1 : Int) := by omega
            have q0 : wr.cell? ⟨g, 0, none⟩ = some (.slice (some ⟨b0, o0, none⟩) l1 c0) := (ho.cell (by exact hlt)).trans k0
            have q1 : wr.cell? ⟨g, 1, none⟩ = some (.slice (some ⟨b1, o1, none⟩) l1 c1) := (ho.cell (by exact hlt)).trans k1
            obtain ⟨y, hy⟩ : ∃ y, y = at2 N.f1 k q := ⟨_, rfl⟩
            have q4 : wr.cell? ⟨b2, o2 + q, none⟩ = some (.int .i64 y) := (ho.cell (by exact hb2)).trans (by rw [hy]; exact HX.out q hlt3)
            have s0 := ho.lts _ hlt
            have s1 := ho.lts _ hb1
            have s2 := ho.lts _ hb2
            have p1 : wr.cell? ⟨b1, o1 + k, none⟩ = some (.slice (some ⟨b2, o2, none⟩) l1 e1) := (ho.cell (by exact hb1)).trans HQ3.out
            have HY := Lib.hid hy
            cases hin : inB y 0 100 with
            | false =>
              have HI := Lib.hid (show ∀ w1, Calls Try.prog 59 #[.int .i64 y, .int .i64 0, .int .i64 100] w1 (fun e w' => e = .returned (.bool false) ∧ w1 = w') from fun w1 => by have := Arith.l00In y 0 100 w1; rw [hin] at this; exact this)
              have en := Lib.hid (ok_line (by rw [← HN.out]; exact hlt2) (line_cell (N := N) (i := k) (k := q) (by rw [← HN.out]; exact hlt3) (cell_in (by rw [← HY.out]; exact hin))))
              clear hin hy ho
              go_wp2_with fail
              refine wp_region_onh (by kernel_rfl) (by kernel_rfl) ?_
              repeat (refine rest_step (fun K hK => ?_); go_simp; first | (refine hK _ ?_; clear hK K) | (apply Exists.intro; refine ⟨fun v1 hv1 => ?_, hK _ ?_⟩; (first | with_reducible exact rfl | with_reducible exact ⟨rfl, rfl⟩ | with_reducible exact Calls.on_same hv1 (HI.out _) | (obtain ⟨hc, hf⟩ := bcell hv1; go_simp; first | with_reducible exact rfl | with_reducible exact ⟨rfl, rfl⟩ | exact rfl | exact ⟨rfl, rfl⟩)); clear hK K))
              refine rest_nil ?_
              intro w9 hw9
              go_wp2_with fail
              go_ret
              exact ⟨ret_bool en.out.symm, HO2.out.trans hw9⟩
            | true =>
              have HI := Lib.hid (show ∀ w1, Calls Try.prog 59 #[.int .i64 y, .int .i64 0, .int .i64 100] w1 (fun e w' => e = .returned (.bool true) ∧ w1 = w') from fun w1 => by have := Arith.l00In y 0 100 w1; rw [hin] at this; exact this)
              have HIN := Lib.hid hin
              clear hin hy
              by_cases hqk : q < k
              · have hqki : (q : Int) < (k : Int) := by omega
                obtain ⟨u3, hu3, hz3⟩ := R1.out q (by rw [← HM.out]; omega)
                obtain ⟨d3, e3, hv3, hc3⟩ := hz3
                have hl3 := (of_line (HL.out q hqk)).2.1
                rw [hl3, ← HN.out] at hv3 hc3
                subst hv3
                obtain ⟨b3, o3, rfl, hb3, hcell3⟩ := hc3 (by omega)
                obtain ⟨y2, hy2⟩ : ∃ y, y = at2 N.f1 q k := ⟨_, rfl⟩
                have p2 : wr.cell? ⟨b1, o1 + q, none⟩ = some (.slice (some ⟨b3, o3, none⟩) l1 e3) := (ho.cell (by exact hb1)).trans hu3
                have p3 : wr.cell? ⟨b3, o3 + k, none⟩ = some (.int .i64 y2) := (ho.cell (by exact hb3)).trans (by rw [hy2]; exact hcell3 k (by omega))
                have s3 := ho.lts _ hb3
                clear hcell3 hu3 hl3
                by_cases hyy : y2 = y
                · have HS2 := Lib.hid (allN_succ HQ.out (cell_eq (m := N.f1) (i := k) (k := q) (by rw [← HY.out]; exact HIN.out) (by rw [← hy2, hyy]; exact HY.out)))
                  clear hy2 ho
                  subst hyy
                  go_wp2_with fail
                  refine wp_region_onh (by kernel_rfl) (by kernel_rfl) ?_
                  repeat (refine rest_step (fun K hK => ?_); go_simp; first | (refine hK _ ?_; clear hK K) | (apply Exists.intro; refine ⟨fun v1 hv1 => ?_, hK _ ?_⟩; (first | with_reducible exact rfl | with_reducible exact ⟨rfl, rfl⟩ | with_reducible exact Calls.on_same hv1 (HI.out _) | (obtain ⟨hc, hf⟩ := bcell hv1; go_simp; first | with_reducible exact rfl | with_reducible exact ⟨rfl, rfl⟩ | exact rfl | exact ⟨rfl, rfl⟩)); clear hK K))
                  refine rest_nil ?_
                  intro w9 hw9
                  go_wp2_with fail
                  go_roundw
                  case rel => exact ⟨q + 1, by omega, by go_num, HS2.out, HO2.out.trans hw9⟩
                  case measure => simp [intOf]; omega
                · have en := Lib.hid (ok_line (by rw [← HN.out]; exact hlt2) (line_cell (N := N) (i := k) (k := q) (by rw [← HN.out]; exact hlt3) (cell_ne hqk (by rw [← hy2, ← HY.out]; exact hyy))))
                  have z1 : (y == y2) = false := beq_eq_false_iff_ne.2 (fun h => hyy h.symm)
                  have z2 : (y != y2) = true := by rw [bne, z1]; rfl
                  have z3 : (y2 == y) = false := beq_eq_false_iff_ne.2 hyy
                  have z4 : (y2 != y) = true := by rw [bne, z3]; rfl
                  clear hy2 ho hyy
                  go_wp2_with fail
                  refine wp_region_onh (by kernel_rfl) (by kernel_rfl) ?_
                  repeat (refine rest_step (fun K hK => ?_); go_simp; first | (refine hK _ ?_; clear hK K) | (apply Exists.intro; refine ⟨fun v1 hv1 => ?_, hK _ ?_⟩; (first | with_reducible exact rfl | with_reducible exact ⟨rfl, rfl⟩ | with_reducible exact Calls.on_same hv1 (HI.out _) | (obtain ⟨hc, hf⟩ := bcell hv1; go_simp; first | with_reducible exact rfl | with_reducible exact ⟨rfl, rfl⟩ | exact rfl | exact ⟨rfl, rfl⟩)); clear hK K))
                  refine rest_nil ?_
                  intro w9 hw9
                  go_wp2_with fail
                  go_ret
                  exact ⟨ret_bool en.out.symm, HO2.out.trans hw9⟩
              · have hqki : ¬ (q : Int) < (k : Int) := by omega
                have hqkd : decide ((q : Int) < (k : Int)) = false := decide_eq_false hqki
                have hqkn : decide (q < k) = false := decide_eq_false hqk
                have HS2 := Lib.hid (allN_succ HQ.out (cell_up (m := N.f1) (i := k) (k := q) (by rw [← HY.out]; exact HIN.out) hqk))
                clear ho
                go_wp2_with fail
                refine wp_region_onh (by kernel_rfl) (by kernel_rfl) ?_
                repeat (refine rest_step (fun K hK => ?_); go_simp; first | (refine hK _ ?_; clear hK K) | (apply Exists.intro; refine ⟨fun v1 hv1 => ?_, hK _ ?_⟩; (first | with_reducible exact rfl | with_reducible exact ⟨rfl, rfl⟩ | with_reducible exact Calls.on_same hv1 (HI.out _) | (obtain ⟨hc, hf⟩ := bcell hv1; go_simp; first | with_reducible exact rfl | with_reducible exact ⟨rfl, rfl⟩ | exact rfl | exact ⟨rfl, rfl⟩)); clear hK K))
                refine rest_nil ?_
                intro w9 hw9
                go_wp2_with fail
                go_roundw
                case rel => exact ⟨q + 1, by omega, by go_num, HS2.out, HO2.out.trans hw9⟩
                case measure => simp [intOf]; omega
          · obtain rfl : q = l1 := by omega
            have HE := Lib.hid (allN_succ HL.out (line_yes HDD.out (by rw [← HN.out, ← HL1.out]) HXX.out.symm (by rw [← HN.out]; exact HQ.out)))
            clear ho
            go_wp2_with fail
            go_roundw
            case rel => exact ⟨k + 1, by omega, by go_num, HE.out, HO2.out⟩
            case measure => simp [intOf]; omega
    · obtain rfl : k = m := by omega
      have en := Lib.hid (ok_yes (N := N) (by rw [← HN.out]; exact inB_yes (by omega) (by omega)) (by rw [← HN.out, ← HM.out]) (by rw [← HN.out]; exact HL.out))
      clear ho
      go_wp2_with fail
      go_ret
      exact ⟨ret_bool en.out.symm, HO.out⟩
end Go.Proofs.Ytofoffdmhekceaa.Con
