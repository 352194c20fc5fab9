
/-
  When an antenna is valid, in the model and in the program. Condition: at most 1048576 losses in each list and bytes in the name.
-/
import Derived.Test.YtnambnddoebeiaaAntPlain
import Derived.Test.YtnambnddoebeiaaAnt0
import Derived.Test.YtnambnddoebeiaaArith
import Derived.Test.YtnambnddoebeiaaText1
import Derived.Test.YtnambnddoebeiaaEq2
import Derived.Test.YtnambnddoebeiaaOnH
namespace Go.Proofs.Ytnambnddoebeiaa.Ant
open Go.RowKit
open Plain
open Ints (Ints Own)

theorem slice_of {w : World} {a : Option Addr} {cap : Nat} {zs : List Int} (h : Ints w (.slice a zs.length cap) zs) (h0 : 0 < zs.length) : ∃ b off, a = some ⟨b, off, none⟩ ∧ b < w.heap.size ∧ ∀ i, i < zs.length → w.cell? ⟨b, off + i, none⟩ = some (.int .i64 (zs.getD i 0)) := by
  obtain ⟨a', cap', he, hc⟩ := h
  injection he with h1 h2 h3
  subst h1
  exact hc h0
set_option maxHeartbeats 1000000 in
theorem spec_losses (v : Value) (zs : List Int) (n m : Nat) (w : World) (_hz : zs.length ≤ 1048576) (hm : m < n) (hn : n ≤ 1000) (h : Ints w v zs) :
    Calls Try.prog 62 #[v, .int .i64 n, .int .i64 m] w fun e w' => e = .returned (.bool (lossB zs n m)) ∧ w = w' := by
  have h' := h
  obtain ⟨a, cap, rfl, -⟩ := h
  by_cases hl : zs.length = n
  · obtain ⟨b, off, rfl, hb, hcell⟩ := slice_of h' (by omega)
    obtain ⟨y, hy⟩ : ∃ y, y = zs.getD m 0 := ⟨_, rfl⟩
    have c0 : w.cell? ⟨b, off + m, none⟩ = some (.int .i64 y) := by rw [hy]; exact hcell m (by omega)
    have HC := Lib.hid hcell
    have HL := Lib.hid hl
    have HY := Lib.hid hy
    rw [hl]
    clear h' hcell _hz
    have b1 : ((n : Int) != (n : Int)) = false := by simp
    have hmi : (m : Int) < (n : Int) := by omega
    by_cases h0 : y = 0
    · have HM := Lib.hid (hy.symm.trans h0)
      clear hy hl
      subst h0
      go_enter Try.func62, Try.ntmps62
      go_wp2_with fail
      go_loop [7] (fun i => ∃ k : Nat, k ≤ n ∧ i = .int .i64 k ∧ AllTo lsB zs k) (fun i => n - (intOf i).toNat)
      case atStart => exact ⟨0, Nat.zero_le _, rfl, allTo_zero _ _⟩
      case round =>
        obtain ⟨k, hk, rfl, hall⟩ := hrel
        have HA := Lib.hid hall
        clear hall
        by_cases hlt : k < n
        · have hlti : (k : Int) < (n : Int) := by omega
          obtain ⟨z, hz⟩ : ∃ z, z = zs.getD k 0 := ⟨_, rfl⟩
          have c1 : w.cell? ⟨b, off + k, none⟩ = some (.int .i64 z) := by rw [hz]; exact HC.out k (by have := HL.out; omega)
          cases hin : inB z 0 60000 with
          | true =>
            have HS := Lib.hid (allTo_succ (p := lsB) HA.out (by rw [← hz]; exact hin))
            clear hz
            go_wp2_with (go_at_call 28; refine (Arith.l00In _ _ _ _).mono ?_; rintro e w' ⟨rfl, rfl⟩)
            go_round
            case rel => exact ⟨k + 1, by omega, by go_num, HS.out⟩
            case measure => simp [intOf]; omega
          | false =>
            have en := Lib.hid (loss_all (n := n) (m := m) (all_bad (p := lsB) (zs := zs) (k := k) (by have := HL.out; omega) (by rw [← hz]; exact hin)))
            clear hz
            go_wp2_with (go_at_call 28; refine (Arith.l00In _ _ _ _).mono ?_; rintro e w' ⟨rfl, rfl⟩)
            go_ret
            exact ⟨ret_bool en.out.symm, rfl⟩
        · obtain rfl : k = n := by omega
          have en := Lib.hid (loss_yes HL.out HM.out (all_all (p := lsB) (by rw [HL.out]; exact HA.out)))
          go_wp2
          go_ret
          exact ⟨ret_bool en.out.symm, rfl⟩
    · have en := Lib.hid (loss_main (zs := zs) (n := n) (m := m) (by rw [← hy]; exact h0))
      have b2 : (y == 0) = false := beq_eq_false_iff_ne.2 h0
      have b3 : (y != 0) = true := by rw [bne, b2]; rfl
      clear hy hl h0
      go_enter Try.func62, Try.ntmps62
      go_wp2_with fail
      go_ret
      exact ⟨ret_bool en.out.symm, rfl⟩
  · have en := Lib.hid (loss_len (m := m) hl)
    have b1 : ((zs.length : Int) == (n : Int)) = false := beq_eq_false_iff_ne.2 (by omega)
    have b2 : ((zs.length : Int) != (n : Int)) = true := by rw [bne, b1]; rfl
    clear h' hl
    go_enter Try.func62, Try.ntmps62
    go_wp2_with fail
    go_ret
    exact ⟨ret_bool en.out.symm, rfl⟩
theorem spec_gain (g : Int) (w : World) :
    Calls Try.prog 50 #[.int .i64 g] w fun e w' => e = .returned (.bool (inB g (-60000) 60000)) ∧ w = w' := by
  go_enter Try.func50, Try.ntmps50
  go_wp2_with (go_at_call 28; refine (Arith.l00In _ _ _ _).mono ?_; rintro e w' ⟨rfl, rfl⟩)
  go_ret
  exact ⟨rfl, rfl⟩
theorem impl_isGain (g : Int) (w : World) :
    Calls Try.prog 52 #[.int .i64 g] w fun e w' => e = .returned (.bool (inB g (-60000) 60000)) ∧ w = w' := by
  go_enter Try.func52, Try.ntmps52
  go_wp2_with (go_at_call 53; refine (Arith.within _ _ _ _).mono ?_; rintro e w' ⟨rfl, rfl⟩)
  go_ret
  exact ⟨rfl, rfl⟩
set_option maxHeartbeats 2000000 in
theorem spec_ok (b : Nat) (x0 : ByteArray) (x1 : Int) (v2 v3 : Value) (z2 z3 : List Int) (w : World) (q0 : x0.size ≤ 1048576) (q2 : z2.length ≤ 1048576) (q3 : z3.length ≤ 1048576) (hp : In w b x0 x1 v2 v3) (h2 : Ints w v2 z2) (h3 : Ints w v3 z3) :
    Calls Try.prog 41 #[.pointer (some ⟨b, 0, none⟩)] w fun e w' => e = .returned (.bool (okA x0 x1 z2 z3)) ∧ w = w' := by
  obtain ⟨k0, k1, k2, k3⟩ := hp
  have HN := Lib.hid (fun w => Text1.spec_l01Name x0 w q0)
  have HG := Lib.hid (fun w => spec_gain x1 w)
  have hh := spec_losses v2 z2 36 0 w q2 (by omega) (by omega) h2
  have hv := spec_losses v3 z3 19 9 w q3 (by omega) (by omega) h3
  rw [show (((36 : Nat) : Int)) = 36 from rfl, show (((0 : Nat) : Int)) = 0 from rfl] at hh
  rw [show (((19 : Nat) : Int)) = 19 from rfl, show (((9 : Nat) : Int)) = 9 from rfl] at hv
  have HH := Lib.hid hh
  have HV := Lib.hid hv
  clear hh hv
  have en := Lib.hid (show okA x0 x1 z2 z3 = (nameB x0.data.toList && (inB x1 (-60000) 60000 && (lossB z2 36 0 && lossB z3 19 9))) from rfl)
  obtain ⟨a2, cap2, rfl, -⟩ := h2
  obtain ⟨a3, cap3, rfl, -⟩ := h3
  generalize nameB x0.data.toList = t1 at *
  generalize inB x1 (-60000) 60000 = t2 at *
  generalize lossB z2 36 0 = t3 at *
  generalize lossB z3 19 9 = t4 at *
  clear q0 q2 q3
  cases t1 <;> cases t2 <;> cases t3 <;> (
    go_enter Try.func41, Try.ntmps41
    go_wp2_with (first
      | (go_at_call 42; refine (HN.out _).mono ?_; rintro e w' ⟨rfl, rfl⟩)
      | (go_at_call 50; refine (HG.out _).mono ?_; rintro e w' ⟨rfl, rfl⟩)
      | (go_at_call 62; with_reducible refine HH.out.mono ?_; rintro e w' ⟨rfl, rfl⟩)
      | (go_at_call 62; with_reducible refine HV.out.mono ?_; rintro e w' ⟨rfl, rfl⟩))
    go_ret
    exact ⟨ret_bool (by rw [en.out]; simp), rfl⟩)
set_option maxHeartbeats 1000000 in
theorem impl_losses (v : Value) (zs : List Int) (w : World) (hz : zs.length ≤ 1048576) (h : Ints w v zs) :
    Calls Try.prog 67 #[v] w fun e w' => e = .returned (.bool (zs.all lsB)) ∧ w = w' := by
  have h' := h
  obtain ⟨a, cap, rfl, -⟩ := h
  by_cases h0 : 0 < zs.length
  · obtain ⟨b, off, rfl, hb, hcell⟩ := slice_of h' h0
    have HC := Lib.hid hcell
    obtain ⟨n, hn⟩ : ∃ n, n = zs.length := ⟨_, rfl⟩
    have HL := Lib.hid hn
    rw [← hn] at hz h0 ⊢
    clear h' hcell hn
    go_enter Try.func67, Try.ntmps67
    go_wp2_with fail
    go_loop [7] (fun i => ∃ k : Nat, k ≤ n ∧ i = .int .i64 k ∧ AllTo lsB zs k) (fun i => n - (intOf i).toNat)
    case atStart => exact ⟨0, Nat.zero_le _, rfl, allTo_zero _ _⟩
    case round =>
      obtain ⟨k, hk, rfl, hall⟩ := hrel
      have HA := Lib.hid hall
      clear hall
      by_cases hlt : k < n
      · have hlti : (k : Int) < (n : Int) := by omega
        obtain ⟨z, hz⟩ : ∃ z, z = zs.getD k 0 := ⟨_, rfl⟩
        have c1 : w.cell? ⟨b, off + k, none⟩ = some (.int .i64 z) := by rw [hz]; exact HC.out k (by have := HL.out; omega)
        cases hin : inB z 0 60000 with
        | true =>
          have HS := Lib.hid (allTo_succ (p := lsB) HA.out (by rw [← hz]; exact hin))
          clear hz
          go_wp2_with (go_at_call 53; refine (Arith.within _ _ _ _).mono ?_; rintro e w' ⟨rfl, rfl⟩)
          go_round
          case rel => exact ⟨k + 1, by omega, by go_num, HS.out⟩
          case measure => simp [intOf]; omega
        | false =>
          have en := Lib.hid (all_bad (p := lsB) (zs := zs) (k := k) (by have := HL.out; omega) (by rw [← hz]; exact hin))
          clear hz
          go_wp2_with (go_at_call 53; refine (Arith.within _ _ _ _).mono ?_; rintro e w' ⟨rfl, rfl⟩)
          go_ret
          exact ⟨ret_bool en.out.symm, rfl⟩
      · obtain rfl : k = n := by omega
        have en := Lib.hid (all_all (p := lsB) (by rw [← HL.out]; exact HA.out))
        go_wp2
        go_ret
        exact ⟨ret_bool en.out.symm, rfl⟩
  · obtain rfl : zs = [] := List.eq_nil_of_length_eq_zero (by omega)
    go_enter Try.func67, Try.ntmps67
    go_wp2
    refine wp_loop_rounds 1 ?_
    rw [rounds_succ]
    go_wp2
    go_ret
    exact ⟨rfl, rfl⟩
theorem impl_sizes (x0 : ByteArray) (x1 : Int) (a2 a3 : Option Addr) (n2 n3 cap2 cap3 : Nat) (w : World) :
    Calls Try.prog 66 #[.agg #[.string x0, .int .i64 x1, .slice a2 n2 cap2, .slice a3 n3 cap3]] w fun e w' => e = .returned (.agg #[.int .i64 n2, .int .i64 n3]) ∧ On w w' := by
  go_enter Try.func66, Try.ntmps66
  go_wp2_with fail
  refine bodyPost_ret (v := .agg #[.int .i64 n2, .int .i64 n3]) (by simp [results, Try.results66, go_sem]) rfl ⟨rfl, ?_⟩
  repeat (first | exact On.refl _ | apply On.alloc | refine On.setCell ?_ (by (try simp) <;> omega) _)
set_option maxHeartbeats 4000000 in
theorem impl_valid (x0 : ByteArray) (x1 : Int) (v2 v3 : Value) (z2 z3 : List Int) (w : World) (q0 : x0.size ≤ 1048576) (q2 : z2.length ≤ 1048576) (q3 : z3.length ≤ 1048576) (h2 : Ints w v2 z2) (h3 : Ints w v3 z3) :
    Calls Try.prog 45 #[.agg #[.string x0, .int .i64 x1, v2, v3]] w fun e w' => e = .returned (.bool (okA x0 x1 z2 z3)) ∧ On w w' := by
  have HN := Lib.hid (fun w => Text1.impl_isName x0 w q0)
  have HG := Lib.hid (fun w => impl_isGain x1 w)
  have HH := Lib.hid (fun w' (hb : On w w') => impl_losses v2 z2 w' q2 (h2.below hb))
  have HV := Lib.hid (fun w' (hb : On w w') => impl_losses v3 z3 w' q3 (h3.below hb))
  have h2' := h2
  have h3' := h3
  obtain ⟨a2, cap2, rfl, -⟩ := h2
  obtain ⟨a3, cap3, rfl, -⟩ := h3
  have HS := Lib.hid (fun w => impl_sizes x0 x1 a2 a3 z2.length z3.length cap2 cap3 w)
  cases t1 : nameB x0.data.toList with
  | false =>
    have en := Lib.hid (okA_name (g := x1) (hs := z2) (vs := z3) t1)
    clear h2' h3'
    rw [t1] at HN
    go_enter Try.func45, Try.ntmps45
    go_wp2_with (go_at_call 46; refine (HN.out _).mono ?_; rintro e w' ⟨rfl, rfl⟩)
    go_ret
    exact ⟨ret_bool en.out.symm, by repeat (first | exact On.refl _ | apply On.alloc)⟩
  | true =>
    rw [t1] at HN
    cases t2 : inB x1 (-60000) 60000 with
    | false =>
      have en := Lib.hid (okA_gain (s := x0) (hs := z2) (vs := z3) t2)
      clear h2' h3'
      rw [t2] at HG
      go_enter Try.func45, Try.ntmps45
      go_wp2_with (first | (go_at_call 46; refine (HN.out _).mono ?_; rintro e w' ⟨rfl, rfl⟩) | (go_at_call 52; refine (HG.out _).mono ?_; rintro e w' ⟨rfl, rfl⟩))
      go_ret
      exact ⟨ret_bool en.out.symm, by repeat (first | exact On.refl _ | apply On.alloc)⟩
    | true =>
      rw [t2] at HG
      have he2 := Eq2.two
      by_cases t3 : z2.length = 36 ∧ z3.length = 19
      · obtain ⟨t3, t4⟩ := t3
        obtain ⟨b2, o2, rfl, hb2, hc2⟩ := slice_of h2' (by omega)
        obtain ⟨b3, o3, rfl, hb3, hc3⟩ := slice_of h3' (by omega)
        obtain ⟨y, hy⟩ : ∃ y, y = z2.getD 0 0 := ⟨_, rfl⟩
        obtain ⟨z, hz⟩ : ∃ z, z = z3.getD 9 0 := ⟨_, rfl⟩
        have c2 : w.cell? ⟨b2, o2, none⟩ = some (.int .i64 y) := by rw [hy]; exact hc2 0 (by omega)
        have c3 : w.cell? ⟨b3, o3 + 9, none⟩ = some (.int .i64 z) := by rw [hz]; exact hc3 9 (by omega)
        have en := Lib.hid (show okA x0 x1 z2 z3 = (z2.all lsB && (z3.all lsB && ((y == 0) && (z == 0)))) by
          unfold okA lossB
          rw [t1, t2, decide_eq_true t3, decide_eq_true t4, ← hy, ← hz]
          by_cases p1 : y = 0 <;> by_cases p2 : z = 0 <;> simp [p1, p2])
        rw [t3, t4] at HS
        rw [t3] at HH
        rw [t4] at HV
        rw [t3, t4]
        clear h2' h3' hc2 hc3 hy hz q0 q2 q3 t1 t2
        generalize z2.all lsB = s1 at *
        generalize z3.all lsB = s2 at *
        cases f1 : (y == 0) <;> cases f2 : (z == 0) <;> cases s1 <;> cases s2 <;> (
          go_enter Try.func45, Try.ntmps45
          go_wp2_with (first | (go_at_call 46; refine (HN.out _).mono ?_; rintro e w' ⟨rfl, rfl⟩) | (go_at_call 52; refine (HG.out _).mono ?_; rintro e w' ⟨rfl, rfl⟩))
          refine (HS.out _).mono ?_
          rintro e w1 ⟨rfl, h1⟩
          have P1 : In w1 w.heap.size x0 x1 (.slice (some ⟨b2, o2, none⟩) 36 cap2) (.slice (some ⟨b3, o3, none⟩) 19 cap3) := In.on ⟨by simp [go_sem], by simp [go_sem], by simp [go_sem], by simp [go_sem]⟩ h1
          have O1 : On w w1 := On.trans (On.alloc (On.refl w) _) h1
          obtain ⟨p0, p1, p2, p3⟩ := P1
          have d2 := (O1.cell (p := ⟨b2, o2, none⟩) (by exact hb2)).trans c2
          have d3 := (O1.cell (p := ⟨b3, o3 + 9, none⟩) (by exact hb3)).trans c3
          have HO := Lib.hid O1
          clear h1 O1
          go_wp2_with (first
            | (go_at_call 67; with_reducible refine (HH.out _ HO.out).mono ?_; rintro e w' ⟨rfl, rfl⟩)
            | (go_at_call 67; with_reducible refine (HV.out _ HO.out).mono ?_; rintro e w' ⟨rfl, rfl⟩))
          go_ret
          exact ⟨ret_bool (by rw [en.out, f1, f2]; rfl), HO.out⟩)
      · have en := Lib.hid (show okA x0 x1 z2 z3 = false by
          by_cases t4 : z2.length = 36
          · exact okA_v (loss_len (fun h => t3 ⟨t4, h⟩))
          · exact okA_h (loss_len t4))
        have b1 : ((z2.length : Int) == 36 && (z3.length : Int) == 19) = false := by
          rw [Bool.and_eq_false_iff]
          by_cases t4 : z2.length = 36
          · exact .inr (beq_eq_false_iff_ne.2 (by omega))
          · exact .inl (beq_eq_false_iff_ne.2 (by omega))
        clear h2' h3' t3 q0 q2 q3 t1 t2 HH HV
        go_enter Try.func45, Try.ntmps45
        go_wp2_with (first | (go_at_call 46; refine (HN.out _).mono ?_; rintro e w' ⟨rfl, rfl⟩) | (go_at_call 52; refine (HG.out _).mono ?_; rintro e w' ⟨rfl, rfl⟩))
        refine (HS.out _).mono ?_
        rintro e w1 ⟨rfl, h1⟩
        have HO := Lib.hid (On.trans (On.alloc (On.refl w) _) h1)
        clear h1
        go_wp2_with fail
        go_ret
        exact ⟨ret_bool en.out.symm, HO.out⟩
end Go.Proofs.Ytnambnddoebeiaa.Ant
