
/-
  The span of a list of channels, in the model and in the program. Condition: at most 1048576 numbers.
-/
import Derived.Test.YtofoffdmhekceaaConI
import Derived.Test.YtofoffdmhekceaaAll
namespace Go.Proofs.Ytofoffdmhekceaa.Spn
open Go.RowKit
open Plain
open Ints (Ints)
open Con (slice_of)

def mnTo (z : List Int) : Nat → Int
  | 0 => z.getD 0 0
  | k + 1 => if mnTo z k < z.getD k 0 then mnTo z k else z.getD k 0
def mxTo (z : List Int) : Nat → Int
  | 0 => z.getD 0 0
  | k + 1 => if z.getD k 0 < mxTo z k then mxTo z k else z.getD k 0
def allC (z : List Int) : Bool := z.all (fun x => inB x 0 999)
def span (z : List Int) : Int := if 0 < z.length ∧ allC z = true then mxTo z z.length - mnTo z z.length else 0
theorem span_nil {z : List Int} (h : ¬ 0 < z.length) : span z = 0 := if_neg (fun g => h g.1)
theorem span_no {z : List Int} (h : allC z = false) : span z = 0 := if_neg (by rw [h]; rintro ⟨-, g⟩; cases g)
theorem span_yes {z : List Int} (h : 0 < z.length) (k : allC z = true) : span z = mxTo z z.length - mnTo z z.length := if_pos ⟨h, k⟩
theorem bd {z : List Int} {n : Nat} (h0 : 0 < n) (h : ∀ k, k < n → 0 ≤ z.getD k 0 ∧ z.getD k 0 ≤ 999) : ∀ k, k ≤ n → (0 ≤ mnTo z k ∧ mnTo z k ≤ 999) ∧ (0 ≤ mxTo z k ∧ mxTo z k ≤ 999)
  | 0, _ => ⟨h 0 h0, h 0 h0⟩
  | k + 1, hk => by
    have h1 := bd h0 h k (by omega)
    have h2 := h k (by omega)
    simp only [mnTo, mxTo]
    constructor
    · split <;> omega
    · split <;> omega
theorem spec_min (a b : Int) (w : World) :
    Calls Try.prog 60 #[.int .i64 a, .int .i64 b] w fun e w' => e = .returned (.int .i64 (if a < b then a else b)) ∧ w = w' := by
  by_cases h : a < b
  · rw [if_pos h]
    go_enter Try.func60, Try.ntmps60
    go_wp2
    go_ret
    exact ⟨rfl, rfl⟩
  · rw [if_neg h]
    go_enter Try.func60, Try.ntmps60
    go_wp2
    go_ret
    exact ⟨rfl, rfl⟩
theorem spec_max (a b : Int) (w : World) :
    Calls Try.prog 61 #[.int .i64 a, .int .i64 b] w fun e w' => e = .returned (.int .i64 (if b < a then a else b)) ∧ w = w' := by
  by_cases h : b < a
  · rw [if_pos h]
    go_enter Try.func61, Try.ntmps61
    go_wp2
    go_ret
    exact ⟨rfl, rfl⟩
  · rw [if_neg h]
    go_enter Try.func61, Try.ntmps61
    go_wp2
    go_ret
    exact ⟨rfl, rfl⟩
set_option maxHeartbeats 4000000 in
theorem spec_SpanOf (v : Value) (z : List Int) (w : World) (hz : z.length ≤ 1048576) (h : Ints w v z) :
    Calls Try.prog 33 #[v] w fun e w' => e = .returned (.int .i64 (span z)) ∧ On w w' := by
  have h' := h
  obtain ⟨a, cap, rfl, -⟩ := h
  obtain ⟨n, hn⟩ : ∃ n, n = z.length := ⟨_, rfl⟩
  by_cases h0 : 0 < n
  case neg =>
    have en := Lib.hid (span_nil (z := z) (by omega))
    rw [← hn]
    obtain rfl : n = 0 := by omega
    clear hn h'
    go_enter Try.func33, Try.ntmps33
    go_wp2
    go_ret
    exact ⟨ret_int en.out.symm, On.refl _⟩
  obtain ⟨b, off, rfl, hb, hcell⟩ := slice_of (n := n) (by rw [hn]; exact h') hn.symm h0
  have HN := Lib.hid hn
  have HC := Lib.hid hcell
  rw [← hn] at hz ⊢
  have hni : (0 : Int) < (n : Int) := by omega
  have hne : ((n : Int) == 0) = false := beq_eq_false_iff_ne.2 (by omega)
  obtain ⟨x0, hx0⟩ : ∃ x, x = z.getD 0 0 := ⟨_, rfl⟩
  have c0 : w.cell? ⟨b, off, none⟩ = some (.int .i64 x0) := by rw [hx0]; exact hcell 0 h0
  have HX := Lib.hid (show x0 = mnTo z 0 ∧ x0 = mxTo z 0 from ⟨hx0, hx0⟩)
  clear h' hn hcell hx0
  go_enter Try.func33, Try.ntmps33
  go_wp2_with fail
  go_loopw [3, 4, 5] (fun lo hi i wr => ∃ k : Nat, k ≤ n ∧ i = .int .i64 k ∧ lo = .int .i64 (mnTo z k) ∧ hi = .int .i64 (mxTo z k) ∧ AllTo (fun x => inB x 0 999) z k ∧ On w wr) (fun _ _ i _ => n - (intOf i).toNat)
  case atStart => exact ⟨0, Nat.zero_le _, rfl, by rw [HX.out.1], by rw [HX.out.2], allTo_zero _ _, On.refl _⟩
  case round =>
    obtain ⟨k, hk, rfl, rfl, rfl, hall, ho⟩ := hrel
    have HA := Lib.hid hall
    have HO := Lib.hid ho
    clear hall
    by_cases hlt : k < n
    · have hlti : (k : Int) < (n : Int) := by omega
      obtain ⟨x, hx⟩ : ∃ x, x = z.getD k 0 := ⟨_, rfl⟩
      have c1 : wr.cell? ⟨b, off + k, none⟩ = some (.int .i64 x) := (ho.cell (by exact hb)).trans (by rw [hx]; exact HC.out k hlt)
      have s1 := ho.lts _ hb
      have HI := Lib.hid (fun w => Arith.l00In x 0 999 w)
      cases hin : inB x 0 999 with
      | false =>
        rw [hin] at HI
        have en := Lib.hid (span_no (z := z) (all_bad (k := k) (by rw [← HN.out]; exact hlt) (by rw [← hx]; exact hin)))
        clear hx hin ho
        go_wp2_with fail
        refine (HI.out _).mono ?_
        rintro e w1 ⟨rfl, rfl⟩
        go_wp2_with fail
        go_ret
        exact ⟨ret_int en.out.symm, HO.out⟩
      | true =>
        rw [hin] at HI
        have HS := Lib.hid (allTo_succ HA.out (show (fun x => inB x 0 999) (z.getD k 0) = true by rw [← hx]; exact hin))
        have e1 := Lib.hid (show (if mnTo z k < x then mnTo z k else x) = mnTo z (k + 1) by rw [hx]; rfl)
        have e2 := Lib.hid (show (if x < mxTo z k then mxTo z k else x) = mxTo z (k + 1) by rw [hx]; rfl)
        clear hx hin ho
        generalize mnTo z k = lo at *
        generalize mxTo z k = hi at *
        go_wp2_with fail
        refine (HI.out _).mono ?_
        rintro e w1 ⟨rfl, rfl⟩
        go_wp2_with fail
        refine (spec_min lo x _).mono ?_
        rintro e w1 ⟨rfl, rfl⟩
        rw [e1.out]
        go_wp2_with fail
        refine (spec_max hi x _).mono ?_
        rintro e w1 ⟨rfl, rfl⟩
        rw [e2.out]
        go_wp2_with fail
        go_roundw
        case rel => exact ⟨k + 1, by omega, by go_num, rfl, rfl, HS.out, HO.out⟩
        case measure => simp [intOf]; omega
    · obtain rfl : k = n := by omega
      have hal : allC z = true := all_all (by rw [← HN.out]; exact HA.out)
      have en := Lib.hid (show mxTo z k - mnTo z k = span z by rw [span_yes (by rw [← HN.out]; exact h0) hal, ← HN.out])
      obtain ⟨⟨m1, m2⟩, m3, m4⟩ := bd (z := z) h0 (fun j hj => of_inB (HA.out j hj)) k (Nat.le_refl _)
      generalize mnTo z k = lo at *
      generalize mxTo z k = hi at *
      clear ho hal
      go_wp2_with fail
      go_ret
      exact ⟨ret_int en.out, HO.out⟩
set_option maxHeartbeats 4000000 in
theorem lib_Max (b off cap : Nat) (z : List Int) (n : Nat) (w : World) (h0 : 0 < n) (hz : n ≤ 1048576) (hcell : ∀ i, i < n → w.cell? ⟨b, off + i, none⟩ = some (.int .i64 (z.getD i 0))) :
    Calls Try.prog 64 #[.slice (some ⟨b, off, none⟩) n cap] w fun e w' => e = .returned (.int .i64 (mxTo z n)) ∧ w = w' := by
  have HC := Lib.hid hcell
  obtain ⟨x0, hx0⟩ : ∃ x, x = z.getD 0 0 := ⟨_, rfl⟩
  have c0 : w.cell? ⟨b, off, none⟩ = some (.int .i64 x0) := by rw [hx0]; exact hcell 0 h0
  have hni : (0 : Int) < (n : Int) := by omega
  have hn1 : ¬ (n : Int) < 1 := by omega
  have HX := Lib.hid (show x0 = mxTo z 1 by rw [hx0]; show z.getD 0 0 = if z.getD 0 0 < z.getD 0 0 then z.getD 0 0 else z.getD 0 0; split <;> rfl)
  clear hx0 hcell
  go_enter Try.func64, Try.ntmps64
  go_wp2_with fail
  go_loop [3, 4] (fun m i => ∃ k : Nat, k < n ∧ i = .int .i64 ((k : Int) + 1) ∧ m = .int .i64 (mxTo z (k + 1))) (fun _ i => n - (intOf i).toNat)
  case atStart => exact ⟨0, h0, rfl, by rw [HX.out]⟩
  case round =>
    obtain ⟨k, hk, rfl, rfl⟩ := hrel
    by_cases hlt : k + 1 < n
    · have hlti : (k : Int) + 1 < (n : Int) := by omega
      obtain ⟨x, hx⟩ : ∃ x, x = z.getD (k + 1) 0 := ⟨_, rfl⟩
      have c1 : w.cell? ⟨b, off + (k + 1), none⟩ = some (.int .i64 x) := by rw [hx]; exact HC.out (k + 1) hlt
      have e2 : (if x < mxTo z (k + 1) then mxTo z (k + 1) else x) = mxTo z (k + 1 + 1) := by rw [hx]; rfl
      have e3 : ((k : Int) + 1).toNat = k + 1 := by omega
      clear hx
      generalize hq : mxTo z (k + 1) = hi at *
      clear hq
      by_cases hg : x < hi
      · rw [if_pos hg] at e2
        have E2 := Lib.hid e2
        have hg2 : ¬ hi ≤ x := by omega
        have hg3 : ¬ hi < x := by omega
        clear e2
        go_wp2_with fail
        go_round
        case rel => exact ⟨k + 1, by omega, by go_num, by rw [E2.out]⟩
        case measure => simp [intOf]; omega
      · rw [if_neg hg] at e2
        have E2 := Lib.hid e2
        have hg2 : hi ≤ x := by omega
        clear e2
        by_cases hgq : hi < x
        · go_wp2_with fail
          go_round
          case rel => exact ⟨k + 1, by omega, by go_num, by rw [E2.out]⟩
          case measure => simp [intOf]; omega
        · obtain rfl : hi = x := by omega
          go_wp2_with fail
          go_round
          case rel => exact ⟨k + 1, by omega, by go_num, by rw [E2.out]⟩
          case measure => simp [intOf]; omega
    · obtain rfl : k + 1 = n := by omega
      go_wp2_with fail
      go_ret
      exact ⟨rfl, rfl⟩
set_option maxHeartbeats 4000000 in
theorem lib_Min (b off cap : Nat) (z : List Int) (n : Nat) (w : World) (h0 : 0 < n) (hz : n ≤ 1048576) (hcell : ∀ i, i < n → w.cell? ⟨b, off + i, none⟩ = some (.int .i64 (z.getD i 0))) :
    Calls Try.prog 65 #[.slice (some ⟨b, off, none⟩) n cap] w fun e w' => e = .returned (.int .i64 (mnTo z n)) ∧ w = w' := by
  have HC := Lib.hid hcell
  obtain ⟨x0, hx0⟩ : ∃ x, x = z.getD 0 0 := ⟨_, rfl⟩
  have c0 : w.cell? ⟨b, off, none⟩ = some (.int .i64 x0) := by rw [hx0]; exact hcell 0 h0
  have hni : (0 : Int) < (n : Int) := by omega
  have hn1 : ¬ (n : Int) < 1 := by omega
  have HX := Lib.hid (show x0 = mnTo z 1 by rw [hx0]; show z.getD 0 0 = if z.getD 0 0 < z.getD 0 0 then z.getD 0 0 else z.getD 0 0; split <;> rfl)
  clear hx0 hcell
  go_enter Try.func65, Try.ntmps65
  go_wp2_with fail
  go_loop [3, 4] (fun m i => ∃ k : Nat, k < n ∧ i = .int .i64 ((k : Int) + 1) ∧ m = .int .i64 (mnTo z (k + 1))) (fun _ i => n - (intOf i).toNat)
  case atStart => exact ⟨0, h0, rfl, by rw [HX.out]⟩
  case round =>
    obtain ⟨k, hk, rfl, rfl⟩ := hrel
    by_cases hlt : k + 1 < n
    · have hlti : (k : Int) + 1 < (n : Int) := by omega
      obtain ⟨x, hx⟩ : ∃ x, x = z.getD (k + 1) 0 := ⟨_, rfl⟩
      have c1 : w.cell? ⟨b, off + (k + 1), none⟩ = some (.int .i64 x) := by rw [hx]; exact HC.out (k + 1) hlt
      have e2 : (if mnTo z (k + 1) < x then mnTo z (k + 1) else x) = mnTo z (k + 1 + 1) := by rw [hx]; rfl
      have e3 : ((k : Int) + 1).toNat = k + 1 := by omega
      clear hx
      generalize hq : mnTo z (k + 1) = hi at *
      clear hq
      by_cases hg : hi < x
      · rw [if_pos hg] at e2
        have E2 := Lib.hid e2
        have hg2 : ¬ x ≤ hi := by omega
        have hg3 : ¬ x < hi := by omega
        clear e2
        go_wp2_with fail
        go_round
        case rel => exact ⟨k + 1, by omega, by go_num, by rw [E2.out]⟩
        case measure => simp [intOf]; omega
      · rw [if_neg hg] at e2
        have E2 := Lib.hid e2
        have hg2 : x ≤ hi := by omega
        clear e2
        by_cases hgq : x < hi
        · go_wp2_with fail
          go_round
          case rel => exact ⟨k + 1, by omega, by go_num, by rw [E2.out]⟩
          case measure => simp [intOf]; omega
        · obtain rfl : hi = x := by omega
          go_wp2_with fail
          go_round
          case rel => exact ⟨k + 1, by omega, by go_num, by rw [E2.out]⟩
          case measure => simp [intOf]; omega
    · obtain rfl : k + 1 = n := by omega
      go_wp2_with fail
      go_ret
      exact ⟨rfl, rfl⟩
set_option maxHeartbeats 4000000 in
theorem impl_SpanOf (v : Value) (z : List Int) (w : World) (hz : z.length ≤ 1048576) (h : Ints w v z) :
    Calls Try.prog 34 #[v] w fun e w' => e = .returned (.int .i64 (span z)) ∧ On w w' := by
  have h' := h
  obtain ⟨a, cap, rfl, -⟩ := h
  obtain ⟨n, hn⟩ : ∃ n, n = z.length := ⟨_, rfl⟩
  by_cases h0 : 0 < n
  case neg =>
    have en := Lib.hid (span_nil (z := z) (by omega))
    rw [← hn]
    obtain rfl : n = 0 := by omega
    clear hn h'
    go_enter Try.func34, Try.ntmps34
    go_wp2_with fail
    go_ret
    exact ⟨ret_int en.out.symm, On.refl _⟩
  obtain ⟨b, off, rfl, hb, hcell⟩ := slice_of h' rfl (by omega)
  have HE := Lib.hid (EvI.every_asg (fun x => inB x 0 999) b off cap z w hz hb hcell (fun k hk w1 h1 => Con.impl_asg _ w1))
  have hni : (0 : Int) < (n : Int) := by omega
  have hne : ((n : Int) == 0) = false := beq_eq_false_iff_ne.2 (by omega)
  have hnn : (n == 0) = false := beq_eq_false_iff_ne.2 (by omega)
  cases hal : z.all (fun x => inB x 0 999) with
  | false =>
    rw [hal] at HE
    have en := Lib.hid (span_no (z := z) hal)
    rw [← hn] at HE hz ⊢
    clear h' hn hcell hal
    go_enter Try.func34, Try.ntmps34
    go_wp2_with fail
    refine HE.out.mono ?_
    rintro e w1 ⟨rfl, g1⟩
    go_wp2_with fail
    go_ret
    exact ⟨ret_int en.out.symm, g1⟩
  | true =>
    rw [hal] at HE
    have en := Lib.hid (show mxTo z n - mnTo z n = span z by rw [span_yes (by omega) hal, ← hn])
    obtain ⟨⟨m1, m2⟩, m3, m4⟩ := bd (z := z) h0 (fun j hj => of_inB (allTo_of hal j (by omega))) n (Nat.le_refl _)
    have HMX := Lib.hid (fun w1 (h1 : On w w1) => lib_Max b off cap z n w1 h0 (by omega) (fun i hi => (h1.cell (by exact hb)).trans (hcell i (by omega))))
    have HMN := Lib.hid (fun w1 (h1 : On w w1) => lib_Min b off cap z n w1 h0 (by omega) (fun i hi => (h1.cell (by exact hb)).trans (hcell i (by omega))))
    rw [← hn] at HE hz ⊢
    clear h' hn hcell hal
    generalize mnTo z n = lo at *
    generalize mxTo z n = hi at *
    go_enter Try.func34, Try.ntmps34
    go_wp2_with fail
    refine HE.out.mono ?_
    rintro e w1 ⟨rfl, g1⟩
    have HG := Lib.hid g1
    clear g1
    go_wp2_with fail
    refine (HMX.out _ HG.out).mono ?_
    rintro e w2 ⟨rfl, rfl⟩
    go_wp2_with fail
    refine (HMN.out _ HG.out).mono ?_
    rintro e w2 ⟨rfl, rfl⟩
    go_wp2_with fail
    go_ret
    exact ⟨ret_int en.out, HG.out⟩
end Go.Proofs.Ytofoffdmhekceaa.Spn
