
/-
  Whether a list has a channel for each sector of a row, in the model and in the program. Condition: at most 1048576 numbers.
-/
import Derived.Test.YtkcjbcllpbojhaaDoorSigP
import Derived.Test.YtkcjbcllpbojhaaDoorEvR
import Derived.Test.YtkcjbcllpbojhaaDoorArith
import Derived.Test.YtkcjbcllpbojhaaDoorOnH
import Derived.Test.YtkcjbcllpbojhaaDoorAll
namespace Go.Proofs.YtkcjbcllpbojhaaDoor.Sig
open Go.RowKit
open Plain
open Ints (Ints)

theorem all_upto_ints {p : Int → Bool} {zs : List Int} (h : ∀ i, i < zs.length → p (zs.getD i 0) = true) : zs.all p = true := by
  rw [List.all_eq_true]
  intro x hx
  obtain ⟨i, hi, rfl⟩ := List.getElem_of_mem hx
  have := h i hi
  rw [show zs.getD i 0 = zs[i] from by simp [hi]] at this
  exact this
theorem all_bad_ints {p : Int → Bool} {zs : List Int} {k : Nat} (hk : k < zs.length) (h : p (zs.getD k 0) = false) : zs.all p = false := by
  rw [List.all_eq_false]
  refine ⟨zs[k], List.getElem_mem hk, ?_⟩
  rw [show zs.getD k 0 = zs[k] from by simp [hk]] at h
  simp [h]
set_option maxRecDepth 100000 in
set_option maxHeartbeats 2000000 in
theorem index_ints (g : Nat) (p : Int → Bool) (b off cap : Nat) (zs : List Int) (w : World) (hn : zs.length ≤ 1048576) (hlt : b < w.heap.size)
    (hcell : ∀ i, i < zs.length → w.cell? ⟨b, off + i, none⟩ = some (.int .i64 (zs.getD i 0)))
    (hc : ∀ k, k < zs.length → ∀ w1, On w w1 → Calls Tryd.prog 74 #[.int .i64 (zs.getD k 0), .pointer (some ⟨g, 0, none⟩)] w1 fun e w2 => e = .returned (.bool (!p (zs.getD k 0))) ∧ On w1 w2) :
    Calls Tryd.prog 91 #[.slice (some ⟨b, off, none⟩) zs.length cap, .func (Fn.func 74) #[] #[.pointer (some ⟨g, 0, none⟩)]] w fun e w' => ∃ r : Int, e = .returned (.int .i64 r) ∧ decide (0 ≤ r) = !(zs.all p) ∧ On w w' := by
  have HC := Lib.hid hcell
  have HCL := Lib.hid hc
  clear hcell hc
  go_enter Tryd.func91, Tryd.ntmps91
  go_wp2_with fail
  go_loopw [8] (fun i wr => ∃ k : Nat, k ≤ zs.length ∧ i = .int .i64 k ∧ (∀ j, j < k → p (zs.getD j 0) = true) ∧ On w wr) (fun i _ => zs.length - (intOf i).toNat)
  case atStart => exact ⟨0, Nat.zero_le _, rfl, fun j hj => absurd hj (by omega), On.refl _⟩
  case round =>
    obtain ⟨k, hk, rfl, hall, ho⟩ := hrel
    have HA := Lib.hid hall
    have HB := Lib.hid ho
    clear hall
    by_cases hlt2 : k < zs.length
    · have hlti : (k : Int) < (zs.length : Int) := by omega
      obtain ⟨z, hz⟩ : ∃ z, z = zs.getD k 0 := ⟨_, rfl⟩
      have HM0 := HCL.out k hlt2 _ ho
      have c0 : wr.cell? ⟨b, off + k, none⟩ = some (.int .i64 (zs.getD k 0)) := (HB.out.cell (by exact hlt)).trans (HC.out k hlt2)
      rw [← hz] at HM0 c0
      have HM := Lib.hid HM0
      clear HM0
      have g3 := ho.lts _ hlt
      cases hp : p (z) with
      | true =>
        rw [hp] at HM
        have HS := Lib.hid (fun j (hj : j < k + 1) => show p (zs.getD j 0) = true by
          by_cases e : j = k
          · rw [e, ← hz]; exact hp
          · exact HA.out j (by omega))
        clear hp ho hz
        go_wp2_with fail
        refine HM.out.mono ?_
        rintro e w1 ⟨rfl, h1⟩
        go_wp2_with fail
        go_roundw
        case rel => exact ⟨k + 1, by omega, by go_num, HS.out, HB.out.trans h1⟩
        case measure => simp [intOf]; omega
      | false =>
        rw [hp] at HM
        have en := Lib.hid (all_bad_ints (p := p) hlt2 (by rw [← hz]; exact hp))
        clear hp ho hz
        go_wp2_with fail
        refine HM.out.mono ?_
        rintro e w1 ⟨rfl, h1⟩
        go_wp2_with fail
        go_ret
        exact ⟨_, rfl, by rw [en.out]; simp, HB.out.trans h1⟩
    · obtain rfl : k = zs.length := by omega
      have en := Lib.hid (all_upto_ints HA.out)
      go_wp2_with fail
      go_ret
      exact ⟨-1, rfl, by rw [en.out]; rfl, HB.out⟩
theorem contains_ints (g : Nat) (p : Int → Bool) (b off cap : Nat) (zs : List Int) (w : World) (hn : zs.length ≤ 1048576) (hlt : b < w.heap.size)
    (hcell : ∀ i, i < zs.length → w.cell? ⟨b, off + i, none⟩ = some (.int .i64 (zs.getD i 0)))
    (hc : ∀ k, k < zs.length → ∀ w1, On w w1 → Calls Tryd.prog 74 #[.int .i64 (zs.getD k 0), .pointer (some ⟨g, 0, none⟩)] w1 fun e w2 => e = .returned (.bool (!p (zs.getD k 0))) ∧ On w1 w2) :
    Calls Tryd.prog 73 #[.slice (some ⟨b, off, none⟩) zs.length cap, .func (Fn.func 74) #[] #[.pointer (some ⟨g, 0, none⟩)]] w fun e w' => e = .returned (.bool (!(zs.all p))) ∧ On w w' := by
  have HI := Lib.hid (index_ints g p b off cap zs w hn hlt hcell hc)
  clear hcell hc
  go_enter Tryd.func73, Tryd.ntmps73
  go_wp2_with fail
  refine HI.out.mono ?_
  rintro e w1 ⟨r, rfl, hr, h1⟩
  have HR := Lib.hid hr
  clear hr
  go_wp2_with fail
  go_ret
  exact ⟨ret_bool HR.out, h1⟩
theorem clo_ch (u : Int) (q : Bool) (g : Nat) (w : World) (hcell : w.cell? ⟨g, 0, none⟩ = some (.func (Fn.func 55) #[] #[]))
    (hk : Calls Tryd.prog 55 #[.int .i64 u] w fun e w2 => e = .returned (.bool q) ∧ On w w2) :
    Calls Tryd.prog 74 #[.int .i64 u, .pointer (some ⟨g, 0, none⟩)] w fun e w2 => e = .returned (.bool (!q)) ∧ On w w2 := by
  have HK := Lib.hid hk
  clear hk
  go_enter Tryd.func74, Tryd.ntmps74
  go_wp2_with fail
  refine HK.out.mono ?_
  rintro e w1 ⟨rfl, h1⟩
  go_wp2_with fail
  go_ret
  exact ⟨rfl, h1⟩
set_option maxHeartbeats 1000000 in
theorem every_ch (p : Int → Bool) (b off cap : Nat) (zs : List Int) (w : World) (hn : zs.length ≤ 1048576) (hlt : b < w.heap.size)
    (hcell : ∀ i, i < zs.length → w.cell? ⟨b, off + i, none⟩ = some (.int .i64 (zs.getD i 0)))
    (hk : ∀ k, k < zs.length → ∀ w1, On w w1 → Calls Tryd.prog 55 #[.int .i64 (zs.getD k 0)] w1 fun e w2 => e = .returned (.bool (p (zs.getD k 0))) ∧ On w1 w2) :
    Calls Tryd.prog 54 #[.slice (some ⟨b, off, none⟩) zs.length cap, .func (Fn.func 55) #[] #[]] w fun e w' => e = .returned (.bool (zs.all p)) ∧ On w w' := by
  have HC := Lib.hid hcell
  have HK := Lib.hid hk
  have HO := Lib.hid (On.alloc (On.refl w) (.cells #[.func (Fn.func 55) #[] #[]] 53 (0, 0)))
  have HN := Lib.hid hn
  have HI := Lib.hid (contains_ints w.heap.size p b off cap zs (w.alloc (.cells #[.func (Fn.func 55) #[] #[]] 53 (0, 0))) hn (HO.out.lts _ hlt) (fun i hi => (HO.out.cell (by exact hlt)).trans (HC.out i hi)) (fun k hk2 w1 h1 => clo_ch  (zs.getD k 0) (p (zs.getD k 0)) w.heap.size w1 ((h1.cell (by simp)).trans (by simp [go_sem])) (HK.out k hk2 w1 (HO.out.trans h1))))
  clear hcell hk
  go_enter Tryd.func54, Tryd.ntmps54
  go_wp2_with fail
  refine HI.out.mono ?_
  rintro e w1 ⟨rfl, h1⟩
  go_wp2_with fail
  go_ret
  exact ⟨rfl, HO.out.trans h1⟩
theorem impl_isChannel (x : Int) (w : World) : Calls Tryd.prog 55 #[.int .i64 x] w fun e w' => e = .returned (.bool (inB x (-1) 999)) ∧ On w w' := by
  go_enter Tryd.func55, Tryd.ntmps55
  go_wp2_with (go_at_call 22; refine (Arith.within _ _ _ _).mono ?_; rintro e w' ⟨rfl, rfl⟩)
  go_ret
  exact ⟨rfl, On.refl _⟩
set_option maxHeartbeats 1000000 in
theorem impl_channels (v : Value) (cs : List Int) (n : Nat) (w : World) (hn : cs.length ≤ 1048576) (h0 : 1 ≤ n) (hn2 : n ≤ 1048576) (h : Ints w v cs) :
    Calls Tryd.prog 31 #[v, .int .i64 n] w fun e w' => e = .returned (.bool (chB cs n)) ∧ On w w' := by
  have h' := h
  obtain ⟨a, cap, rfl, hc⟩ := h
  obtain ⟨m, hm⟩ : ∃ m, m = cs.length := ⟨_, rfl⟩
  by_cases he : cs.length = n
  · obtain ⟨b, off, rfl, hlt, hcell⟩ := hc (by omega)
    have HE := Lib.hid (every_ch (fun x => inB x (-1) 999) b off cap cs w hn hlt hcell (fun k _ w1 _ => impl_isChannel _ w1))
    have en := Lib.hid (show cs.all (fun x => inB x (-1) 999) = chB cs n by unfold chB; rw [decide_eq_true he]; rfl)
    rw [he] at HE ⊢
    clear hc hcell h' hm he
    go_enter Tryd.func31, Tryd.ntmps31
    go_wp2_with fail
    refine HE.out.mono ?_
    rintro e w1 ⟨rfl, h1⟩
    go_wp2_with fail
    go_ret
    exact ⟨ret_bool en.out, h1⟩
  · have en := Lib.hid (show chB cs n = false by unfold chB; rw [decide_eq_false he]; rfl)
    have he2 : (m == n) = false := beq_eq_false_iff_ne.2 (by omega)
    have he3 : ((m : Int) == (n : Int)) = false := beq_eq_false_iff_ne.2 (by omega)
    rw [← hm] at hn ⊢
    clear hc h' hm he
    go_enter Tryd.func31, Tryd.ntmps31
    go_wp2_with fail
    go_ret
    exact ⟨ret_bool en.out.symm, On.refl _⟩
set_option maxHeartbeats 1000000 in
theorem spec_channels (v : Value) (cs : List Int) (n : Nat) (w : World) (hn : cs.length ≤ 1048576) (h : Ints w v cs) :
    Calls Tryd.prog 27 #[v, .int .i64 n] w fun e w' => e = .returned (.bool (chB cs n)) ∧ w = w' := by
  obtain ⟨a, cap, rfl, hc⟩ := h
  obtain ⟨m, hm⟩ : ∃ m, m = cs.length := ⟨_, rfl⟩
  have HN := Lib.hid hm
  have HC := Lib.hid hc
  rw [← hm] at hn ⊢
  clear hc hm
  go_enter Tryd.func27, Tryd.ntmps27
  go_wp2_with fail
  go_loop [5] (fun i => ∃ k : Nat, k ≤ m ∧ i = .int .i64 k ∧ AllTo (fun x => inB x (-1) 999) cs k) (fun i => m - (intOf i).toNat)
  case atStart => exact ⟨0, Nat.zero_le _, rfl, allTo_zero _ _⟩
  case round =>
    obtain ⟨k, hk, rfl, hall⟩ := hrel
    have HA := Lib.hid hall
    clear hall
    by_cases hlt : k < m
    · have hlti : (k : Int) < (m : Int) := by omega
      obtain ⟨b, off, rfl, hb, hcell⟩ := HC.out (by rw [← HN.out]; omega)
      obtain ⟨x, hx⟩ : ∃ x, x = cs.getD k 0 := ⟨_, rfl⟩
      have hc1 := hcell k (by rw [← HN.out]; exact hlt)
      rw [← hx] at hc1
      have HL := Lib.hid (fun w => Arith.l00In x (-1) 999 w)
      cases hin : inB x (-1) 999 with
      | true =>
        rw [hin] at HL
        have HS := Lib.hid (allTo_succ (p := fun x => inB x (-1) 999) HA.out (by rw [← hx]; exact hin))
        clear hx hcell hin
        go_wp2_with fail
        refine (HL.out _).mono ?_
        rintro e w1 ⟨rfl, rfl⟩
        go_wp2_with fail
        go_round
        case rel => exact ⟨k + 1, by omega, by go_num, HS.out⟩
        case measure => simp [intOf]; omega
      | false =>
        rw [hin] at HL
        have en := Lib.hid (show chB cs n = false by unfold chB; rw [all_bad (p := fun x => inB x (-1) 999) (show k < cs.length by rw [← HN.out]; exact hlt) (by rw [← hx]; exact hin)]; simp)
        clear hx hcell hin
        go_wp2_with fail
        refine (HL.out _).mono ?_
        rintro e w1 ⟨rfl, rfl⟩
        go_wp2_with fail
        go_ret
        exact ⟨ret_bool en.out.symm, rfl⟩
    · obtain rfl : k = m := by omega
      have ea := all_all (p := fun x => inB x (-1) 999) (by rw [← HN.out]; exact HA.out)
      by_cases he : k = n
      · have en := Lib.hid (show chB cs n = true by unfold chB; rw [ea, ← HN.out, decide_eq_true he]; rfl)
        subst he
        clear ea
        go_wp2_with fail
        go_ret
        exact ⟨ret_bool en.out.symm, rfl⟩
      · have en := Lib.hid (show chB cs n = false by unfold chB; rw [← HN.out, decide_eq_false he]; rfl)
        have he2 : (k == n) = false := beq_eq_false_iff_ne.2 he
        have he3 : ((k : Int) == (n : Int)) = false := beq_eq_false_iff_ne.2 (by omega)
        clear ea
        go_wp2_with fail
        go_ret
        exact ⟨ret_bool en.out.symm, rfl⟩
end Go.Proofs.YtkcjbcllpbojhaaDoor.Sig
