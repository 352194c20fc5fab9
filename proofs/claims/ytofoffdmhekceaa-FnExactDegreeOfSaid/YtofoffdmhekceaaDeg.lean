
/-
  The sum of the constraints of an item, in the model and in the program. Condition: at most 1048576 lists of at most 1048576 numbers.
-/
import Derived.Test.YtofoffdmhekceaaConR
namespace Go.Proofs.Ytofoffdmhekceaa.Con
open Go.RowKit
open Plain
open Ints (Ints)
open Prb (T)

def sumTo (z : List Int) : Nat → Int
  | 0 => 0
  | k + 1 => sumTo z k + z.getD k 0
theorem sumTo_bd {z : List Int} {n : Nat} (h : ∀ k, k < n → 0 ≤ z.getD k 0 ∧ z.getD k 0 ≤ 100) : ∀ k, k ≤ n → 0 ≤ sumTo z k ∧ sumTo z k ≤ 100 * k
  | 0, _ => by simp [sumTo]
  | k + 1, hk => by
    have h1 := sumTo_bd h k (by omega)
    have h2 := h k (by omega)
    simp only [sumTo]
    omega
def deg (N : T) (i : Nat) : Int := sumTo (N.f1.getD i []) N.f0.length
def degV (N : T) (x : Int) : Int := if okB N = true ∧ itemB N x = true then deg N x.toNat else 0
def degC (N : T) (x : Int) : Int := if okB N = true then (if itemB N x = true then 0 else 2) else 1
theorem degV_no {N : T} {x : Int} (h : okB N = false) : degV N x = 0 := if_neg (by rw [h]; rintro ⟨h, -⟩; cases h)
theorem degC_no {N : T} {x : Int} (h : okB N = false) : degC N x = 1 := if_neg (by rw [h]; intro h; cases h)
theorem degV_item {N : T} {x : Int} (h : itemB N x = false) : degV N x = 0 := if_neg (by rw [h]; rintro ⟨-, h⟩; cases h)
theorem degC_item {N : T} {x : Int} (h : okB N = true) (k : itemB N x = false) : degC N x = 2 := by unfold degC; rw [if_pos h, if_neg (by rw [k]; intro h; cases h)]
theorem degV_yes {N : T} {x : Int} (h : okB N = true) (k : itemB N x = true) : degV N x = deg N x.toNat := if_pos ⟨h, k⟩
theorem degC_yes {N : T} {x : Int} (h : okB N = true) (k : itemB N x = true) : degC N x = 0 := by unfold degC; rw [if_pos h, if_pos k]
set_option maxHeartbeats 4000000 in
theorem spec_degree (g : Nat) (N : T) (a0 a1 : Option Addr) (c0 c1 : Nat) (i : Nat) (w : World) (hk : Ok N) (hi : i < N.f0.length) (h : At w g N a0 a1 c0 c1) :
    Calls Try.prog 51 #[.pointer (some ⟨g, 0, none⟩), .int .i64 i] w fun e w' => e = .returned (.int .i64 (deg N i)) ∧ On w w' := by
  have hlt := h.lt
  have k1 := h.k1
  have h1 := hk.n1
  have h2 := hk.n2
  obtain ⟨b, off, rfl, hb, hrow⟩ := rows_at h.r1 (by have := hk.len; omega) hk.len hk.row
  obtain ⟨b1, o1, d1, q1, hb1, hcell⟩ := hrow i hi
  have HB := Lib.hid (sumTo_bd (z := N.f1.getD i []) (n := N.f0.length) (fun k hk2 => ⟨hk.lo i k hi hk2, hk.hi i k hi hk2⟩))
  rw [hk.len] at k1
  have HD := Lib.hid (show sumTo (N.f1.getD i []) N.f0.length = deg N i from rfl)
  have HC := Lib.hid (show ∀ k, k < N.f0.length → w.cell? ⟨b1, o1 + k, none⟩ = some (.int .i64 ((N.f1.getD i []).getD k 0)) from hcell)
  clear hcell hrow h hk
  generalize N.f0.length = n at *
  generalize N.f1.getD i [] = z at *
  have hii : (i : Int) < (n : Int) := by omega
  go_enter Try.func51, Try.ntmps51
  go_wp2_with fail
  go_loopw [5, 6] (fun s i wr => ∃ k : Nat, k ≤ n ∧ i = .int .i64 k ∧ s = .int .i64 (sumTo z k) ∧ On w wr) (fun _ i _ => n - (intOf i).toNat)
  case atStart => exact ⟨0, Nat.zero_le _, rfl, rfl, On.refl _⟩
  case round =>
    obtain ⟨k, hk, rfl, rfl, ho⟩ := hrel
    have HO := Lib.hid ho
    have p1 : wr.cell? ⟨g, 1, none⟩ = some (.slice (some ⟨b, off, none⟩) n c1) := (ho.cell (by exact hlt)).trans k1
    have s1 := ho.lts _ hlt
    by_cases hlt2 : k < n
    · have hlti : (k : Int) < (n : Int) := by omega
      have p2 : wr.cell? ⟨b, off + i, none⟩ = some (.slice (some ⟨b1, o1, none⟩) n d1) := (ho.cell (by exact hb)).trans q1
      obtain ⟨x, hx⟩ : ∃ x, x = z.getD k 0 := ⟨_, rfl⟩
      have p3 : wr.cell? ⟨b1, o1 + k, none⟩ = some (.int .i64 x) := (ho.cell (by exact hb1)).trans (by rw [hx]; exact HC.out k hlt2)
      have s2 := ho.lts _ hb
      have s3 := ho.lts _ hb1
      have bd1 := HB.out k hk
      have bd2 := HB.out (k + 1) (by omega)
      have es : sumTo z (k + 1) = sumTo z k + x := by rw [hx]; rfl
      have ES := Lib.hid es
      rw [es] at bd2
      have bd3 : 0 ≤ sumTo z k + x := bd2.1
      have bd4 : sumTo z k + x ≤ 2400 := by have := bd2.2; omega
      clear hx bd2 es ho
      generalize sumTo z k = s at *
      go_wp2_with fail
      go_roundw
      case rel => exact ⟨k + 1, by omega, by go_num, by rw [ES.out], HO.out⟩
      case measure => simp [intOf]; omega
    · obtain rfl : k = n := by omega
      clear ho
      rw [HD.out]
      go_wp2_with fail
      go_ret
      exact ⟨rfl, HO.out⟩
set_option maxHeartbeats 4000000 in
theorem spec_DegreeOf (v : Value) (N : T) (x : Int) (w : World) (hs : N.Small 1048576) (h : Prb.Is w v N) :
    Calls Try.prog 28 #[v, .int .i64 x] w fun e w' => e = .returned (.tuple #[.int .i64 (degV N x), .int .i64 (degC N x)]) ∧ On w w' := by
  obtain ⟨a0, a1, c0, c1, rfl, r0, r1⟩ := Is.shape h
  have HO := Lib.hid (On.alloc (On.refl w) (.cells #[.slice a0 N.f0.length c0, .slice a1 N.f1.length c1] 27 (0, 0)))
  have HA := Lib.hid (show At (w.alloc (.cells #[.slice a0 N.f0.length c0, .slice a1 N.f1.length c1] 27 (0, 0))) w.heap.size N a0 a1 c0 c1 from ⟨by simp, by simp [go_sem], by simp [go_sem], r0.below HO.out, r1.below HO.out⟩)
  have HS := Lib.hid (spec_ok w.heap.size N a0 a1 c0 c1 _ hs HA.out)
  have HSM := Lib.hid hs
  clear r0 r1 hs h
  cases hok : okB N with
  | false =>
    rw [hok] at HS
    have en := Lib.hid (And.intro (degV_no (x := x) hok) (degC_no (x := x) hok))
    clear hok
    go_enter Try.func28, Try.ntmps28
    go_wp2_with fail
    refine HS.out.mono ?_
    rintro e w1 ⟨rfl, g1⟩
    go_wp2_with fail
    go_ret2
    exact ⟨ret_two en.out.1.symm en.out.2.symm, HO.out.trans g1⟩
  | true =>
    rw [hok] at HS
    have HK := Lib.hid (ok_of hok)
    cases hit : itemB N x with
    | false =>
      have en := Lib.hid (And.intro (degV_item (N := N) hit) (degC_item hok hit))
      have HIT := Lib.hid hit
      clear hok hit
      go_enter Try.func28, Try.ntmps28
      go_wp2_with fail
      refine HS.out.mono ?_
      rintro e w1 ⟨rfl, g1⟩
      have HG := Lib.hid g1
      clear g1
      go_wp2_with fail
      refine (spec_item _ N _ _ _ _ _ _ HSM.out.1.1 (HA.out.on HG.out)).mono ?_
      rintro e w2 ⟨rfl, rfl⟩
      rw [HIT.out]
      go_wp2_with fail
      go_ret2
      exact ⟨ret_two en.out.1.symm en.out.2.symm, HO.out.trans HG.out⟩
    | true =>
      have en := Lib.hid (And.intro (degV_yes hok hit) (degC_yes hok hit))
      have HIT := Lib.hid hit
      obtain ⟨i, hxi, hlt⟩ := of_item hit
      subst hxi
      have ENT := Lib.hid (show (i : Int).toNat = i from rfl)
      have HD := Lib.hid (fun w1 (h1 : On _ w1) => spec_degree _ N _ _ _ _ i w1 HK.out hlt (HA.out.on h1))
      clear hok hit
      go_enter Try.func28, Try.ntmps28
      go_wp2_with fail
      refine HS.out.mono ?_
      rintro e w1 ⟨rfl, g1⟩
      have HG := Lib.hid g1
      clear g1
      go_wp2_with fail
      refine (spec_item _ N _ _ _ _ _ _ HSM.out.1.1 (HA.out.on HG.out)).mono ?_
      rintro e w2 ⟨rfl, rfl⟩
      rw [HIT.out]
      go_wp2_with fail
      refine (HD.out _ HG.out).mono ?_
      rintro e w2 ⟨rfl, g2⟩
      have HG2 := Lib.hid (HG.out.trans g2)
      clear g2
      go_wp2_with fail
      go_ret2
      exact ⟨ret_two (en.out.1.trans (by rw [ENT.out])).symm en.out.2.symm, HO.out.trans HG2.out⟩
set_option maxHeartbeats 4000000 in
theorem impl_DegreeOf (v : Value) (N : T) (x : Int) (w : World) (hs : N.Small 1048576) (h : Prb.Is w v N) :
    Calls Try.prog 29 #[v, .int .i64 x] w fun e w' => e = .returned (.tuple #[.int .i64 (degV N x), .int .i64 (degC N x)]) ∧ On w w' := by
  have HV := Lib.hid (fun w1 (h1 : On w w1) => impl_ValidProblem v N w1 hs (h.on h1))
  have HT := Lib.hid (fun w1 (h1 : On w w1) => impl_item v N x w1 hs.1.1 (h.on h1))
  obtain ⟨a0, a1, c0, c1, rfl, r0, r1⟩ := Is.shape h
  have HR1 := Lib.hid r1
  clear r0 hs h r1
  cases hok : okB N with
  | false =>
    rw [hok] at HV
    have en := Lib.hid (And.intro (degV_no (x := x) hok) (degC_no (x := x) hok))
    clear hok
    go_enter Try.func29, Try.ntmps29
    go_wp2_with fail
    refine (HV.out _ (by repeat (first | with_reducible exact On.refl _ | with_reducible apply On.alloc))).mono ?_
    rintro e w1 ⟨rfl, g1⟩
    have HG := Lib.hid (show On w w1 by refine On.trans ?_ g1; repeat (first | with_reducible exact On.refl _ | with_reducible apply On.alloc))
    clear g1
    go_wp2_with fail
    go_ret2
    exact ⟨ret_two en.out.1.symm en.out.2.symm, HG.out⟩
  | true =>
    rw [hok] at HV
    have HK := Lib.hid (ok_of hok)
    cases hit : itemB N x with
    | false =>
      rw [hit] at HT
      have en := Lib.hid (And.intro (degV_item (N := N) hit) (degC_item hok hit))
      clear hok hit
      go_enter Try.func29, Try.ntmps29
      go_wp2_with fail
      refine (HV.out _ (by repeat (first | with_reducible exact On.refl _ | with_reducible apply On.alloc))).mono ?_
      rintro e w1 ⟨rfl, g1⟩
      obtain ⟨hcc, hff⟩ := bcell g1
      have HG := Lib.hid (show On w w1 by refine On.trans ?_ g1; repeat (first | with_reducible exact On.refl _ | with_reducible apply On.alloc))
      clear g1
      go_wp2_with fail
      refine (HT.out _ HG.out).mono ?_
      rintro e w2 ⟨rfl, g2⟩
      have HG2 := Lib.hid (HG.out.trans g2)
      clear g2
      go_wp2_with fail
      go_ret2
      exact ⟨ret_two en.out.1.symm en.out.2.symm, HG2.out⟩
    | true =>
      rw [hit] at HT
      have en := Lib.hid (And.intro (degV_yes hok hit) (degC_yes hok hit))
      obtain ⟨i, hxi, hlt⟩ := of_item hit
      subst hxi
      have ENT := Lib.hid (show (i : Int).toNat = i from rfl)
      have h1 := HK.out.n1
      have h2 := HK.out.n2
      obtain ⟨b, off, rfl, hb, hrow⟩ := rows_at HR1.out (by have := HK.out.len; omega) HK.out.len HK.out.row
      obtain ⟨b1, o1, d1, q1, hb1, hcell⟩ := hrow i hlt
      have HB := Lib.hid (sumTo_bd (z := N.f1.getD i []) (n := N.f0.length) (fun k hk2 => ⟨HK.out.lo i k hlt hk2, HK.out.hi i k hlt hk2⟩))
      have HD := Lib.hid (show sumTo (N.f1.getD i []) N.f0.length = deg N i from rfl)
      have HC := Lib.hid (show ∀ k, k < N.f0.length → w.cell? ⟨b1, o1 + k, none⟩ = some (.int .i64 ((N.f1.getD i []).getD k 0)) from hcell)
      have hl := HK.out.len
      rw [hl] at HV HT ⊢
      clear hok hit hcell hrow HR1 HK hl
      generalize N.f0.length = n at *
      generalize N.f1.getD i [] = z at *
      have hii : (i : Int) < (n : Int) := by omega
      go_enter Try.func29, Try.ntmps29
      go_wp2_with fail
      refine (HV.out _ (by repeat (first | with_reducible exact On.refl _ | with_reducible apply On.alloc))).mono ?_
      rintro e w1 ⟨rfl, g1⟩
      obtain ⟨hcc, hff⟩ := bcell g1
      have s0 : w.heap.size < w1.heap.size := by have := g1.size; simp at this; omega
      have HG := Lib.hid (show On w w1 by refine On.trans ?_ g1; repeat (first | with_reducible exact On.refl _ | with_reducible apply On.alloc))
      clear g1
      go_wp2_with fail
      refine (HT.out _ HG.out).mono ?_
      rintro e w2 ⟨rfl, g2⟩
      obtain ⟨hcc2, hff2⟩ := bcell g2
      have s1 : w.heap.size < w2.heap.size := by have := g2.size; omega
      have HG2 := Lib.hid (HG.out.trans g2)
      clear g2
      have q2 : w2.cell? ⟨b, off + i, none⟩ = some (.slice (some ⟨b1, o1, none⟩) n d1) := (HG2.out.cell (by exact hb)).trans q1
      have s2 := HG2.out.lts _ hb
      have s3 := HG2.out.lts _ hb1
      go_wp2_with fail
      go_loopw [6, 22] (fun s i wr => ∃ k : Nat, k ≤ n ∧ i = .int .i64 k ∧ s = .int .i64 (sumTo z k) ∧ On w wr) (fun _ i _ => n - (intOf i).toNat)
      case atStart => exact ⟨0, Nat.zero_le _, rfl, rfl, HG2.out⟩
      case round =>
        obtain ⟨k, hk, rfl, rfl, ho⟩ := hrel
        have HO := Lib.hid ho
        by_cases hlt2 : k < n
        · have hlti : (k : Int) < (n : Int) := by omega
          obtain ⟨x, hx⟩ : ∃ x, x = z.getD k 0 := ⟨_, rfl⟩
          have p3 : wr.cell? ⟨b1, o1 + k, none⟩ = some (.int .i64 x) := (ho.cell (by exact hb1)).trans (by rw [hx]; exact HC.out k hlt2)
          have s4 := ho.lts _ hb1
          have bd1 := HB.out k hk
          have bd2 := HB.out (k + 1) (by omega)
          have es : sumTo z (k + 1) = sumTo z k + x := by rw [hx]; rfl
          have ES := Lib.hid es
          rw [es] at bd2
          have bd3 : 0 ≤ sumTo z k + x := bd2.1
          have bd4 : sumTo z k + x ≤ 2400 := by have := bd2.2; omega
          clear hx bd2 es ho
          generalize sumTo z k = s at *
          go_wp2_with fail
          go_roundw
          case rel => exact ⟨k + 1, by omega, by go_num, by rw [ES.out], HO.out⟩
          case measure => simp [intOf]; omega
        · obtain rfl : k = n := by omega
          clear ho
          rw [HD.out]
          go_wp2_with fail
          go_ret2
          exact ⟨ret_two (en.out.1.trans (by rw [ENT.out])).symm en.out.2.symm, HO.out⟩
end Go.Proofs.Ytofoffdmhekceaa.Con
