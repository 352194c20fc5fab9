
/-
  The highest point of a terrain: plain facts, and the model's. Condition: at most 1048576 heights and classes.
-/
import Derived.Test.YtmpeogmlnajliaaItP
import Derived.BigRegion
namespace Go.Proofs.Ytmpeogmlnajliaa.Hp
open Go.RowKit
open Plain
open Ints (Ints Own)
open Terr (okT TIn of_okT slice_of spec_okT of_size prod_n)

/-- The first highest one of the first k heights. -/
def top (zs : List Int) : Nat → Nat
  | 0 => 0
  | k + 1 => if zs.getD (top zs k) 0 < zs.getD k 0 then k else top zs k
theorem top_lt (zs : List Int) : ∀ k, 0 < k → top zs k < k
  | 0, h => by omega
  | k + 1, _ => by
    by_cases hk : k = 0
    · subst hk; simp [top]
    · have := top_lt zs k (by omega)
      simp only [top]; split <;> omega
theorem top_one (zs : List Int) : top zs 1 = 0 := by simp [top]
theorem top_yes {zs : List Int} {k : Nat} (h : zs.getD (top zs k) 0 < zs.getD k 0) : top zs (k + 1) = k := if_pos h
theorem top_no {zs : List Int} {k : Nat} (h : ¬ zs.getD (top zs k) 0 < zs.getD k 0) : top zs (k + 1) = top zs k := if_neg h
def hpX (s x y : Int) (zs cs : List Int) : Int := if okT s x y zs cs = true then plX s x (top zs zs.length) else 0
def hpY (s x y : Int) (zs cs : List Int) : Int := if okT s x y zs cs = true then plY s x (top zs zs.length) else 0
def hpH (s x y : Int) (zs cs : List Int) : Int := if okT s x y zs cs = true then zs.getD (top zs zs.length) 0 else 0
def hpC (s x y : Int) (zs cs : List Int) : Int := if okT s x y zs cs = true then 0 else 1
theorem hp_no {s x y : Int} {zs cs : List Int} (h : okT s x y zs cs = false) : hpX s x y zs cs = 0 ∧ hpY s x y zs cs = 0 ∧ hpH s x y zs cs = 0 ∧ hpC s x y zs cs = 1 :=
  ⟨if_neg (by rw [h]; simp), if_neg (by rw [h]; simp), if_neg (by rw [h]; simp), if_neg (by rw [h]; simp)⟩
theorem hp_yes {s x y : Int} {zs cs : List Int} (h : okT s x y zs cs = true) : hpX s x y zs cs = plX s x (top zs zs.length) ∧ hpY s x y zs cs = plY s x (top zs zs.length) ∧ hpH s x y zs cs = zs.getD (top zs zs.length) 0 ∧ hpC s x y zs cs = 0 :=
  ⟨if_pos h, if_pos h, if_pos h, if_pos h⟩
theorem ret_hp {a b c d a' b' c' d' : Int} (h : a = a' ∧ b = b' ∧ c = c' ∧ d = d') : Ending.returned (.tuple #[.agg #[.int .i64 a, .int .i64 b], .int .i64 c, .int .i64 d]) = .returned (.tuple #[.agg #[.int .i64 a', .int .i64 b'], .int .i64 c', .int .i64 d']) := by
  obtain ⟨rfl, rfl, rfl, rfl⟩ := h; rfl
set_option maxRecDepth 100000 in
set_option maxHeartbeats 8000000 in
theorem spec_HighestPoint (s x y : Int) (a b : Option Addr) (n cap m dap : Nat) (zs cs : List Int) (w : World) (hzn : zs.length = n) (hcm : cs.length = m) (hn : n ≤ 1048576) (hm : m ≤ 1048576) (h : Ints w (.slice a n cap) zs) (k : Ints w (.slice b m dap) cs) :
    Calls Try.prog 13 #[.agg #[.int .i64 s, .int .i64 x, .int .i64 y, .slice a n cap, .slice b m dap]] w fun e w' => e = .returned (.tuple #[.agg #[.int .i64 (hpX s x y zs cs), .int .i64 (hpY s x y zs cs)], .int .i64 (hpH s x y zs cs), .int .i64 (hpC s x y zs cs)]) ∧ On w w' := by
  have HO := Lib.hid (fun w' (hb : On w w') hp => spec_okT w.heap.size n cap m dap s x y a b zs cs w' hzn hcm hn hm hp (h.below hb) (k.below hb))
  cases hok : okT s x y zs cs with
  | false =>
    have en := Lib.hid (hp_no hok)
    rw [hok] at HO
    clear h k hzn hcm
    go_enter Try.func13, Try.ntmps13
    go_wp2_with fail
    refine (HO.out _ (by repeat (first | with_reducible exact On.refl _ | apply On.alloc)) ⟨by simp [go_sem], by simp [go_sem], by simp [go_sem], by simp [go_sem], by simp [go_sem]⟩).mono ?_
    rintro e w1 ⟨rfl, h1⟩
    obtain ⟨hc, hf⟩ := bcell h1
    obtain ⟨z0, z1⟩ : w.heap.size < w1.heap.size ∧ w.heap.size + 1 < w1.heap.size := by have := h1.size; simp at this; omega
    have HO1 : On w w1 := by refine On.trans ?_ h1; repeat (first | with_reducible exact On.refl _ | apply On.alloc)
    go_wp2_with fail
    refine bodyPost_ret (v := .tuple #[.agg #[.int .i64 0, .int .i64 0], .int .i64 0, .int .i64 1]) (by simp [results, Try.results13, go_sem, hc]) rfl ⟨ret_hp ⟨en.out.1.symm, en.out.2.1.symm, en.out.2.2.1.symm, en.out.2.2.2.symm⟩, ?_⟩
    repeat (first | with_reducible exact HO1 | refine On.setCell ?_ (by (try simp) <;> omega) _)
  | true =>
    obtain ⟨hs, hl, -, -⟩ := of_okT hok
    obtain ⟨⟨s0, s1⟩, ⟨x0, x1⟩, ⟨y0, y1⟩, -, -⟩ := of_size hs
    obtain ⟨p0, p1⟩ := prod_n x0 x1 y0 y1
    have en := hp_yes hok
    rw [hok] at HO
    rw [hzn] at hl en
    have n4 : 4 ≤ n := by omega
    have n5 : n ≤ 576 := by omega
    obtain ⟨bz, oz, rfl, hbz, hcz⟩ := slice_of h hzn (by omega)
    have hT := top_lt zs n (by omega)
    obtain ⟨⟨r0, r1⟩, ⟨q0, q1⟩, ⟨c0, c1⟩, d0, d1⟩ := pl_bd s0 s1 x0 x1 y0 y1 hl hT
    have HPB := Lib.hid (pl_bd (k := top zs n) s0 s1 x0 x1 y0 y1 hl hT)
    have EN := Lib.hid en
    have HZ := Lib.hid hcz
    have HL := Lib.hid hl
    clear h k hzn hcm hcz hok hs en r0 r1 q0 q1 c0 c1 d0 d1
    go_enter Try.func13, Try.ntmps13
    go_wp2_with fail
    refine (HO.out _ (by repeat (first | with_reducible exact On.refl _ | apply On.alloc)) ⟨by simp [go_sem], by simp [go_sem], by simp [go_sem], by simp [go_sem], by simp [go_sem]⟩).mono ?_
    rintro e w1 ⟨rfl, h1⟩
    have HT1 := Lib.hid (show TIn w1 w.heap.size s x y (.slice (some ⟨bz, oz, none⟩) n cap) (.slice b m dap) from TIn.on ⟨by simp [go_sem], by simp [go_sem], by simp [go_sem], by simp [go_sem], by simp [go_sem]⟩ h1)
    have HR1 := Lib.hid (show w1.cell? ⟨w.heap.size + 1, 0, none⟩ = some (.int .i64 0) ∧ w1.cell? ⟨w.heap.size + 1, 1, none⟩ = some (.int .i64 0) ∧ w1.frozen? ⟨w.heap.size + 1, 0, none⟩ = false ∧ w1.frozen? ⟨w.heap.size + 1, 1, none⟩ = false ∧ w.heap.size + 1 < w1.heap.size from
      ⟨(h1.cell (by simp)).trans (by simp [go_sem]), (h1.cell (by simp)).trans (by simp [go_sem]), (h1.frozen (by simp)).trans (by simp [go_sem]), (h1.frozen (by simp)).trans (by simp [go_sem]), by have := h1.size; simp at this; omega⟩)
    have HO1 := Lib.hid (show On w w1 by refine On.trans ?_ h1; repeat (first | with_reducible exact On.refl _ | apply On.alloc))
    clear h1 hl
    go_wp2_with fail
    go_loopw [5, 6] (fun u5 u6 wr => ∃ k : Nat, 1 ≤ k ∧ k ≤ n ∧ u6 = .int .i64 (k : Int) ∧ u5 = .int .i64 (top zs k : Nat) ∧ On w1 wr) (fun _ i _ => n - (intOf i).toNat)
    case atStart => exact ⟨1, by omega, by omega, rfl, by rw [top_one]; rfl, On.refl _⟩
    case round =>
      obtain ⟨k, hk1, hk, rfl, rfl, g1⟩ := hrel
      obtain ⟨t0, t1, t2, t3, t4⟩ := HT1.out.on g1
      have HG := Lib.hid g1
      have hTk := top_lt zs k (by omega)
      by_cases hlt : k < n
      · have hki : (k : Int) < (n : Int) := by omega
        have zk : wr.cell? ⟨bz, oz + k, none⟩ = some (.int .i64 (zs.getD k 0)) := (g1.cell (by exact HO1.out.lts _ hbz)).trans ((HO1.out.cell (by exact hbz)).trans (HZ.out k hlt))
        have zt : wr.cell? ⟨bz, oz + top zs k, none⟩ = some (.int .i64 (zs.getD (top zs k) 0)) := (g1.cell (by exact HO1.out.lts _ hbz)).trans ((HO1.out.cell (by exact hbz)).trans (HZ.out _ (by omega)))
        have TY := Lib.hid (fun h => top_yes (zs := zs) (k := k) h)
        have TN := Lib.hid (fun h => top_no (zs := zs) (k := k) h)
        obtain ⟨t, ht⟩ : ∃ t, t = top zs k := ⟨_, rfl⟩
        rw [← ht] at zt hTk TY TN ⊢
        have hti : (t : Int) < (n : Int) := by omega
        have htn : t < n := by omega
        obtain ⟨z1, hz1⟩ : ∃ z, z = zs.getD k 0 := ⟨_, rfl⟩
        obtain ⟨z2, hz2⟩ : ∃ z, z = zs.getD t 0 := ⟨_, rfl⟩
        rw [← hz1] at zk TY TN
        rw [← hz2] at zt TY TN
        clear g1 hz1 hz2 ht
        by_cases hgt : z2 < z1
        · have T := Lib.hid (TY.out hgt)
          clear TY TN
          go_wp2_with fail
          go_region
          all_goals
            go_wp2_with fail
            go_roundw
            case rel => exact ⟨k + 1, by omega, by omega, by go_num, by rw [T.out], by repeat (first | with_reducible exact HG.out | apply On.drew)⟩
            case measure => simp [intOf]; omega
        · have T := Lib.hid (TN.out hgt)
          clear TY TN
          go_wp2_with fail
          go_region
          all_goals
            go_wp2_with fail
            go_roundw
            case rel => exact ⟨k + 1, by omega, by omega, by go_num, by rw [T.out], by repeat (first | with_reducible exact HG.out | apply On.drew)⟩
            case measure => simp [intOf]; omega
      · obtain rfl : k = n := by omega
        have hki : ¬ ((k : Int) < (k : Int)) := by omega
        have zt : wr.cell? ⟨bz, oz + top zs k, none⟩ = some (.int .i64 (zs.getD (top zs k) 0)) := (g1.cell (by exact HO1.out.lts _ hbz)).trans ((HO1.out.cell (by exact hbz)).trans (HZ.out _ (by omega)))
        have b0 : wr.cell? ⟨w.heap.size + 1, 0, none⟩ = some (.int .i64 0) := (g1.cell (by exact HR1.out.2.2.2.2)).trans HR1.out.1
        have b1 : wr.cell? ⟨w.heap.size + 1, 1, none⟩ = some (.int .i64 0) := (g1.cell (by exact HR1.out.2.2.2.2)).trans HR1.out.2.1
        have f0 : wr.frozen? ⟨w.heap.size + 1, 0, none⟩ = false := (g1.frozen (by exact HR1.out.2.2.2.2)).trans HR1.out.2.2.1
        have f1 : wr.frozen? ⟨w.heap.size + 1, 1, none⟩ = false := (g1.frozen (by exact HR1.out.2.2.2.2)).trans HR1.out.2.2.2.1
        have sz1 := g1.lts _ HR1.out.2.2.2.2
        obtain ⟨⟨r0, r1⟩, ⟨q0, q1⟩, ⟨c0, c1⟩, d0, d1⟩ := HPB.out
        have en := EN.out
        unfold plX plY at en
        have tx : ((top zs k : Nat) : Int).tdiv x = ((top zs k : Nat) : Int) / x := Int.tdiv_eq_ediv_of_nonneg (by omega)
        have tm : ((top zs k : Nat) : Int).tmod x = ((top zs k : Nat) : Int) % x := Int.tmod_eq_emod_of_nonneg (by omega)
        obtain ⟨t, ht⟩ : ∃ t, t = top zs k := ⟨_, rfl⟩
        rw [← ht] at zt hTk en tx tm r0 r1 q0 q1 c0 c1 d0 d1 ⊢
        generalize (t : Int) / x = Q at *
        generalize (t : Int) % x = R at *
        generalize zs.getD t 0 = z at *
        have hti : (t : Int) < (k : Int) := by omega
        have wq : IntKind.i64.wrap Q = Q := IntWalk.i64_in _ (by omega)
        have wr' : IntKind.i64.wrap R = R := IntWalk.i64_in _ (by omega)
        have e1 : IntKind.i64.wrap (R * s) = R * s := IntWalk.i64_in _ (by omega)
        have e2 : IntKind.i64.wrap (Q * s) = Q * s := IntWalk.i64_in _ (by omega)
        have xn : ¬ x = 0 := by omega
        have n1 : ¬ bz = w.heap.size + 1 := by omega
        have n2 : ¬ w.heap.size + 1 = bz := by omega
        have EN2 := Lib.hid en
        clear g1 ht en EN
        go_wp2_with fail
        go_region
        all_goals
          go_wp2_with fail
          refine bodyPost_ret (v := .tuple #[.agg #[.int .i64 (R * s), .int .i64 (Q * s)], .int .i64 z, .int .i64 0]) (by simp [results, Try.results13, go_sem, b0, b1]) rfl ⟨ret_hp ⟨EN2.out.1.symm, EN2.out.2.1.symm, EN2.out.2.2.1.symm, EN2.out.2.2.2.symm⟩, ?_⟩
          repeat (first | with_reducible exact HO1.out.trans HG.out | apply On.drew | refine On.setCell ?_ (by (try simp) <;> omega) _)
end Go.Proofs.Ytmpeogmlnajliaa.Hp
