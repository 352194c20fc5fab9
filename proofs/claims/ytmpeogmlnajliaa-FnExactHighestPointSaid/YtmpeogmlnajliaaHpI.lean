
/-
  The highest point of a terrain, in the program. Condition: at most 1048576 heights and classes.
-/
import Derived.Test.YtmpeogmlnajliaaHp
import Derived.Handy
import Derived.RegionIn
import Derived.BigRegionIn
import Derived.Sort.CutIn
namespace Go.Proofs.Ytmpeogmlnajliaa.Hp
open Go.RowKit Go.Shelf
open Plain
open Ints (Ints Own)
open Terr (okT TIn of_okT slice_of of_size prod_n impl_validT)
attribute [local go_sem] Oper.semAt_some

theorem points (s x y : Int) (w : World) :
    Calls Try.prog 35 #[.agg #[.int .i64 s, .int .i64 x, .int .i64 y]] w fun e w' =>
      e = .returned (.func (Fn.func 50) #[] #[.pointer (some ⟨w.heap.size, 0, none⟩)]) ∧ (w'.cell? ⟨w.heap.size, 0, none⟩ = some (.int .i64 s) ∧ w'.cell? ⟨w.heap.size, 1, none⟩ = some (.int .i64 x) ∧ w'.cell? ⟨w.heap.size, 2, none⟩ = some (.int .i64 y)) ∧ On w w' := by
  go_enter Try.func35, Try.ntmps35
  go_wp2_with fail
  go_ret
  exact ⟨rfl, ⟨by simp [go_sem], by simp [go_sem], by simp [go_sem]⟩, by repeat (first | with_reducible exact On.refl _ | apply On.alloc)⟩
theorem heap_other {w : World} {p : Addr} {v : Value} {g : Nat} (h : g ≠ p.block) : (w.setCell p v).heap[g]? = w.heap[g]? := by
  simp only [World.setCell, Array.getElem?_modify]
  rw [if_neg (fun e => h e.symm)]
/-- The best one of the indices that have come. -/
def best (zs : List Int) (n : Nat) (pre : List Nat) : Nat := pre.foldl (fun t i => if zs.getD t 0 < zs.getD (cl n i) 0 then cl n i else t) 0
theorem best_snoc (zs : List Int) (n : Nat) (pre : List Nat) (i : Nat) : best zs n (pre ++ [i]) = if zs.getD (best zs n pre) 0 < zs.getD (cl n i) 0 then cl n i else best zs n pre := by unfold best; rw [List.foldl_append]; rfl
theorem best_range (zs : List Int) (n : Nat) : ∀ k, k ≤ n → best zs n (List.range k) = top zs k
  | 0, _ => rfl
  | k + 1, h => by rw [range_succ, best_snoc, best_range zs n k (by omega), cl_of (by omega)]; rfl
/-- What a round finds: the best place and height, in two blocks. -/
structure Lies (s x : Int) (zs : List Int) (c5 c6 t : Nat) (W : World) : Prop where
  px : W.cell? ⟨c5, 0, none⟩ = some (.int .i64 (plX s x t))
  py : W.cell? ⟨c5, 1, none⟩ = some (.int .i64 (plY s x t))
  ht : W.cell? ⟨c6, 0, none⟩ = some (.int .i64 (zs.getD t 0))
  g0 : W.frozen? ⟨c5, 0, none⟩ = false
  g1 : W.frozen? ⟨c5, 1, none⟩ = false
  g2 : W.frozen? ⟨c6, 0, none⟩ = false
theorem Lies.on {s x : Int} {zs : List Int} {c5 c6 t : Nat} {w w' : World} (h : Lies s x zs c5 c6 t w) (ho : On w w') : Lies s x zs c5 c6 t w' :=
  ⟨(ho.cell (World.block_lt_of_cell? w _ h.px)).trans h.px, (ho.cell (World.block_lt_of_cell? w _ h.py)).trans h.py, (ho.cell (World.block_lt_of_cell? w _ h.ht)).trans h.ht,
    (ho.frozen (World.block_lt_of_cell? w _ h.px)).trans h.g0, (ho.frozen (World.block_lt_of_cell? w _ h.py)).trans h.g1, (ho.frozen (World.block_lt_of_cell? w _ h.ht)).trans h.g2⟩
set_option maxRecDepth 100000 in
set_option maxHeartbeats 16000000 in
theorem impl_HighestPoint (s x y : Int) (a b : Option Addr) (n cap m dap : Nat) (zs cs : List Int) (w : World) (hzn : zs.length = n) (hcm : cs.length = m) (hn : n ≤ 1048576) (hm : m ≤ 1048576) (h : Ints w (.slice a n cap) zs) (k : Ints w (.slice b m dap) cs) :
    Calls Try.prog 15 #[.agg #[.int .i64 s, .int .i64 x, .int .i64 y, .slice a n cap, .slice b m dap]] w fun e w' => e = .returned (.tuple #[.agg #[.int .i64 (hpX s x y zs cs), .int .i64 (hpY s x y zs cs)], .int .i64 (hpH s x y zs cs), .int .i64 (hpC s x y zs cs)]) ∧ On w w' := by
  have HV := Lib.hid (fun w' (hb : On w w') => impl_validT s x y a b n cap m dap zs cs w' hzn hcm hn hm (h.below hb) (k.below hb))
  cases hok : okT s x y zs cs with
  | false =>
    have en := Lib.hid (hp_no hok)
    rw [hok] at HV
    clear h k hzn hcm
    go_enter Try.func15, Try.ntmps15
    go_wp2_with fail
    refine (HV.out _ (by repeat (first | with_reducible exact On.refl _ | apply On.alloc))).mono ?_
    rintro e w1 ⟨rfl, h1⟩
    obtain ⟨hc, hf⟩ := bcell h1
    obtain ⟨z0, z1⟩ : w.heap.size < w1.heap.size ∧ w.heap.size + 1 < w1.heap.size := by have := h1.size; simp at this; omega
    have HO1 : On w w1 := by refine On.trans ?_ h1; repeat (first | with_reducible exact On.refl _ | apply On.alloc)
    go_wp2_with fail
    refine bodyPost_ret (v := .tuple #[.agg #[.int .i64 0, .int .i64 0], .int .i64 0, .int .i64 1]) (by simp [results, Try.results15, go_sem, hc]) rfl ⟨ret_hp ⟨en.out.1.symm, en.out.2.1.symm, en.out.2.2.1.symm, en.out.2.2.2.symm⟩, ?_⟩
    repeat (first | with_reducible exact HO1 | refine On.setCell ?_ (by (try simp) <;> omega) _)
  | true =>
    obtain ⟨hs, hl, -, -⟩ := of_okT hok
    obtain ⟨⟨s0, s1⟩, ⟨x0, x1⟩, ⟨y0, y1⟩, -, -⟩ := of_size hs
    obtain ⟨p0, p1⟩ := prod_n x0 x1 y0 y1
    have en := hp_yes hok
    rw [hok] at HV
    rw [hzn] at hl en
    have n4 : 4 ≤ n := by omega
    have n5 : n ≤ 576 := by omega
    obtain ⟨bz, oz, rfl, hbz, hcz⟩ := slice_of h hzn (by omega)
    have EN := Lib.hid en
    have HZ := Lib.hid hcz
    have HL := Lib.hid hl
    clear h k hzn hcm hcz hok hs en hl
    refine (callsIn_wide (n := 6)).1 ?_
    refine callsIn_of_wp_marks Try.func15 rfl trivial ?_ rfl
    simp only [Try.ntmps15, List.size_toArray, List.length_cons, List.length_nil, Nat.reduceAdd, Nat.reduceSub, Array.replicate_succ, Array.replicate_zero, List.push_toArray, List.append_toArray, List.nil_append, List.cons_append]
    gi_wp2
    refine ⟨trivial, (callsIn_wide.2 (HV.out _ (by repeat (first | with_reducible exact On.refl _ | apply On.alloc)))).mono ?_⟩
    rintro e w1 ⟨rfl, h1⟩
    have HT1 := Lib.hid (show TIn w1 w.heap.size s x y (.slice (some ⟨bz, oz, none⟩) n cap) (.slice b m dap) from TIn.on ⟨by simp [go_sem], by simp [go_sem], by simp [go_sem], by simp [go_sem], by simp [go_sem]⟩ h1)
    have HR1 := Lib.hid (show w1.cell? ⟨w.heap.size + 1, 0, none⟩ = some (.int .i64 0) ∧ w1.cell? ⟨w.heap.size + 1, 1, none⟩ = some (.int .i64 0) ∧ w1.frozen? ⟨w.heap.size + 1, 0, none⟩ = false ∧ w1.frozen? ⟨w.heap.size + 1, 1, none⟩ = false ∧ w.heap.size + 1 < w1.heap.size from
      ⟨(h1.cell (by simp)).trans (by simp [go_sem]), (h1.cell (by simp)).trans (by simp [go_sem]), (h1.frozen (by simp)).trans (by simp [go_sem]), (h1.frozen (by simp)).trans (by simp [go_sem]), by have := h1.size; simp at this; omega⟩)
    have HO1 := Lib.hid (show On w w1 by refine On.trans ?_ h1; repeat (first | with_reducible exact On.refl _ | apply On.alloc))
    have HZ1 := Lib.hid (fun (W : World) (g : On w1 W) (i : Nat) (hi : i < n) => show W.cell? ⟨bz, oz + i, none⟩ = some (.int .i64 (zs.getD i 0)) from (g.cell (by exact HO1.out.lts _ hbz)).trans ((HO1.out.cell (by exact hbz)).trans (HZ.out i hi)))
    have zf : w1.cell? ⟨bz, oz, none⟩ = some (.int .i64 (zs.getD 0 0)) := HZ1.out w1 (On.refl _) 0 (by omega)
    obtain ⟨z0, hz0⟩ : ∃ z, z = zs.getD 0 0 := ⟨_, rfl⟩
    have HZ0 := Lib.hid hz0
    rw [← hz0] at zf
    obtain ⟨t0, t1, t2, t3, t4⟩ := HT1.out
    have n0 : (0 : Int) < (n : Int) := by omega
    have n0' : 0 < n := by omega
    have lw := HO1.out.size
    have lw1 : w.heap.size < w1.heap.size := by have := HR1.out.2.2.2.2; omega
    have lb := HO1.out.lts _ hbz
    clear h1 hz0
    gi_wp2
    gi_cut [5, 6] from 38 (fun u5 u6 wx => ∃ c5 c6, u5 = .pointer (some ⟨c5, 0, none⟩) ∧ u6 = .pointer (some ⟨c6, 0, none⟩) ∧ w1.heap.size ≤ c5 ∧ w1.heap.size ≤ c6 ∧ c5 ≠ c6 ∧ (wx.cell? ⟨c5, 0, none⟩ = some (.int .i64 0) ∧ wx.cell? ⟨c5, 1, none⟩ = some (.int .i64 0) ∧ wx.cell? ⟨c6, 0, none⟩ = some (.int .i64 z0)) ∧ (wx.frozen? ⟨c5, 0, none⟩ = false ∧ wx.frozen? ⟨c5, 1, none⟩ = false ∧ wx.frozen? ⟨c6, 0, none⟩ = false) ∧ On w1 wx)
    case first =>
      gi_region
      all_goals
        gi_wp2
        gi_meet
        exact ⟨_, _, rfl, rfl, by simp, by simp, by simp, ⟨by simp [go_sem], by simp [go_sem], by simp [go_sem]⟩, ⟨by simp [go_sem], by simp [go_sem], by simp [go_sem]⟩, by repeat (first | with_reducible exact On.refl _ | apply On.alloc | apply On.drew | refine On.setCell ?_ (by (try simp) <;> omega) _)⟩
    case rest =>
      obtain ⟨c5, c6, rfl, rfl, hc5, hc6, hcc, ⟨hx0, hy0, hh0⟩, ⟨gx, gy, gh⟩, hOc⟩ := hcut
      have HLI := Lib.hid (show Lies s x zs c5 c6 0 wc from ⟨by rw [hx0]; unfold plX; simp, by rw [hy0]; unfold plY; simp, by rw [hh0, HZ0.out], gx, gy, gh⟩)
      have HOC := Lib.hid hOc
      have l5 := World.block_lt_of_cell? wc _ hx0
      have l6 := World.block_lt_of_cell? wc _ hh0
      clear t0 t1 t2 t3 t4 zf
      obtain ⟨t0, t1, t2, t3, t4⟩ := HT1.out.on hOc
      clear hx0 hy0 hh0 gx gy gh hOc
      gi_wp2
      refine ⟨trivial, (callsIn_wide.2 (Terr.impl_grid s x y _ _ _ _ _ _ _)).mono ?_⟩
      rintro e w2 ⟨rfl, h2⟩
      have HO2 := Lib.hid (show On wc w2 from h2)
      clear h2
      gi_wp2
      refine ⟨trivial, (callsIn_wide.2 (points s x y _)).mono ?_⟩
      rintro e w3 ⟨rfl, hg3, h3⟩
      have HG3 := Lib.hid hg3
      have HO3 := Lib.hid (HO2.out.trans h3)
      clear hg3 h3 t0 t1 t2 t3 t4
      have hw3 : w1.heap.size ≤ w3.heap.size := by have := HOC.out.size; have := HO3.out.size; omega
      have z5 := HO3.out.lts _ l5
      have z6 := HO3.out.lts _ l6
      have z2 : ¬ (w2.heap.size = c5 ∨ w2.heap.size = c6) := by have := HO2.out.size; omega
      have HL3 := Lib.hid (HLI.out.on HO3.out)
      have HO13 := Lib.hid (HOC.out.trans HO3.out)
      gi_wp2
      refine wpIn_rangeFunc_ownH (α := Nat) rfl (by omega) (gf := 50) (lb := #[.pointer (some ⟨w2.heap.size, 0, none⟩)]) rfl trivial (enters_of Try.func50 (by kernel_rfl) rfl)
        (iter_points 5 (by omega) (fun k => k = c5 ∨ k = c6) w2.heap.size n s x y w3 s0 s1 x0 x1 y0 y1 HL.out HG3.out.1 HG3.out.2.1 HG3.out.2.2 z2)
        (fun h k => Kp.trans h k) (fun W l o o' _ h hc _ => Kp.put W l o o' h hc) (Below.refl _ _) (fun _ => rfl)
        (fun pre W => Lies s x zs c5 c6 (best zs n pre) W ∧ Below w1.heap.size w1 W)
        (fun _ _ _ => False)
        (OwnFrom.and (Own.from (fun pre A Bw row hs hg hr => ⟨cell_kept hs.px hg hr, cell_kept hs.py hg hr, cell_kept hs.ht hg hr, (frozen_kept hs.px hg hr).trans hs.g0, (frozen_kept hs.py hg hr).trans hs.g1, (frozen_kept hs.ht hg hr).trans hs.g2⟩) _) (ownFrom_below (Nat.le_refl _) hw3))
        (fun _ _ _ _ _ hs _ _ => hs)
        ⟨HL3.out, HO13.out⟩
        (fun i a' W => ∃ p, a' = { tmps := #[Value.agg #[Value.int IntKind.i64 s, Value.int IntKind.i64 x, Value.int IntKind.i64 y, Value.slice (some ⟨bz, oz, none⟩) n cap, Value.slice b m dap], Value.pointer (some ⟨w.heap.size, 0, none⟩), Value.pointer (some ⟨w.heap.size + 1, 0, none⟩), Value.int IntKind.i64 0, Value.int IntKind.i64 0, Value.pointer (some ⟨c5, 0, none⟩), Value.pointer (some ⟨c6, 0, none⟩), Value.int IntKind.i64 ((cl n i : Nat) : Int), Value.pointer (some ⟨p, 0, none⟩), Value.agg #[Value.int IntKind.i64 s, Value.int IntKind.i64 x, Value.int IntKind.i64 y, Value.slice (some ⟨bz, oz, none⟩) n cap, Value.slice b m dap], Value.bool true, Value.bool false, undef, u13, u14, u15, u16, u17, Value.agg #[Value.int IntKind.i64 s, Value.int IntKind.i64 x, Value.int IntKind.i64 y, Value.slice (some ⟨bz, oz, none⟩) n cap, Value.slice b m dap], Value.agg #[Value.int IntKind.i64 s, Value.int IntKind.i64 x, Value.int IntKind.i64 y], Value.func (Fn.func 50) #[] #[Value.pointer (some ⟨w2.heap.size, 0, none⟩)], Value.int IntKind.i64 ((cl n i : Nat) : Int), Value.agg #[Value.int IntKind.i64 (plX s x (cl n i)), Value.int IntKind.i64 (plY s x (cl n i))], undef, undef, undef, undef, undef, undef, undef, undef, undef, undef, undef, undef, undef, undef, undef], defers := [] } ∧ w1.heap.size ≤ p ∧ p ≠ c5 ∧ p ≠ c6 ∧ W.cell? ⟨p, 0, none⟩ = some (.int .i64 (plX s x (cl n i))) ∧ W.cell? ⟨p, 1, none⟩ = some (.int .i64 (plY s x (cl n i))))
        (fun i a' => Own.from (fun _ A Bw row hs hg hr => by obtain ⟨p, h1, h2, h3, h4, h5, h6⟩ := hs; exact ⟨p, h1, h2, h3, h4, cell_kept h5 hg hr, cell_kept h6 hg hr⟩) _) ?assign ?body ?done ?stop
      case assign =>
        rintro l pre i W K ⟨hLi, hOn⟩ hK
        have hOn : On w1 W := hOn
        have q5 := World.block_lt_of_cell? W _ hLi.px
        have q6 := World.block_lt_of_cell? W _ hLi.ht
        gi_wp2
        refine hK _ _ ((KeepsOthers.alloc _ _).from _) (Kp.of_on (On.alloc (On.refl _) _)) ⟨hLi.on (On.alloc (On.refl _) _), On.alloc hOn _⟩ ⟨W.heap.size, rfl, hOn.size, by omega, by omega, ?_, ?_⟩
        · simp [go_sem]
        · simp [go_sem]
      case body =>
        rintro lp pre i a' W hlp - ⟨hLi, hOn⟩ ⟨p, rfl, hp1, hp5, hp6, hp0, hpy⟩ -
        have hOn : On w1 W := hOn
        have E := Lib.hid (best_snoc zs n pre i)
        have hjn := cl_lt n0' i
        have zj : W.cell? ⟨bz, oz + cl n i, none⟩ = some (.int .i64 (zs.getD (cl n i) 0)) := HZ1.out W hOn _ hjn
        have HLI2 := Lib.hid hLi
        have HON := Lib.hid hOn
        obtain ⟨t0, t1, t2, t3, t4⟩ := HT1.out.on hOn
        obtain ⟨k0, k1, k2, k3, k4, k5⟩ := hLi
        have lWw := hOn.lts _ lw1
        have lWb := hOn.lts _ lb
        have q5 := World.block_lt_of_cell? W _ k0
        have q6 := World.block_lt_of_cell? W _ k2
        have qp := World.block_lt_of_cell? W _ hp0
        have TAKE := Lib.hid (show zs.getD (best zs n pre) 0 < zs.getD (cl n i) 0 → best zs n (pre ++ [i]) = cl n i from fun h => by rw [E.out, if_pos h])
        have KEEP := Lib.hid (show ¬ zs.getD (best zs n pre) 0 < zs.getD (cl n i) 0 → best zs n (pre ++ [i]) = best zs n pre from fun h => by rw [E.out, if_neg h])
        have d1 : ¬ c5 = w.heap.size := by omega
        have d2 : ¬ c6 = w.heap.size := by omega
        have d3 : ¬ c5 = bz := by omega
        have d4 : ¬ c6 = bz := by omega
        have d5 : ¬ c5 = p := by omega
        have d6 : ¬ c6 = p := by omega
        have d7 : ¬ w.heap.size = c5 := by omega
        have d8 : ¬ w.heap.size = c6 := by omega
        have d9 : ¬ bz = c5 := by omega
        have d10 : ¬ bz = c6 := by omega
        have d11 : ¬ c5 = c6 := hcc
        have d12 : ¬ c6 = c5 := fun e => hcc e.symm
        clear E hOn
        obtain ⟨j, hj⟩ : ∃ j, j = cl n i := ⟨_, rfl⟩
        rw [← hj] at hjn zj TAKE KEEP hp0 hpy ⊢
        have hji : (j : Int) < (n : Int) := by omega
        obtain ⟨z, hz⟩ : ∃ z, z = zs.getD j 0 := ⟨_, rfl⟩
        have HZJ := Lib.hid hz
        obtain ⟨zb, hzb⟩ : ∃ z, z = zs.getD (best zs n pre) 0 := ⟨_, rfl⟩
        have HZB := Lib.hid hzb
        rw [← hz] at zj TAKE KEEP
        rw [← hzb] at k2 TAKE KEEP
        generalize plX s x (best zs n pre) = bx at *
        generalize plY s x (best zs n pre) = bY at *
        obtain ⟨jx, hjx⟩ : ∃ q, q = plX s x j := ⟨_, rfl⟩
        obtain ⟨jy, hjy⟩ : ∃ q, q = plY s x j := ⟨_, rfl⟩
        have HJX := Lib.hid hjx
        have HJY := Lib.hid hjy
        rw [← hjx] at hp0 ⊢
        rw [← hjy] at hpy ⊢
        clear hj hz hzb hjx hjy
        by_cases hgt : zb < z
        · have T := Lib.hid (TAKE.out hgt)
          clear TAKE KEEP
          gi_wp2
          gi_cut [29] from 38 (fun u29 wx => u29 = .bool true ∧ wx = W.drew)
          case first =>
            gi_region
            all_goals
              gi_wp2
              gi_meet
              exact ⟨by first | rfl | (simp; omega), rfl⟩
          case rest =>
            obtain ⟨rfl, rfl⟩ := hcut
            obtain ⟨WF, hWF⟩ : ∃ WF, WF = (((((W.drew).drew).setCell ⟨c5, 0, none⟩ (.int .i64 jx)).setCell ⟨c5, 1, none⟩ (.int .i64 jy)).setCell ⟨c6, 0, none⟩ (.int .i64 z)) := ⟨_, rfl⟩
            have HFIN := Lib.hid (show KeepsFrom w3.heap.size W WF ∧ Kp (fun k => k = c5 ∨ k = c6) W WF ∧ (Lies s x zs c5 c6 (best zs n (pre ++ [i])) WF ∧ Below w1.heap.size w1 WF) by
              rw [hWF]
              refine ⟨?_, ?_, ⟨⟨?_, ?_, ?_, ?_, ?_, ?_⟩, ?_⟩⟩
              · refine KeepsOthers.from ?_ _
                repeat (first | exact KeepsOthers.refl _ | refine KeepsOthers.trans ?_ (KeepsOthers.setCell _ _ _) | refine KeepsOthers.trans ?_ (KeepsOthers.drew _))
              · repeat (first | exact Kp.refl _ _ | refine Kp.trans ?_ (Kp.setCell _ _ _ _ (.inl rfl)) | refine Kp.trans ?_ (Kp.setCell _ _ _ _ (.inr rfl)) | refine Kp.trans ?_ (Kp.of_on (On.drew (On.refl _))))
              · rw [T.out, ← HJX.out]; simp [go_sem, k0]
              · rw [T.out, ← HJY.out]; simp [go_sem, k1]
              · rw [T.out, ← HZJ.out]; simp [go_sem, k2]
              · simp [World.frozen?_setCell, k3]
              · simp [World.frozen?_setCell, k4]
              · simp [World.frozen?_setCell, k5]
              · show On w1 _
                repeat (first | with_reducible exact HON.out | apply On.drew | refine On.setCell ?_ (by (try simp) <;> omega) _))
            rw [hWF] at HFIN
            clear T hgt HV hbz EN HZ HL HT1 HR1 HO1 HZ1 HZ0 HLI HOC HO2 HG3 HO3 hw3 HL3 HO13 HLI2 HON HZJ HZB HJX HJY s0 s1 x0 x1 y0 y1 p0 p1 n4 n5 hn hm lw lw1 lb hc5 hc6 l5 l6 z5 z6 z2 hWF
            gi_wp2
            gi_region
            all_goals
              gi_wp2
              exact HFIN.out
        · have T := Lib.hid (KEEP.out hgt)
          clear TAKE KEEP
          gi_wp2
          gi_cut [29] from 38 (fun u29 wx => u29 = .bool false ∧ wx = W.drew)
          case first =>
            gi_region
            all_goals
              gi_wp2
              gi_meet
              exact ⟨by first | rfl | (simp; omega), rfl⟩
          case rest =>
            obtain ⟨rfl, rfl⟩ := hcut
            gi_wp2
            exact ⟨(KeepsOthers.drew _).from _, Kp.of_on (On.drew (On.refl _)), by rw [T.out]; exact HLI2.out.on (On.drew (On.refl _)), On.drew HON.out⟩
      case done =>
        rintro D ys W hD rfl ⟨hLi, hOn⟩ hK
        have hOn : On w1 W := hOn
        rw [best_range zs n n (Nat.le_refl _)] at hLi
        obtain ⟨k0, k1, k2, k3, k4, k5⟩ := hLi
        have HON := Lib.hid hOn
        have HK := Lib.hid hK
        have en := EN.out
        have b0 : W.cell? ⟨w.heap.size + 1, 0, none⟩ = some (.int .i64 0) := (hOn.cell (by exact HR1.out.2.2.2.2)).trans HR1.out.1
        have b1 : W.cell? ⟨w.heap.size + 1, 1, none⟩ = some (.int .i64 0) := (hOn.cell (by exact HR1.out.2.2.2.2)).trans HR1.out.2.1
        have f0 : W.frozen? ⟨w.heap.size + 1, 0, none⟩ = false := (hOn.frozen (by exact HR1.out.2.2.2.2)).trans HR1.out.2.2.1
        have f1 : W.frozen? ⟨w.heap.size + 1, 1, none⟩ = false := (hOn.frozen (by exact HR1.out.2.2.2.2)).trans HR1.out.2.2.2.1
        have q5 := World.block_lt_of_cell? W _ k0
        have q6 := World.block_lt_of_cell? W _ k2
        have lr := hOn.lts _ HR1.out.2.2.2.2
        have d1 : ¬ c5 = w.heap.size + 1 := by have := HR1.out.2.2.2.2; omega
        have d2 : ¬ c6 = w.heap.size + 1 := by have := HR1.out.2.2.2.2; omega
        have d3 : ¬ w.heap.size + 1 = c5 := by omega
        have d4 : ¬ w.heap.size + 1 = c6 := by omega
        have dD : ¬ D = w.heap.size + 1 := by have := HR1.out.2.2.2.2; omega
        generalize plX s x (top zs n) = bx at *
        generalize plY s x (top zs n) = bY at *
        generalize zs.getD (top zs n) 0 = zb at *
        have EN2 := Lib.hid en
        clear en EN hOn hK
        obtain ⟨W', hW'⟩ : ∃ W', W' = ((W.setCell ⟨w.heap.size + 1, 0, none⟩ (.int .i64 bx)).setCell ⟨w.heap.size + 1, 1, none⟩ (.int .i64 bY)).drew := ⟨_, rfl⟩
        have HKW := Lib.hid (show W'.heap[D]? = some (.deferred (some [])) by rw [hW']; exact (heap_other (p := ⟨w.heap.size + 1, 1, none⟩) dD).trans ((heap_other (p := ⟨w.heap.size + 1, 0, none⟩) dD).trans HK.out))
        have r0 : W'.cell? ⟨w.heap.size + 1, 0, none⟩ = some (.int .i64 bx) := by rw [hW']; simp [go_sem, b0]
        have r1 : W'.cell? ⟨w.heap.size + 1, 1, none⟩ = some (.int .i64 bY) := by rw [hW']; simp [go_sem, b1]
        have R0 := Lib.hid (cell_kept r0 (grownBy_putObj' W' D (.deferred none)) (fun r e => by cases e; exact ⟨_, HKW.out, rfl⟩))
        have R1 := Lib.hid (cell_kept r1 (grownBy_putObj' W' D (.deferred none)) (fun r e => by cases e; exact ⟨_, HKW.out, rfl⟩))
        have HOW := Lib.hid (show On w W' by rw [hW']; exact On.drew (On.setCell (On.setCell (HO1.out.trans HON.out) (by show w.heap.size ≤ w.heap.size + 1; omega) _) (by show w.heap.size ≤ w.heap.size + 1; omega) _))
        have HW' := Lib.hid hW'
        clear r0 r1 hW'
        gi_wp2
        gi_region
        all_goals
          gi_wp2
          rw [← HW'.out]
          have u0 := R0.out
          have u1 := R1.out
          refine ⟨by simp, .inl ⟨_, _, rfl, run_takeDeferred HKW.out, ?_⟩⟩
          refine ⟨.tuple #[.agg #[.int .i64 bx, .int .i64 bY], .int .i64 zb, .int .i64 0], by simp [results, Try.results15, go_sem, u0, u1], ?_⟩
          exact ⟨ret_hp ⟨EN2.out.1.symm, EN2.out.2.1.symm, EN2.out.2.2.1.symm, EN2.out.2.2.2.symm⟩, (show Below w.heap.size w W' from HOW.out).trans (belowK_b (w := w) (Nat.le_refl _) W' D _ _ (by have := HO13.out.size; have := HO1.out.size; omega) HKW.out rfl rfl)⟩
      case stop =>
        rintro D c pre W _ _ h _
        exact h.elim
end Go.Proofs.Ytmpeogmlnajliaa.Hp
