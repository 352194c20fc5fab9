
/-
  The point of a profile with the least share, whole, in the model and in the program. Condition: at most 1048576 heights.
-/
import Derived.Test.YtmmhekakihimfaaWorst
import Derived.Test.YtmmhekakihimfaaInner
import Derived.Handy
import Derived.RegionIn
import Derived.BigRegionIn
namespace Go.Proofs.Ytmmhekakihimfaa.Nu
open Go.RowKit Go.Shelf
open Plain
open Ints (Ints Own)
open Prof (PIn clr off_bd off slice_of okP of_okP ret_ii)
open Iter (Kp pts pts_succ)
attribute [local go_sem] Oper.semAt_some

def ws (d f l fr : Int) (zs : List Int) : Nat × Int := sel lss (shrAt d f l ((zs.length : Int) - 1) fr zs) (zs.length - 2)
def wC (d f l fr : Int) (zs : List Int) : Int := if seeC d f l zs fr = 0 then (if zs.length = 2 then 6 else 0) else seeC d f l zs fr
def wI (d f l fr : Int) (zs : List Int) : Int := if wC d f l fr zs = 0 then ((ws d f l fr zs).1 : Nat) else 0
def wS (d f l fr : Int) (zs : List Int) : Int := if wC d f l fr zs = 0 then (ws d f l fr zs).2 else 0
theorem w_no {d f l fr : Int} {zs : List Int} (h : seeC d f l zs fr ≠ 0) : wI d f l fr zs = 0 ∧ wS d f l fr zs = 0 ∧ wC d f l fr zs = seeC d f l zs fr := by
  have e : wC d f l fr zs = seeC d f l zs fr := if_neg h
  exact ⟨if_neg (by rw [e]; exact h), if_neg (by rw [e]; exact h), e⟩
theorem w_none {d f l fr : Int} {zs : List Int} {n : Nat} (h : seeC d f l zs fr = 0) (hn : zs.length = n + 1) (g : n - 1 = 0) (n1 : 1 ≤ n) : wI d f l fr zs = 0 ∧ wS d f l fr zs = 0 ∧ wC d f l fr zs = 6 := by
  have e : wC d f l fr zs = 6 := by unfold wC; rw [if_pos h, if_pos (by omega)]
  exact ⟨if_neg (by rw [e]; decide), if_neg (by rw [e]; decide), e⟩
theorem w_some {d f l fr : Int} {zs : List Int} {n : Nat} (h : seeC d f l zs fr = 0) (hn : zs.length = n + 1) (g : n - 1 ≠ 0) :
    wI d f l fr zs = ((sel lss (shrAt d f l n fr zs) (n - 1)).1 : Nat) ∧ wS d f l fr zs = (sel lss (shrAt d f l n fr zs) (n - 1)).2 ∧ wC d f l fr zs = 0 := by
  have e : wC d f l fr zs = 0 := by unfold wC; rw [if_pos h, if_neg (by omega)]
  have e2 : ws d f l fr zs = sel lss (shrAt d f l n fr zs) (n - 1) := by unfold ws; rw [hn, show ((((n + 1 : Nat)) : Int) - 1) = n from by omega, show n + 1 - 2 = n - 1 from by omega]
  exact ⟨by unfold wI; rw [if_pos e, e2], by unfold wS; rw [if_pos e, e2], e⟩
theorem ret_iii {a b c d e f : Int} (h1 : a = b) (h2 : c = d) (h3 : e = f) : Ending.returned (.tuple #[.int .i64 a, .int .i64 c, .int .i64 e]) = .returned (.tuple #[.int .i64 b, .int .i64 d, .int .i64 f]) := by rw [h1, h2, h3]
/-- The best one of the points that have come. -/
def best (b : Int → Int → Bool) (pre : List (Nat × Int)) : Nat × Int := pre.foldl (fun s x => if s.1 = 0 ∨ b x.2 s.2 = true then x else s) (0, 0)
theorem best_snoc (b : Int → Int → Bool) (pre : List (Nat × Int)) (x : Nat × Int) : best b (pre ++ [x]) = if (best b pre).1 = 0 ∨ b x.2 (best b pre).2 = true then x else best b pre := by unfold best; rw [List.foldl_append]; rfl
theorem best_pts (b : Int → Int → Bool) (val : Nat → Int) : ∀ k, best b (pts val k) = sel b val k
  | 0 => rfl
  | k + 1 => by
    rw [pts_succ, best_snoc, best_pts b val k, sel]
    by_cases hk : k = 0
    · subst hk; rfl
    · have := (sel_pos (b := b) (val := val) hk).1
      by_cases hX : b (val (k + 1)) (sel b val k).2 = true
      · rw [if_pos (.inr hX), if_pos (.inr hX)]
      · rw [if_neg (by rintro (g | g); omega; exact hX g), if_neg (by rintro (g | g); omega; exact hX g)]
set_option maxRecDepth 100000 in
set_option maxHeartbeats 4000000 in
theorem impl_WorstOf (d f l fr : Int) (a : Option Addr) (cap : Nat) (zs : List Int) (w : World) (hn : zs.length ≤ 1048576) (h : Ints w (.slice a zs.length cap) zs) :
    Calls Try.prog 36 #[.agg #[.int .i64 d, .int .i64 f, .int .i64 l, .slice a zs.length cap], .int .i64 fr] w fun e w' => e = .returned (.tuple #[.int .i64 (wI d f l fr zs), .int .i64 (wS d f l fr zs), .int .i64 (wC d f l fr zs)]) ∧ On w w' := by
  have hA := fun w' (hb : On w w') => impl_sightAlong d f l fr a cap zs w' hn (h.below hb)
  by_cases hs : seeC d f l zs fr = 0
  · rw [hs] at hA
    have HA := Lib.hid hA
    obtain ⟨n, hzn, n0, n1, hzb, ⟨d0, d1⟩, ⟨f0, f1⟩, ⟨l0, l1⟩, fr0, fr1⟩ := see_at hs
    obtain ⟨b, off, rfl, hb, hcell⟩ := slice_of h (by omega)
    obtain ⟨val, hval⟩ : ∃ val : Nat → Int, val = shrAt d f l n fr zs := ⟨_, rfl⟩
    have EN0 := Lib.hid (fun (g : n - 1 = 0) => w_none hs hzn g n0)
    have en1 := fun (g : n - 1 ≠ 0) => w_some hs hzn g
    rw [← hval] at en1
    have EN1 := Lib.hid en1
    have HV := Lib.hid (fun (Bad : Nat → Prop) (W1 : World) (ho : On w W1) (hbad : ¬ Bad b) (k : Nat) W' (k0 : 1 ≤ k) (k1 : k < n) (hk : Kp Bad W1 W') => show Calls Try.prog 70 #[.agg #[.int .i64 d, .int .i64 f, .int .i64 l, .slice (some ⟨b, off, none⟩) (n + 1) cap, .int .i64 fr], .int .i64 k] W' (fun e W'' => e = .returned (.int .i64 (val k)) ∧ On W' W'') by
      rw [hval]
      exact impl_share n cap k b off d f l (zs.getD k 0) fr W' (Nat.lt_of_lt_of_le (ho.lts _ hb) hk.1) (hk.2 _ _ hbad ((ho.cell (p := ⟨b, off + k, none⟩) (by exact hb)).trans (hcell k (by omega)))) (hzb k (by omega)).1 (hzb k (by omega)).2 d0 d1 f0 f1 l0 l1 (by omega) n0 n1 fr0 fr1)
    rw [hzn] at HA ⊢
    clear hA h hs hzn hcell hzb hval en1
    refine (callsIn_wide (n := 6)).1 ?_
    refine callsIn_of_wp_marks Try.func36 rfl trivial ?_ rfl
    simp only [Try.ntmps36, List.size_toArray, List.length_cons, List.length_nil, Nat.reduceAdd, Nat.reduceSub, Array.replicate_succ, Array.replicate_zero, List.push_toArray, List.append_toArray, List.nil_append, List.cons_append]
    gi_wp2
    refine ⟨trivial, (callsIn_wide.2 (HA.out _ (by repeat (first | with_reducible exact On.refl _ | apply On.alloc)))).mono ?_⟩
    rintro e w1 ⟨v, rfl, hv, -, h1⟩
    obtain rfl := hv trivial
    have HO := Lib.hid (show On w w1 by refine On.trans ?_ h1; repeat (first | with_reducible exact On.refl _ | apply On.alloc))
    clear h1 hv
    gi_wp2
    refine ⟨trivial, (callsIn_wide.2 (Iter.inner d f l (some ⟨b, off, none⟩) (n + 1) cap 70 #[.agg #[.int .i64 d, .int .i64 f, .int .i64 l, .slice (some ⟨b, off, none⟩) (n + 1) cap, .int .i64 fr]] _)).mono ?_⟩
    rintro e w2 ⟨rfl, hp2, hq2, h2⟩
    have hsz : w1.heap.size + 3 ≤ w2.heap.size := by have := h2.size; simp at this; omega
    simp only [World.size_alloc] at hp2 hq2
    have bx : w2.cell? ⟨w1.heap.size + 1, 0, none⟩ = some (.int .i64 0) := (h2.cell (by simp)).trans (by simp [go_sem])
    have fx : w2.frozen? ⟨w1.heap.size + 1, 0, none⟩ = false := (h2.frozen (by simp)).trans (by simp [go_sem])
    have bY : w2.cell? ⟨w1.heap.size + 1 + 1, 0, none⟩ = some (.int .i64 0) := (h2.cell (by simp)).trans (by simp [go_sem])
    have fY : w2.frozen? ⟨w1.heap.size + 1 + 1, 0, none⟩ = false := (h2.frozen (by simp)).trans (by simp [go_sem])
    have HO2 := Lib.hid (show On w w2 by refine On.trans ?_ h2; repeat (first | with_reducible exact HO.out | apply On.alloc | refine On.setCell ?_ (by (try simp) <;> omega) _))
    have hbb := Nat.ne_of_lt (HO.out.lts _ hb)
    have hb1 := HO.out.lts _ hb
    have hwz := HO.out.size
    clear h2
    have Bb : ¬ (b = w1.heap.size + 1 ∨ b = w1.heap.size + 1 + 1) := by omega
    gi_wp2
    refine wpIn_rangeFunc_ownG rfl (by omega) (gf := 85) (lb := #[.pointer (some ⟨w1.heap.size + 1 + 1 + 1, 0, none⟩), .pointer (some ⟨w1.heap.size + 1 + 1 + 1 + 1, 0, none⟩)]) rfl trivial (enters_of Try.func85 (by kernel_rfl) rfl)
      (Iter.iter_share 5 (by omega) (fun k => k = w1.heap.size + 1 ∨ k = w1.heap.size + 1 + 1) (w1.heap.size + 1 + 1 + 1) (w1.heap.size + 1 + 1 + 1 + 1) n cap d f l (some ⟨b, off, none⟩) (.agg #[.int .i64 d, .int .i64 f, .int .i64 l, .slice (some ⟨b, off, none⟩) (n + 1) cap, .int .i64 fr]) val w2 n0 n1 hp2 hq2 (by omega) (by omega) (fun k W' k0 k1 hk => HV.out _ w2 HO2.out Bb k W' k0 k1 hk))
      (fun h k => Kp.trans h k) (fun W l o o' _ h hc _ => Kp.put W l o o' h hc) (Below.refl _ _) (fun _ => rfl)
      (fun pre W => (W.cell? ⟨w1.heap.size + 1, 0, none⟩ = some (.int .i64 ((best lss pre).1 : Nat)) ∧ W.frozen? ⟨w1.heap.size + 1, 0, none⟩ = false ∧ W.cell? ⟨w1.heap.size + 1 + 1, 0, none⟩ = some (.int .i64 (best lss pre).2) ∧ W.frozen? ⟨w1.heap.size + 1 + 1, 0, none⟩ = false) ∧ Below w.heap.size w W)
      (fun _ _ _ => False)
      (OwnFrom.and (Own.from (fun s A Bw row hs hg hr => ⟨cell_kept hs.1 hg hr, (frozen_kept hs.1 hg hr).trans hs.2.1, cell_kept hs.2.2.1 hg hr, (frozen_kept hs.2.2.1 hg hr).trans hs.2.2.2⟩) _) (ownFrom_below (Nat.le_refl _) (by omega)))
      (fun _ _ _ _ _ hs _ _ => hs)
      ⟨⟨bx, fx, bY, fY⟩, HO2.out⟩
      (fun x => { tmps := #[Value.agg #[Value.int IntKind.i64 d, Value.int IntKind.i64 f, Value.int IntKind.i64 l, Value.slice (some ⟨b, off, none⟩) (n + 1) cap], Value.int IntKind.i64 fr, Value.pointer (some ⟨w.heap.size, 0, none⟩), undef, Value.int IntKind.i64 0, Value.int IntKind.i64 0, Value.int IntKind.i64 0, Value.pointer (some ⟨w1.heap.size, 0, none⟩), Value.int IntKind.i64 0, Value.pointer (some ⟨w1.heap.size + 1, 0, none⟩), Value.pointer (some ⟨w1.heap.size + 1 + 1, 0, none⟩), .int .i64 (x.1 : Int), .int .i64 x.2, Value.tuple #[Value.agg #[Value.int IntKind.i64 d, Value.int IntKind.i64 f, Value.int IntKind.i64 l, Value.slice (some ⟨b, off, none⟩) (n + 1) cap, Value.int IntKind.i64 fr], Value.int IntKind.i64 0], Value.agg #[Value.int IntKind.i64 d, Value.int IntKind.i64 f, Value.int IntKind.i64 l, Value.slice (some ⟨b, off, none⟩) (n + 1) cap], Value.int IntKind.i64 fr, Value.tuple #[Value.agg #[Value.int IntKind.i64 d, Value.int IntKind.i64 f, Value.int IntKind.i64 l, Value.slice (some ⟨b, off, none⟩) (n + 1) cap, Value.int IntKind.i64 fr], Value.int IntKind.i64 0], Value.agg #[Value.int IntKind.i64 d, Value.int IntKind.i64 f, Value.int IntKind.i64 l, Value.slice (some ⟨b, off, none⟩) (n + 1) cap, Value.int IntKind.i64 fr], Value.int IntKind.i64 0, Value.int IntKind.i64 0, Value.bool false, undef, Value.pointer (some ⟨w1.heap.size, 0, none⟩), Value.agg #[Value.int IntKind.i64 d, Value.int IntKind.i64 f, Value.int IntKind.i64 l, Value.slice (some ⟨b, off, none⟩) (n + 1) cap], Value.agg #[Value.int IntKind.i64 d, Value.int IntKind.i64 f, Value.int IntKind.i64 l, Value.slice (some ⟨b, off, none⟩) (n + 1) cap, Value.int IntKind.i64 fr], Value.func (Fn.func 70) #[Value.agg #[Value.int IntKind.i64 d, Value.int IntKind.i64 f, Value.int IntKind.i64 l, Value.slice (some ⟨b, off, none⟩) (n + 1) cap, Value.int IntKind.i64 fr]] #[], Value.func (Fn.func 85) #[] #[Value.pointer (some ⟨w1.heap.size + 1 + 1 + 1, 0, none⟩), Value.pointer (some ⟨w1.heap.size + 1 + 1 + 1 + 1, 0, none⟩)], .int .i64 (x.1 : Int), .int .i64 x.2, undef, undef, undef, undef, undef, undef, undef, undef, undef, undef, undef, undef, undef], defers := [] }) ?assign ?body ?done ?stop
    case assign =>
      intro l x W K hK
      gi_wp2
      exact hK
    case body =>
      rintro lp pre x W ⟨⟨hx, gx, hy, gy⟩, hB⟩ -
      have E := Lib.hid (best_snoc lss pre x)
      have hW2 : w1.heap.size + 1 + 1 < W.heap.size := World.block_lt_of_cell? W _ hy
      have HB := Lib.hid hB
      have TAKE := Lib.hid (show ((best lss pre).1 = 0 ∨ lss x.2 (best lss pre).2 = true) → best lss (pre ++ [x]) = x from fun h => by rw [E.out, if_pos h])
      have KEEP := Lib.hid (show ¬ ((best lss pre).1 = 0 ∨ lss x.2 (best lss pre).2 = true) → best lss (pre ++ [x]) = best lss pre from fun h => by rw [E.out, if_neg h])
      have HI := Lib.hid (show W.cell? ⟨w1.heap.size + 1, 0, none⟩ = some (.int .i64 ((best lss pre).1 : Nat)) ∧ W.cell? ⟨w1.heap.size + 1 + 1, 0, none⟩ = some (.int .i64 (best lss pre).2) from ⟨hx, hy⟩)
      obtain ⟨p1, hp1⟩ : ∃ p1, p1 = (best lss pre).1 := ⟨_, rfl⟩
      obtain ⟨p2, hp2⟩ : ∃ p2, p2 = (best lss pre).2 := ⟨_, rfl⟩
      rw [← hp1] at hx TAKE KEEP
      rw [← hp2] at hy TAKE KEEP
      have PE := Lib.hid (show p1 = (best lss pre).1 ∧ p2 = (best lss pre).2 from ⟨hp1, hp2⟩)
      clear hp1 hp2 hB E
      by_cases hpz : p1 = 0
      · have T := Lib.hid (TAKE.out (.inl hpz))
        have hb0 : ((p1 : Int) == 0) = true := beq_iff_eq.2 (by omega)
        clear hpz TAKE KEEP
        gi_wp2
        refine ⟨((KeepsOthers.setCell _ _ _).trans (KeepsOthers.setCell _ _ _)).from _, (Kp.setCell _ _ _ (.inl rfl)).trans (Kp.setCell _ _ _ (.inr rfl)), ⟨?_, ?_, ?_, ?_⟩, ?_⟩
        · rw [T.out]; simp [go_sem, hx]
        · simp [World.frozen?_setCell, gx]
        · rw [T.out]; simp [go_sem, hy]
        · simp [World.frozen?_setCell, gy]
        · exact (HB.out.setCell (p := ⟨w1.heap.size + 1, 0, none⟩) (by show w.heap.size ≤ w1.heap.size + 1; omega) _).setCell (p := ⟨w1.heap.size + 1 + 1, 0, none⟩) (by show w.heap.size ≤ w1.heap.size + 1 + 1; omega) _
      · have hb0 : ((p1 : Int) == 0) = false := beq_eq_false_iff_ne.2 (by omega)
        by_cases hlt : x.2 < p2
        · have T := Lib.hid (TAKE.out (.inr (decide_eq_true hlt)))
          clear hpz TAKE KEEP
          gi_wp2
          refine ⟨((KeepsOthers.setCell _ _ _).trans (KeepsOthers.setCell _ _ _)).from _, (Kp.setCell _ _ _ (.inl rfl)).trans (Kp.setCell _ _ _ (.inr rfl)), ⟨?_, ?_, ?_, ?_⟩, ?_⟩
          · rw [T.out]; simp [go_sem, hx]
          · simp [World.frozen?_setCell, gx]
          · rw [T.out]; simp [go_sem, hy]
          · simp [World.frozen?_setCell, gy]
          · exact (HB.out.setCell (p := ⟨w1.heap.size + 1, 0, none⟩) (by show w.heap.size ≤ w1.heap.size + 1; omega) _).setCell (p := ⟨w1.heap.size + 1 + 1, 0, none⟩) (by show w.heap.size ≤ w1.heap.size + 1 + 1; omega) _
        · have T := Lib.hid (KEEP.out (by rintro (h | h); exact hpz h; exact hlt (of_decide_eq_true h)))
          clear hpz TAKE KEEP
          gi_wp2
          exact ⟨KeepsFrom.refl _ _, Kp.refl _ _, ⟨by rw [T.out]; exact HI.out.1, gx, by rw [T.out]; exact HI.out.2, gy⟩, HB.out⟩
    case done =>
      rintro D ys W hD rfl ⟨⟨hx, gx, hy, gy⟩, hB⟩ hK
      rw [best_pts] at hx hy
      by_cases g0 : n - 1 = 0
      · have EN := Lib.hid (EN0.out g0)
        rw [g0] at hx hy
        simp only [sel] at hx hy
        have HK := Lib.hid hK
        gi_wp2
        refine ⟨by simp, .inl ⟨_, _, rfl, run_takeDeferred hK, ?_⟩⟩
        refine ⟨_, results_tmp3 rfl _ _ _, ?_⟩
        exact ⟨ret_iii EN.out.1.symm EN.out.2.1.symm EN.out.2.2.symm, hB.trans (belowK_b (w := w) (Nat.le_refl _) W D _ _ (by omega) HK.out rfl rfl)⟩
      · have EN := Lib.hid (EN1.out g0)
        have hp := (sel_pos (b := lss) (val := val) g0).1
        obtain ⟨s1, hs1⟩ : ∃ s1, s1 = (sel lss val (n - 1)).1 := ⟨_, rfl⟩
        obtain ⟨s2, hs2⟩ : ∃ s2, s2 = (sel lss val (n - 1)).2 := ⟨_, rfl⟩
        rw [← hs1] at hx hp EN
        rw [← hs2] at hy EN
        have hb0 : ((s1 : Int) == 0) = false := beq_eq_false_iff_ne.2 (by omega)
        have HK := Lib.hid hK
        clear hs1 hs2
        gi_wp2
        gi_region
        all_goals
          gi_wp2
          refine ⟨by simp, .inl ⟨_, _, rfl, run_takeDeferred hK, ?_⟩⟩
          refine ⟨_, results_tmp3 rfl _ _ _, ?_⟩
          exact ⟨ret_iii EN.out.1.symm EN.out.2.1.symm EN.out.2.2.symm, hB.drew.trans (belowK_b (w := w) (Nat.le_refl _) W.drew D _ _ (by omega) HK.out rfl rfl)⟩
    case stop =>
      rintro D c pre W _ _ h _
      exact h.elim
  · have en := Lib.hid (w_no hs)
    have hb : (seeC d f l zs fr == 0) = false := beq_eq_false_iff_ne.2 hs
    have hb2 : (seeC d f l zs fr != 0) = true := bne_iff_ne.2 hs
    have HS := Lib.hid hs
    have HA := Lib.hid hA
    clear hA h hs
    go_enter Try.func36, Try.ntmps36
    go_wp2_with fail
    refine (HA.out _ (by repeat (first | with_reducible exact On.refl _ | apply On.alloc))).mono ?_
    rintro e w1 ⟨v, rfl, hv, hv', h1⟩
    have HO := Lib.hid (show On w w1 by refine On.trans ?_ h1; repeat (first | with_reducible exact On.refl _ | apply On.alloc))
    obtain rfl := hv' HS.out
    clear h1 hv hv'
    go_wp2_with fail
    go_ret3
    exact ⟨ret_iii en.out.1.symm en.out.2.1.symm en.out.2.2.symm, by repeat (first | with_reducible exact HO.out | apply On.alloc | refine On.setCell ?_ (by (try simp) <;> omega) _)⟩
theorem w_bad {d f l fr c : Int} {zs : List Int} (h : seeC d f l zs fr = c) (g : c ≠ 0) : wI d f l fr zs = 0 ∧ wS d f l fr zs = 0 ∧ wC d f l fr zs = c := by
  have := w_no (d := d) (f := f) (l := l) (fr := fr) (zs := zs) (by rw [h]; exact g)
  rw [h] at this; exact this
set_option maxHeartbeats 4000000 in
theorem spec_WorstOf (d f l fr : Int) (a : Option Addr) (cap : Nat) (zs : List Int) (w : World) (hn : zs.length ≤ 1048576) (h : Ints w (.slice a zs.length cap) zs) :
    Calls Try.prog 35 #[.agg #[.int .i64 d, .int .i64 f, .int .i64 l, .slice a zs.length cap], .int .i64 fr] w fun e w' => e = .returned (.tuple #[.int .i64 (wI d f l fr zs), .int .i64 (wS d f l fr zs), .int .i64 (wC d f l fr zs)]) ∧ On w w' := by
  have hV := fun w' (hb : On w w') hp => Prof.spec_ok w.heap.size d f l a cap zs w' hn hp (h.below hb)
  cases ho : okP d f l zs with
  | false =>
    rw [ho] at hV
    have HOK := Lib.hid hV
    have en := Lib.hid (w_bad (see_bad (fr := fr) ho) (by decide))
    clear hV h
    go_enter Try.func35, Try.ntmps35
    go_wp2_with fail
    refine (HOK.out _ (by repeat (first | with_reducible exact On.refl _ | apply On.alloc)) ⟨by simp [go_sem], by simp [go_sem], by simp [go_sem], by simp [go_sem]⟩).mono ?_
    rintro e w1 ⟨rfl, q, rfl⟩
    go_wp2_with fail
    go_ret3; exact ⟨ret_iii en.out.1.symm en.out.2.1.symm en.out.2.2.symm, by repeat (first | with_reducible exact On.refl _ | apply On.drewN | apply On.alloc)⟩
  | true =>
    rw [ho] at hV
    have HOK := Lib.hid hV
    cases hf : inB fr 1 100000000 with
    | false =>
      have en := Lib.hid (w_bad (see_far ho hf) (by decide))
      clear hV h
      go_enter Try.func35, Try.ntmps35
      go_wp2_with fail
      refine (HOK.out _ (by repeat (first | with_reducible exact On.refl _ | apply On.alloc)) ⟨by simp [go_sem], by simp [go_sem], by simp [go_sem], by simp [go_sem]⟩).mono ?_
      rintro e w1 ⟨rfl, q, rfl⟩
      go_wp2_with (go_at_call 68; refine (Earth.spec_freq _ _).mono ?_; rintro e w' ⟨rfl, rfl⟩)
      go_ret3; exact ⟨ret_iii en.out.1.symm en.out.2.1.symm en.out.2.2.symm, by repeat (first | with_reducible exact On.refl _ | apply On.drewN | apply On.alloc)⟩
    | true =>
      have hs := see_ok ho hf
      obtain ⟨n, hzn, n0, n1, hzb, ⟨d0, d1⟩, ⟨f0, f1⟩, ⟨l0, l1⟩, fr0, fr1⟩ := see_at hs
      obtain ⟨b, off, rfl, hb, hcell⟩ := slice_of h (by omega)
      obtain ⟨val, hval⟩ : ∃ val : Nat → Int, val = shrAt d f l n fr zs := ⟨_, rfl⟩
      have hW := fun w' (hw : On w w') hp => spec_l05Worst w.heap.size n cap b off d f l fr zs w' hp (hw.lts _ hb) (fun k hk => (hw.cell (p := ⟨b, off + k, none⟩) (by exact hb)).trans (hcell k (by omega))) hzb d0 d1 f0 f1 l0 l1 n0 n1 fr0 fr1
      rw [← hval] at hW
      by_cases g0 : n - 1 = 0
      · have en := Lib.hid (w_none hs hzn g0 n0)
        rw [g0, selI_zero] at hW
        have HW := Lib.hid hW
        rw [hzn] at HOK ⊢
        clear hV h hs hzn hcell hzb hval hW ho g0
        go_enter Try.func35, Try.ntmps35
        go_wp2_with fail
        refine (HOK.out _ (by repeat (first | with_reducible exact On.refl _ | apply On.alloc)) ⟨by simp [go_sem], by simp [go_sem], by simp [go_sem], by simp [go_sem]⟩).mono ?_
        rintro e w1 ⟨rfl, q, rfl⟩
        go_wp2_with (go_at_call 68; refine (Earth.spec_freq _ _).mono ?_; rintro e w' ⟨rfl, rfl⟩)
        refine (HW.out _ (by repeat (first | with_reducible exact On.refl _ | apply On.drewN | apply On.alloc)) ⟨by simp [go_sem], by simp [go_sem], by simp [go_sem], by simp [go_sem]⟩).mono ?_
        rintro e w2 ⟨rfl, h2⟩
        have HO2 := Lib.hid (show On w w2 by refine On.trans ?_ h2; repeat (first | with_reducible exact On.refl _ | apply On.drewN | apply On.alloc))
        go_wp2_with fail
        go_ret3; exact ⟨ret_iii en.out.1.symm en.out.2.1.symm en.out.2.2.symm, HO2.out⟩
      · have en := w_some hs hzn g0
        rw [← hval] at en
        have hp := (sel_pos (b := lss) (val := val) g0).1
        rw [selI_pos g0] at hW
        obtain ⟨s1, hs1⟩ : ∃ s1, s1 = (sel lss val (n - 1)).1 := ⟨_, rfl⟩
        obtain ⟨s2, hs2⟩ : ∃ s2, s2 = (sel lss val (n - 1)).2 := ⟨_, rfl⟩
        rw [← hs1] at hp
        rw [← hs1, ← hs2] at hW
        rw [← hs1, ← hs2] at en
        have en := Lib.hid en
        have HW := Lib.hid hW
        have hnn : ¬ ((s1 : Int) < 0) := by omega
        rw [hzn] at HOK ⊢
        clear hV h hs hzn hcell hzb hval hW ho g0 hs1 hs2
        go_enter Try.func35, Try.ntmps35
        go_wp2_with fail
        refine (HOK.out _ (by repeat (first | with_reducible exact On.refl _ | apply On.alloc)) ⟨by simp [go_sem], by simp [go_sem], by simp [go_sem], by simp [go_sem]⟩).mono ?_
        rintro e w1 ⟨rfl, q, rfl⟩
        go_wp2_with (go_at_call 68; refine (Earth.spec_freq _ _).mono ?_; rintro e w' ⟨rfl, rfl⟩)
        refine (HW.out _ (by repeat (first | with_reducible exact On.refl _ | apply On.drewN | apply On.alloc)) ⟨by simp [go_sem], by simp [go_sem], by simp [go_sem], by simp [go_sem]⟩).mono ?_
        rintro e w2 ⟨rfl, h2⟩
        have HO2 := Lib.hid (show On w w2 by refine On.trans ?_ h2; repeat (first | with_reducible exact On.refl _ | apply On.drewN | apply On.alloc))
        go_wp2_with fail
        go_ret3; exact ⟨ret_iii en.out.1.symm en.out.2.1.symm en.out.2.2.symm, HO2.out⟩
/-- IsClear. -/
def clB (d f l fr t : Int) (zs : List Int) : Bool := if seeC d f l zs fr = 0 then (if zs.length = 2 then true else decide (t ≤ (ws d f l fr zs).2)) else false
theorem cl_bad {d f l fr t c : Int} {zs : List Int} (h : seeC d f l zs fr = c) (g : c ≠ 0) : clB d f l fr t zs = false := if_neg (by rw [h]; exact g)
theorem cl_none {d f l fr t : Int} {zs : List Int} {n : Nat} (h : seeC d f l zs fr = 0) (hn : zs.length = n + 1) (g : n - 1 = 0) (n1 : 1 ≤ n) : clB d f l fr t zs = true := by unfold clB; rw [if_pos h, if_pos (by omega)]
theorem cl_some {d f l fr t : Int} {zs : List Int} {n : Nat} (h : seeC d f l zs fr = 0) (hn : zs.length = n + 1) (g : n - 1 ≠ 0) : clB d f l fr t zs = decide (t ≤ (sel lss (shrAt d f l n fr zs) (n - 1)).2) := by
  unfold clB ws; rw [if_pos h, if_neg (by omega), hn, show ((((n + 1 : Nat)) : Int) - 1) = n from by omega, show n + 1 - 2 = n - 1 from by omega]
set_option maxHeartbeats 4000000 in
theorem spec_IsClear (d f l fr : Int) (t : Int) (a : Option Addr) (cap : Nat) (zs : List Int) (w : World) (hn : zs.length ≤ 1048576) (h : Ints w (.slice a zs.length cap) zs) :
    Calls Try.prog 37 #[.agg #[.int .i64 d, .int .i64 f, .int .i64 l, .slice a zs.length cap], .int .i64 fr, .int .i64 t] w fun e w' => e = .returned (.bool (clB d f l fr t zs)) ∧ On w w' := by
  have hV := fun w' (hb : On w w') hp => Prof.spec_ok w.heap.size d f l a cap zs w' hn hp (h.below hb)
  cases ho : okP d f l zs with
  | false =>
    rw [ho] at hV
    have HOK := Lib.hid hV
    have en := Lib.hid (cl_bad (t := t) (see_bad (fr := fr) ho) (by decide))
    clear hV h
    go_enter Try.func37, Try.ntmps37
    go_wp2_with fail
    refine (HOK.out _ (by repeat (first | with_reducible exact On.refl _ | apply On.alloc)) ⟨by simp [go_sem], by simp [go_sem], by simp [go_sem], by simp [go_sem]⟩).mono ?_
    rintro e w1 ⟨rfl, q, rfl⟩
    go_wp2_with fail
    go_ret; exact ⟨ret_bool en.out.symm, by repeat (first | with_reducible exact On.refl _ | apply On.drewN | apply On.alloc)⟩
  | true =>
    rw [ho] at hV
    have HOK := Lib.hid hV
    cases hf : inB fr 1 100000000 with
    | false =>
      have en := Lib.hid (cl_bad (t := t) (see_far ho hf) (by decide))
      clear hV h
      go_enter Try.func37, Try.ntmps37
      go_wp2_with fail
      refine (HOK.out _ (by repeat (first | with_reducible exact On.refl _ | apply On.alloc)) ⟨by simp [go_sem], by simp [go_sem], by simp [go_sem], by simp [go_sem]⟩).mono ?_
      rintro e w1 ⟨rfl, q, rfl⟩
      go_wp2_with (go_at_call 68; refine (Earth.spec_freq _ _).mono ?_; rintro e w' ⟨rfl, rfl⟩)
      go_ret; exact ⟨ret_bool en.out.symm, by repeat (first | with_reducible exact On.refl _ | apply On.drewN | apply On.alloc)⟩
    | true =>
      have hs := see_ok ho hf
      obtain ⟨n, hzn, n0, n1, hzb, ⟨d0, d1⟩, ⟨f0, f1⟩, ⟨l0, l1⟩, fr0, fr1⟩ := see_at hs
      obtain ⟨b, off, rfl, hb, hcell⟩ := slice_of h (by omega)
      obtain ⟨val, hval⟩ : ∃ val : Nat → Int, val = shrAt d f l n fr zs := ⟨_, rfl⟩
      have hW := fun w' (hw : On w w') hp => spec_l05Worst w.heap.size n cap b off d f l fr zs w' hp (hw.lts _ hb) (fun k hk => (hw.cell (p := ⟨b, off + k, none⟩) (by exact hb)).trans (hcell k (by omega))) hzb d0 d1 f0 f1 l0 l1 n0 n1 fr0 fr1
      rw [← hval] at hW
      by_cases g0 : n - 1 = 0
      · have en := Lib.hid (cl_none (t := t) hs hzn g0 n0)
        rw [g0, selI_zero] at hW
        have HW := Lib.hid hW
        rw [hzn] at HOK ⊢
        clear hV h hs hzn hcell hzb hval hW ho g0
        go_enter Try.func37, Try.ntmps37
        go_wp2_with fail
        refine (HOK.out _ (by repeat (first | with_reducible exact On.refl _ | apply On.alloc)) ⟨by simp [go_sem], by simp [go_sem], by simp [go_sem], by simp [go_sem]⟩).mono ?_
        rintro e w1 ⟨rfl, q, rfl⟩
        go_wp2_with (go_at_call 68; refine (Earth.spec_freq _ _).mono ?_; rintro e w' ⟨rfl, rfl⟩)
        refine (HW.out _ (by repeat (first | with_reducible exact On.refl _ | apply On.drewN | apply On.alloc)) ⟨by simp [go_sem], by simp [go_sem], by simp [go_sem], by simp [go_sem]⟩).mono ?_
        rintro e w2 ⟨rfl, h2⟩
        have HO2 := Lib.hid (show On w w2 by refine On.trans ?_ h2; repeat (first | with_reducible exact On.refl _ | apply On.drewN | apply On.alloc))
        go_wp2_with fail
        go_ret; exact ⟨ret_bool en.out.symm, HO2.out⟩
      · have en := cl_some (t := t) hs hzn g0
        rw [← hval] at en
        have hp := (sel_pos (b := lss) (val := val) g0).1
        rw [selI_pos g0] at hW
        obtain ⟨s1, hs1⟩ : ∃ s1, s1 = (sel lss val (n - 1)).1 := ⟨_, rfl⟩
        obtain ⟨s2, hs2⟩ : ∃ s2, s2 = (sel lss val (n - 1)).2 := ⟨_, rfl⟩
        rw [← hs1] at hp
        rw [← hs1, ← hs2] at hW
        rw [← hs2] at en
        have en := Lib.hid en
        have HW := Lib.hid hW
        have hnn : ¬ ((s1 : Int) < 0) := by omega
        rw [hzn] at HOK ⊢
        clear hV h hs hzn hcell hzb hval hW ho g0 hs1 hs2
        go_enter Try.func37, Try.ntmps37
        go_wp2_with fail
        refine (HOK.out _ (by repeat (first | with_reducible exact On.refl _ | apply On.alloc)) ⟨by simp [go_sem], by simp [go_sem], by simp [go_sem], by simp [go_sem]⟩).mono ?_
        rintro e w1 ⟨rfl, q, rfl⟩
        go_wp2_with (go_at_call 68; refine (Earth.spec_freq _ _).mono ?_; rintro e w' ⟨rfl, rfl⟩)
        refine (HW.out _ (by repeat (first | with_reducible exact On.refl _ | apply On.drewN | apply On.alloc)) ⟨by simp [go_sem], by simp [go_sem], by simp [go_sem], by simp [go_sem]⟩).mono ?_
        rintro e w2 ⟨rfl, h2⟩
        have HO2 := Lib.hid (show On w w2 by refine On.trans ?_ h2; repeat (first | with_reducible exact On.refl _ | apply On.drewN | apply On.alloc))
        go_wp2_with fail
        go_ret; exact ⟨ret_bool en.out.symm, HO2.out⟩
set_option maxHeartbeats 2000000 in
theorem impl_IsClear (d f l fr : Int) (t : Int) (a : Option Addr) (cap : Nat) (zs : List Int) (w : World) (hn : zs.length ≤ 1048576) (h : Ints w (.slice a zs.length cap) zs) :
    Calls Try.prog 38 #[.agg #[.int .i64 d, .int .i64 f, .int .i64 l, .slice a zs.length cap], .int .i64 fr, .int .i64 t] w fun e w' => e = .returned (.bool (clB d f l fr t zs)) ∧ On w w' := by
  have hW := fun w' (hb : On w w') => impl_WorstOf d f l fr a cap zs w' hn (h.below hb)
  by_cases hs : seeC d f l zs fr = 0
  · obtain ⟨n, hzn, n0, -⟩ := see_at hs
    by_cases g0 : n - 1 = 0
    · have en := Lib.hid (cl_none (t := t) hs hzn g0 n0)
      obtain ⟨e1, e2, e3⟩ := w_none hs hzn g0 n0
      rw [e1, e2, e3] at hW
      have HW := Lib.hid hW
      clear hW h hs hzn g0 e1 e2 e3
      go_enter Try.func38, Try.ntmps38
      go_wp2_with fail
      refine (HW.out _ (by repeat (first | with_reducible exact On.refl _ | apply On.alloc))).mono ?_
      rintro e w1 ⟨rfl, h1⟩
      go_wp2_with fail
      go_ret
      exact ⟨ret_bool en.out.symm, by refine On.trans ?_ h1; repeat (first | with_reducible exact On.refl _ | apply On.alloc)⟩
    · have en := cl_some (t := t) hs hzn g0
      obtain ⟨e1, e2, e3⟩ := w_some hs hzn g0
      rw [e1, e2, e3] at hW
      generalize (sel lss (shrAt d f l n fr zs) (n - 1)).2 = y at *
      have en := Lib.hid en
      have HW := Lib.hid hW
      clear hW h hs hzn g0 e1 e2 e3
      go_enter Try.func38, Try.ntmps38
      go_wp2_with fail
      refine (HW.out _ (by repeat (first | with_reducible exact On.refl _ | apply On.alloc))).mono ?_
      rintro e w1 ⟨rfl, h1⟩
      go_wp2_with fail
      go_ret
      exact ⟨ret_bool en.out.symm, by refine On.trans ?_ h1; repeat (first | with_reducible exact On.refl _ | apply On.alloc)⟩
  · have en := Lib.hid (cl_bad (t := t) rfl hs)
    obtain ⟨e1, e2, e3⟩ := w_no hs
    rw [e1, e2, e3] at hW
    have HW := Lib.hid hW
    have hc : seeC d f l zs fr = 1 ∨ seeC d f l zs fr = 2 := by
      unfold seeC at hs ⊢
      split
      · split
        · rename_i q0 q1; exact absurd (by rw [q0, q1]; rfl) hs
        · exact .inr rfl
      · exact .inl rfl
    generalize seeC d f l zs fr = c at *
    clear hW h hs e1 e2 e3
    rcases hc with rfl | rfl
    · go_enter Try.func38, Try.ntmps38
      go_wp2_with fail
      refine (HW.out _ (by repeat (first | with_reducible exact On.refl _ | apply On.alloc))).mono ?_
      rintro e w1 ⟨rfl, h1⟩
      go_wp2_with fail
      go_ret
      exact ⟨ret_bool en.out.symm, by refine On.trans ?_ h1; repeat (first | with_reducible exact On.refl _ | apply On.alloc)⟩
    · go_enter Try.func38, Try.ntmps38
      go_wp2_with fail
      refine (HW.out _ (by repeat (first | with_reducible exact On.refl _ | apply On.alloc))).mono ?_
      rintro e w1 ⟨rfl, h1⟩
      go_wp2_with fail
      go_ret
      exact ⟨ret_bool en.out.symm, by refine On.trans ?_ h1; repeat (first | with_reducible exact On.refl _ | apply On.alloc)⟩
end Go.Proofs.Ytmmhekakihimfaa.Nu
