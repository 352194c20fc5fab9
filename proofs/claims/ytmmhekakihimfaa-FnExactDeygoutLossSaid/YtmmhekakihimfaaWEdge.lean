
/-
  The edge of a profile with the greatest parameter, in the model and in the program. Conditions: each theorem's own.
-/
import Derived.Test.YtmmhekakihimfaaWorstOf
import Derived.WalkMore
namespace Go.Proofs.Ytmmhekakihimfaa.Nu
open Go.RowKit Go.Shelf
open Plain
open Ints (Ints Own)
open Prof (PIn clr off_bd off slice_of okP of_okP ret_ii)
open Iter (Kp pts pts_succ)
attribute [local go_sem] Oper.semAt_some

/-- The greatest one of the points that have come. -/
def bst (pre : List (Nat × Int)) : Nat × Int := pre.foldl (fun s x => if s.2 < x.2 then x else s) (0, -1000001)
theorem bst_snoc (pre : List (Nat × Int)) (x : Nat × Int) : bst (pre ++ [x]) = if (bst pre).2 < x.2 then x else bst pre := by unfold bst; rw [List.foldl_append]; rfl
theorem bst_pts {val : Nat → Int} (hv : ∀ k, -1000000 ≤ val k) : ∀ k, bst (pts val k) = if k = 0 then (0, -1000001) else sel gtr val k
  | 0 => rfl
  | k + 1 => by
    rw [pts_succ, bst_snoc, bst_pts hv k, if_neg (by omega : ¬ k + 1 = 0), sel]
    have := hv (k + 1)
    by_cases hk : k = 0
    · rw [if_pos hk, if_pos (by show (-1000001 : Int) < val (k + 1); omega), if_pos (.inl hk)]
    · rw [if_neg hk]
      by_cases hX : (sel gtr val k).2 < val (k + 1)
      · rw [if_pos hX, if_pos (.inr (decide_eq_true hX))]
      · rw [if_neg hX, if_neg (by rintro (g | g); exact hk g; exact hX (of_decide_eq_true g))]
/-- What the program's search returns. -/
def weI (val : Nat → Int) (m : Nat) : Int := if m = 0 then 0 else ((sel gtr val m).1 : Nat)
def weN (val : Nat → Int) (m : Nat) : Int := if m = 0 then -1000001 else (sel gtr val m).2
theorem we_bst {val : Nat → Int} (hv : ∀ k, -1000000 ≤ val k) (k : Nat) : (((bst (pts val k)).1 : Nat) : Int) = weI val k ∧ (bst (pts val k)).2 = weN val k := by
  rw [bst_pts hv]
  unfold weI weN
  split <;> exact ⟨rfl, rfl⟩
theorem we_stop {val : Nat → Int} {k m : Nat} (hv : ∀ k, val k ≤ 1000000) (hk : k + 1 ≤ m) (hl : ∀ j, j < k → val (j + 1) ≠ 1000000) (he : val (k + 1) = 1000000) : weI val m = (k : Int) + 1 ∧ weN val m = 1000000 := by
  have h1 : sel gtr val (k + 1) = (k + 1, val (k + 1)) := by
    apply sel_take
    by_cases h0 : k = 0
    · exact .inl h0
    · right
      obtain ⟨a, b, c⟩ := sel_pos (b := gtr) (val := val) h0
      have h2 := hl ((sel gtr val k).1 - 1) (by omega)
      rw [show (sel gtr val k).1 - 1 + 1 = (sel gtr val k).1 by omega, ← c] at h2
      have h3 := hv (sel gtr val k).1
      rw [← c] at h3
      exact decide_eq_true (by omega)
  have h2 := sel_stays (b := gtr) (val := val) (k := k + 1) (by omega) (fun j _ => by rw [h1]; exact decide_eq_false (by have := hv j; simp only; omega)) (m - (k + 1))
  rw [show k + 1 + (m - (k + 1)) = m by omega, h1] at h2
  unfold weI weN
  rw [if_neg (by omega), if_neg (by omega), h2]
  exact ⟨by simp, he⟩
set_option maxRecDepth 100000 in
set_option maxHeartbeats 4000000 in
theorem impl_worstEdge (n cap b off : Nat) (d f l fr : Int) (zs : List Int) (w : World) (hb : b < w.heap.size) (hz : ∀ k, k ≤ n → w.cell? ⟨b, off + k, none⟩ = some (.int .i64 (zs.getD k 0))) (hzb : ∀ k, k ≤ n → 0 ≤ zs.getD k 0 ∧ zs.getD k 0 ≤ 90000)
    (d0 : 1 ≤ d) (d1 : d ≤ 283000) (f0 : 0 ≤ f) (f1 : f ≤ 180000) (l0 : 0 ≤ l) (l1 : l ≤ 180000) (n0 : 1 ≤ n) (n1 : n ≤ 64) (fr0 : 1 ≤ fr) (fr1 : fr ≤ 100000000) :
    Calls Try.prog 56 #[.agg #[.int .i64 d, .int .i64 f, .int .i64 l, .slice (some ⟨b, off, none⟩) (n + 1) cap, .int .i64 fr]] w fun e w' => e = .returned (.tuple #[.int .i64 (weI (nuAt d f l n fr zs) (n - 1)), .int .i64 (weN (nuAt d f l n fr zs) (n - 1))]) ∧ On w w' := by
  obtain ⟨val, hval⟩ : ∃ val : Nat → Int, val = nuAt d f l n fr zs := ⟨_, rfl⟩
  have hvb : ∀ k, -1000000 ≤ val k ∧ val k ≤ 1000000 := fun k => by rw [hval]; exact nu_bd _ _ _ _ _ _ _
  have HWB := Lib.hid (fun k => we_bst (fun k => (hvb k).1) k)
  have HWS := Lib.hid (fun (k : Nat) (hk : k + 1 ≤ n - 1) hl he => we_stop (k := k) (m := n - 1) (fun k => (hvb k).2) hk hl he)
  have HV := Lib.hid (fun (Bad : Nat → Prop) (W1 : World) (ho : On w W1) (hbad : ¬ Bad b) (k : Nat) W' (k0 : 1 ≤ k) (k1 : k < n) (hk : Kp Bad W1 W') => show Calls Try.prog 53 #[.agg #[.int .i64 d, .int .i64 f, .int .i64 l, .slice (some ⟨b, off, none⟩) (n + 1) cap, .int .i64 fr], .int .i64 k] W' (fun e W'' => e = .returned (.int .i64 (val k)) ∧ On W' W'') by
    rw [hval]
    exact impl_parameter n cap k b off d f l (zs.getD k 0) fr W' (Nat.lt_of_lt_of_le (ho.lts _ hb) hk.1) (hk.2 _ _ hbad ((ho.cell (p := ⟨b, off + k, none⟩) (by exact hb)).trans (hz k (by omega)))) (hzb k (by omega)).1 (hzb k (by omega)).2 d0 d1 f0 f1 l0 l1 (by omega) n0 n1 fr0 fr1)
  rw [← hval]
  clear hz hzb hval hvb
  refine (callsIn_wide (n := 6)).1 ?_
  refine callsIn_of_wp_marks Try.func56 rfl trivial ?_ rfl
  simp only [Try.ntmps56, List.size_toArray, List.length_cons, List.length_nil, Nat.reduceAdd, Nat.reduceSub, Array.replicate_succ, Array.replicate_zero, List.push_toArray, List.append_toArray, List.nil_append, List.cons_append]
  gi_wp2
  refine (wpIn_wide (n := 6)).2 (wp_scope_straight ((wpIn_wide (n := 6)).1 ?_))
  gi_wp2
  refine wpIn_label ?_
  gi_wp2
  refine ⟨trivial, (callsIn_wide.2 (Iter.inner d f l (some ⟨b, off, none⟩) (n + 1) cap 53 #[.agg #[.int .i64 d, .int .i64 f, .int .i64 l, .slice (some ⟨b, off, none⟩) (n + 1) cap, .int .i64 fr]] _)).mono ?_⟩
  rintro e w2 ⟨rfl, hp2, hq2, h2⟩
  simp only [World.size_alloc] at hp2 hq2
  have bx : w2.cell? ⟨w.heap.size + 1, 0, none⟩ = some (.int .i64 0) := (h2.cell (by simp)).trans (by simp [go_sem])
  have fx : w2.frozen? ⟨w.heap.size + 1, 0, none⟩ = false := (h2.frozen (by simp)).trans (by simp [go_sem])
  have bY : w2.cell? ⟨w.heap.size + 1 + 1, 0, none⟩ = some (.int .i64 (-1000001)) := (h2.cell (by simp)).trans (by simp [go_sem])
  have fY : w2.frozen? ⟨w.heap.size + 1 + 1, 0, none⟩ = false := (h2.frozen (by simp)).trans (by simp [go_sem])
  have HO2 := Lib.hid (show On w w2 by refine On.trans ?_ h2; repeat (first | with_reducible exact On.refl _ | apply On.alloc | refine On.setCell ?_ (by (try simp) <;> omega) _))
  clear h2
  have Bb : ¬ (b = w.heap.size + 1 ∨ b = w.heap.size + 1 + 1) := by omega
  gi_wp2
  refine wpIn_rangeFunc_ownG rfl (by omega) (gf := 85) (lb := #[.pointer (some ⟨w.heap.size + 1 + 1 + 1, 0, none⟩), .pointer (some ⟨w.heap.size + 1 + 1 + 1 + 1, 0, none⟩)]) rfl trivial (enters_of Try.func85 (by kernel_rfl) rfl)
    (Iter.iter_parameter 5 (by omega) (fun k => k = w.heap.size + 1 ∨ k = w.heap.size + 1 + 1) (w.heap.size + 1 + 1 + 1) (w.heap.size + 1 + 1 + 1 + 1) n cap d f l (some ⟨b, off, none⟩) (.agg #[.int .i64 d, .int .i64 f, .int .i64 l, .slice (some ⟨b, off, none⟩) (n + 1) cap, .int .i64 fr]) val w2 n0 n1 hp2 hq2 (by omega) (by omega) (fun k W' k0 k1 hk => HV.out _ w2 HO2.out Bb k W' k0 k1 hk))
    (fun h k => Kp.trans h k) (fun W l o o' _ h hc _ => Kp.put W l o o' h hc) (Below.refl _ _) (fun _ => rfl)
    (fun pre W => ((∀ p ∈ pre, p.2 ≠ 1000000) ∧ W.cell? ⟨w.heap.size + 1, 0, none⟩ = some (.int .i64 ((bst pre).1 : Nat)) ∧ W.frozen? ⟨w.heap.size + 1, 0, none⟩ = false ∧ W.cell? ⟨w.heap.size + 1 + 1, 0, none⟩ = some (.int .i64 (bst pre).2) ∧ W.frozen? ⟨w.heap.size + 1 + 1, 0, none⟩ = false) ∧ Below w.heap.size w W)
    (fun c pre W => (c = Code.exit 0 ∧ ∃ ini x, pre = ini ++ [x] ∧ (∀ p ∈ ini, p.2 ≠ 1000000) ∧ x.2 = 1000000 ∧ W.cell? ⟨w.heap.size + 1, 0, none⟩ = some (.int .i64 (x.1 : Int)) ∧ W.cell? ⟨w.heap.size + 1 + 1, 0, none⟩ = some (.int .i64 1000000)) ∧ Below w.heap.size w W)
    (OwnFrom.and (Own.from (fun s A Bw row hs hg hr => ⟨hs.1, cell_kept hs.2.1 hg hr, (frozen_kept hs.2.1 hg hr).trans hs.2.2.1, cell_kept hs.2.2.2.1 hg hr, (frozen_kept hs.2.2.2.1 hg hr).trans hs.2.2.2.2⟩) _) (ownFrom_below (Nat.le_refl _) (by have := HO2.out.size; omega)))
    (fun c => OwnFrom.and (Own.from (fun s A Bw row hs hg hr => by obtain ⟨hc, ini, x, e1, e2, e3, e4, e5⟩ := hs; exact ⟨hc, ini, x, e1, e2, e3, cell_kept e4 hg hr, cell_kept e5 hg hr⟩) _) (ownFrom_below (Nat.le_refl _) (by have := HO2.out.size; omega)))
    ⟨⟨by simp, bx, fx, bY, fY⟩, HO2.out⟩
    (fun x => { tmps := #[Value.agg #[Value.int IntKind.i64 d, Value.int IntKind.i64 f, Value.int IntKind.i64 l, Value.slice (some ⟨b, off, none⟩) (n + 1) cap, Value.int IntKind.i64 fr], Value.pointer (some ⟨w.heap.size, 0, none⟩), Value.int IntKind.i64 0, Value.int IntKind.i64 0, Value.pointer (some ⟨w.heap.size + 1, 0, none⟩), Value.pointer (some ⟨w.heap.size + 1 + 1, 0, none⟩), .int .i64 (x.1 : Int), .int .i64 x.2, Value.pointer (some ⟨w.heap.size, 0, none⟩), Value.agg #[Value.int IntKind.i64 d, Value.int IntKind.i64 f, Value.int IntKind.i64 l, Value.slice (some ⟨b, off, none⟩) (n + 1) cap], Value.agg #[Value.int IntKind.i64 d, Value.int IntKind.i64 f, Value.int IntKind.i64 l, Value.slice (some ⟨b, off, none⟩) (n + 1) cap, Value.int IntKind.i64 fr], Value.func (Fn.func 53) #[Value.agg #[Value.int IntKind.i64 d, Value.int IntKind.i64 f, Value.int IntKind.i64 l, Value.slice (some ⟨b, off, none⟩) (n + 1) cap, Value.int IntKind.i64 fr]] #[], Value.func (Fn.func 85) #[] #[Value.pointer (some ⟨w.heap.size + 1 + 1 + 1, 0, none⟩), Value.pointer (some ⟨w.heap.size + 1 + 1 + 1 + 1, 0, none⟩)], .int .i64 (x.1 : Int), .int .i64 x.2, undef, undef, undef, undef, undef, undef, undef, undef, undef, undef, undef, undef, undef], defers := [] }) ?assign ?body ?done ?stop
  case assign =>
    intro l x W K hK
    gi_wp2
    exact hK
  case body =>
    rintro lp pre x W ⟨⟨hne, hx, gx, hy, gy⟩, hB⟩ -
    have E := Lib.hid (bst_snoc pre x)
    have hW2 : w.heap.size + 1 + 1 < W.heap.size := World.block_lt_of_cell? W _ hy
    have HB := Lib.hid hB
    have HNE := Lib.hid hne
    have TAKE := Lib.hid (show (bst pre).2 < x.2 → bst (pre ++ [x]) = x from fun h => by rw [E.out, if_pos h])
    have KEEP := Lib.hid (show ¬ (bst pre).2 < x.2 → bst (pre ++ [x]) = bst pre from fun h => by rw [E.out, if_neg h])
    have HI := Lib.hid (show W.cell? ⟨w.heap.size + 1, 0, none⟩ = some (.int .i64 ((bst pre).1 : Nat)) ∧ W.cell? ⟨w.heap.size + 1 + 1, 0, none⟩ = some (.int .i64 (bst pre).2) from ⟨hx, hy⟩)
    obtain ⟨p1, hp1⟩ : ∃ p1, p1 = (bst pre).1 := ⟨_, rfl⟩
    obtain ⟨p2, hp2⟩ : ∃ p2, p2 = (bst pre).2 := ⟨_, rfl⟩
    rw [← hp1] at hx
    rw [← hp2] at hy TAKE KEEP
    clear hp1 hp2 hB E hne
    by_cases hmx : x.2 = 1000000
    · have hb0 : (x.2 == 1000000) = true := beq_iff_eq.2 hmx
      have HM := Lib.hid hmx
      clear hmx TAKE KEEP
      gi_wp2
      refine ⟨((KeepsOthers.setCell _ _ _).trans (KeepsOthers.setCell _ _ _)).from _, ⟨rfl, pre, x, rfl, HNE.out, HM.out, ?_, ?_⟩, ?_⟩
      · simp [go_sem, hx]
      · rw [← HM.out]; simp [go_sem, hy]
      · exact (HB.out.setCell (p := ⟨w.heap.size + 1, 0, none⟩) (by show w.heap.size ≤ w.heap.size + 1; omega) _).setCell (p := ⟨w.heap.size + 1 + 1, 0, none⟩) (by show w.heap.size ≤ w.heap.size + 1 + 1; omega) _
    · have hb0 : (x.2 == 1000000) = false := beq_eq_false_iff_ne.2 hmx
      have HNE2 := Lib.hid (show ∀ p ∈ pre ++ [x], p.2 ≠ 1000000 from fun p hp => (List.mem_append.1 hp).elim (HNE.out p) (fun e => by simp at e; subst e; exact hmx))
      clear hmx
      by_cases hlt : p2 < x.2
      · have T := Lib.hid (TAKE.out hlt)
        clear TAKE KEEP
        gi_wp2
        refine ⟨((KeepsOthers.setCell _ _ _).trans (KeepsOthers.setCell _ _ _)).from _, (Kp.setCell _ _ _ (.inl rfl)).trans (Kp.setCell _ _ _ (.inr rfl)), ⟨by first | exact HNE2.out | exact fun a b h => HNE2.out (a, b) h, ?_, ?_, ?_, ?_⟩, ?_⟩
        · rw [T.out]; simp [go_sem, hx]
        · simp [World.frozen?_setCell, gx]
        · rw [T.out]; simp [go_sem, hy]
        · simp [World.frozen?_setCell, gy]
        · exact (HB.out.setCell (p := ⟨w.heap.size + 1, 0, none⟩) (by show w.heap.size ≤ w.heap.size + 1; omega) _).setCell (p := ⟨w.heap.size + 1 + 1, 0, none⟩) (by show w.heap.size ≤ w.heap.size + 1 + 1; omega) _
      · have T := Lib.hid (KEEP.out hlt)
        clear TAKE KEEP
        gi_wp2
        exact ⟨KeepsFrom.refl _ _, Kp.refl _ _, ⟨by first | exact HNE2.out | exact fun a b h => HNE2.out (a, b) h, by rw [T.out]; exact HI.out.1, gx, by rw [T.out]; exact HI.out.2, gy⟩, HB.out⟩
  case done =>
    rintro D ys W hD rfl ⟨⟨-, hx, gx, hy, gy⟩, hB⟩ hK
    have en0 := HWB.out (n - 1)
    obtain ⟨s1, hs1⟩ : ∃ s1, s1 = (bst (pts val (n - 1))).1 := ⟨_, rfl⟩
    obtain ⟨s2, hs2⟩ : ∃ s2, s2 = (bst (pts val (n - 1))).2 := ⟨_, rfl⟩
    rw [← hs1] at hx en0
    rw [← hs2] at hy en0
    have EN := Lib.hid en0
    have HK := Lib.hid hK
    clear hs1 hs2 en0
    gi_wp2
    gi_region
    all_goals
      gi_wp2
      refine ⟨by simp, .inl ⟨_, _, rfl, run_takeDeferred hK, ?_⟩⟩
      refine ⟨_, results_tmp2 rfl _ _ _, ?_⟩
      exact ⟨ret_ii EN.out.1 EN.out.2, hB.drew.trans (belowK_b (w := w) (Nat.le_refl _) W.drew D _ _ (by have := HO2.out.size; omega) HK.out rfl rfl)⟩
  case stop =>
    rintro D c pre W hD ⟨k, hk, rfl⟩ ⟨⟨rfl, ini, x, e1, e2, e3, hx, hy⟩, hB⟩ hK
    have en0 : (x.1 : Int) = weI val (n - 1) ∧ (1000000 : Int) = weN val (n - 1) := by
      obtain ⟨k', rfl⟩ : ∃ k', k = k' + 1 := by
        cases k with
        | zero => simp [pts] at e1
        | succ k' => exact ⟨k', rfl⟩
      rw [pts_succ] at e1
      obtain ⟨rfl, e5⟩ := List.append_inj' e1 rfl
      obtain rfl : (k' + 1, val (k' + 1)) = x := by simpa using e5
      obtain ⟨a1, a2⟩ := HWS.out k' hk (fun j hj => e2 (j + 1, val (j + 1)) (by simp only [pts, List.mem_map, List.mem_range]; exact ⟨j, hj, rfl⟩)) e3
      exact ⟨by rw [a1]; simp, a2.symm⟩
    have HK := Lib.hid hK
    obtain ⟨s1, hs1⟩ : ∃ s1 : Int, s1 = (x.1 : Int) := ⟨_, rfl⟩
    rw [← hs1] at hx en0
    have EN := Lib.hid en0
    clear hs1 e1 e2 e3 en0
    gi_wp2
    gi_region
    all_goals
      gi_wp2
      refine ⟨by simp, .inl ⟨_, _, rfl, run_takeDeferred hK, ?_⟩⟩
      refine ⟨_, results_tmp2 rfl _ _ _, ?_⟩
      exact ⟨ret_ii EN.out.1 EN.out.2, hB.drew.trans (belowK_b (w := w) (Nat.le_refl _) W.drew D _ _ (by have := HO2.out.size; omega) HK.out rfl rfl)⟩
/-- SingleEdge. -/
def sg (d f l fr : Int) (zs : List Int) : Nat × Int := sel gtr (nuAt d f l ((zs.length : Int) - 1) fr zs) (zs.length - 2)
def sgC (d f l fr : Int) (zs : List Int) : Int := if seeC d f l zs fr = 0 then (if zs.length = 2 then 6 else 0) else seeC d f l zs fr
def sgI (d f l fr : Int) (zs : List Int) : Int := if sgC d f l fr zs = 0 then ((sg d f l fr zs).1 : Nat) else 0
def sgL (d f l fr : Int) (zs : List Int) : Int := if sgC d f l fr zs = 0 then Go.Proofs.Ytmmhekakihimfaa.Edge.edge (sg d f l fr zs).2 else 0
theorem sg_no {d f l fr : Int} {zs : List Int} (h : seeC d f l zs fr ≠ 0) : sgI d f l fr zs = 0 ∧ sgL d f l fr zs = 0 ∧ sgC d f l fr zs = seeC d f l zs fr := by
  have e : sgC d f l fr zs = seeC d f l zs fr := if_neg h
  exact ⟨if_neg (by rw [e]; exact h), if_neg (by rw [e]; exact h), e⟩
theorem sg_none {d f l fr : Int} {zs : List Int} {n : Nat} (h : seeC d f l zs fr = 0) (hn : zs.length = n + 1) (g : n - 1 = 0) (n1 : 1 ≤ n) : sgI d f l fr zs = 0 ∧ sgL d f l fr zs = 0 ∧ sgC d f l fr zs = 6 := by
  have e : sgC d f l fr zs = 6 := by unfold sgC; rw [if_pos h, if_pos (by omega)]
  exact ⟨if_neg (by rw [e]; decide), if_neg (by rw [e]; decide), e⟩
theorem sg_some {d f l fr : Int} {zs : List Int} {n : Nat} (h : seeC d f l zs fr = 0) (hn : zs.length = n + 1) (g : n - 1 ≠ 0) :
    sgI d f l fr zs = ((sel gtr (nuAt d f l n fr zs) (n - 1)).1 : Nat) ∧ sgL d f l fr zs = Go.Proofs.Ytmmhekakihimfaa.Edge.edge (sel gtr (nuAt d f l n fr zs) (n - 1)).2 ∧ sgC d f l fr zs = 0 := by
  have e : sgC d f l fr zs = 0 := by unfold sgC; rw [if_pos h, if_neg (by omega)]
  have e2 : sg d f l fr zs = sel gtr (nuAt d f l n fr zs) (n - 1) := by unfold sg; rw [hn, show ((((n + 1 : Nat)) : Int) - 1) = n from by omega, show n + 1 - 2 = n - 1 from by omega]
  exact ⟨by unfold sgI; rw [if_pos e, e2], by unfold sgL; rw [if_pos e, e2], e⟩
theorem sel_nu_bd (d f l n fr : Int) (zs : List Int) (k : Nat) : -1000000 ≤ (sel gtr (nuAt d f l n fr zs) k).2 ∧ (sel gtr (nuAt d f l n fr zs) k).2 ≤ 1000000 := by
  by_cases h : k = 0
  · subst h; simp [sel]
  · rw [(sel_pos h).2.2]; exact nu_bd _ _ _ _ _ _ _
set_option maxHeartbeats 4000000 in
theorem spec_SingleEdge (d f l fr : Int) (a : Option Addr) (cap : Nat) (zs : List Int) (w : World) (hn : zs.length ≤ 1048576) (h : Ints w (.slice a zs.length cap) zs) :
    Calls Try.prog 26 #[.agg #[.int .i64 d, .int .i64 f, .int .i64 l, .slice a zs.length cap], .int .i64 fr] w fun e w' => e = .returned (.tuple #[.int .i64 (sgI d f l fr zs), .int .i64 (sgL d f l fr zs), .int .i64 (sgC d f l fr zs)]) ∧ On w w' := by
  have hA := fun w' (hb : On w w') hp => spec_ask w.heap.size d f l fr a cap zs w' hn hp (h.below hb)
  by_cases hs : seeC d f l zs fr = 0
  · rw [hs] at hA
    have HA := Lib.hid hA
    obtain ⟨n, hzn, n0, n1, hzb, ⟨d0, d1⟩, ⟨f0, f1⟩, ⟨l0, l1⟩, fr0, fr1⟩ := see_at hs
    obtain ⟨b, off, rfl, hb, hcell⟩ := slice_of h (by omega)
    obtain ⟨val, hval⟩ : ∃ val : Nat → Int, val = nuAt d f l n fr zs := ⟨_, rfl⟩
    have hW := fun w' (hw : On w w') hp => spec_l10Worst w.heap.size n cap b off d f l fr zs w' hp (hw.lts _ hb) (fun k hk => (hw.cell (p := ⟨b, off + k, none⟩) (by exact hb)).trans (hcell k (by omega))) hzb d0 d1 f0 f1 l0 l1 n0 n1 fr0 fr1
    rw [← hval] at hW
    by_cases g0 : n - 1 = 0
    · have en := Lib.hid (sg_none hs hzn g0 n0)
      rw [g0, selI_zero] at hW
      have HW := Lib.hid hW
      rw [hzn] at HA ⊢
      clear hA h hs hzn hcell hzb hval hW g0
      go_enter Try.func26, Try.ntmps26
      go_wp2_with fail
      refine (HA.out _ (by repeat (first | with_reducible exact On.refl _ | apply On.alloc)) ⟨by simp [go_sem], by simp [go_sem], by simp [go_sem], by simp [go_sem]⟩).mono ?_
      rintro e w1 ⟨rfl, q, rfl⟩
      go_wp2_with fail
      refine (HW.out _ (by repeat (first | with_reducible exact On.refl _ | apply On.drewN | apply On.alloc)) ⟨by simp [go_sem], by simp [go_sem], by simp [go_sem], by simp [go_sem]⟩).mono ?_
      rintro e w2 ⟨rfl, h2⟩
      have HO2 := Lib.hid (show On w w2 by refine On.trans ?_ h2; repeat (first | with_reducible exact On.refl _ | apply On.drewN | apply On.alloc))
      go_wp2_with fail
      go_ret3; exact ⟨ret_iii en.out.1.symm en.out.2.1.symm en.out.2.2.symm, HO2.out⟩
    · have en := sg_some hs hzn g0
      have hbd := sel_nu_bd d f l n fr zs (n - 1)
      rw [← hval] at en hbd
      have hp := (sel_pos (b := gtr) (val := val) g0).1
      rw [selI_pos g0] at hW
      obtain ⟨s1, hs1⟩ : ∃ s1, s1 = (sel gtr val (n - 1)).1 := ⟨_, rfl⟩
      obtain ⟨s2, hs2⟩ : ∃ s2, s2 = (sel gtr val (n - 1)).2 := ⟨_, rfl⟩
      rw [← hs1] at hp
      rw [← hs2] at hbd
      rw [← hs1, ← hs2] at hW en
      have en := Lib.hid en
      have HE := Lib.hid (fun w => Go.Proofs.Ytmmhekakihimfaa.Edge.spec_edge s2 w hbd.1 hbd.2)
      have HW := Lib.hid hW
      have hnn : ¬ ((s1 : Int) < 0) := by omega
      rw [hzn] at HA ⊢
      clear hA h hs hzn hcell hzb hval hW g0 hs1 hs2
      go_enter Try.func26, Try.ntmps26
      go_wp2_with fail
      refine (HA.out _ (by repeat (first | with_reducible exact On.refl _ | apply On.alloc)) ⟨by simp [go_sem], by simp [go_sem], by simp [go_sem], by simp [go_sem]⟩).mono ?_
      rintro e w1 ⟨rfl, q, rfl⟩
      go_wp2_with fail
      refine (HW.out _ (by repeat (first | with_reducible exact On.refl _ | apply On.drewN | apply On.alloc)) ⟨by simp [go_sem], by simp [go_sem], by simp [go_sem], by simp [go_sem]⟩).mono ?_
      rintro e w2 ⟨rfl, h2⟩
      have HO2 := Lib.hid (show On w w2 by refine On.trans ?_ h2; repeat (first | with_reducible exact On.refl _ | apply On.drewN | apply On.alloc))
      go_wp2_with fail
      refine (HE.out _).mono ?_
      rintro e w3 ⟨rfl, rfl⟩
      go_wp2_with fail
      go_ret3; exact ⟨ret_iii en.out.1.symm en.out.2.1.symm en.out.2.2.symm, HO2.out⟩
  · have en := Lib.hid (sg_no hs)
    have hb : (seeC d f l zs fr == 0) = false := beq_eq_false_iff_ne.2 hs
    have hb2 : (seeC d f l zs fr != 0) = true := bne_iff_ne.2 hs
    have HA := Lib.hid hA
    clear hA h hs
    go_enter Try.func26, Try.ntmps26
    go_wp2_with fail
    refine (HA.out _ (by repeat (first | with_reducible exact On.refl _ | apply On.alloc)) ⟨by simp [go_sem], by simp [go_sem], by simp [go_sem], by simp [go_sem]⟩).mono ?_
    rintro e w1 ⟨rfl, q, rfl⟩
    go_wp2_with fail
    go_ret3; exact ⟨ret_iii en.out.1.symm en.out.2.1.symm en.out.2.2.symm, by repeat (first | with_reducible exact On.refl _ | apply On.drewN | apply On.alloc)⟩
set_option maxHeartbeats 4000000 in
theorem impl_SingleEdge (d f l fr : Int) (a : Option Addr) (cap : Nat) (zs : List Int) (w : World) (hn : zs.length ≤ 1048576) (h : Ints w (.slice a zs.length cap) zs) :
    Calls Try.prog 27 #[.agg #[.int .i64 d, .int .i64 f, .int .i64 l, .slice a zs.length cap], .int .i64 fr] w fun e w' => e = .returned (.tuple #[.int .i64 (sgI d f l fr zs), .int .i64 (sgL d f l fr zs), .int .i64 (sgC d f l fr zs)]) ∧ On w w' := by
  have hA := fun w' (hb : On w w') => impl_sightAlong d f l fr a cap zs w' hn (h.below hb)
  by_cases hs : seeC d f l zs fr = 0
  · rw [hs] at hA
    have HA := Lib.hid hA
    obtain ⟨n, hzn, n0, n1, hzb, ⟨d0, d1⟩, ⟨f0, f1⟩, ⟨l0, l1⟩, fr0, fr1⟩ := see_at hs
    obtain ⟨b, off, rfl, hb, hcell⟩ := slice_of h (by omega)
    obtain ⟨val, hval⟩ : ∃ val : Nat → Int, val = nuAt d f l n fr zs := ⟨_, rfl⟩
    have hW := fun w' (hw : On w w') => impl_worstEdge n cap b off d f l fr zs w' (hw.lts _ hb) (fun k hk => (hw.cell (p := ⟨b, off + k, none⟩) (by exact hb)).trans (hcell k (by omega))) hzb d0 d1 f0 f1 l0 l1 n0 n1 fr0 fr1
    rw [← hval] at hW
    by_cases g0 : n - 1 = 0
    · have en := Lib.hid (sg_none hs hzn g0 n0)
      have e1 : weI val (n - 1) = 0 := if_pos g0
      have e2 : weN val (n - 1) = -1000001 := if_pos g0
      rw [e1, e2] at hW
      have HW := Lib.hid hW
      rw [hzn] at HA ⊢
      clear hA h hs hzn hcell hzb hval hW g0 e1 e2
      go_enter Try.func27, Try.ntmps27
      go_wp2_with fail
      refine (HA.out _ (by repeat (first | with_reducible exact On.refl _ | apply On.alloc))).mono ?_
      rintro e w1 ⟨v, rfl, hv, hv', h1⟩
      have HO := Lib.hid (show On w w1 by refine On.trans ?_ h1; repeat (first | with_reducible exact On.refl _ | apply On.alloc))
      obtain rfl := hv trivial
      clear h1 hv hv'
      go_wp2_with fail
      refine (HW.out _ (by repeat (first | with_reducible exact HO.out | apply On.alloc | refine On.setCell ?_ (by (try simp) <;> omega) _))).mono ?_
      rintro e w2 ⟨rfl, h2⟩
      have HO2 := Lib.hid (show On w w2 by refine On.trans ?_ h2; repeat (first | with_reducible exact HO.out | apply On.alloc | refine On.setCell ?_ (by (try simp) <;> omega) _))
      clear h2
      have hwz := HO.out.size
      go_wp2_with fail
      go_ret3; exact ⟨ret_iii en.out.1.symm en.out.2.1.symm en.out.2.2.symm, HO2.out⟩
    · have en := sg_some hs hzn g0
      have hbd := sel_nu_bd d f l n fr zs (n - 1)
      rw [← hval] at en hbd
      have hp := (sel_pos (b := gtr) (val := val) g0).1
      have e1 : weI val (n - 1) = ((sel gtr val (n - 1)).1 : Nat) := if_neg g0
      have e2 : weN val (n - 1) = (sel gtr val (n - 1)).2 := if_neg g0
      rw [e1, e2] at hW
      obtain ⟨s1, hs1⟩ : ∃ s1, s1 = (sel gtr val (n - 1)).1 := ⟨_, rfl⟩
      obtain ⟨s2, hs2⟩ : ∃ s2, s2 = (sel gtr val (n - 1)).2 := ⟨_, rfl⟩
      rw [← hs1] at hp
      rw [← hs2] at hbd
      rw [← hs1, ← hs2] at hW en
      rw [← Go.Proofs.Ytmmhekakihimfaa.Edge.loss_in (inB_yes hbd.1 hbd.2)] at en
      have en := Lib.hid en
      have HE := Lib.hid (fun w => Go.Proofs.Ytmmhekakihimfaa.Edge.impl_EdgeLoss s2 w)
      have HW := Lib.hid hW
      have hnn : ((s1 : Int) == 0) = false := beq_eq_false_iff_ne.2 (by omega)
      rw [hzn] at HA ⊢
      clear hA h hs hzn hcell hzb hval hW g0 hs1 hs2 e1 e2
      go_enter Try.func27, Try.ntmps27
      go_wp2_with fail
      refine (HA.out _ (by repeat (first | with_reducible exact On.refl _ | apply On.alloc))).mono ?_
      rintro e w1 ⟨v, rfl, hv, hv', h1⟩
      have HO := Lib.hid (show On w w1 by refine On.trans ?_ h1; repeat (first | with_reducible exact On.refl _ | apply On.alloc))
      obtain rfl := hv trivial
      clear h1 hv hv'
      go_wp2_with fail
      refine (HW.out _ (by repeat (first | with_reducible exact HO.out | apply On.alloc | refine On.setCell ?_ (by (try simp) <;> omega) _))).mono ?_
      rintro e w2 ⟨rfl, h2⟩
      have HO2 := Lib.hid (show On w w2 by refine On.trans ?_ h2; repeat (first | with_reducible exact HO.out | apply On.alloc | refine On.setCell ?_ (by (try simp) <;> omega) _))
      clear h2
      have hwz := HO.out.size
      go_wp2_with fail
      refine (HE.out _).mono ?_
      rintro e w3 ⟨rfl, h3⟩
      go_wp2_with fail
      go_ret3; exact ⟨ret_iii en.out.1.symm en.out.2.1.symm en.out.2.2.symm, HO2.out.trans h3⟩
  · have en := Lib.hid (sg_no hs)
    have hb : (seeC d f l zs fr == 0) = false := beq_eq_false_iff_ne.2 hs
    have hb2 : (seeC d f l zs fr != 0) = true := bne_iff_ne.2 hs
    have HS := Lib.hid hs
    have HA := Lib.hid hA
    clear hA h hs
    go_enter Try.func27, Try.ntmps27
    go_wp2_with fail
    refine (HA.out _ (by repeat (first | with_reducible exact On.refl _ | apply On.alloc))).mono ?_
    rintro e w1 ⟨v, rfl, hv, hv', h1⟩
    have HO := Lib.hid (show On w w1 by refine On.trans ?_ h1; repeat (first | with_reducible exact On.refl _ | apply On.alloc))
    obtain rfl := hv' HS.out
    clear h1 hv hv'
    go_wp2_with fail
    go_ret3; exact ⟨ret_iii en.out.1.symm en.out.2.1.symm en.out.2.2.symm, by repeat (first | with_reducible exact HO.out | apply On.alloc | refine On.setCell ?_ (by (try simp) <;> omega) _)⟩
end Go.Proofs.Ytmmhekakihimfaa.Nu
