
/-
  The losses at some distances, in the model and in the program. Condition: at most 1048576 distances; the program's variable of spans holds what its text lays.
-/
import Derived.Test.YtnbkdekndflefaaDoorFree
import Derived.OwnWalk
import Derived.Laws.AppendOwn
namespace Go.Proofs.YtnbkdekndflefaaDoor.FTab
open Go.RowKit
open Plain
open Span (SpanG)
open Ints (Ints Own)

theorem cells_one {w : World} {v : Value} {t : TypeId} : ∀ (j : Nat) u, [v][j]? = some u → (w.alloc (.cells #[v] t)).cell? ((⟨w.heap.size, 0, none⟩ : Addr).add j) = some u := by
  intro j u hj
  match j, hj with
  | 0, hj => simp at hj; subst hj; simp [Addr.add]
theorem one_cell {k : IntKind} {n : Int} : ∀ u ∈ [Value.int k n], u.oneCell' = true := by
  intro u hu; simp at hu; subst hu; rfl
def distB (d : Int) : Bool := inB d 1 283000
def frees (f : Int) (ds : List Int) (k : Nat) : List Int := (ds.take k).map (freeV f)
theorem frees_length {f : Int} {ds : List Int} {k : Nat} (h : k ≤ ds.length) : (frees f ds k).length = k := by unfold frees; rw [List.length_map, List.length_take]; omega
theorem frees_all (f : Int) (ds : List Int) : frees f ds ds.length = ds.map (freeV f) := by unfold frees; rw [List.take_length]
theorem frees_succ {f : Int} {ds : List Int} {k : Nat} (h : k < ds.length) : frees f ds (k + 1) = frees f ds k ++ [freeV f (ds.getD k 0)] := by
  unfold frees; rw [List.take_succ_eq_append_getElem h, List.map_append]
  simp [h]
theorem frees_get {f : Int} {ds : List Int} {k : Nat} (h : k < ds.length) : (ds.map (freeV f)).getD k 0 = freeV f (ds.getD k 0) := by simp [h]
def intCells (zs : List Int) : List Value := zs.map (.int .i64 ·)
theorem own_row {w : World} {B e : Nat} {v : Value} {zs : List Int} (h : w.ownsRow B e 1 v zs.length (intCells zs)) : Ints w v zs := by
  have hlt := h.lt
  have hc := fun g (hg : v.ownBlock = some g) => h.cells hg
  obtain ⟨_, ⟨rfl, h2⟩ | ⟨g, cap, cur, rfl, hB, _⟩⟩ := h
  · exact ⟨none, 0, by rw [h2], fun h0 => by omega⟩
  · refine ⟨_, cap, rfl, fun _ => ⟨g, 0, rfl, (hlt g rfl).2, fun j hj => ?_⟩⟩
    have := hc g rfl j (.int .i64 (zs.getD j 0)) (by simp [intCells, hj])
    have e : (⟨g, 0, none⟩ : Addr).add j = ⟨g, 0 + j, none⟩ := by cases j <;> simp [Addr.add]
    rw [e] at this
    exact this
/-- The table, and its code. -/
def okT (f : Int) (ds : List Int) : Bool := inB f 1 100000000 && ds.all distB
def tabV (f : Int) (ds : List Int) : List Int := if ds.length ≤ 64 ∧ okT f ds = true then ds.map (freeV f) else []
def tabC (f : Int) (ds : List Int) : Int := if ds.length ≤ 64 then (if okT f ds = true then 0 else 2) else 5
theorem tab_full {f : Int} {ds : List Int} (h : ¬ ds.length ≤ 64) : tabV f ds = [] ∧ tabC f ds = 5 := by unfold tabV tabC; rw [if_neg (fun q => h q.1), if_neg h]; exact ⟨rfl, rfl⟩
theorem tab_bad {f : Int} {ds : List Int} (h : ds.length ≤ 64) (g : inB f 1 100000000 = false ∨ ds.all distB = false) : tabV f ds = [] ∧ tabC f ds = 2 := by
  have e : okT f ds = false := by unfold okT; rcases g with g | g <;> rw [g] <;> simp
  unfold tabV tabC; rw [if_neg (fun q => by rw [e] at q; cases q.2), if_pos h, e]; exact ⟨rfl, rfl⟩
theorem tab_ok {f : Int} {ds : List Int} (h : ds.length ≤ 64) (g0 : inB f 1 100000000 = true) (g1 : ds.all distB = true) : tabV f ds = ds.map (freeV f) ∧ tabC f ds = 0 := by
  have e : okT f ds = true := by unfold okT; rw [g0, g1]; rfl
  unfold tabV tabC; rw [if_pos ⟨h, e⟩, if_pos h, e]; exact ⟨rfl, rfl⟩
theorem tab_len (f : Int) (ds : List Int) : (tabV f ds).length ≤ 64 := by unfold tabV; split <;> simp <;> omega
theorem ret_si {v : Value} {a b : Int} (h : a = b) : Ending.returned (.tuple #[v, .int .i64 a]) = .returned (.tuple #[v, .int .i64 b]) := by rw [h]
set_option maxHeartbeats 4000000 in
set_option maxRecDepth 1000000 in
theorem spec_FreeTable (f : Int) (v : Value) (ds : List Int) (w : World) (hq : ds.length ≤ 1048576) (h : Ints w v ds) :
    Calls Tryd.prog 29 #[.int .i64 f, v] w fun e w' => ∃ u, e = .returned (.tuple #[u, .int .i64 (tabC f ds)]) ∧ Ints w' u (tabV f ds) ∧ On w w' := by
  obtain ⟨i0, hi, hz0, hz1, hz2⟩ := info_parts Ints.info
  obtain ⟨a, cap, rfl, hc⟩ := h
  obtain ⟨n, hn⟩ : ∃ n, n = ds.length := ⟨_, rfl⟩
  have HN := Lib.hid hn
  have HC := Lib.hid hc
  by_cases h64 : n ≤ 64
  · have HX := Lib.hid (fun (h : ds.all distB = false) => tab_bad (f := f) (by rw [← hn]; exact h64) (.inr h))
    have HF := Lib.hid (fun (h : inB f 1 100000000 = false) => tab_bad (ds := ds) (by rw [← hn]; exact h64) (.inl h))
    have HY := Lib.hid (fun (h0 : inB f 1 100000000 = true) (h : ds.all distB = true) => tab_ok (by rw [← hn]; exact h64) h0 h)
    rw [← hn] at hq ⊢
    clear hc hn
    go_enter Tryd.func29, Tryd.ntmps29
    go_wp2_with fail
    go_loop [7] (fun i => ∃ k : Nat, k ≤ n ∧ i = .int .i64 k ∧ AllTo distB ds k) (fun i => n - (intOf i).toNat)
    case atStart => exact ⟨0, Nat.zero_le _, rfl, allTo_zero _ _⟩
    case round =>
      obtain ⟨k, hk, rfl, hall⟩ := hrel
      have HA := Lib.hid hall
      clear hall
      by_cases hlt : k < n
      · have hlti : (k : Int) < (n : Int) := by omega
        obtain ⟨b, off, rfl, hb, hcell⟩ := HC.out (by rw [← HN.out]; omega)
        obtain ⟨z, hz⟩ : ∃ z, z = ds.getD k 0 := ⟨_, rfl⟩
        have hc1 := hcell k (by rw [← HN.out]; exact hlt)
        rw [← hz] at hc1
        have hbn := Nat.ne_of_lt hb
        cases hin : inB z 1 283000 with
        | true =>
          have HS := Lib.hid (allTo_succ (p := distB) HA.out (by rw [← hz]; exact hin))
          clear hz hcell
          go_wp2_with (go_at_call 39; refine (Free.spec_l09Distance _ _).mono ?_; rintro e w' ⟨rfl, rfl⟩)
          go_round
          case rel => exact ⟨k + 1, by omega, by go_num, HS.out⟩
          case measure => simp [intOf]; omega
        | false =>
          have en := Lib.hid (HX.out (all_bad (by rw [← HN.out]; exact hlt) (by rw [← hz]; exact hin)))
          clear hz hcell
          go_wp2_with (go_at_call 39; refine (Free.spec_l09Distance _ _).mono ?_; rintro e w' ⟨rfl, rfl⟩)
          go_ret2
          exact ⟨_, ret_si en.out.2.symm, by rw [en.out.1]; exact (Own.empty 0 _ _ _).ints, by repeat (first | with_reducible exact On.refl _ | apply On.alloc)⟩
      · obtain rfl : k = n := by omega
        have HB := Lib.hid (all_all (by rw [← HN.out]; exact HA.out))
        cases h0 : inB f 1 100000000 with
        | false =>
          have en := Lib.hid (HF.out h0)
          go_wp2_with (go_at_call 38; refine (Free.spec_l09Frequency _ _).mono ?_; rintro e w' ⟨rfl, rfl⟩)
          go_ret2
          exact ⟨_, ret_si en.out.2.symm, by rw [en.out.1]; exact (Own.empty 0 _ _ _).ints, by repeat (first | with_reducible exact On.refl _ | apply On.alloc)⟩
        | true =>
          obtain ⟨f0, f1⟩ := of_inB h0
          have en := Lib.hid (HY.out h0 HB.out)
          have HAll := Lib.hid (allTo_of HB.out)
          go_wp2_with (go_at_call 38; refine (Free.spec_l09Frequency _ _).mono ?_; rintro e w' ⟨rfl, rfl⟩)
          go_loopw [6, 8] (fun v i wr => ∃ j : Nat, i = .int .i64 j ∧ j ≤ k ∧ wr.ownsRow w.heap.size 2 1 v (frees f ds j).length (intCells (frees f ds j)) ∧ Below w.heap.size w wr) (fun _ i _ => k - (intOf i).toNat)
          case atStart => exact ⟨0, rfl, Nat.zero_le _, World.ownsRow_lit w #[] 0 (Nat.le_refl _) (by unfold maxLen; omega) rfl, (Below.refl _ _).alloc (Nat.le_refl _) _⟩
          case round =>
            obtain ⟨j, rfl, hj, hown, hbel⟩ := hrel
            have HO := Lib.hid hown
            have HW := Lib.hid hbel
            have hsz := hbel.size
            clear hown hbel
            by_cases hlt2 : j < k
            · have hlti : (j : Int) < (k : Int) := by omega
              obtain ⟨b, off, rfl, hb, hcell⟩ := HC.out (by rw [← HN.out]; omega)
              obtain ⟨z, hz⟩ : ∃ z, z = ds.getD j 0 := ⟨_, rfl⟩
              have hc1 := (HW.out.cell (p := ⟨b, off + j, none⟩) (by exact hb)).trans (hcell j (by rw [← HN.out]; exact hlt2))
              rw [← hz] at hc1
              have hd := of_inB (HAll.out j (by rw [← HN.out]; exact hlt2))
              rw [← hz] at hd
              obtain ⟨z0, z1⟩ := hd
              have HT := Lib.hid (show frees f ds (j + 1) = frees f ds j ++ [freeV f z] by rw [frees_succ (by rw [← HN.out]; exact hlt2), ← hz])
              have hlen : (frees f ds j).length ≤ 64 := by rw [frees_length (by rw [← HN.out]; exact hj)]; omega
              have HL := Lib.hid (fun w => Free.spec_loss f z w f0 f1 z0 z1)
              generalize freeV f z = x at *
              clear hz hcell
              go_wp2_with (first | (go_at_call 40; refine (HL.out _).mono ?_; rintro e w' ⟨rfl, rfl⟩) | (at_builtin; refine wpList_append_own _ rfl (.tmp 34) (.tmp 41) 27 rfl w.heap.size 2 i0 (.int .i64 0) 1 8 Tryd.underlying27 hi hz0 hz1 hz2 rfl (by decide) _ (frees f ds j).length _ rfl (HO.out.alloc _) ⟨wr.heap.size, 0, none⟩ 1 1 [.int .i64 x] rfl rfl ?c1 ?c2 ?c3 ?c4 ?c5 ?_))
              case c1 => exact cells_one
              case c2 => exact one_cell
              case c3 => unfold maxLen; omega
              case c4 => omega
              case c5 => simp; omega
              intro v' w3 hown' hgrow _
              have hd : intCells (frees f ds j) ++ [Value.int .i64 x] = intCells (frees f ds (j + 1)) := by rw [HT.out]; unfold intCells; rw [List.map_append]; rfl
              have hl : (frees f ds j).length + 1 = (frees f ds (j + 1)).length := by rw [HT.out, List.length_append]; rfl
              rw [hd, hl] at hown'
              have HO2 := Lib.hid hown'
              have HB2 := Lib.hid ((HW.out.alloc hsz _).grown hgrow (by simp; omega) (fun k hk => (HO.out.lt k hk).1))
              clear hown' hgrow hd hl
              go_wp2
              go_roundw
              case rel => first | exact ⟨j + 1, by go_num, by omega, HO2.out, HB2.out⟩ | ((repeat apply Exists.intro); exact ⟨⟨j + 1, by go_num, by omega, HO2.out, HB2.out⟩, rfl⟩)
              case measure => simp [intOf]; omega
            · obtain rfl : j = k := by omega
              have HO2 := Lib.hid (own_row HO.out)
              have HK := HN.out
              go_wp2
              go_ret2
              exact ⟨_, ret_si en.out.2.symm, by rw [en.out.1]; have := HO2.out; rw [HK, frees_all] at this; exact this, HW.out⟩
  · have en := Lib.hid (tab_full (f := f) (by rw [← hn]; exact h64))
    rw [← hn] at hq ⊢
    clear hc hn
    have hgt : (64 : Int) < (n : Int) := by omega
    go_enter Tryd.func29, Tryd.ntmps29
    go_wp2_with fail
    go_ret2
    exact ⟨_, ret_si en.out.2.symm, by rw [en.out.1]; exact (Own.empty 0 _ _ _).ints, On.refl _⟩
set_option maxHeartbeats 4000000 in
set_option maxRecDepth 1000000 in
theorem impl_FreeTable (f : Int) (v : Value) (ds : List Int) (w : World) (hq : ds.length ≤ 1048576) (h : Ints w v ds) (hg : SpanG w) :
    Calls Tryd.prog 31 #[.int .i64 f, v] w fun e w' => ∃ u, e = .returned (.tuple #[u, .int .i64 (tabC f ds)]) ∧ Own w.heap.size w' u (tabV f ds) ∧ On w w' := by
  have HG := Lib.hid hg
  have hI := h
  obtain ⟨a, cap, rfl, hc⟩ := h
  have HI := Lib.hid hI
  obtain ⟨n, hn⟩ : ∃ n, n = ds.length := ⟨_, rfl⟩
  have HN := Lib.hid hn
  have HC := Lib.hid hc
  clear hI
  by_cases h64 : n ≤ 64
  · cases h0 : inB f 1 100000000 with
    | false =>
      have en := Lib.hid (tab_bad (ds := ds) (by rw [← hn]; exact h64) (.inl h0))
      rw [← hn] at hq ⊢
      clear hc hn
      go_enter Tryd.func31, Tryd.ntmps31
      go_wp2_with fail
      refine (Span.allows1_0 f _ _ (by simp [go_sem]) (HG.out.on (by repeat (first | with_reducible exact On.refl _ | apply On.alloc)))).mono ?_
      rintro e w1 ⟨rfl, k1⟩
      have HO1 := Lib.hid (show On w w1 by refine On.trans ?_ k1; repeat (first | with_reducible exact On.refl _ | apply On.alloc))
      clear k1
      rw [h0]
      go_wp2_with fail
      go_ret2
      exact ⟨_, ret_si en.out.2.symm, by rw [en.out.1]; exact Own.empty _ _ _ _, HO1.out⟩
    | true =>
      obtain ⟨f0, f1⟩ := of_inB h0
      cases h1 : ds.all distB with
      | false =>
        have en := Lib.hid (tab_bad (f := f) (by rw [← hn]; exact h64) (.inr h1))
        have HA := Lib.hid (fun w1 (ho : On w w1) => show Calls Tryd.prog 41 #[.int .i64 1, .slice a n cap] w1 (fun e w' => e = .returned (.bool false) ∧ On w1 w') by
          have := Span.allows_1 (.slice a ds.length cap) ds w1 hq (HI.out.below ho) (HG.out.on ho)
          rw [← hn, show (ds.all fun x => inB x 1 283000) = false from h1] at this
          exact this)
        rw [← hn] at hq ⊢
        clear hc hn
        go_enter Tryd.func31, Tryd.ntmps31
        go_wp2_with fail
        refine (Span.allows1_0 f _ _ (by simp [go_sem]) (HG.out.on (by repeat (first | with_reducible exact On.refl _ | apply On.alloc)))).mono ?_
        rintro e w1 ⟨rfl, k1⟩
        have HO1 := Lib.hid (show On w w1 by refine On.trans ?_ k1; repeat (first | with_reducible exact On.refl _ | apply On.alloc))
        clear k1
        rw [h0]
        go_wp2_with fail
        refine (HA.out _ HO1.out).mono ?_
        rintro e w2 ⟨rfl, k2⟩
        go_wp2_with fail
        go_ret2
        exact ⟨_, ret_si en.out.2.symm, by rw [en.out.1]; exact Own.empty _ _ _ _, HO1.out.trans k2⟩
      | true =>
        have en := Lib.hid (tab_ok (by rw [← hn]; exact h64) h0 h1)
        have HAll := Lib.hid (allTo_of h1)
        have HA := Lib.hid (fun w1 (ho : On w w1) => show Calls Tryd.prog 41 #[.int .i64 1, .slice a n cap] w1 (fun e w' => e = .returned (.bool true) ∧ On w1 w') by
          have := Span.allows_1 (.slice a ds.length cap) ds w1 hq (HI.out.below ho) (HG.out.on ho)
          rw [← hn, show (ds.all fun x => inB x 1 283000) = true from h1] at this
          exact this)
        have hmk := fun w => run_make_row' (P := Tryd.prog) 27 2 (.int .i64 0) 8 Tryd.underlying27 Ints.info rfl .i64 .i64 n (by omega) (by omega) w
        rw [← hn] at hq ⊢
        clear hc hn
        go_enter Tryd.func31, Tryd.ntmps31
        go_wp2_with fail
        refine (Span.allows1_0 f _ _ (by simp [go_sem]) (HG.out.on (by repeat (first | with_reducible exact On.refl _ | apply On.alloc)))).mono ?_
        rintro e w1 ⟨rfl, k1⟩
        have HO1 := Lib.hid (show On w w1 by refine On.trans ?_ k1; repeat (first | with_reducible exact On.refl _ | apply On.alloc))
        clear k1
        rw [h0]
        go_wp2_with fail
        refine (HA.out _ HO1.out).mono ?_
        rintro e w2 ⟨rfl, k2⟩
        have HO2 := Lib.hid (HO1.out.trans k2)
        clear k2
        go_wp2_with fail
        clear hmk
        go_loopw [26] (fun i wr => ∃ k : Nat, k ≤ n ∧ i = .int .i64 k ∧ wr.rowIs w2.heap.size 2 n (fun j => if j < k then .int .i64 (freeV f (ds.getD j 0)) else .int .i64 0) ∧ Below w2.heap.size w2 wr) (fun i _ => n - (intOf i).toNat)
        case atStart =>
          refine ⟨0, Nat.zero_le _, rfl, ?_, (Below.refl _ _).alloc (Nat.le_refl _) _⟩
          exact (World.rowIs_made w2 (.int .i64 0) n _).congr fun i _ => by simp
        case round =>
          obtain ⟨k, hk, rfl, hrow, hb⟩ := hrel
          have HR := Lib.hid hrow
          have HB := Lib.hid hb
          clear hrow hb
          by_cases hlt2 : k < n
          · have hlti : (k : Int) < (n : Int) := by omega
            obtain ⟨b, off, rfl, hbb, hcell⟩ := HC.out (by rw [← HN.out]; omega)
            obtain ⟨z, hz⟩ : ∃ z, z = ds.getD k 0 := ⟨_, rfl⟩
            have hc1 := ((HO2.out.trans HB.out).cell (p := ⟨b, off + k, none⟩) (by exact hbb)).trans (hcell k (by rw [← HN.out]; exact hlt2))
            rw [← hz] at hc1
            have hd := of_inB (HAll.out k (by rw [← HN.out]; exact hlt2))
            rw [← hz] at hd
            obtain ⟨z0, z1⟩ := hd
            have HL := Lib.hid (fun w => Free.impl_loss f z w f0 f1 z0 z1)
            have HZ := Lib.hid hz
            clear hcell hz
            go_wp2_with fail
            refine (HL.out _).mono ?_
            rintro e w3 ⟨rfl, h3⟩
            have HR3 := Lib.hid (HR.out.of_block (h3.block _ HR.out.lt))
            have HB3 := Lib.hid (HB.out.trans (Below.mono h3 HB.out.size))
            have hc2 : w3.cell? ⟨w2.heap.size, k, none⟩ = some (.int .i64 0) := by have := HR3.out.cell hlt2; rw [if_neg (by omega)] at this; exact this
            have hf2 : w3.frozen? ⟨w2.heap.size, k, none⟩ = false := HR3.out.frozen k
            clear h3
            go_wp2_with fail
            go_roundw
            case rel =>
              refine ⟨k + 1, by omega, by go_num, (HR3.out.set k _).congr fun i _ => ?_, HB3.out.setCell (by exact Nat.le_refl _) _⟩
              by_cases g1 : i = k
              · subst g1; rw [if_pos rfl, if_pos (by omega), HZ.out]
              · rw [if_neg g1]
                by_cases g2 : i < k
                · rw [if_pos g2, if_pos (by omega)]
                · rw [if_neg g2, if_neg (by omega)]
            case measure => simp [intOf]; omega
          · obtain rfl : k = n := by omega
            have hfin : wr.rowIs w2.heap.size 2 (ds.map (freeV f)).length (fun j => .int .i64 ((ds.map (freeV f)).getD j 0)) := by
              rw [List.length_map, ← HN.out]
              exact HR.out.congr fun i hi => by rw [if_pos hi, frees_get (by rw [← HN.out]; exact hi)]
            have HFin := Lib.hid (Own.of_row (cap := k) hfin (Nat.le_refl _))
            rw [List.length_map, ← HN.out] at HFin
            clear hfin
            go_wp2_with fail
            go_ret2
            exact ⟨_, ret_si en.out.2.symm, by rw [en.out.1]; exact HFin.out.mono HO2.out.size, HO2.out.trans HB.out⟩
  · have en := Lib.hid (tab_full (f := f) (by rw [← hn]; exact h64))
    rw [← hn] at hq ⊢
    clear hc hn
    have hgt : (64 : Int) < (n : Int) := by omega
    go_enter Tryd.func31, Tryd.ntmps31
    go_wp2_with fail
    go_ret2
    exact ⟨_, ret_si en.out.2.symm, by rw [en.out.1]; exact Own.empty _ _ _ _, On.refl _⟩
end Go.Proofs.YtnbkdekndflefaaDoor.FTab
