
/-
  errors.Join of any errors that hold sentinels: what it holds. Conditions: each theorem's own.
-/
import Derived.Test.YtadoaenmmemjdaaDoorErrs
namespace Go.Proofs.YtadoaenmmemjdaaDoor.Errs
open Go.RowKit

theorem infoErr : (Tryd.prog.info? 59).map (fun i => (i.zero, i.size, i.bytes)) = some (some .nilIface, 1, 16) := by kernel_rfl
/-- A slice of n errors reads as u says. -/
def Row (w : World) (a : Option Addr) (n : Nat) (u : Nat → Value) : Prop :=
  0 < n → ∃ b off, a = some ⟨b, off, none⟩ ∧ b < w.heap.size ∧ ∀ i, i < n → w.cell? ⟨b, off + i, none⟩ = some (u i)
theorem Row.on {w w' : World} {a : Option Addr} {n : Nat} {u : Nat → Value} (h : Row w a n u) (ho : On w w') : Row w' a n u := fun h0 => by
  obtain ⟨b, off, ha, hb, hc⟩ := h h0
  exact ⟨b, off, ha, ho.lts _ hb, fun i hi => (ho.cell (by exact hb)).trans (hc i hi)⟩
def isNil : Value → Bool
  | .nilIface => true
  | _ => false
/-- The places of the errors that are none of nil, of the first k. -/
def ki (u : Nat → Value) : Nat → List Nat
  | 0 => []
  | k + 1 => if isNil (u k) = true then ki u k else ki u k ++ [k]
theorem ki_nil {u : Nat → Value} {k : Nat} (h : u k = .nilIface) : ki u (k + 1) = ki u k := by simp [ki, h, isNil]
theorem ki_add {u : Nat → Value} {k : Nat} (h : isNil (u k) = false) : ki u (k + 1) = ki u k ++ [k] := by simp [ki, h]
theorem ki_len (u : Nat → Value) : ∀ k, (ki u k).length ≤ k
  | 0 => Nat.le_refl _
  | k + 1 => by
    have := ki_len u k
    unfold ki
    split
    · omega
    · simp; omega
theorem ki_mem (u : Nat → Value) : ∀ k i, i ∈ ki u k ↔ i < k ∧ isNil (u i) = false
  | 0, i => by simp [ki]
  | k + 1, i => by
    unfold ki
    split
    · rename_i h
      rw [ki_mem u k i]
      constructor
      · rintro ⟨a, b⟩; exact ⟨by omega, b⟩
      · rintro ⟨a, b⟩
        refine ⟨?_, b⟩
        by_cases g : i = k
        · subst g; rw [b] at h; cases h
        · omega
    · rename_i h
      rw [List.mem_append, ki_mem u k i, List.mem_singleton]
      constructor
      · rintro (⟨a, b⟩ | rfl)
        · exact ⟨by omega, b⟩
        · exact ⟨by omega, by simpa using h⟩
      · rintro ⟨a, b⟩
        by_cases g : i = k
        · exact .inr g
        · exact .inl ⟨by omega, b⟩
def cellsTo (u : Nat → Value) (k : Nat) : List Value := (ki u k).map u
theorem any_ki {u : Nat → Value} {S : Nat → Bool} {n : Nat} (hs : ∀ i, i < n → u i = .nilIface → S i = false) :
    anyTo (fun q => S ((ki u n).getD q 0)) (ki u n).length = anyTo S n := by
  cases h : anyTo S n with
  | true =>
    obtain ⟨i, hi, hb⟩ := anyTo_some h
    have hm : i ∈ ki u n := (ki_mem u n i).2 ⟨hi, by
      cases hv : isNil (u i) with
      | false => rfl
      | true =>
        have : u i = .nilIface := by
          revert hv; cases u i <;> simp [isNil]
        rw [hs i hi this] at hb; cases hb⟩
    obtain ⟨q, hq, he⟩ := List.getElem_of_mem hm
    exact anyTo_at hq (by show S ((ki u n).getD q 0) = true; rw [show (ki u n).getD q 0 = (ki u n)[q] by simp [hq], he]; exact hb)
  | false =>
    refine anyTo_none fun q hq => ?_
    have hm : (ki u n)[q] ∈ ki u n := List.getElem_mem hq
    obtain ⟨hi, _⟩ := (ki_mem u n _).1 hm
    rw [show (ki u n).getD q 0 = (ki u n)[q] by simp [hq]]
    cases hb : S (ki u n)[q] with
    | false => rfl
    | true => rw [anyTo_at hi hb] at h; cases h
theorem put {T e : TypeId} {B g n : Nat} {v v' : Value} {xs : List Value} {w : World} (hb : w.heap[g]? = some (.cells #[v] T (0, 0))) (hown : w.ownsRow B e 1 v' n xs) (hTe : T ≠ e) :
    (w.setCell ⟨g, 0, none⟩ v').heap[g]? = some (.cells #[v'] T (0, 0)) ∧ (w.setCell ⟨g, 0, none⟩ v').ownsRow B e 1 v' n xs :=
  ⟨by simp [World.setCell, Array.getElem?_modify, hb], hown.kept (row := some g) ⟨rfl, rfl, rfl, by simp [World.setCell], fun k _ hk => Below.heap_setCell _ _ _ _ (fun e => hk (by simp [e]))⟩ (Or.inr (Lib.ownBlock_ne hown hb hTe))⟩
theorem heap_lt {w : World} {g : Nat} {o : Obj} (h : w.heap[g]? = some o) : g < w.heap.size := by
  rcases Nat.lt_or_ge g w.heap.size with h' | h'
  · exact h'
  · simp [Array.getElem?_eq_none h'] at h
theorem heap_new (w : World) (o : Obj) : (w.alloc o).heap[w.heap.size]? = some o := heap_alloc_new w o
theorem heap_alloc_old {w : World} {g : Nat} {o o' : Obj} (h : w.heap[g]? = some o) : (w.alloc o').heap[g]? = some o := by
  rw [Below.heap_alloc w o' g (heap_lt h)]; exact h
theorem shape {A : Nat → Addr} {w : World} {v : Value} {S : Nat → Bool} (h : Kind A w v S) : v = .nilIface ∨ ∃ t p, v = .iface t (.pointer (some p)) := by
  rcases h with ⟨rfl, _⟩ | ⟨⟨a, rfl⟩ | ⟨j, rfl⟩, _⟩
  · exact .inl rfl
  · exact .inr ⟨_, _, rfl⟩
  · exact .inr ⟨_, _, rfl⟩
set_option maxRecDepth 100000 in
set_option maxHeartbeats 4000000 in
theorem join (A : Nat → Addr) (a : Option Addr) (n cap : Nat) (u : Nat → Value) (S : Nat → Nat → Bool) (w : World) (hn : n ≤ 1048580) (hu : Row w a n u) (hk : ∀ i, i < n → Kind A w (u i) (S i)) :
    Calls Tryd.prog 44 #[.slice a n cap] w fun e w' => ∃ v, e = .returned v ∧ Kind A w' v (fun m => anyTo (fun i => S i m) n) ∧ On w w' := by
  obtain ⟨i0, hi, hz0, hz1, hz2⟩ := info_parts infoErr
  have HU := Lib.hid hu
  have HK := Lib.hid hk
  have HS := Lib.hid (fun m (hm : m < 4) => any_ki (u := u) (S := fun i => S i m) (n := n) fun i hi he => by
    rcases hk i hi with ⟨_, h⟩ | ⟨⟨a, h⟩ | ⟨j, h⟩, _⟩
    · exact h m hm
    · rw [he] at h; cases h
    · rw [he] at h; cases h)
  have HL := Lib.hid (ki_len u)
  clear hu hk
  go_enter Tryd.func44, Tryd.ntmps44
  go_wp2_with fail
  go_loop [3, 11] (fun c i => ∃ k : Nat, k ≤ n ∧ i = .int .i64 k ∧ c = .int .i64 ((ki u k).length : Nat)) (fun _ i => n - (intOf i).toNat)
  case atStart => exact ⟨0, Nat.zero_le _, rfl, rfl⟩
  case round =>
    obtain ⟨k, hkn, rfl, rfl⟩ := hrel
    have hkl := HL.out k
    by_cases hlt : k < n
    · have hlti : (k : Int) < (n : Int) := by omega
      obtain ⟨b, off, rfl, hb, hc⟩ := HU.out (by omega)
      have hc1 := hc k hlt
      have hsh := shape (HK.out k hlt)
      obtain ⟨v, hv⟩ : ∃ v, v = u k := ⟨_, rfl⟩
      rw [← hv] at hc1 hsh
      rcases hsh with rfl | ⟨t, p, rfl⟩
      · have HE := Lib.hid (ki_nil hv.symm)
        clear hv hc
        go_wp2_with fail
        go_round
        case rel => exact ⟨k + 1, by omega, by go_num, by rw [HE.out]⟩
        case measure => simp [intOf]; omega
      · have HE := Lib.hid (show ((ki u (k + 1)).length : Int) = (ki u k).length + 1 by rw [ki_add (by rw [← hv]; rfl), List.length_append]; rfl)
        clear hv hc
        go_wp2_with fail
        go_round
        case rel => exact ⟨k + 1, by omega, by go_num, by rw [HE.out]⟩
        case measure => simp [intOf]; omega
    · obtain rfl : k = n := by omega
      by_cases h0 : (ki u k).length = 0
      · have hq : (((ki u k).length : Int) == 0) = true := beq_iff_eq.2 (by omega)
        have en := Lib.hid (show ∀ m, m < 4 → anyTo (fun i => S i m) k = false from fun m hm => by rw [← HS.out m hm, h0]; rfl)
        go_wp2_with fail
        go_ret
        exact ⟨_, rfl, .inl ⟨rfl, en.out⟩, On.refl _⟩
      · have hq : (((ki u k).length : Int) == 0) = false := beq_eq_false_iff_ne.2 (by omega)
        obtain ⟨w1, hmk, hown1, hgrow1⟩ := run_make_own (P := Tryd.prog) w w.heap.size 73 59 i0 .nilIface 1 Tryd.underlying73 hi hz0 hz1 .i64 .i64 (ki u k).length (by rw [hz2]; omega) (by unfold maxLen; omega) (Nat.le_refl _)
        have HB1 := Lib.hid (show On w w1 from (Below.refl _ w).grown hgrow1 (Nat.le_refl _) (fun _ h => by cases h))
        have HO1 := Lib.hid hown1
        clear hown1 hgrow1
        obtain ⟨M, hM⟩ : ∃ M, M = (ki u k).length := ⟨_, rfl⟩
        go_wp2_with fail
        go_loopw [28] (fun i wr => ∃ q : Nat, q ≤ k ∧ i = .int .i64 q ∧ (∃ v, wr.heap[w1.heap.size]? = some (.cells #[v] 89 (0, 0)) ∧ wr.ownsRow w.heap.size 59 1 v (ki u q).length (cellsTo u q)) ∧ On w wr) (fun i _ => k - (intOf i).toNat)
        case atStart => exact ⟨0, Nat.zero_le _, rfl, ⟨_, heap_new w1 _, HO1.out.alloc _⟩, On.alloc HB1.out _⟩
        case round =>
          obtain ⟨q, hqn, rfl, ⟨v, hg, hown⟩, hw⟩ := hrel
          have HG := Lib.hid hg
          have HO := Lib.hid hown
          have HW := Lib.hid hw
          have hsz := hw.size
          have c0 := Lib.cell_of_heap hg 0
          have hgl := heap_lt hg
          simp only [List.getElem?_toArray, List.getElem?_cons_zero] at c0
          clear hg hown hw
          by_cases hlt2 : q < k
          · have hlti2 : (q : Int) < (k : Int) := by omega
            have hql := HL.out q
            obtain ⟨b, off, rfl, hb, hc⟩ := HU.out (by omega)
            have hc1 := (HW.out.cell (p := ⟨b, off + q, none⟩) (by exact hb)).trans (hc q hlt2)
            have hsh := shape (HK.out q hlt2)
            obtain ⟨x, hx⟩ : ∃ x, x = u q := ⟨_, rfl⟩
            rw [← hx] at hc1 hsh
            rcases hsh with rfl | ⟨t, p, rfl⟩
            · have HE := Lib.hid (show ki u (q + 1) = ki u q from ki_nil hx.symm)
              have HE2 := Lib.hid (show cellsTo u (q + 1) = cellsTo u q by unfold cellsTo; rw [HE.out])
              clear hx hc
              go_wp2_with fail
              go_roundw
              case rel => exact ⟨q + 1, by omega, by go_num, ⟨v, HG.out, by rw [HE.out, HE2.out]; exact HO.out⟩, HW.out⟩
              case measure => simp [intOf]; omega
            · have HE := Lib.hid (show ki u (q + 1) = ki u q ++ [q] from ki_add (by rw [← hx]; rfl))
              have HE2 := Lib.hid (show cellsTo u (q + 1) = cellsTo u q ++ [.iface t (.pointer (some p))] by unfold cellsTo; rw [HE.out, List.map_append, List.map_cons, List.map_nil, ← hx])
              clear hx hc
              go_wp2_with (at_builtin; refine wpList_append_own _ rfl (.tmp 38) (.tmp 40) 73 rfl w.heap.size 59 i0 .nilIface 1 16 Tryd.underlying73 hi hz0 hz1 hz2 rfl (by decide) _ (ki u q).length _ rfl (HO.out.alloc _) ⟨wr.heap.size, 0, none⟩ 1 1 [.iface t (.pointer (some p))] rfl rfl ?c1 ?c2 ?c3 ?c4 ?c5 ?_)
              case c1 =>
                intro j y hj
                match j, hj with
                | 0, hj => simp at hj; subst hj; simp [Addr.add]
              case c2 => intro y hy; simp at hy; subst hy; rfl
              case c3 => unfold maxLen; omega
              case c4 => omega
              case c5 => simp; omega
              intro v' w3 hown' hgrow _
              have hg2 : w3.heap[w1.heap.size]? = some (.cells #[v] 89 (0, 0)) := by
                rw [hgrow.block w1.heap.size (by simp; omega) (fun e => Lib.ownBlock_ne HO.out HG.out (by decide) e.symm)]
                exact heap_alloc_old HG.out
              have d0 := Lib.cell_of_heap hg2 0
              have f0 := Lib.frozen_of_heap hg2 0
              simp only [List.getElem?_toArray, List.getElem?_cons_zero] at d0
              have HO2 := Lib.hid (put hg2 hown' (by decide))
              have HW2 := Lib.hid (show On w w3 from Below.grown (show Below w.heap.size w _ from On.alloc HW.out _) hgrow (by simp; omega) (fun k hk => (HO.out.lt k hk).1))
              have hlb : w.heap.size ≤ w1.heap.size := HB1.out.size
              obtain ⟨ao, n', cap', rfl⟩ : ∃ ao n' cap', v' = .slice ao n' cap' := by
                rcases hown'.2 with ⟨hv, _⟩ | ⟨g, cap, cur, hv, _⟩
                · exact ⟨_, _, _, hv⟩
                · exact ⟨_, _, _, hv⟩
              clear hown' hgrow hg2
              go_wp2
              go_roundw
              case rel =>
                refine ⟨q + 1, by omega, by go_num, ⟨_, HO2.out.1, ?_⟩, HW2.out.setCell hlb _⟩
                rw [HE.out, HE2.out, List.length_append]
                exact HO2.out.2
              case measure => simp [intOf]; omega
          · obtain rfl : q = k := by omega
            go_wp2
            go_ret
            refine ⟨_, rfl, .inr ⟨.inr ⟨_, rfl⟩, fun m hm w' ho => ?_⟩, HW.out⟩
            obtain ⟨_, ⟨_, h2⟩ | ⟨s, cap2, cur, rfl, hB, _⟩⟩ := HO.out
            · exact absurd h2 h0
            have hcs := HO.out.cells (g := s) rfl
            have hlt := (HO.out.lt s rfl).2
            have fin := is_join A m w1.heap.size s (ki u q).length cap2 (fun i => u ((ki u q).getD i 0)) (fun i => S ((ki u q).getD i 0) m) w' ((ho.cell (by exact hgl)).trans c0) (fun i hi => by
              have := hcs i (u ((ki u q).getD i 0)) (by unfold cellsTo; simp [hi])
              have e : (⟨s, 0, none⟩ : Addr).add i = ⟨s, i, none⟩ := by cases i <;> simp [Addr.add]
              rw [e] at this
              exact (ho.cell (by exact hlt)).trans this) (by omega) (fun i hi => by
              obtain ⟨h1, h2⟩ := (ki_mem u q _).1 (show (ki u q).getD i 0 ∈ ki u q by rw [show (ki u q).getD i 0 = (ki u q)[i] by simp [hi]]; exact List.getElem_mem hi)
              rcases HK.out _ h1 with ⟨h3, _⟩ | ⟨_, h4⟩
              · rw [h3] at h2; cases h2
              · exact h4 m hm w' (HW.out.trans ho))
            rw [HS.out m hm] at fin
            exact fin
end Go.Proofs.YtadoaenmmemjdaaDoor.Errs
