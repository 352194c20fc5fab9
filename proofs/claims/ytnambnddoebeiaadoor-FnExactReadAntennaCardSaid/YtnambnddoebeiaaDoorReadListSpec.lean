
/-
  The text of a list, read by the model. Condition: a text of at most 1048576 bytes.
-/
import Derived.Test.YtnambnddoebeiaaDoorReadListPlain
import Derived.Test.YtnambnddoebeiaaDoorReadPt
import Derived.Test.YtnambnddoebeiaaDoorInts
import Derived.Test.YtnambnddoebeiaaDoorArith
namespace Go.Proofs.YtnambnddoebeiaaDoor.ReadList
open Go.RowKit
open Plain
open Split (strV strCells)
open Ints (Ints Own)

theorem ret_sb {v : Value} {a b : Bool} (h : a = b) : Ending.returned (.tuple #[v, .bool a]) = .returned (.tuple #[v, .bool b]) := by rw [h]
def intCells (zs : List Int) : List Value := zs.map (.int .i64 ·)
def vals (ps : List (List UInt8)) (k : Nat) : List Int := (ps.take k).map numV
theorem vals_length {ps : List (List UInt8)} {k : Nat} (h : k ≤ ps.length) : (vals ps k).length = k := by unfold vals; rw [List.length_map, List.length_take]; omega
theorem vals_all (ps : List (List UInt8)) : vals ps ps.length = ps.map numV := by unfold vals; rw [List.take_length]
theorem vals_succ {ps : List (List UInt8)} {k : Nat} (h : k < ps.length) : vals ps (k + 1) = vals ps k ++ [numV ps[k]] := by unfold vals; rw [List.take_succ_eq_append_getElem h, List.map_append]; rfl
theorem own_row {w : World} {B e : Nat} {v : Value} {zs : List Int} (h : w.ownsRow B e 1 v zs.length (intCells zs)) : Ints w v zs := by
  have hlt := h.lt
  have hc := fun g (hg : v.ownBlock = some g) => h.cells hg
  obtain ⟨_, ⟨rfl, h2⟩ | ⟨g, cap, cur, rfl, hB, _⟩⟩ := h
  · exact ⟨none, 0, by rw [h2], fun h0 => by omega⟩
  · refine ⟨_, cap, rfl, fun _ => ⟨g, 0, rfl, (hlt g rfl).2, fun j hj => ?_⟩⟩
    have := hc g rfl j (.int .i64 (zs.getD j 0)) (by simp [intCells, hj])
    have e : (⟨g, 0, none⟩ : Addr).add j = ⟨g, 0 + j, none⟩ := by cases j <;> simp [Addr.add]
    rw [e] at this
    exact this
theorem dash_data {s : ByteArray} : s.data.toList = [45] ↔ s = ⟨#[45]⟩ := by
  constructor
  · intro h
    have : s = ⟨s.data.toList.toArray⟩ := rfl
    rw [this, h]
  · rintro rfl; rfl
theorem spec_dash (s : ByteArray) (w : World) (h0 : s.data.toList = [45]) :
    Calls Tryd.prog 17 #[.string s] w fun e w' => ∃ v, e = .returned (.tuple #[v, .bool (rlB s.data.toList)]) ∧ Ints w' v (rlV s.data.toList) ∧ On w w' := by
  have H := Lib.hid (rl_some (rl_dash h0))
  obtain rfl := dash_data.1 h0
  go_enter Tryd.func17, Tryd.ntmps17
  go_wp2_with fail
  go_ret2
  exact ⟨_, ret_sb H.out.2.symm, by rw [H.out.1]; exact (Own.empty 0 _ _ _).ints, by repeat (first | with_reducible exact On.refl _ | apply On.alloc)⟩
set_option maxHeartbeats 1600000 in
set_option maxRecDepth 1000000 in
theorem spec_other (s : ByteArray) (w : World) (hs : s.size ≤ 1048576) (h0 : s.data.toList ≠ [45]) :
    Calls Tryd.prog 17 #[.string s] w fun e w' => ∃ v, e = .returned (.tuple #[v, .bool (rlB s.data.toList)]) ∧ Ints w' v (rlV s.data.toList) ∧ On w w' := by
  obtain ⟨i0, hi, hz0, hz1, hz2⟩ := info_parts Ints.info
  have hsp := fun w => Split.spec_split s 44 44 rfl w hs
  have hne : 0 < (pieces 44 s.data.toList).length := List.length_pos_iff.2 (pieces_ne _ _)
  have hpl : ∀ p ∈ pieces 44 s.data.toList, p.length ≤ 1048576 := fun p hp => ReadPt.len_le_of_piece hp (by rw [Num.len_data]; exact hs)
  obtain ⟨ps, hps⟩ : ∃ ps, ps = pieces 44 s.data.toList := ⟨_, rfl⟩
  rw [← hps] at hsp hne hpl
  have HS := Lib.hid hsp
  have HN := Lib.hid (fun (p : List UInt8) (hp : p ∈ ps) w => show Calls Tryd.prog 16 #[.string ⟨p.toArray⟩] w (fun e w' => e = .returned (.tuple #[.int .i64 (numV p), .bool (numB p)]) ∧ w = w') from Num.spec_l01Number ⟨p.toArray⟩ w (by show p.toArray.size ≤ _; rw [List.size_toArray]; exact hpl p hp))
  have hq : (s.toList == [45]) = false := beq_eq_false_iff_ne.2 (fun h => h0 (by rw [← h]; exact (ByteArray.toList_eq s).symm))
  have HB := Lib.hid (fun (k : Nat) (hk : k < ps.length) (hb : numIn ps[k] = false) => rl_none (rl_bad h0 hps hk hb))
  have HG := Lib.hid (fun (h : ps.length ≤ 64) (ha : ∀ k (hk : k < ps.length), numIn ps[k] = true) => rl_some (rl_good h0 hps h ha))
  have HL := Lib.hid (fun (h : 64 < ps.length) => rl_none (rl_long h0 (hps ▸ h)))
  clear hsp hpl h0 hps
  go_enter Tryd.func17, Tryd.ntmps17
  go_wp2_with fail
  refine (HS.out _).mono ?_
  rintro e w1 ⟨v, rfl, hown, hb⟩
  obtain ⟨g, cap, rfl, -, hg, hc⟩ := ReadPt.row_strs hown hne
  have hO1 : On w w1 := hb
  have HC := Lib.hid hc
  clear hown hc hb
  by_cases hlong : 64 < ps.length
  · have H := Lib.hid (HL.out hlong)
    go_wp2_with fail
    go_ret2
    exact ⟨_, ret_sb H.out.2.symm, by rw [H.out.1]; exact (Own.empty 0 _ _ _).ints, hO1⟩
  have hn : ps.length ≤ 64 := by omega
  go_wp2_with fail
  go_loopw [5, 6] (fun v i wr => ∃ k : Nat, i = .int .i64 k ∧ k ≤ ps.length ∧ wr.ownsRow w1.heap.size 2 1 v (vals ps k).length (intCells (vals ps k)) ∧ Below w1.heap.size w1 wr ∧ ∀ j (hj : j < ps.length), j < k → numIn ps[j] = true) (fun _ i _ => ps.length - (intOf i).toNat)
  case atStart => exact ⟨0, rfl, Nat.zero_le _, World.ownsRow_lit w1 #[] 0 (Nat.le_refl _) (by unfold maxLen; omega) rfl, (Below.refl _ _).alloc (Nat.le_refl _) _, fun j _ h => by omega⟩
  case round =>
    obtain ⟨k, rfl, hk, hown, hb, hall⟩ := hrel
    have HO := Lib.hid hown
    have HW := Lib.hid hb
    have HA := Lib.hid hall
    have hsz := hb.size
    clear hown hb hall
    by_cases hlt : k < ps.length
    · obtain ⟨p, hp⟩ : ∃ p, p = ps[k] := ⟨_, rfl⟩
      have c1 : wr.cell? ⟨g, k, none⟩ = some (.string ⟨p.toArray⟩) := by rw [hp]; exact (HW.out.cell (by exact hg)).trans (HC.out k hlt)
      have hNp := HN.out p (by rw [hp]; exact List.getElem_mem hlt)
      cases kb : numB p with
      | false =>
        rw [kb] at hNp
        have HP := Lib.hid hNp
        have H := Lib.hid (HB.out k hlt (by rw [← hp]; exact numIn_1 kb))
        clear hNp hp
        go_wp2_with fail
        refine (HP.out _).mono ?_
        rintro e w2 ⟨rfl, rfl⟩
        go_wp2_with fail
        go_ret2
        exact ⟨_, ret_sb H.out.2.symm, by rw [H.out.1]; exact (Own.empty 0 _ _ _).ints, hO1.trans HW.out⟩
      | true =>
        rw [kb] at hNp
        have HP := Lib.hid hNp
        cases ki : inB (numV p) (-1000000000000) 1000000000000 with
        | false =>
          have H := Lib.hid (HB.out k hlt (by rw [← hp]; exact numIn_2 kb ki))
          clear hNp hp
          go_wp2_with fail
          refine (HP.out _).mono ?_
          rintro e w2 ⟨rfl, rfl⟩
          go_wp2_with (go_at_call 34; refine (Arith.l00In _ _ _ _).mono ?_; rintro e w' ⟨rfl, rfl⟩)
          go_ret2
          exact ⟨_, ret_sb H.out.2.symm, by rw [H.out.1]; exact (Own.empty 0 _ _ _).ints, hO1.trans HW.out⟩
        | true =>
          have HA2 := Lib.hid (fun j (hj : j < ps.length) (h : j < k + 1) => show numIn ps[j] = true by
            by_cases g : j = k
            · subst g; rw [← hp]; exact numIn_2 kb ki
            · exact HA.out j hj (by omega))
          have HT := Lib.hid (show vals ps (k + 1) = vals ps k ++ [numV p] by rw [vals_succ hlt, ← hp])
          have hlen : (vals ps k).length ≤ 64 := by rw [vals_length hk]; omega
          clear hNp hp
          obtain ⟨z, hz⟩ : ∃ z, z = numV p := ⟨_, rfl⟩
          rw [← hz] at HP ki HT
          clear hz
          go_wp2_with fail
          refine (HP.out _).mono ?_
          rintro e w2 ⟨rfl, rfl⟩
          go_wp2_with (first | (go_at_call 34; refine (Arith.l00In _ _ _ _).mono ?_; rintro e w' ⟨rfl, rfl⟩) | (at_builtin; refine wpList_append_own _ rfl (.tmp 39) (.tmp 41) 22 rfl w1.heap.size 2 i0 (.int .i64 0) 1 8 Tryd.underlying22 hi hz0 hz1 hz2 rfl (by decide) _ (vals ps k).length _ rfl (HO.out.alloc _) ⟨wr.heap.size, 0, none⟩ 1 1 [.int .i64 z] rfl rfl ?c1 ?c2 ?c3 ?c4 ?c5 ?_))
          case c1 => exact Dec.cells_one
          case c2 => exact Dec.one_cell
          case c3 => unfold maxLen; omega
          case c4 => omega
          case c5 => simp; omega
          intro v' w3 hown' hgrow _
          have hd : intCells (vals ps k) ++ [Value.int .i64 z] = intCells (vals ps (k + 1)) := by rw [HT.out]; unfold intCells; rw [List.map_append]; rfl
          have hl : (vals ps k).length + 1 = (vals ps (k + 1)).length := by rw [HT.out, List.length_append]; rfl
          rw [hd, hl] at hown'
          have HO2 := Lib.hid hown'
          have HB2 := Lib.hid ((HW.out.alloc hsz _).grown hgrow (by simp; omega) (fun k hk => (HO.out.lt k hk).1))
          clear hown' hgrow hd hl
          go_wp2
          go_roundw
          case rel => first | exact ⟨k + 1, by go_num, by omega, HO2.out, HB2.out, HA2.out⟩ | ((repeat apply Exists.intro); exact ⟨⟨k + 1, by go_num, by omega, HO2.out, HB2.out, HA2.out⟩, rfl⟩)
          case measure => simp [intOf]; omega
    · obtain rfl : k = ps.length := by omega
      have H := Lib.hid (HG.out hn (fun j hj => HA.out j hj hj))
      have HO2 := Lib.hid (own_row HO.out)
      go_wp2
      go_ret2
      exact ⟨_, ret_sb H.out.2.symm, by rw [H.out.1]; have := HO2.out; rw [vals_all] at this; exact this, hO1.trans HW.out⟩
theorem spec_readList (s : ByteArray) (w : World) (hs : s.size ≤ 1048576) :
    Calls Tryd.prog 17 #[.string s] w fun e w' => ∃ v, e = .returned (.tuple #[v, .bool (rlB s.data.toList)]) ∧ Ints w' v (rlV s.data.toList) ∧ On w w' := by
  by_cases h0 : s.data.toList = [45]
  · exact spec_dash s w h0
  · exact spec_other s w hs h0
end Go.Proofs.YtnambnddoebeiaaDoor.ReadList
