
/-
  The words of a line, in the model. Condition: a line of at most 1048576 bytes.
-/
import Derived.Test.YtcdmijldkmmgmabDoorWordsPlain
import Derived.Test.YtcdmijldkmmgmabDoorReadPt
import Derived.Test.YtcdmijldkmmgmabDoorStrs
namespace Go.Proofs.YtcdmijldkmmgmabDoor.Words
open Go.RowKit
open Plain
open Split (strV strCells)
open Strs (Strs Own noText)

/-- The words as texts. -/
def texts (ps : List (List UInt8)) : List ByteArray := ps.map fun p => ⟨p.toArray⟩
theorem texts_length (ps : List (List UInt8)) : (texts ps).length = ps.length := by simp [texts]
theorem own_row {w : World} {B e : Nat} {v : Value} {ps : List (List UInt8)} (h : w.ownsRow B e 1 v ps.length (strCells ps)) : Own B w v (texts ps) := by
  have hlt := h.lt
  have hc := fun g (hg : v.ownBlock = some g) => h.cells hg
  obtain ⟨_, ⟨rfl, h2⟩ | ⟨g, cap, cur, rfl, hB, hh, _⟩⟩ := h
  · exact ⟨none, 0, by rw [texts_length, h2], fun h0 => by rw [texts_length] at h0; omega⟩
  · refine ⟨_, cap, by rw [texts_length], fun _ => ⟨g, 0, rfl, hB, (hlt g rfl).2, fun j hj => ?_, fun j hj => ?_⟩⟩
    · simp [World.frozen?, hh]
    · rw [texts_length] at hj
      have := hc g rfl j (.string ((texts ps).getD j noText)) (by simp [strCells, texts, strV, hj])
      have e : (⟨g, 0, none⟩ : Addr).add j = ⟨g, 0 + j, none⟩ := by cases j <;> simp [Addr.add]
      rw [e] at this
      exact this
theorem str_empty {b : ByteArray} (h : b.data.toList = []) : b = ⟨#[]⟩ := by
  have : b = ⟨b.data.toList.toArray⟩ := rfl
  rw [this, h]
theorem str_some {b : ByteArray} (h : b.data.toList ≠ []) : (b.toList == []) = false := beq_eq_false_iff_ne.2 (fun e => h (by rw [← ByteArray.toList_eq]; exact e))
set_option maxHeartbeats 1600000 in
set_option maxRecDepth 1000000 in
theorem spec_words (s : ByteArray) (w : World) (hs : s.size ≤ 1048576) :
    Calls Tryd.prog 9 #[.string s] w fun e w' => ∃ v, e = .returned v ∧ Strs w' v (texts (words s.data.toList)) ∧ On w w' := by
  obtain ⟨i0, hi, hz0, hz1, hz2⟩ := info_parts Split.infoS
  have hsp := fun w => Split.spec_split s 32 32 rfl w hs
  have hne : 0 < (pieces 32 s.data.toList).length := List.length_pos_iff.2 (pieces_ne _ _)
  have hnl := pieces_len_le 32 s.data.toList
  rw [Num.len_data] at hnl
  obtain ⟨ps, hps⟩ : ∃ ps, ps = pieces 32 s.data.toList := ⟨_, rfl⟩
  have HWD := Lib.hid (show words s.data.toList = wordsTo ps ps.length by rw [hps]; rfl)
  rw [← hps] at hsp hne hnl
  have HS := Lib.hid hsp
  have hn : ps.length ≤ 1048577 := by omega
  clear hsp hps hnl
  go_enter Tryd.func9, Tryd.ntmps9
  go_wp2_with fail
  refine (HS.out _).mono ?_
  rintro e w1 ⟨v, rfl, hown, hb⟩
  obtain ⟨g, cap, rfl, -, hg, hc⟩ := ReadPt.row_strs hown hne
  have hO1 : On w w1 := hb
  have HC := Lib.hid hc
  clear hown hc hb
  go_wp2_with fail
  go_loopw [4, 5] (fun v i wr => ∃ k : Nat, i = .int .i64 k ∧ k ≤ ps.length ∧ wr.ownsRow w1.heap.size 9 1 v (wordsTo ps k).length (strCells (wordsTo ps k)) ∧ Below w1.heap.size w1 wr) (fun _ i _ => ps.length - (intOf i).toNat)
  case atStart => exact ⟨0, rfl, Nat.zero_le _, World.ownsRow_lit w1 #[] 0 (Nat.le_refl _) (by unfold maxLen; omega) rfl, (Below.refl _ _).alloc (Nat.le_refl _) _⟩
  case round =>
    obtain ⟨k, rfl, hk, hown, hb⟩ := hrel
    have HO := Lib.hid hown
    have HW := Lib.hid hb
    have hsz := hb.size
    clear hown hb
    by_cases hlt : k < ps.length
    · obtain ⟨b, hbb⟩ : ∃ b : ByteArray, b = ⟨ps[k].toArray⟩ := ⟨_, rfl⟩
      have c1 : wr.cell? ⟨g, k, none⟩ = some (.string b) := by rw [hbb]; exact (HW.out.cell (by exact hg)).trans (HC.out k hlt)
      have hbd : b.data.toList = ps[k] := by rw [hbb]
      by_cases he : ps[k] = []
      · obtain rfl := str_empty (hbd.trans he)
        have HT := Lib.hid (wordsTo_skip hlt he)
        clear hbb hbd he
        go_wp2_with fail
        go_roundw
        case rel =>
          refine ⟨k + 1, by go_num, by omega, ?_, HW.out⟩
          rw [HT.out]; exact HO.out
        case measure => simp [intOf]; omega
      · have q1 : (b.toList == []) = false := str_some (by rw [hbd]; exact he)
        have q2 : (b.toList != []) = true := by rw [bne, q1]; rfl
        have q3 : b.toList.isEmpty = false := by cases hh : b.toList with | nil => rw [hh] at q1; cases q1 | cons => rfl
        have HT := Lib.hid (wordsTo_add hlt he)
        have HE := Lib.hid (show strCells (wordsTo ps k ++ [ps[k]]) = strCells (wordsTo ps k) ++ [.string b] by unfold strCells; rw [List.map_append, hbb]; rfl)
        have hlen : (wordsTo ps k).length ≤ 1048577 := Nat.le_trans wordsTo_len (by omega)
        clear hbb hbd he
        go_wp2_with (at_builtin; refine wpList_append_own _ rfl (.tmp 20) (.tmp 25) 28 rfl w1.heap.size 9 i0 (.string ⟨#[]⟩) 1 16 Tryd.underlying28 hi hz0 hz1 hz2 rfl (by decide) _ (wordsTo ps k).length _ rfl (HO.out.alloc _) ⟨wr.heap.size, 0, none⟩ 1 1 [.string b] rfl rfl ?c1 ?c2 ?c3 ?c4 ?c5 ?_)
        case c1 => exact Split.cells_one
        case c2 => exact Split.one_cell
        case c3 => unfold maxLen; omega
        case c4 => omega
        case c5 => simp; omega
        intro v' w3 hown' hgrow _
        have hd : strCells (wordsTo ps k) ++ [Value.string b] = strCells (wordsTo ps (k + 1)) := by rw [HT.out, HE.out]
        have hl : (wordsTo ps k).length + 1 = (wordsTo ps (k + 1)).length := by rw [HT.out, List.length_append]; rfl
        rw [hd, hl] at hown'
        have HO2 := Lib.hid hown'
        have HB2 := Lib.hid ((HW.out.alloc hsz _).grown hgrow (by simp; omega) (fun k hk => (HO.out.lt k hk).1))
        clear hown' hgrow hd hl
        go_wp2
        go_roundw
        case rel => first | exact ⟨k + 1, by go_num, by omega, HO2.out, HB2.out⟩ | ((repeat apply Exists.intro); exact ⟨⟨k + 1, by go_num, by omega, HO2.out, HB2.out⟩, rfl⟩)
        case measure => simp [intOf]; omega
    · obtain rfl : k = ps.length := by omega
      have HO2 := Lib.hid (own_row HO.out).strs
      go_wp2
      go_ret
      exact ⟨_, rfl, by rw [HWD.out]; exact HO2.out, hO1.trans HW.out⟩
end Go.Proofs.YtcdmijldkmmgmabDoor.Words
