
/-
  The words of a line, in the program. Conditions: a line of at most 1048576 bytes; what the library's variable holds.
-/
import Derived.Test.YtnambnddoebeiaaDoorWordsSpec
import Derived.Test.YtnambnddoebeiaaDoorShelfSplit
import Derived.Test.YtnambnddoebeiaaDoorReadListImpl
namespace Go.Proofs.YtnambnddoebeiaaDoor.Words
open Go.RowKit
open Plain
open Split (strV strCells)
open Strs (Strs Own noText)

set_option maxHeartbeats 1600000 in
set_option maxRecDepth 1000000 in
theorem impl_words (s : ByteArray) (m : Int) (w : World) (hs : s.size ≤ 1048576) (hm : w.cell? ⟨2, 0, none⟩ = some (.int .i64 m)) :
    Calls Tryd.prog 19 #[.string s] w fun e w' => ∃ v, e = .returned v ∧ Own w.heap.size w' v (texts (words s.data.toList)) ∧ On w w' := by
  obtain ⟨i0, hi, hz0, hz1, hz2⟩ := info_parts Split.infoS
  have hSp := Tryd.strings_Split s ⟨#[32]⟩ m w (by omega) hm (by decide)
  have hnl := pieces_len_le 32 s.data.toList
  rw [Num.len_data] at hnl
  have hd := split_data s
  obtain ⟨bs, hbs⟩ : ∃ bs, bs = Lib.splitB ⟨#[32]⟩ 0 (Lib.countB s ⟨#[32]⟩) s := ⟨_, rfl⟩
  rw [← hbs] at hSp hd
  rw [split_len s] at hSp
  obtain ⟨ps, hps⟩ : ∃ ps, ps = pieces 32 s.data.toList := ⟨_, rfl⟩
  have HWD := Lib.hid (show words s.data.toList = wordsTo ps ps.length by rw [hps]; rfl)
  rw [← hps] at hSp hnl hd
  have hn : ps.length ≤ 1048577 := by omega
  have hcells : ∀ j (hj : j < ps.length), ∃ b : ByteArray, ((bs.map Value.string).toArray)[j]? = some (.string b) ∧ b.data.toList = ps[j] := fun j hj => by
    have hj2 : j < bs.length := by rw [← hd, List.length_map] at hj; exact hj
    exact ⟨bs[j], by simp [hj2], ReadList.parts_get hd hj2 hj⟩
  obtain ⟨A, hA⟩ : ∃ A, A = (bs.map Value.string).toArray := ⟨_, rfl⟩
  rw [← hA] at hSp hcells
  have HS := Lib.hid hSp
  have HD := Lib.hid hcells
  clear hSp hbs hd hs hm hnl hps hcells hA
  obtain ⟨W0, hW0⟩ : ∃ W0 : World, W0 = w.alloc (.cells A 9) := ⟨_, rfl⟩
  go_enter Tryd.func19, Tryd.ntmps19
  go_wp2_with fail
  refine HS.out.mono ?_
  rintro e w1 ⟨rfl, hw1⟩
  rw [← hW0] at hw1
  subst hw1
  have HSZ := Lib.hid (show w1.heap.size = w.heap.size + 1 by rw [hW0]; simp)
  have hO0 : On w w1 := by rw [hW0]; exact On.alloc (On.refl w) _
  have HP := Lib.hid (fun j (hj : j < ps.length) => show ∃ b : ByteArray, w1.cell? ⟨w.heap.size, j, none⟩ = some (.string b) ∧ b.data.toList = ps[j] by
    obtain ⟨b, h1, h3⟩ := HD.out j hj
    exact ⟨b, by rw [hW0]; exact ReadList.cell_row h1, h3⟩)
  clear hW0
  go_wp2_with fail
  go_loopw [3, 9] (fun v i wr => ∃ k : Nat, i = .int .i64 k ∧ k ≤ ps.length ∧ wr.ownsRow w1.heap.size 9 1 v (wordsTo ps k).length (strCells (wordsTo ps k)) ∧ Below w1.heap.size w1 wr) (fun _ i _ => ps.length - (intOf i).toNat)
  case atStart => exact ⟨0, rfl, Nat.zero_le _, ⟨rfl, .inl ⟨rfl, rfl⟩⟩, Below.refl _ _⟩
  case round =>
    obtain ⟨k, rfl, hk, hown, hb⟩ := hrel
    have HO := Lib.hid hown
    have HW := Lib.hid hb
    have hsz := hb.size
    clear hown hb
    by_cases hlt : k < ps.length
    · obtain ⟨b, hc0, hbd⟩ := HP.out k hlt
      have c1 : wr.cell? ⟨w.heap.size, k, none⟩ = some (.string b) := (HW.out.cell (by show w.heap.size < w1.heap.size; have := HSZ.out; omega)).trans hc0
      have hbb : b = ⟨ps[k].toArray⟩ := by rw [← hbd]
      clear hc0
      by_cases he : ps[k] = []
      · obtain rfl := str_empty (hbd.trans he)
        have HT := Lib.hid (wordsTo_skip hlt he)
        clear hbb hbd he
        go_wp2_with fail
        go_roundw
        case rel =>
          refine ⟨k + 1, by go_num, by omega, ?_, HW.out⟩
          rw [HT.out]; exact HO.out
        case measure => simp [intOf]; omega
      · have q1 : (b.toList == []) = false := str_some (by rw [hbd]; exact he)
        have q2 : (b.toList != []) = true := by rw [bne, q1]; rfl
        have q3 : b.toList.isEmpty = false := by cases hh : b.toList with | nil => rw [hh] at q1; cases q1 | cons => rfl
        have HT := Lib.hid (wordsTo_add hlt he)
        have HE := Lib.hid (show strCells (wordsTo ps k ++ [ps[k]]) = strCells (wordsTo ps k) ++ [.string b] by unfold strCells; rw [List.map_append, hbb]; rfl)
        have hlen : (wordsTo ps k).length ≤ 1048577 := Nat.le_trans wordsTo_len (by omega)
        clear hbb hbd he
        go_wp2_with (at_builtin; refine wpList_append_own _ rfl (.tmp 15) (.tmp 17) 37 rfl w1.heap.size 9 i0 (.string ⟨#[]⟩) 1 16 Tryd.underlying37 hi hz0 hz1 hz2 rfl (by decide) _ (wordsTo ps k).length _ rfl (HO.out.alloc _) ⟨wr.heap.size, 0, none⟩ 1 1 [.string b] rfl rfl ?c1 ?c2 ?c3 ?c4 ?c5 ?_)
        case c1 => exact Split.cells_one
        case c2 => exact Split.one_cell
        case c3 => unfold maxLen; omega
        case c4 => omega
        case c5 => simp; omega
        intro v' w3 hown' hgrow _
        have hd : strCells (wordsTo ps k) ++ [Value.string b] = strCells (wordsTo ps (k + 1)) := by rw [HT.out, HE.out]
        have hl : (wordsTo ps k).length + 1 = (wordsTo ps (k + 1)).length := by rw [HT.out, List.length_append]; rfl
        rw [hd, hl] at hown'
        have HO2 := Lib.hid hown'
        have HB2 := Lib.hid ((HW.out.alloc hsz _).grown hgrow (by simp; omega) (fun k hk => (HO.out.lt k hk).1))
        clear hown' hgrow hd hl
        go_wp2
        go_roundw
        case rel => first | exact ⟨k + 1, by go_num, by omega, HO2.out, HB2.out⟩ | ((repeat apply Exists.intro); exact ⟨⟨k + 1, by go_num, by omega, HO2.out, HB2.out⟩, rfl⟩)
        case measure => simp [intOf]; omega
    · obtain rfl : k = ps.length := by omega
      have hO2 := own_row HO.out
      have HO2 := Lib.hid hO2
      clear hO2
      go_wp2
      go_ret
      refine ⟨_, rfl, ?_, hO0.trans HW.out⟩
      rw [HWD.out]
      obtain ⟨a, cap, hv, hc⟩ := HO2.out
      exact ⟨a, cap, hv, fun h0 => by
        obtain ⟨b, off, ha, hB, hr⟩ := hc h0
        exact ⟨b, off, ha, by have := HSZ.out; omega, hr⟩⟩
end Go.Proofs.YtnambnddoebeiaaDoor.Words
