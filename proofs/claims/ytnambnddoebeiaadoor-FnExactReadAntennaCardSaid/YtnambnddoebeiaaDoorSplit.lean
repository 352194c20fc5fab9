
/-
  What the model's division of a text at a byte is. Condition: at most 1048576 bytes.
-/
import Derived.Test.YtnambnddoebeiaaDoorProg
import Derived.Test.YtnambnddoebeiaaDoorPieces
import Derived.Test.YtnambnddoebeiaaDoorStrs
import Derived.Test.YtnambnddoebeiaaDoorOn
import Derived.OwnWalk
import Derived.Laws.AppendOwn
import Derived.Laws.IdiomStrings
import Derived.WalkKit
import Derived.Lib.Hide
import Derived.Below
import Derived.Lib.AppendIntMem
namespace Go.Proofs.YtnambnddoebeiaaDoor.Split
open Go.RowKit
open Plain

theorem len_data (s : ByteArray) : s.data.toList.length = s.size := Array.length_toList
theorem get_data (s : ByteArray) (k : Nat) (h : k < s.size) (h' : k < s.data.toList.length) : s.data.toList[k]'h' = s[k]'h := Array.getElem_toList _
theorem infoS : (Tryd.prog.info? 9).map (fun i => (i.zero, i.size, i.bytes)) = some (some (.string ⟨#[]⟩), 1, 16) := by kernel_rfl
def strV (p : List UInt8) : Value := .string ⟨p.toArray⟩
def strCells (ps : List (List UInt8)) : List Value := ps.map strV
theorem strCells_length (ps : List (List UInt8)) : (strCells ps).length = ps.length := by simp [strCells]
theorem extract_piece (s : ByteArray) (a b : Nat) : s.extract a b = ⟨((s.data.toList.take b).drop a).toArray⟩ := by
  obtain ⟨⟨l⟩⟩ := s
  have := ByteArray.extract_mk l a b
  rw [List.drop_take]
  exact this
theorem extract_last (s : ByteArray) (a : Nat) : s.extract a s.size = ⟨(s.data.toList.drop a).toArray⟩ := by
  rw [extract_piece, ← len_data, List.take_length]
theorem cells_one {w : World} {v : Value} {t : TypeId} : ∀ (j : Nat) u, [v][j]? = some u → (w.alloc (.cells #[v] t)).cell? ((⟨w.heap.size, 0, none⟩ : Addr).add j) = some u := by
  intro j u hj
  match j, hj with
  | 0, hj => simp at hj; subst hj; simp [Addr.add]
theorem one_cell {s : ByteArray} : ∀ u ∈ [Value.string s], u.oneCell' = true := by
  intro u hu; simp at hu; subst hu; rfl
theorem atByte_start {c : UInt8} {l : List UInt8} {done : List (List UInt8)} {start i : Nat} (h : AtByte c l done start i) : start ≤ i := h.1

set_option maxHeartbeats 1600000 in
set_option maxRecDepth 1000000 in
theorem spec_split (s : ByteArray) (c : UInt8) (b : Int) (hbc : b = (c.toNat : Int)) (w : World) (hs : s.size ≤ 1048576) :
    Calls Tryd.prog 15 #[.string s, .int .u8 b] w fun e w' => ∃ v, e = .returned v ∧ w'.ownsRow w.heap.size 9 1 v (pieces c s.data.toList).length (strCells (pieces c s.data.toList)) ∧ Below w.heap.size w w' := by
  obtain ⟨i0, hi, hz0, hz1, hz2⟩ := info_parts infoS
  have hL := len_data s
  have HBC := Lib.hid hbc
  clear hbc
  go_enter Tryd.func15, Tryd.ntmps15
  go_wp2
  go_loopw [5, 6, 7] (fun v f i wr => ∃ (st k : Nat) (done : List (List UInt8)), f = .int .i64 st ∧ i = .int .i64 k ∧ k ≤ s.size ∧ wr.ownsRow w.heap.size 9 1 v done.length (strCells done) ∧ Below w.heap.size w wr ∧ AtByte c s.data.toList done st k) (fun _ _ i _ => s.size - (intOf i).toNat)
  case atStart => exact ⟨0, 0, [], rfl, rfl, Nat.zero_le _, World.ownsRow_lit w #[] 0 (Nat.le_refl _) (by unfold maxLen; omega) rfl, (Below.refl _ _).alloc (Nat.le_refl _) _, atByte_zero _ _⟩
  case round =>
    obtain ⟨st, k, done, rfl, rfl, hk, hown, hb, hat⟩ := hrel
    have hlen := atByte_len hat
    have hst := atByte_start hat
    have HT := Lib.hid hat
    have HO := Lib.hid hown
    have HB := Lib.hid hb
    have hsz := hb.size
    clear hat hown hb
    by_cases hlt : k < s.size
    · have hlt2 : k < s.data.toList.length := by omega
      have eg := get_data s k hlt hlt2
      by_cases hc : s[k] = c
      · have hq : ((s[k].toNat : Int) == b) = true := beq_iff_eq.2 (by rw [HBC.out, hc])
        have HN := Lib.hid (atByte_hit HT.out hlt2 (eg.trans hc))
        have ep := extract_piece s st k
        clear hc eg
        go_wp2_with (at_builtin; refine wpList_append_own _ rfl (.tmp 20) (.tmp 25) 37 rfl w.heap.size 9 i0 (.string ⟨#[]⟩) 1 16 Tryd.underlying37 hi hz0 hz1 hz2 rfl (by decide) _ done.length _ rfl (HO.out.alloc _) ⟨wr.heap.size, 0, none⟩ 1 1 [.string ⟨((s.data.toList.take k).drop st).toArray⟩] rfl rfl ?c1 ?c2 ?c3 ?c4 ?c5 ?_)
        case c1 => exact cells_one
        case c2 => exact one_cell
        case c3 => unfold maxLen; omega
        case c4 => omega
        case c5 => simp; omega
        intro v' w1 hown' hgrow _
        have hd : strCells done ++ [Value.string ⟨((s.data.toList.take k).drop st).toArray⟩] = strCells (done ++ [(s.data.toList.take k).drop st]) := by unfold strCells; rw [List.map_append]; rfl
        have hl : done.length + 1 = (done ++ [(s.data.toList.take k).drop st]).length := by simp
        rw [hd, hl] at hown'
        have HO2 := Lib.hid hown'
        have HB2 := Lib.hid ((HB.out.alloc hsz _).grown hgrow (by simp; omega) (fun k hk => (HO.out.lt k hk).1))
        clear hown' hgrow hd hl ep
        go_wp2
        go_roundw
        case rel => first | exact ⟨k + 1, k + 1, _, by go_num, by go_num, by omega, HO2.out, HB2.out, HN.out⟩ | ((repeat apply Exists.intro); exact ⟨⟨k + 1, k + 1, _, by go_num, by go_num, by omega, HO2.out, HB2.out, HN.out⟩, rfl⟩)
        case measure => simp [intOf]; omega
      · have hq : ((s[k].toNat : Int) == b) = false := beq_eq_false_iff_ne.2 (fun h => hc (UInt8.toNat_inj.1 (Int.ofNat_inj.1 (h.trans HBC.out))))
        have HN := Lib.hid (atByte_other HT.out hlt2 (by rw [eg]; exact hc))
        clear hc eg
        go_wp2
        go_roundw
        case rel => exact ⟨st, k + 1, done, rfl, by go_num, by omega, HO.out, HB.out, HN.out⟩
        case measure => simp [intOf]; omega
    · obtain rfl : k = s.size := by omega
      have he := HT.out
      rw [← hL] at he
      have HE := Lib.hid (atByte_end he)
      have ep := extract_last s st
      clear he
      go_wp2_with (at_builtin; refine wpList_append_own _ rfl (.tmp 29) (.tmp 33) 37 rfl w.heap.size 9 i0 (.string ⟨#[]⟩) 1 16 Tryd.underlying37 hi hz0 hz1 hz2 rfl (by decide) _ done.length _ rfl (HO.out.alloc _) ⟨wr.heap.size, 0, none⟩ 1 1 [.string ⟨(s.data.toList.drop st).toArray⟩] rfl rfl ?c1 ?c2 ?c3 ?c4 ?c5 ?_)
      case c1 => exact cells_one
      case c2 => exact one_cell
      case c3 => unfold maxLen; omega
      case c4 => omega
      case c5 => simp; omega
      intro v' w1 hown' hgrow _
      have hd : strCells done ++ [Value.string ⟨(s.data.toList.drop st).toArray⟩] = strCells (pieces c s.data.toList) := by rw [← HE.out]; unfold strCells; rw [List.map_append]; rfl
      have hl : done.length + 1 = (pieces c s.data.toList).length := by rw [← HE.out]; simp
      rw [hd, hl] at hown'
      have HO2 := Lib.hid hown'
      have HB2 := Lib.hid ((HB.out.alloc hsz _).grown hgrow (by simp; omega) (fun k hk => (HO.out.lt k hk).1))
      clear hown' hgrow hd hl ep
      go_wp2
      go_ret
      exact ⟨_, rfl, HO2.out, HB2.out⟩
end Go.Proofs.YtnambnddoebeiaaDoor.Split
