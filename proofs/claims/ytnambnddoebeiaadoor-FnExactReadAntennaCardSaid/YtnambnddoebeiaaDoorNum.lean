
/-
  What the reading of numbers of the model and of the program returns. Condition: a text of at most 1048576 bytes; the library's table and errors hold what its text lays.
-/
import Derived.Test.YtnambnddoebeiaaDoorProg
import Derived.Test.YtnambnddoebeiaaDoorArith
import Derived.Test.YtnambnddoebeiaaDoorNumPlain
import Derived.WalkKit
import Derived.Lib.Hide
import Derived.IntWalk
import Derived.Below
namespace Go.Proofs.YtnambnddoebeiaaDoor.Num
open Go.RowKit
open Plain
open Arith (ret_bool ret_int)

theorem len_data (s : ByteArray) : s.data.toList.length = s.size := Array.length_toList
theorem get_data (s : ByteArray) (k : Nat) (h : k < s.size) (h' : k < s.data.toList.length) : s.data.toList[k]'h' = s[k]'h := Array.getElem_toList _
theorem is_empty {s : ByteArray} (h : s.size = 0) : s = ByteArray.empty := by
  cases s; rename_i d; simp [ByteArray.size] at h; subst h; rfl
theorem head_data (s : ByteArray) (h : 0 < s.size) : s.data.toList.head? = some (s[0]'h) := by
  rw [List.head?_eq_getElem?, List.getElem?_eq_getElem (by rw [len_data]; exact h), get_data s 0 h]
theorem ret_two {a b : Int} {c d : Bool} (h1 : a = b) (h2 : c = d) : Ending.returned (.tuple #[.int .i64 a, .bool c]) = .returned (.tuple #[.int .i64 b, .bool d]) := by rw [h1, h2]

theorem sdigit (v : Int) (w : World) :
    Calls Tryd.prog 33 #[.int .u8 v] w fun e w' => e = .returned (.bool (inB v 48 57)) ∧ w = w' := by
  by_cases h : 48 ≤ v ∧ v ≤ 57
  · rw [inB_yes h.1 h.2]
    obtain ⟨h1, h2⟩ := h
    go_enter Tryd.func33, Tryd.ntmps33
    go_wp2
    go_ret
    exact ⟨rfl, rfl⟩
  · rw [inB_no (by omega)]
    by_cases h1 : v < 48
    · clear h
      go_enter Tryd.func33, Tryd.ntmps33
      go_wp2
      go_ret
      exact ⟨rfl, rfl⟩
    · have h2 : 57 < v := by omega
      clear h
      go_enter Tryd.func33, Tryd.ntmps33
      go_wp2
      go_ret
      exact ⟨ret_bool (decide_eq_false (by omega)), rfl⟩

theorem spec_num_plain (s : ByteArray) (w : World) (hs : s.size ≤ 1048576) (h1 : 0 < s.size) (hm : s[0].toNat ≠ 45) :
    Calls Tryd.prog 16 #[.string s] w fun e w' => e = .returned (.tuple #[.int .i64 (numV s.data.toList), .bool (numB s.data.toList)]) ∧ w = w' := by
  have hc : ((s[0].toNat : Int) == 45) = false := beq_eq_false_iff_ne.2 (by omega)
  have hh : s.data.toList.head? ≠ some 45 := by rw [head_data s h1]; intro hc; rw [Option.some.injEq] at hc; apply hm; rw [hc]; rfl
  have hB : behind s.data.toList = s.data.toList.drop 0 := behind_plain hh
  have hBl : (behind s.data.toList).length = s.size - 0 := by rw [hB, List.length_drop, len_data]
  have hBk : ∀ k (h : k < (behind s.data.toList).length) (h' : k + 0 < s.size), (behind s.data.toList)[k]'h = s[k + 0]'h' := by
    intro k h h'
    simp only [hB, List.getElem_drop]
    rw [← get_data s (k + 0) h' (by rw [len_data]; exact h')]
    congr 1
    omega
  have HB := Lib.hid hB
  have HL := Lib.hid hBl
  have HK := Lib.hid hBk
  have HH := Lib.hid hh
  clear hB hBl hBk hh hm
  have hsz : ((s.size : Int) == 0) = false := beq_eq_false_iff_ne.2 (by omega)
  by_cases h18 : 18 < s.size - 0
  · have en := Lib.hid (num_no (num_long (l := s.data.toList) (by rw [HL.out]; omega)))
    have h18' : (18 : Int) < (s.size : Int) - 0 := by omega
    clear h18
    go_enter Tryd.func16, Tryd.ntmps16
    go_wp2
    go_ret2
    exact ⟨ret_two en.out.1.symm en.out.2.symm, rfl⟩
  have h18' : ¬ (18 : Int) < (s.size : Int) - 0 := by omega
  by_cases hz : s[0].toNat = 48 ∧ 1 < s.size
  · obtain ⟨hz, hz1⟩ := hz
    have en := Lib.hid (num_no (num_zero (l := s.data.toList) (by rw [HL.out]; omega) (by rw [HK.out 0 (by rw [HL.out]; omega) (by omega)]; exact hz) (by rw [len_data]; exact hz1)))
    have hz' : ((s[0].toNat : Int) == 48) = true := beq_iff_eq.2 (by omega)
    clear h18 hz
    go_enter Tryd.func16, Tryd.ntmps16
    go_wp2
    go_ret2
    exact ⟨ret_two en.out.1.symm en.out.2.symm, rfl⟩
  have HG := Lib.hid (fun m => num_good (l := s.data.toList) (m := m) (by rw [HL.out]; omega) (by rw [HL.out]; omega) (by
    rw [HK.out 0 (by rw [HL.out]; omega) (by omega), len_data]
    by_cases g : s[0].toNat = 48
    · exact .inr (by omega)
    · exact .inl g))
  by_cases g : s[0].toNat = 48
  · have g1 : ¬ (1 : Int) < s.size := by omega
    have hz' : ((s[0].toNat : Int) == 48) = true := beq_iff_eq.2 (by omega)
    clear g hz h18
    go_enter Tryd.func16, Tryd.ntmps16
    go_wp2
    go_loop [5, 6] (fun x i => ∃ k m : Nat, 0 ≤ k ∧ k ≤ s.size ∧ i = .int .i64 k ∧ x = .int .i64 m ∧ Lib.decFrom 0 ((behind s.data.toList).take (k - 0)) = some m) (fun _ i => s.size - (intOf i).toNat)
    case atStart => exact ⟨0, 0, Nat.le_refl _, by omega, rfl, rfl, rfl⟩
    case round =>
      obtain ⟨k, m, hk0, hk, rfl, rfl, hd⟩ := hrel
      have HD := Lib.hid hd
      clear hd
      by_cases hlt : k < s.size
      · have ml : m < 100000000000000000 := dec_lt HD.out (by omega)
        have ek : s[k - 0 + 0]'(by omega) = s[k] := by congr 1 <;> omega
        cases hdg : inB (s[k].toNat : Int) 48 57 with
        | true =>
          obtain ⟨b1, b2⟩ := of_inB hdg
          have HN := Lib.hid (dec_step HD.out (by rw [HL.out]; omega) (by rw [HK.out _ (by rw [HL.out]; omega) (by omega), ek]; omega) (by rw [HK.out _ (by rw [HL.out]; omega) (by omega), ek]; omega))
          have HE := Lib.hid ek
          clear ek
          go_wp2_with (go_at_call 33; refine (sdigit _ _).mono ?_; rintro e w' ⟨rfl, rfl⟩)
          go_round
          case rel =>
            have hn := HN.out
            rw [HK.out _ (by rw [HL.out]; omega) (by omega), HE.out] at hn
            exact ⟨k + 1, m * 10 + (s[k].toNat - 48), by omega, by omega, by go_num, congrArg (Value.int .i64) (by omega), by rw [show k + 1 - 0 = k - 0 + 1 from by omega]; exact hn⟩
          case measure => simp [intOf]; omega
        | false =>
          have hbad := of_not_inB hdg
          have en := Lib.hid (num_no (num_bad (l := s.data.toList) (k := k - 0) (by rw [HL.out]; omega) (by rw [HK.out _ (by rw [HL.out]; omega) (by omega), ek]; omega)))
          clear ek hbad
          go_wp2_with (go_at_call 33; refine (sdigit _ _).mono ?_; rintro e w' ⟨rfl, rfl⟩)
          go_ret2
          exact ⟨ret_two en.out.1.symm en.out.2.symm, rfl⟩
      · have hfull : (behind s.data.toList).take (k - 0) = behind s.data.toList := List.take_of_length_le (by rw [HL.out]; omega)
        have hd2 := HD.out
        rw [hfull] at hd2
        have hnum := HG.out m hd2
        have hh := HH.out
        rw [if_neg hh] at hnum
        have en := Lib.hid (num_yes hnum)
        have mb : m < 1000000000000000000 := by
          have := (itoa_of_num hnum).2
          omega
        clear hfull hd2 hnum hh
        go_wp2_with (go_at_call 33; refine (sdigit _ _).mono ?_; rintro e w' ⟨rfl, rfl⟩)
        go_ret2
        exact ⟨ret_two en.out.1.symm en.out.2.symm, rfl⟩
  · have hz' : ((s[0].toNat : Int) == 48) = false := beq_eq_false_iff_ne.2 (by omega)
    clear g hz h18
    go_enter Tryd.func16, Tryd.ntmps16
    go_wp2
    go_loop [5, 6] (fun x i => ∃ k m : Nat, 0 ≤ k ∧ k ≤ s.size ∧ i = .int .i64 k ∧ x = .int .i64 m ∧ Lib.decFrom 0 ((behind s.data.toList).take (k - 0)) = some m) (fun _ i => s.size - (intOf i).toNat)
    case atStart => exact ⟨0, 0, Nat.le_refl _, by omega, rfl, rfl, rfl⟩
    case round =>
      obtain ⟨k, m, hk0, hk, rfl, rfl, hd⟩ := hrel
      have HD := Lib.hid hd
      clear hd
      by_cases hlt : k < s.size
      · have ml : m < 100000000000000000 := dec_lt HD.out (by omega)
        have ek : s[k - 0 + 0]'(by omega) = s[k] := by congr 1 <;> omega
        cases hdg : inB (s[k].toNat : Int) 48 57 with
        | true =>
          obtain ⟨b1, b2⟩ := of_inB hdg
          have HN := Lib.hid (dec_step HD.out (by rw [HL.out]; omega) (by rw [HK.out _ (by rw [HL.out]; omega) (by omega), ek]; omega) (by rw [HK.out _ (by rw [HL.out]; omega) (by omega), ek]; omega))
          have HE := Lib.hid ek
          clear ek
          go_wp2_with (go_at_call 33; refine (sdigit _ _).mono ?_; rintro e w' ⟨rfl, rfl⟩)
          go_round
          case rel =>
            have hn := HN.out
            rw [HK.out _ (by rw [HL.out]; omega) (by omega), HE.out] at hn
            exact ⟨k + 1, m * 10 + (s[k].toNat - 48), by omega, by omega, by go_num, congrArg (Value.int .i64) (by omega), by rw [show k + 1 - 0 = k - 0 + 1 from by omega]; exact hn⟩
          case measure => simp [intOf]; omega
        | false =>
          have hbad := of_not_inB hdg
          have en := Lib.hid (num_no (num_bad (l := s.data.toList) (k := k - 0) (by rw [HL.out]; omega) (by rw [HK.out _ (by rw [HL.out]; omega) (by omega), ek]; omega)))
          clear ek hbad
          go_wp2_with (go_at_call 33; refine (sdigit _ _).mono ?_; rintro e w' ⟨rfl, rfl⟩)
          go_ret2
          exact ⟨ret_two en.out.1.symm en.out.2.symm, rfl⟩
      · have hfull : (behind s.data.toList).take (k - 0) = behind s.data.toList := List.take_of_length_le (by rw [HL.out]; omega)
        have hd2 := HD.out
        rw [hfull] at hd2
        have hnum := HG.out m hd2
        have hh := HH.out
        rw [if_neg hh] at hnum
        have en := Lib.hid (num_yes hnum)
        have mb : m < 1000000000000000000 := by
          have := (itoa_of_num hnum).2
          omega
        clear hfull hd2 hnum hh
        go_wp2_with (go_at_call 33; refine (sdigit _ _).mono ?_; rintro e w' ⟨rfl, rfl⟩)
        go_ret2
        exact ⟨ret_two en.out.1.symm en.out.2.symm, rfl⟩

theorem spec_num_minus (s : ByteArray) (w : World) (hs : s.size ≤ 1048576) (h1 : 0 < s.size) (hm : s[0].toNat = 45) :
    Calls Tryd.prog 16 #[.string s] w fun e w' => e = .returned (.tuple #[.int .i64 (numV s.data.toList), .bool (numB s.data.toList)]) ∧ w = w' := by
  have hc : ((s[0].toNat : Int) == 45) = true := beq_iff_eq.2 (by omega)
  have hh : s.data.toList.head? = some 45 := by rw [head_data s h1, Option.some.injEq]; exact UInt8.toNat_inj.1 hm
  have hB : behind s.data.toList = s.data.toList.drop 1 := behind_minus hh
  have hBl : (behind s.data.toList).length = s.size - 1 := by rw [hB, List.length_drop, len_data]
  have hBk : ∀ k (h : k < (behind s.data.toList).length) (h' : k + 1 < s.size), (behind s.data.toList)[k]'h = s[k + 1]'h' := by
    intro k h h'
    simp only [hB, List.getElem_drop]
    rw [← get_data s (k + 1) h' (by rw [len_data]; exact h')]
    congr 1
    omega
  have HB := Lib.hid hB
  have HL := Lib.hid hBl
  have HK := Lib.hid hBk
  have HH := Lib.hid hh
  clear hB hBl hBk hh hm
  by_cases h0 : s.size = 1
  · have en := Lib.hid (num_no (num_empty (l := s.data.toList) (by rw [HL.out]; omega)))
    have hsz : ((s.size : Int) == 1) = true := beq_iff_eq.2 (by omega)
    clear h0
    go_enter Tryd.func16, Tryd.ntmps16
    go_wp2
    go_ret2
    exact ⟨ret_two en.out.1.symm en.out.2.symm, rfl⟩
  have hsz : ((s.size : Int) == 1) = false := beq_eq_false_iff_ne.2 (by omega)
  have h0' : 1 < s.size := by omega
  clear h0
  by_cases h18 : 18 < s.size - 1
  · have en := Lib.hid (num_no (num_long (l := s.data.toList) (by rw [HL.out]; omega)))
    have h18' : (18 : Int) < (s.size : Int) - 1 := by omega
    clear h18
    go_enter Tryd.func16, Tryd.ntmps16
    go_wp2
    go_ret2
    exact ⟨ret_two en.out.1.symm en.out.2.symm, rfl⟩
  have h18' : ¬ (18 : Int) < (s.size : Int) - 1 := by omega
  by_cases hz : s[1].toNat = 48 ∧ 1 < s.size
  · obtain ⟨hz, hz1⟩ := hz
    have en := Lib.hid (num_no (num_zero (l := s.data.toList) (by rw [HL.out]; omega) (by rw [HK.out 0 (by rw [HL.out]; omega) (by omega)]; exact hz) (by rw [len_data]; exact hz1)))
    have hz' : ((s[1].toNat : Int) == 48) = true := beq_iff_eq.2 (by omega)
    clear h18 hz
    go_enter Tryd.func16, Tryd.ntmps16
    go_wp2
    go_ret2
    exact ⟨ret_two en.out.1.symm en.out.2.symm, rfl⟩
  have HG := Lib.hid (fun m => num_good (l := s.data.toList) (m := m) (by rw [HL.out]; omega) (by rw [HL.out]; omega) (by
    rw [HK.out 0 (by rw [HL.out]; omega) (by omega), len_data]
    by_cases g : s[1].toNat = 48
    · exact .inr (by omega)
    · exact .inl g))
  by_cases g : s[1].toNat = 48
  · omega
  · have hz' : ((s[1].toNat : Int) == 48) = false := beq_eq_false_iff_ne.2 (by omega)
    clear g hz h18
    go_enter Tryd.func16, Tryd.ntmps16
    go_wp2
    go_loop [5, 6] (fun x i => ∃ k m : Nat, 1 ≤ k ∧ k ≤ s.size ∧ i = .int .i64 k ∧ x = .int .i64 m ∧ Lib.decFrom 0 ((behind s.data.toList).take (k - 1)) = some m) (fun _ i => s.size - (intOf i).toNat)
    case atStart => exact ⟨1, 0, Nat.le_refl _, by omega, rfl, rfl, rfl⟩
    case round =>
      obtain ⟨k, m, hk0, hk, rfl, rfl, hd⟩ := hrel
      have HD := Lib.hid hd
      clear hd
      by_cases hlt : k < s.size
      · have ml : m < 100000000000000000 := dec_lt HD.out (by omega)
        have ek : s[k - 1 + 1]'(by omega) = s[k] := by congr 1 <;> omega
        cases hdg : inB (s[k].toNat : Int) 48 57 with
        | true =>
          obtain ⟨b1, b2⟩ := of_inB hdg
          have HN := Lib.hid (dec_step HD.out (by rw [HL.out]; omega) (by rw [HK.out _ (by rw [HL.out]; omega) (by omega), ek]; omega) (by rw [HK.out _ (by rw [HL.out]; omega) (by omega), ek]; omega))
          have HE := Lib.hid ek
          clear ek
          go_wp2_with (go_at_call 33; refine (sdigit _ _).mono ?_; rintro e w' ⟨rfl, rfl⟩)
          go_round
          case rel =>
            have hn := HN.out
            rw [HK.out _ (by rw [HL.out]; omega) (by omega), HE.out] at hn
            exact ⟨k + 1, m * 10 + (s[k].toNat - 48), by omega, by omega, by go_num, congrArg (Value.int .i64) (by omega), by rw [show k + 1 - 1 = k - 1 + 1 from by omega]; exact hn⟩
          case measure => simp [intOf]; omega
        | false =>
          have hbad := of_not_inB hdg
          have en := Lib.hid (num_no (num_bad (l := s.data.toList) (k := k - 1) (by rw [HL.out]; omega) (by rw [HK.out _ (by rw [HL.out]; omega) (by omega), ek]; omega)))
          clear ek hbad
          go_wp2_with (go_at_call 33; refine (sdigit _ _).mono ?_; rintro e w' ⟨rfl, rfl⟩)
          go_ret2
          exact ⟨ret_two en.out.1.symm en.out.2.symm, rfl⟩
      · have hfull : (behind s.data.toList).take (k - 1) = behind s.data.toList := List.take_of_length_le (by rw [HL.out]; omega)
        have hd2 := HD.out
        rw [hfull] at hd2
        have hnum := HG.out m hd2
        have hh := HH.out
        rw [if_pos hh] at hnum
        have en := Lib.hid (num_yes hnum)
        have mb : m < 1000000000000000000 := by
          have := (itoa_of_num hnum).2
          omega
        clear hfull hd2 hnum hh
        go_wp2_with (go_at_call 33; refine (sdigit _ _).mono ?_; rintro e w' ⟨rfl, rfl⟩)
        go_ret2
        exact ⟨ret_two en.out.1.symm en.out.2.symm, rfl⟩

theorem spec_l01Number (s : ByteArray) (w : World) (hs : s.size ≤ 1048576) :
    Calls Tryd.prog 16 #[.string s] w fun e w' => e = .returned (.tuple #[.int .i64 (numV s.data.toList), .bool (numB s.data.toList)]) ∧ w = w' := by
  by_cases h0 : s.size = 0
  · have en := Lib.hid (num_no (num_empty (l := s.data.toList) (by
      have : s.data.toList = [] := List.eq_nil_of_length_eq_zero (by rw [len_data]; exact h0)
      rw [this]; rfl)))
    obtain rfl := is_empty h0
    clear h0
    go_enter Tryd.func16, Tryd.ntmps16
    go_wp2
    go_ret2
    exact ⟨ret_two en.out.1.symm en.out.2.symm, rfl⟩
  · have h1 : 0 < s.size := by omega
    by_cases hm : s[0].toNat = 45
    · exact spec_num_minus s w hs h1 hm
    · exact spec_num_plain s w hs h1 hm
end Go.Proofs.YtnambnddoebeiaaDoor.Num
