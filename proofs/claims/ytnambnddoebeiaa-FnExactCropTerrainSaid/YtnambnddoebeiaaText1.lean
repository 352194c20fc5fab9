
/-
  What the names and the check values of the model and of the program return. Condition: a text of at most 1048576 bytes.
-/
import Derived.Test.YtnambnddoebeiaaProg
import Derived.Test.YtnambnddoebeiaaBytes
import Derived.Test.YtnambnddoebeiaaArith
import Derived.WalkKit
import Derived.Lib.Hide
import Derived.IntWalk
namespace Go.Proofs.Ytnambnddoebeiaa.Text1
open Go.RowKit
open Plain
open Arith (ret_bool ret_int)

theorem len_data (s : ByteArray) : s.data.toList.length = s.size := Array.length_toList
theorem get_data (s : ByteArray) (k : Nat) (h : k < s.size) (h' : k < s.data.toList.length) : s.data.toList[k]'h' = s[k]'h := Array.getElem_toList _
theorem not_empty {s : ByteArray} (h : 0 < s.size) : s.toList.isEmpty = false := by
  rw [ByteArray.toList_eq]
  cases hl : s.data.toList with
  | nil => have := len_data s; rw [hl] at this; simp at this; omega
  | cons _ _ => rfl
theorem is_empty {s : ByteArray} (h : s.size = 0) : s = ByteArray.empty := by
  cases s; rename_i d; simp [ByteArray.size] at h; subst h; rfl

theorem small (v : Int) (w : World) :
    Calls Try.prog 63 #[.int .u8 v] w fun e w' => e = .returned (.bool (inB v 97 122)) ∧ w = w' := by
  by_cases h : 97 ≤ v ∧ v ≤ 122
  · rw [inB_yes h.1 h.2]
    obtain ⟨h1, h2⟩ := h
    go_enter Try.func63, Try.ntmps63
    go_wp2
    go_ret
    exact ⟨rfl, rfl⟩
  · rw [inB_no (by omega)]
    by_cases h1 : v < 97
    · clear h
      go_enter Try.func63, Try.ntmps63
      go_wp2
      go_ret
      exact ⟨rfl, rfl⟩
    · have h2 : 122 < v := by omega
      clear h
      go_enter Try.func63, Try.ntmps63
      go_wp2
      go_ret
      exact ⟨ret_bool (decide_eq_false (by omega)), rfl⟩

theorem sdigit (v : Int) (w : World) :
    Calls Try.prog 64 #[.int .u8 v] w fun e w' => e = .returned (.bool (inB v 48 57)) ∧ w = w' := by
  by_cases h : 48 ≤ v ∧ v ≤ 57
  · rw [inB_yes h.1 h.2]
    obtain ⟨h1, h2⟩ := h
    go_enter Try.func64, Try.ntmps64
    go_wp2
    go_ret
    exact ⟨rfl, rfl⟩
  · rw [inB_no (by omega)]
    by_cases h1 : v < 48
    · clear h
      go_enter Try.func64, Try.ntmps64
      go_wp2
      go_ret
      exact ⟨rfl, rfl⟩
    · have h2 : 57 < v := by omega
      clear h
      go_enter Try.func64, Try.ntmps64
      go_wp2
      go_ret
      exact ⟨ret_bool (decide_eq_false (by omega)), rfl⟩

theorem letter (v : Int) (w : World) :
    Calls Try.prog 68 #[.int .u8 v] w fun e w' => e = .returned (.bool (inB v 97 122)) ∧ w = w' := by
  by_cases h : 97 ≤ v ∧ v ≤ 122
  · rw [inB_yes h.1 h.2]
    obtain ⟨h1, h2⟩ := h
    go_enter Try.func68, Try.ntmps68
    go_wp2
    go_ret
    exact ⟨rfl, rfl⟩
  · rw [inB_no (by omega)]
    by_cases h1 : v < 97
    · clear h
      go_enter Try.func68, Try.ntmps68
      go_wp2
      go_ret
      exact ⟨rfl, rfl⟩
    · have h2 : 122 < v := by omega
      clear h
      go_enter Try.func68, Try.ntmps68
      go_wp2
      go_ret
      exact ⟨ret_bool (decide_eq_false (by omega)), rfl⟩

theorem digit (v : Int) (w : World) :
    Calls Try.prog 69 #[.int .u8 v] w fun e w' => e = .returned (.bool (inB v 48 57)) ∧ w = w' := by
  by_cases h : 48 ≤ v ∧ v ≤ 57
  · rw [inB_yes h.1 h.2]
    obtain ⟨h1, h2⟩ := h
    go_enter Try.func69, Try.ntmps69
    go_wp2
    go_ret
    exact ⟨rfl, rfl⟩
  · rw [inB_no (by omega)]
    by_cases h1 : v < 48
    · clear h
      go_enter Try.func69, Try.ntmps69
      go_wp2
      go_ret
      exact ⟨rfl, rfl⟩
    · have h2 : 57 < v := by omega
      clear h
      go_enter Try.func69, Try.ntmps69
      go_wp2
      go_ret
      exact ⟨ret_bool (decide_eq_false (by omega)), rfl⟩

theorem spec_l01Name (s : ByteArray) (w : World) (hs : s.size ≤ 1048576) :
    Calls Try.prog 42 #[.string s] w fun e w' => e = .returned (.bool (nameB s.data.toList)) ∧ w = w' := by
  by_cases h0 : s.size = 0
  · have en := Lib.hid (name_empty (l := s.data.toList) (by rw [len_data]; exact h0))
    obtain rfl := is_empty h0
    clear h0
    go_enter Try.func42, Try.ntmps42
    go_wp2
    go_ret
    exact ⟨ret_bool en.out.symm, rfl⟩
  · have h1 : 0 < s.size := by omega
    have e1 := not_empty h1
    clear h0
    by_cases h3 : 10 < s.size
    · have en := Lib.hid (name_long (l := s.data.toList) (by rw [len_data]; exact h3))
      go_enter Try.func42, Try.ntmps42
      go_wp2
      go_ret
      exact ⟨ret_bool en.out.symm, rfl⟩
    · cases hb : inB (s[0].toNat : Int) 97 122 with
      | false =>
        have en := Lib.hid (name_head (l := s.data.toList) (by rw [len_data]; exact h1) (by rw [get_data s 0 h1]; exact hb))
        go_enter Try.func42, Try.ntmps42
        go_wp2_with (first | (go_at_call 63; refine (small _ _).mono ?_; rintro e w' ⟨rfl, rfl⟩) | (go_at_call 64; refine (sdigit _ _).mono ?_; rintro e w' ⟨rfl, rfl⟩))
        go_ret
        exact ⟨ret_bool en.out.symm, rfl⟩
      | true =>
        have HB := Lib.hid hb
        go_enter Try.func42, Try.ntmps42
        go_wp2_with (first | (go_at_call 63; refine (small _ _).mono ?_; rintro e w' ⟨rfl, rfl⟩) | (go_at_call 64; refine (sdigit _ _).mono ?_; rintro e w' ⟨rfl, rfl⟩))
        clear hb
        go_loop [3] (fun i => ∃ k : Nat, k ≤ s.size ∧ i = .int .i64 k ∧ AllOk s.data.toList k) (fun i => s.size - (intOf i).toNat)
        case atStart => exact ⟨0, Nat.zero_le _, rfl, allOk_zero _⟩
        case round =>
          obtain ⟨k, hk, rfl, hall⟩ := hrel
          have HA := Lib.hid hall
          clear hall
          by_cases hlt : k < s.size
          · cases hc : inB (s[k].toNat : Int) 97 122 with
            | true =>
              have HN := Lib.hid (allOk_succ HA.out (by rw [len_data]; exact hlt) (by rw [get_data s k hlt]; exact okc_letter hc))
              go_wp2_with (first | (go_at_call 63; refine (small _ _).mono ?_; rintro e w' ⟨rfl, rfl⟩) | (go_at_call 64; refine (sdigit _ _).mono ?_; rintro e w' ⟨rfl, rfl⟩))
              go_round
              case rel => exact ⟨k + 1, by omega, by go_num, HN.out⟩
              case measure => simp [intOf]; omega
            | false =>
              cases hd : inB (s[k].toNat : Int) 48 57 with
              | true =>
                have HN := Lib.hid (allOk_succ HA.out (by rw [len_data]; exact hlt) (by rw [get_data s k hlt]; exact okc_digit hd))
                go_wp2_with (first | (go_at_call 63; refine (small _ _).mono ?_; rintro e w' ⟨rfl, rfl⟩) | (go_at_call 64; refine (sdigit _ _).mono ?_; rintro e w' ⟨rfl, rfl⟩))
                go_round
                case rel => exact ⟨k + 1, by omega, by go_num, HN.out⟩
                case measure => simp [intOf]; omega
              | false =>
                have en := Lib.hid (name_bad (l := s.data.toList) (k := k) (by rw [len_data]; exact hlt) (by rw [get_data s k hlt]; exact okc_no hc hd))
                go_wp2_with (first | (go_at_call 63; refine (small _ _).mono ?_; rintro e w' ⟨rfl, rfl⟩) | (go_at_call 64; refine (sdigit _ _).mono ?_; rintro e w' ⟨rfl, rfl⟩))
                go_ret
                exact ⟨ret_bool en.out.symm, rfl⟩
          · have en := Lib.hid (name_yes (l := s.data.toList) (by rw [len_data]; exact h1) (by rw [len_data]; omega) (by rw [get_data s 0 h1]; exact HB.out) (by have := HA.out; rw [show k = s.data.toList.length from by rw [len_data]; omega] at this; exact this))
            go_wp2_with (first | (go_at_call 63; refine (small _ _).mono ?_; rintro e w' ⟨rfl, rfl⟩) | (go_at_call 64; refine (sdigit _ _).mono ?_; rintro e w' ⟨rfl, rfl⟩))
            go_ret
            exact ⟨ret_bool en.out.symm, rfl⟩

theorem impl_isName (s : ByteArray) (w : World) (hs : s.size ≤ 1048576) :
    Calls Try.prog 46 #[.string s] w fun e w' => e = .returned (.bool (nameB s.data.toList)) ∧ w = w' := by
  by_cases h0 : s.size = 0
  · have en := Lib.hid (name_empty (l := s.data.toList) (by rw [len_data]; exact h0))
    obtain rfl := is_empty h0
    clear h0
    go_enter Try.func46, Try.ntmps46
    go_wp2
    go_ret
    exact ⟨ret_bool en.out.symm, rfl⟩
  · have h1 : 0 < s.size := by omega
    have e1 := not_empty h1
    clear h0
    by_cases h3 : 10 < s.size
    · have en := Lib.hid (name_long (l := s.data.toList) (by rw [len_data]; exact h3))
      go_enter Try.func46, Try.ntmps46
      go_wp2
      go_ret
      exact ⟨ret_bool en.out.symm, rfl⟩
    · cases hb : inB (s[0].toNat : Int) 97 122 with
      | false =>
        have en := Lib.hid (name_head (l := s.data.toList) (by rw [len_data]; exact h1) (by rw [get_data s 0 h1]; exact hb))
        go_enter Try.func46, Try.ntmps46
        go_wp2_with (first | (go_at_call 68; refine (letter _ _).mono ?_; rintro e w' ⟨rfl, rfl⟩) | (go_at_call 69; refine (digit _ _).mono ?_; rintro e w' ⟨rfl, rfl⟩))
        go_ret
        exact ⟨ret_bool en.out.symm, rfl⟩
      | true =>
        have HB := Lib.hid hb
        go_enter Try.func46, Try.ntmps46
        go_wp2_with (first | (go_at_call 68; refine (letter _ _).mono ?_; rintro e w' ⟨rfl, rfl⟩) | (go_at_call 69; refine (digit _ _).mono ?_; rintro e w' ⟨rfl, rfl⟩))
        clear hb
        go_loop [3] (fun i => ∃ k : Nat, k ≤ s.size ∧ i = .int .i64 k ∧ AllOk s.data.toList k) (fun i => s.size - (intOf i).toNat)
        case atStart => exact ⟨1, h1, rfl, allOk_one (by rw [len_data]; exact h1) (by rw [get_data s 0 h1]; exact HB.out)⟩
        case round =>
          obtain ⟨k, hk, rfl, hall⟩ := hrel
          have HA := Lib.hid hall
          clear hall
          by_cases hlt : k < s.size
          · cases hc : inB (s[k].toNat : Int) 97 122 with
            | true =>
              have HN := Lib.hid (allOk_succ HA.out (by rw [len_data]; exact hlt) (by rw [get_data s k hlt]; exact okc_letter hc))
              go_wp2_with (first | (go_at_call 68; refine (letter _ _).mono ?_; rintro e w' ⟨rfl, rfl⟩) | (go_at_call 69; refine (digit _ _).mono ?_; rintro e w' ⟨rfl, rfl⟩))
              go_round
              case rel => exact ⟨k + 1, by omega, by go_num, HN.out⟩
              case measure => simp [intOf]; omega
            | false =>
              cases hd : inB (s[k].toNat : Int) 48 57 with
              | true =>
                have HN := Lib.hid (allOk_succ HA.out (by rw [len_data]; exact hlt) (by rw [get_data s k hlt]; exact okc_digit hd))
                go_wp2_with (first | (go_at_call 68; refine (letter _ _).mono ?_; rintro e w' ⟨rfl, rfl⟩) | (go_at_call 69; refine (digit _ _).mono ?_; rintro e w' ⟨rfl, rfl⟩))
                go_round
                case rel => exact ⟨k + 1, by omega, by go_num, HN.out⟩
                case measure => simp [intOf]; omega
              | false =>
                have en := Lib.hid (name_bad (l := s.data.toList) (k := k) (by rw [len_data]; exact hlt) (by rw [get_data s k hlt]; exact okc_no hc hd))
                go_wp2_with (first | (go_at_call 68; refine (letter _ _).mono ?_; rintro e w' ⟨rfl, rfl⟩) | (go_at_call 69; refine (digit _ _).mono ?_; rintro e w' ⟨rfl, rfl⟩))
                go_ret
                exact ⟨ret_bool en.out.symm, rfl⟩
          · have en := Lib.hid (name_yes (l := s.data.toList) (by rw [len_data]; exact h1) (by rw [len_data]; omega) (by rw [get_data s 0 h1]; exact HB.out) (by have := HA.out; rw [show k = s.data.toList.length from by rw [len_data]; omega] at this; exact this))
            go_wp2_with (first | (go_at_call 68; refine (letter _ _).mono ?_; rintro e w' ⟨rfl, rfl⟩) | (go_at_call 69; refine (digit _ _).mono ?_; rintro e w' ⟨rfl, rfl⟩))
            go_ret
            exact ⟨ret_bool en.out.symm, rfl⟩

end Go.Proofs.Ytnambnddoebeiaa.Text1
