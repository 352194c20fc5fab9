/-
  What the check values of the model and of the program return. Condition: a text of at most 1048576 bytes; each theorem's own on the start.
-/
import Derived.Test.YthfgejgcmbejjaaProg
import Derived.Test.YthfgejgcmbejjaaBytes
import Derived.Test.YthfgejgcmbejjaaArith
import Derived.Test.YthfgejgcmbejjaaText1
import Derived.WalkKit
import Derived.Lib.Hide
import Derived.IntWalk
namespace Go.Proofs.Ythfgejgcmbejjaa.Crc
open Go.RowKit
open Plain
open Arith (ret_bool ret_int)
open Text1 (len_data get_data)

theorem crcBit_hi {c : Int} (h : 65535 < c * 2) (h1 : c ≤ 65535) : crcBit c = bits .xor .i64 (bits .and .i64 (c * 2) 65535) 4129 := by
  unfold crcBit
  rw [if_pos h, and_i64 _ (by omega) (by omega)]
theorem crcBit_lo {c : Int} (h : ¬ 65535 < c * 2) : crcBit c = c * 2 := by
  unfold crcBit
  rw [if_neg h]
theorem go_rel {a b : Int} (h : a = b) : Value.int .i64 a = .int .i64 b := by rw [h]

theorem spec_l01Crc (s : ByteArray) (c : Int) (w : World) (hs : s.size ≤ 1048576) (c0 : 0 ≤ c) (c1 : c ≤ 65535) :
    Calls Try.prog 22 #[.string s, .int .i64 c] w fun e w' => e = .returned (.int .i64 (crcOf s.data.toList c)) ∧ w = w' := by
  go_enter Try.func22, Try.ntmps22
  go_wp2
  go_loop [1, 5] (fun v i => ∃ k : Nat, k ≤ s.size ∧ i = .int .i64 k ∧ v = .int .i64 (crcOf (s.data.toList.take k) c)) (fun _ i => s.size - (intOf i).toNat)
  case atStart => exact ⟨0, Nat.zero_le _, rfl, rfl⟩
  case round =>
    obtain ⟨k, hk, rfl, rfl⟩ := hrel
    by_cases hlt : k < s.size
    · have HN := Lib.hid (crcOf_succ s.data.toList c k (by rw [len_data]; exact hlt))
      have bd := crcOf_bd (s.data.toList.take k) c0 c1
      obtain ⟨cv, hv⟩ : ∃ cv, cv = crcOf (s.data.toList.take k) c := ⟨_, rfl⟩
      rw [← hv] at bd ⊢
      have HV := Lib.hid hv
      clear hv
      obtain ⟨cv0, cv1⟩ := bd
      have b1 := s[k].toNat_lt
      have xb := xor_bd cv ((s[k].toNat : Int) * 256) cv0 cv1 (by omega) (by omega)
      obtain ⟨x0, x1⟩ := xb
      go_wp2
      go_loop [1, 6] (fun v i => ∃ j : Nat, j ≤ 8 ∧ i = .int .i64 j ∧ v = .int .i64 (crcIt j (bits .xor .i64 cv ((s[k].toNat : Int) * 256)))) (fun _ i => 8 - (intOf i).toNat)
      case atStart => exact ⟨0, Nat.zero_le _, rfl, rfl⟩
      case round =>
        obtain ⟨j, hj, rfl, rfl⟩ := hrel
        by_cases hj8 : j < 8
        · have yb := crcIt_bd x0 x1 j
          have HS : Hid (crcIt (j + 1) (bits .xor .i64 cv ((s[k].toNat : Int) * 256)) = crcBit (crcIt j (bits .xor .i64 cv ((s[k].toNat : Int) * 256)))) := Lib.hid rfl
          obtain ⟨y, hy⟩ : ∃ y, y = crcIt j (bits .xor .i64 cv ((s[k].toNat : Int) * 256)) := ⟨_, rfl⟩
          rw [← hy] at yb HS ⊢
          clear hy
          obtain ⟨y0, y1⟩ := yb
          by_cases hhi : 65535 < y * 2
          · have HB := Lib.hid (crcBit_hi hhi y1)
            go_wp2
            go_round
            case rel => exact ⟨j + 1, by omega, by go_num, go_rel (by rw [HS.out, HB.out])⟩
            case measure => simp [intOf]; omega
          · have HB := Lib.hid (crcBit_lo hhi)
            go_wp2
            go_round
            case rel => exact ⟨j + 1, by omega, by go_num, go_rel (by rw [HS.out, HB.out])⟩
            case measure => simp [intOf]; omega
        · obtain rfl : j = 8 := by omega
          go_wp2
          go_round
          case rel => exact ⟨k + 1, by omega, by go_num, go_rel (by rw [HN.out, get_data s k hlt, ← HV.out]; rfl)⟩
          case measure => simp [intOf]; omega
    · have HE : Hid (crcOf (s.data.toList.take k) c = crcOf s.data.toList c) := Lib.hid (by rw [List.take_of_length_le (by rw [len_data]; omega)])
      go_wp2
      go_ret
      exact ⟨ret_int HE.out, rfl⟩

theorem impl_crc_yes (s : ByteArray) (c : Int) (w : World) (hs : s.size ≤ 1048576) (c0 : 0 ≤ c) (c1 : c ≤ 65535) :
    Calls Try.prog 11 #[.string s, .int .i64 c] w fun e w' => e = .returned (.int .i64 (crcOf s.data.toList c)) ∧ w = w' := by
  have hin : inB c 0 65535 = true := inB_yes c0 c1
  go_enter Try.func11, Try.ntmps11
  go_wp2_with (go_at_call 23; refine (Arith.within _ _ _ _).mono ?_; rintro e w' ⟨rfl, rfl⟩)
  clear hin
  go_loop [5, 6] (fun v i => ∃ k : Nat, k ≤ s.size ∧ i = .int .i64 k ∧ v = .int .i64 (crcOf (s.data.toList.take k) c)) (fun _ i => s.size - (intOf i).toNat)
  case atStart => exact ⟨0, Nat.zero_le _, rfl, rfl⟩
  case round =>
    obtain ⟨k, hk, rfl, rfl⟩ := hrel
    by_cases hlt : k < s.size
    · have HN := Lib.hid (crcOf_succ s.data.toList c k (by rw [len_data]; exact hlt))
      have bd := crcOf_bd (s.data.toList.take k) c0 c1
      obtain ⟨cv, hv⟩ : ∃ cv, cv = crcOf (s.data.toList.take k) c := ⟨_, rfl⟩
      rw [← hv] at bd ⊢
      have HV := Lib.hid hv
      clear hv
      obtain ⟨cv0, cv1⟩ := bd
      have b1 := s[k].toNat_lt
      have xb := xor_bd cv ((s[k].toNat : Int) * 256) cv0 cv1 (by omega) (by omega)
      obtain ⟨x0, x1⟩ := xb
      go_wp2
      go_loop [5, 24] (fun v i => ∃ j : Nat, j ≤ 8 ∧ i = .int .i64 j ∧ v = .int .i64 (crcIt j (bits .xor .i64 cv ((s[k].toNat : Int) * 256)))) (fun _ i => 8 - (intOf i).toNat)
      case atStart => exact ⟨0, Nat.zero_le _, rfl, rfl⟩
      case round =>
        obtain ⟨j, hj, rfl, rfl⟩ := hrel
        by_cases hj8 : j < 8
        · have yb := crcIt_bd x0 x1 j
          have HS : Hid (crcIt (j + 1) (bits .xor .i64 cv ((s[k].toNat : Int) * 256)) = crcBit (crcIt j (bits .xor .i64 cv ((s[k].toNat : Int) * 256)))) := Lib.hid rfl
          obtain ⟨y, hy⟩ : ∃ y, y = crcIt j (bits .xor .i64 cv ((s[k].toNat : Int) * 256)) := ⟨_, rfl⟩
          rw [← hy] at yb HS ⊢
          clear hy
          obtain ⟨y0, y1⟩ := yb
          by_cases hhi : 65535 < y * 2
          · have HB := Lib.hid (crcBit_hi hhi y1)
            go_wp2
            go_round
            case rel => exact ⟨j + 1, by omega, by go_num, go_rel (by rw [HS.out, HB.out])⟩
            case measure => simp [intOf]; omega
          · have HB := Lib.hid (crcBit_lo hhi)
            go_wp2
            go_round
            case rel => exact ⟨j + 1, by omega, by go_num, go_rel (by rw [HS.out, HB.out])⟩
            case measure => simp [intOf]; omega
        · obtain rfl : j = 8 := by omega
          go_wp2
          go_round
          case rel => exact ⟨k + 1, by omega, by go_num, go_rel (by rw [HN.out, get_data s k hlt, ← HV.out]; rfl)⟩
          case measure => simp [intOf]; omega
    · have HE : Hid (crcOf (s.data.toList.take k) c = crcOf s.data.toList c) := Lib.hid (by rw [List.take_of_length_le (by rw [len_data]; omega)])
      go_wp2
      go_ret
      exact ⟨ret_int HE.out, rfl⟩

/-- What Crc16 returns. -/
def crc16 (s : ByteArray) (c : Int) : Int := if inB c 0 65535 = true then crcOf s.data.toList c else 0
theorem crc16_yes {s : ByteArray} {c : Int} (h : inB c 0 65535 = true) : crc16 s c = crcOf s.data.toList c := if_pos h
theorem crc16_no {s : ByteArray} {c : Int} (h : inB c 0 65535 = false) : crc16 s c = 0 := if_neg (by rw [h]; simp)
theorem impl_crc16 (s : ByteArray) (c : Int) (w : World) (hs : s.size ≤ 1048576) :
    Calls Try.prog 11 #[.string s, .int .i64 c] w fun e w' => e = .returned (.int .i64 (crc16 s c)) ∧ w = w' := by
  cases h : inB c 0 65535 with
  | true => rw [crc16_yes h]; exact impl_crc_yes s c w hs (of_inB h).1 (of_inB h).2
  | false =>
    have en := Lib.hid (crc16_no (s := s) h)
    go_enter Try.func11, Try.ntmps11
    go_wp2_with (go_at_call 23; refine (Arith.within _ _ _ _).mono ?_; rintro e w' ⟨rfl, rfl⟩)
    go_ret
    exact ⟨ret_int en.out.symm, rfl⟩
theorem spec_crc16 (s : ByteArray) (c : Int) (w : World) (hs : s.size ≤ 1048576) :
    Calls Try.prog 10 #[.string s, .int .i64 c] w fun e w' => e = .returned (.int .i64 (crc16 s c)) ∧ w = w' := by
  cases h : inB c 0 65535 with
  | true =>
    have en := Lib.hid (crc16_yes (s := s) h)
    have hb := Lib.hid (of_inB h)
    go_enter Try.func10, Try.ntmps10
    go_wp2_with (first | (go_at_call 21; refine (Arith.l00In _ _ _ _).mono ?_; rintro e w' ⟨rfl, rfl⟩) | (go_at_call 22; refine (spec_l01Crc s c _ hs hb.out.1 hb.out.2).mono ?_; rintro e w' ⟨rfl, rfl⟩))
    go_ret
    exact ⟨ret_int en.out.symm, rfl⟩
  | false =>
    have en := Lib.hid (crc16_no (s := s) h)
    go_enter Try.func10, Try.ntmps10
    go_wp2_with (go_at_call 21; refine (Arith.l00In _ _ _ _).mono ?_; rintro e w' ⟨rfl, rfl⟩)
    go_ret
    exact ⟨ret_int en.out.symm, rfl⟩
end Go.Proofs.Ythfgejgcmbejjaa.Crc
