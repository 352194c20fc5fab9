
/-
  The text of a path, in the model and in the program. Condition: the library's table of powers of ten holds what its text lays.
-/
import Derived.Test.YtggiilbdlbhpgaaDoorDec
import Derived.Test.YtggiilbdlbhpgaaDoorOnH
import Derived.Test.YtggiilbdlbhpgaaDoorTail
import Derived.Test.YtggiilbdlbhpgaaDoorBldR
import Derived.Lib.LaidTab
import Derived.Lib.UnsafeStr
namespace Go.Proofs.YtggiilbdlbhpgaaDoor.PTxt
open Go.RowKit
open Plain
open Lib (IsBuilder BuilderAt strCells)

def dec (x : Int) : ByteArray := ⟨(Lib.itoa x).toArray⟩
theorem dec_size (x : Int) (h0 : -9223372036854775808 ≤ x) (h1 : x ≤ 9223372036854775807) : (dec x).size ≤ 21 := by
  have : (Lib.itoa x).length ≤ 21 := by
    by_cases h : 0 ≤ x
    · have := itoa_len x h (by omega); omega
    · obtain ⟨k, hk⟩ := Int.eq_ofNat_of_zero_le (a := -x) (by omega)
      have e : x = -(k : Int) := by omega
      rw [e, itoa_neg k (by omega)]
      have := decDigits_le (N := k) (by omega)
      simp
      omega
  simpa [dec, ByteArray.size] using this
/-- A word, a space, a number, a space. -/
def pt (s d : ByteArray) : ByteArray := s ++ ⟨#[32]⟩ ++ d ++ ⟨#[32]⟩
def acc (its : List (ByteArray × ByteArray)) (k : Nat) : ByteArray := (its.take k).foldl (fun a q => a ++ pt q.1 q.2) ⟨#[]⟩
theorem acc_succ {its : List (ByteArray × ByteArray)} {k : Nat} {q : ByteArray × ByteArray} (h : its[k]? = some q) : acc its (k + 1) = acc its k ++ pt q.1 q.2 := by
  have hk : k < its.length := (List.getElem?_eq_some_iff.1 h).1
  have e : its[k] = q := by rw [List.getElem?_eq_getElem hk] at h; simpa using h
  unfold acc
  rw [List.take_succ_eq_append_getElem hk, List.foldl_append, e]
  rfl
theorem acc_size {its : List (ByteArray × ByteArray)} (h : ∀ q ∈ its, q.1.size ≤ 11 ∧ q.2.size ≤ 21) : ∀ k, k ≤ its.length → (acc its k).size ≤ 34 * k
  | 0, _ => by simp [acc, ByteArray.size]
  | k + 1, hk => by
    have h1 := acc_size h k (by omega)
    obtain ⟨h2, h3⟩ := h _ (List.getElem_mem (show k < its.length by omega))
    rw [acc_succ (List.getElem?_eq_getElem (show k < its.length by omega))]
    have e32 : (⟨#[32]⟩ : ByteArray).size = 1 := rfl
    simp only [pt, ByteArray.size_append, e32]
    omega
theorem ret_str {a b : ByteArray} (h : a = b) : Ending.returned (.string a) = .returned (.string b) := by rw [h]
def txt (d0 d1 d2 d3 d4 d5 d6 d7 : ByteArray) (c : Bool) : ByteArray := ⟨#[100, 105, 115, 116, 97, 110, 99, 101, 32]⟩ ++ d0 ++ ⟨#[32, 98, 101, 97, 114, 105, 110, 103, 32]⟩ ++ d1 ++ ⟨#[32, 101, 108, 101, 118, 97, 116, 105, 111, 110, 32]⟩ ++ d2 ++ ⟨#[32, 102, 114, 101, 101, 32]⟩ ++ d3 ++ ⟨#[32, 103, 97, 115, 32]⟩ ++ d4 ++ ⟨#[32, 100, 105, 102, 102, 114, 97, 99, 116, 105, 111, 110, 32]⟩ ++ d5 ++ ⟨#[32, 99, 108, 117, 116, 116, 101, 114, 32]⟩ ++ d6 ++ ⟨#[32, 116, 111, 116, 97, 108, 32]⟩ ++ d7 ++ (if c = true then ⟨#[32, 99, 108, 101, 97, 114]⟩ else ⟨#[32, 111, 98, 115, 116, 114, 117, 99, 116, 101, 100]⟩)
def its (d0 d1 d2 d3 d4 d5 d6 d7 : ByteArray) : List (ByteArray × ByteArray) := [(⟨#[100, 105, 115, 116, 97, 110, 99, 101]⟩, d0), (⟨#[98, 101, 97, 114, 105, 110, 103]⟩, d1), (⟨#[101, 108, 101, 118, 97, 116, 105, 111, 110]⟩, d2), (⟨#[102, 114, 101, 101]⟩, d3), (⟨#[103, 97, 115]⟩, d4), (⟨#[100, 105, 102, 102, 114, 97, 99, 116, 105, 111, 110]⟩, d5), (⟨#[99, 108, 117, 116, 116, 101, 114]⟩, d6), (⟨#[116, 111, 116, 97, 108]⟩, d7)]
theorem txt_eq (d0 d1 d2 d3 d4 d5 d6 d7 : ByteArray) (c : Bool) : acc (its d0 d1 d2 d3 d4 d5 d6 d7) 8 ++ (if c = true then ⟨#[99, 108, 101, 97, 114]⟩ else ⟨#[111, 98, 115, 116, 114, 117, 99, 116, 101, 100]⟩) = txt d0 d1 d2 d3 d4 d5 d6 d7 c := by
  cases c <;> (apply ByteArray.ext; apply Array.toList_inj.1; simp [acc, its, pt, txt])
set_option maxHeartbeats 4000000 in
theorem spec_PathText (x0 x1 x2 x3 x4 x5 x6 x7 : Int) (c : Bool) (w : World) (l0 : -9223372036854775808 ≤ x0) (u0 : x0 ≤ 9223372036854775807) (l1 : -9223372036854775808 ≤ x1) (u1 : x1 ≤ 9223372036854775807) (l2 : -9223372036854775808 ≤ x2) (u2 : x2 ≤ 9223372036854775807) (l3 : -9223372036854775808 ≤ x3) (u3 : x3 ≤ 9223372036854775807) (l4 : -9223372036854775808 ≤ x4) (u4 : x4 ≤ 9223372036854775807) (l5 : -9223372036854775808 ≤ x5) (u5 : x5 ≤ 9223372036854775807) (l6 : -9223372036854775808 ≤ x6) (u6 : x6 ≤ 9223372036854775807) (l7 : -9223372036854775808 ≤ x7) (u7 : x7 ≤ 9223372036854775807) :
    Calls Tryd.prog 11 #[.agg #[.int .i64 x0, .int .i64 x1, .int .i64 x2, .int .i64 x3, .int .i64 x4, .int .i64 x5, .int .i64 x6, .int .i64 x7, .bool c]] w fun e w' => e = .returned (.string (txt (dec x0) (dec x1) (dec x2) (dec x3) (dec x4) (dec x5) (dec x6) (dec x7) c)) ∧ On w w' := by
  have D0 := Lib.hid (show ∀ w1, Calls Tryd.prog 28 #[.int .i64 x0] w1 fun e w' => e = .returned (.string ⟨(Lib.itoa x0).toArray⟩) ∧ On w1 w' from fun w1 => Dec.spec_dec x0 w1 l0 u0)
  have s0 := dec_size x0 l0 u0
  rw [show (⟨(Lib.itoa x0).toArray⟩ : ByteArray) = dec x0 from rfl] at D0
  generalize dec x0 = d0 at *
  have D1 := Lib.hid (show ∀ w1, Calls Tryd.prog 28 #[.int .i64 x1] w1 fun e w' => e = .returned (.string ⟨(Lib.itoa x1).toArray⟩) ∧ On w1 w' from fun w1 => Dec.spec_dec x1 w1 l1 u1)
  have s1 := dec_size x1 l1 u1
  rw [show (⟨(Lib.itoa x1).toArray⟩ : ByteArray) = dec x1 from rfl] at D1
  generalize dec x1 = d1 at *
  have D2 := Lib.hid (show ∀ w1, Calls Tryd.prog 28 #[.int .i64 x2] w1 fun e w' => e = .returned (.string ⟨(Lib.itoa x2).toArray⟩) ∧ On w1 w' from fun w1 => Dec.spec_dec x2 w1 l2 u2)
  have s2 := dec_size x2 l2 u2
  rw [show (⟨(Lib.itoa x2).toArray⟩ : ByteArray) = dec x2 from rfl] at D2
  generalize dec x2 = d2 at *
  have D3 := Lib.hid (show ∀ w1, Calls Tryd.prog 28 #[.int .i64 x3] w1 fun e w' => e = .returned (.string ⟨(Lib.itoa x3).toArray⟩) ∧ On w1 w' from fun w1 => Dec.spec_dec x3 w1 l3 u3)
  have s3 := dec_size x3 l3 u3
  rw [show (⟨(Lib.itoa x3).toArray⟩ : ByteArray) = dec x3 from rfl] at D3
  generalize dec x3 = d3 at *
  have D4 := Lib.hid (show ∀ w1, Calls Tryd.prog 28 #[.int .i64 x4] w1 fun e w' => e = .returned (.string ⟨(Lib.itoa x4).toArray⟩) ∧ On w1 w' from fun w1 => Dec.spec_dec x4 w1 l4 u4)
  have s4 := dec_size x4 l4 u4
  rw [show (⟨(Lib.itoa x4).toArray⟩ : ByteArray) = dec x4 from rfl] at D4
  generalize dec x4 = d4 at *
  have D5 := Lib.hid (show ∀ w1, Calls Tryd.prog 28 #[.int .i64 x5] w1 fun e w' => e = .returned (.string ⟨(Lib.itoa x5).toArray⟩) ∧ On w1 w' from fun w1 => Dec.spec_dec x5 w1 l5 u5)
  have s5 := dec_size x5 l5 u5
  rw [show (⟨(Lib.itoa x5).toArray⟩ : ByteArray) = dec x5 from rfl] at D5
  generalize dec x5 = d5 at *
  have D6 := Lib.hid (show ∀ w1, Calls Tryd.prog 28 #[.int .i64 x6] w1 fun e w' => e = .returned (.string ⟨(Lib.itoa x6).toArray⟩) ∧ On w1 w' from fun w1 => Dec.spec_dec x6 w1 l6 u6)
  have s6 := dec_size x6 l6 u6
  rw [show (⟨(Lib.itoa x6).toArray⟩ : ByteArray) = dec x6 from rfl] at D6
  generalize dec x6 = d6 at *
  have D7 := Lib.hid (show ∀ w1, Calls Tryd.prog 28 #[.int .i64 x7] w1 fun e w' => e = .returned (.string ⟨(Lib.itoa x7).toArray⟩) ∧ On w1 w' from fun w1 => Dec.spec_dec x7 w1 l7 u7)
  have s7 := dec_size x7 l7 u7
  rw [show (⟨(Lib.itoa x7).toArray⟩ : ByteArray) = dec x7 from rfl] at D7
  generalize dec x7 = d7 at *
  have hF : 9 + d0.size + 9 + d1.size + 11 + d2.size + 6 + d3.size + 5 + d4.size + 13 + d5.size + 9 + d6.size + 7 + d7.size + 11 ≤ 300 := by
    clear l0 u0 D0 l1 u1 D1 l2 u2 D2 l3 u3 D3 l4 u4 D4 l5 u5 D5 l6 u6 D6 l7 u7 D7
    omega
  have hE : 9 + d0.size + 9 + d1.size + 11 + d2.size + 6 + d3.size + 5 + d4.size + 13 + d5.size + 9 + d6.size + 7 + d7.size + 6 ≤ 300 := Nat.le_trans (Nat.add_le_add_left (by decide) _) hF
  have h14 : 9 + d0.size + 9 + d1.size + 11 + d2.size + 6 + d3.size + 5 + d4.size + 13 + d5.size + 9 + d6.size + 7 + d7.size ≤ 300 := Nat.le_trans (Nat.le_add_right _ _) hF
  have h13 : 9 + d0.size + 9 + d1.size + 11 + d2.size + 6 + d3.size + 5 + d4.size + 13 + d5.size + 9 + d6.size + 7 ≤ 300 := Nat.le_trans (Nat.le_add_right _ _) h14
  have h12 : 9 + d0.size + 9 + d1.size + 11 + d2.size + 6 + d3.size + 5 + d4.size + 13 + d5.size + 9 + d6.size ≤ 300 := Nat.le_trans (Nat.le_add_right _ _) h13
  have h11 : 9 + d0.size + 9 + d1.size + 11 + d2.size + 6 + d3.size + 5 + d4.size + 13 + d5.size + 9 ≤ 300 := Nat.le_trans (Nat.le_add_right _ _) h12
  have h10 : 9 + d0.size + 9 + d1.size + 11 + d2.size + 6 + d3.size + 5 + d4.size + 13 + d5.size ≤ 300 := Nat.le_trans (Nat.le_add_right _ _) h11
  have h9 : 9 + d0.size + 9 + d1.size + 11 + d2.size + 6 + d3.size + 5 + d4.size + 13 ≤ 300 := Nat.le_trans (Nat.le_add_right _ _) h10
  have h8 : 9 + d0.size + 9 + d1.size + 11 + d2.size + 6 + d3.size + 5 + d4.size ≤ 300 := Nat.le_trans (Nat.le_add_right _ _) h9
  have h7 : 9 + d0.size + 9 + d1.size + 11 + d2.size + 6 + d3.size + 5 ≤ 300 := Nat.le_trans (Nat.le_add_right _ _) h8
  have h6 : 9 + d0.size + 9 + d1.size + 11 + d2.size + 6 + d3.size ≤ 300 := Nat.le_trans (Nat.le_add_right _ _) h7
  have h5 : 9 + d0.size + 9 + d1.size + 11 + d2.size + 6 ≤ 300 := Nat.le_trans (Nat.le_add_right _ _) h6
  have h4 : 9 + d0.size + 9 + d1.size + 11 + d2.size ≤ 300 := Nat.le_trans (Nat.le_add_right _ _) h5
  have h3 : 9 + d0.size + 9 + d1.size + 11 ≤ 300 := Nat.le_trans (Nat.le_add_right _ _) h4
  have h2 : 9 + d0.size + 9 + d1.size ≤ 300 := Nat.le_trans (Nat.le_add_right _ _) h3
  have h1 : 9 + d0.size + 9 ≤ 300 := Nat.le_trans (Nat.le_add_right _ _) h2
  have h0 : 9 + d0.size ≤ 300 := Nat.le_trans (Nat.le_add_right _ _) h1
  have g0 : ¬ 9223372036854775807 < 9 + d0.size := Nat.not_lt.2 (Nat.le_trans h0 (by decide))
  have g1 : ¬ 9223372036854775807 < 9 + d0.size + 9 := Nat.not_lt.2 (Nat.le_trans h1 (by decide))
  have g2 : ¬ 9223372036854775807 < 9 + d0.size + 9 + d1.size := Nat.not_lt.2 (Nat.le_trans h2 (by decide))
  have g3 : ¬ 9223372036854775807 < 9 + d0.size + 9 + d1.size + 11 := Nat.not_lt.2 (Nat.le_trans h3 (by decide))
  have g4 : ¬ 9223372036854775807 < 9 + d0.size + 9 + d1.size + 11 + d2.size := Nat.not_lt.2 (Nat.le_trans h4 (by decide))
  have g5 : ¬ 9223372036854775807 < 9 + d0.size + 9 + d1.size + 11 + d2.size + 6 := Nat.not_lt.2 (Nat.le_trans h5 (by decide))
  have g6 : ¬ 9223372036854775807 < 9 + d0.size + 9 + d1.size + 11 + d2.size + 6 + d3.size := Nat.not_lt.2 (Nat.le_trans h6 (by decide))
  have g7 : ¬ 9223372036854775807 < 9 + d0.size + 9 + d1.size + 11 + d2.size + 6 + d3.size + 5 := Nat.not_lt.2 (Nat.le_trans h7 (by decide))
  have g8 : ¬ 9223372036854775807 < 9 + d0.size + 9 + d1.size + 11 + d2.size + 6 + d3.size + 5 + d4.size := Nat.not_lt.2 (Nat.le_trans h8 (by decide))
  have g9 : ¬ 9223372036854775807 < 9 + d0.size + 9 + d1.size + 11 + d2.size + 6 + d3.size + 5 + d4.size + 13 := Nat.not_lt.2 (Nat.le_trans h9 (by decide))
  have g10 : ¬ 9223372036854775807 < 9 + d0.size + 9 + d1.size + 11 + d2.size + 6 + d3.size + 5 + d4.size + 13 + d5.size := Nat.not_lt.2 (Nat.le_trans h10 (by decide))
  have g11 : ¬ 9223372036854775807 < 9 + d0.size + 9 + d1.size + 11 + d2.size + 6 + d3.size + 5 + d4.size + 13 + d5.size + 9 := Nat.not_lt.2 (Nat.le_trans h11 (by decide))
  have g12 : ¬ 9223372036854775807 < 9 + d0.size + 9 + d1.size + 11 + d2.size + 6 + d3.size + 5 + d4.size + 13 + d5.size + 9 + d6.size := Nat.not_lt.2 (Nat.le_trans h12 (by decide))
  have g13 : ¬ 9223372036854775807 < 9 + d0.size + 9 + d1.size + 11 + d2.size + 6 + d3.size + 5 + d4.size + 13 + d5.size + 9 + d6.size + 7 := Nat.not_lt.2 (Nat.le_trans h13 (by decide))
  have g14 : ¬ 9223372036854775807 < 9 + d0.size + 9 + d1.size + 11 + d2.size + 6 + d3.size + 5 + d4.size + 13 + d5.size + 9 + d6.size + 7 + d7.size := Nat.not_lt.2 (Nat.le_trans h14 (by decide))
  have ge : ¬ 9223372036854775807 < 9 + d0.size + 9 + d1.size + 11 + d2.size + 6 + d3.size + 5 + d4.size + 13 + d5.size + 9 + d6.size + 7 + d7.size + 6 := Nat.not_lt.2 (Nat.le_trans hE (by decide))
  have gf : ¬ 9223372036854775807 < 9 + d0.size + 9 + d1.size + 11 + d2.size + 6 + d3.size + 5 + d4.size + 13 + d5.size + 9 + d6.size + 7 + d7.size + 11 := Nat.not_lt.2 (Nat.le_trans hF (by decide))
  clear hE hF h0 h1 h2 h3 h4 h5 h6 h7 h8 h9 h10 h11 h12 h13 h14
  clear l0 u0 s0 l1 u1 s1 l2 u2 s2 l3 u3 s3 l4 u4 s4 l5 u5 s5 l6 u6 s6 l7 u7 s7
  cases c <;> (
    unfold txt
    go_enter Tryd.func11, Tryd.ntmps11
    go_wp2_with fail
    refine wp_region_onh (by kernel_rfl) (by kernel_rfl) ?_
    repeat (refine rest_step (fun K hK => ?_); go_simp; first | (refine hK _ ?_; clear hK K) | (apply Exists.intro; refine ⟨fun v1 hv1 => ?_, hK _ ?_⟩; (first | with_reducible exact rfl | with_reducible exact ⟨rfl, rfl⟩ | with_reducible exact Calls.on hv1 (D0.out _) | with_reducible exact Calls.on hv1 (D1.out _) | with_reducible exact Calls.on hv1 (D2.out _) | with_reducible exact Calls.on hv1 (D3.out _) | with_reducible exact Calls.on hv1 (D4.out _) | with_reducible exact Calls.on hv1 (D5.out _) | with_reducible exact Calls.on hv1 (D6.out _) | with_reducible exact Calls.on hv1 (D7.out _) | (obtain ⟨hc, hf⟩ := bcell hv1; go_simp; first | with_reducible exact rfl | with_reducible exact ⟨rfl, rfl⟩ | exact rfl | exact ⟨rfl, rfl⟩)); clear hK K))
    refine rest_nil ?_
    intro w5 h5
    obtain ⟨hc5, hf5⟩ := bcell h5
    go_wp2_with fail
    go_ret
    exact ⟨ret_str rfl, On.trans (by repeat (first | with_reducible exact On.refl _ | apply On.alloc)) h5⟩)
set_option maxRecDepth 100000 in
set_option maxHeartbeats 8000000 in
theorem impl_PathText (x0 x1 x2 x3 x4 x5 x6 x7 : Int) (c : Bool) (w : World) (l0 : -9223372036854775808 ≤ x0) (u0 : x0 ≤ 9223372036854775807) (l1 : -9223372036854775808 ≤ x1) (u1 : x1 ≤ 9223372036854775807) (l2 : -9223372036854775808 ≤ x2) (u2 : x2 ≤ 9223372036854775807) (l3 : -9223372036854775808 ≤ x3) (u3 : x3 ≤ 9223372036854775807) (l4 : -9223372036854775808 ≤ x4) (u4 : x4 ≤ 9223372036854775807) (l5 : -9223372036854775808 ≤ x5) (u5 : x5 ≤ 9223372036854775807) (l6 : -9223372036854775808 ≤ x6) (u6 : x6 ≤ 9223372036854775807) (l7 : -9223372036854775808 ≤ x7) (u7 : x7 ≤ 9223372036854775807) (ht : Lib.TabBelow Tryd.prog w.heap.size w "internal/strconv.uint64pow10" .u64 Lib.pow10Tab) :
    Calls Tryd.prog 13 #[.agg #[.int .i64 x0, .int .i64 x1, .int .i64 x2, .int .i64 x3, .int .i64 x4, .int .i64 x5, .int .i64 x6, .int .i64 x7, .bool c]] w fun e w' => e = .returned (.string (txt (dec x0) (dec x1) (dec x2) (dec x3) (dec x4) (dec x5) (dec x6) (dec x7) c)) ∧ On w w' := by
  have D0 := Lib.hid (show ∀ w1, On w w1 → Calls Tryd.prog 25 #[.int .i64 x0] w1 fun e w' => e = .returned (.string ⟨(Lib.itoa x0).toArray⟩) ∧ On w1 w' from fun w1 h => Dec.impl_decimal x0 w1 l0 u0 (ht w1 h))
  have s0 := dec_size x0 l0 u0
  rw [show (⟨(Lib.itoa x0).toArray⟩ : ByteArray) = dec x0 from rfl] at D0
  generalize dec x0 = d0 at *
  have D1 := Lib.hid (show ∀ w1, On w w1 → Calls Tryd.prog 25 #[.int .i64 x1] w1 fun e w' => e = .returned (.string ⟨(Lib.itoa x1).toArray⟩) ∧ On w1 w' from fun w1 h => Dec.impl_decimal x1 w1 l1 u1 (ht w1 h))
  have s1 := dec_size x1 l1 u1
  rw [show (⟨(Lib.itoa x1).toArray⟩ : ByteArray) = dec x1 from rfl] at D1
  generalize dec x1 = d1 at *
  have D2 := Lib.hid (show ∀ w1, On w w1 → Calls Tryd.prog 25 #[.int .i64 x2] w1 fun e w' => e = .returned (.string ⟨(Lib.itoa x2).toArray⟩) ∧ On w1 w' from fun w1 h => Dec.impl_decimal x2 w1 l2 u2 (ht w1 h))
  have s2 := dec_size x2 l2 u2
  rw [show (⟨(Lib.itoa x2).toArray⟩ : ByteArray) = dec x2 from rfl] at D2
  generalize dec x2 = d2 at *
  have D3 := Lib.hid (show ∀ w1, On w w1 → Calls Tryd.prog 25 #[.int .i64 x3] w1 fun e w' => e = .returned (.string ⟨(Lib.itoa x3).toArray⟩) ∧ On w1 w' from fun w1 h => Dec.impl_decimal x3 w1 l3 u3 (ht w1 h))
  have s3 := dec_size x3 l3 u3
  rw [show (⟨(Lib.itoa x3).toArray⟩ : ByteArray) = dec x3 from rfl] at D3
  generalize dec x3 = d3 at *
  have D4 := Lib.hid (show ∀ w1, On w w1 → Calls Tryd.prog 25 #[.int .i64 x4] w1 fun e w' => e = .returned (.string ⟨(Lib.itoa x4).toArray⟩) ∧ On w1 w' from fun w1 h => Dec.impl_decimal x4 w1 l4 u4 (ht w1 h))
  have s4 := dec_size x4 l4 u4
  rw [show (⟨(Lib.itoa x4).toArray⟩ : ByteArray) = dec x4 from rfl] at D4
  generalize dec x4 = d4 at *
  have D5 := Lib.hid (show ∀ w1, On w w1 → Calls Tryd.prog 25 #[.int .i64 x5] w1 fun e w' => e = .returned (.string ⟨(Lib.itoa x5).toArray⟩) ∧ On w1 w' from fun w1 h => Dec.impl_decimal x5 w1 l5 u5 (ht w1 h))
  have s5 := dec_size x5 l5 u5
  rw [show (⟨(Lib.itoa x5).toArray⟩ : ByteArray) = dec x5 from rfl] at D5
  generalize dec x5 = d5 at *
  have D6 := Lib.hid (show ∀ w1, On w w1 → Calls Tryd.prog 25 #[.int .i64 x6] w1 fun e w' => e = .returned (.string ⟨(Lib.itoa x6).toArray⟩) ∧ On w1 w' from fun w1 h => Dec.impl_decimal x6 w1 l6 u6 (ht w1 h))
  have s6 := dec_size x6 l6 u6
  rw [show (⟨(Lib.itoa x6).toArray⟩ : ByteArray) = dec x6 from rfl] at D6
  generalize dec x6 = d6 at *
  have D7 := Lib.hid (show ∀ w1, On w w1 → Calls Tryd.prog 25 #[.int .i64 x7] w1 fun e w' => e = .returned (.string ⟨(Lib.itoa x7).toArray⟩) ∧ On w1 w' from fun w1 h => Dec.impl_decimal x7 w1 l7 u7 (ht w1 h))
  have s7 := dec_size x7 l7 u7
  rw [show (⟨(Lib.itoa x7).toArray⟩ : ByteArray) = dec x7 from rfl] at D7
  generalize dec x7 = d7 at *
  have hs : ∀ q ∈ its d0 d1 d2 d3 d4 d5 d6 d7, q.1.size ≤ 11 ∧ q.2.size ≤ 21 := by
    intro q hq
    simp only [its, List.mem_cons, List.not_mem_nil, or_false] at hq
    rcases hq with rfl | rfl | rfl | rfl | rfl | rfl | rfl | rfl <;> exact ⟨Nat.le_of_ble_eq_true rfl, by assumption⟩
  have HA := Lib.hid (fun k hk => acc_size hs k hk)
  have HS := Lib.hid (fun k q (h : (its d0 d1 d2 d3 d4 d5 d6 d7)[k]? = some q) => acc_succ h)
  have HE := Lib.hid (txt_eq d0 d1 d2 d3 d4 d5 d6 d7 c)
  clear ht hs l0 u0 l1 u1 l2 u2 l3 u3 l4 u4 l5 u5 l6 u6 l7 u7
  generalize txt d0 d1 d2 d3 d4 d5 d6 d7 c = tx at *
  go_enter Tryd.func13, Tryd.ntmps13
  go_wp2_with fail
  go_loopw [31] (fun i wr => ∃ k : Nat, i = .int .i64 k ∧ k ≤ 8 ∧ IsBuilder 57 5 (w.heap.size + 1) (w.heap.size + 1) (strCells (acc (its d0 d1 d2 d3 d4 d5 d6 d7) k)) wr ∧ On w wr ∧ wr.cell? ⟨w.heap.size, 8, none⟩ = some (.bool c) ∧ w.heap.size + 1 < wr.heap.size) (fun i _ => 8 - (intOf i).toNat)
  case atStart =>
    refine ⟨0, rfl, by omega, ?_, by repeat (first | with_reducible exact On.refl _ | apply On.alloc), by simp [go_sem], by simp⟩
    exact Bld.fresh (by simp)
  case round =>
    obtain ⟨k, rfl, hk, hb, hw, hc8, hsz⟩ := hrel
    have HB := Lib.hid hb
    have HW := Lib.hid hw
    have ak := HA.out k (by simp [its]; omega)
    clear hb hw
    have hk8 : k = 0 ∨ k = 1 ∨ k = 2 ∨ k = 3 ∨ k = 4 ∨ k = 5 ∨ k = 6 ∨ k = 7 ∨ k = 8 := by omega
    rcases hk8 with rfl | rfl | rfl | rfl | rfl | rfl | rfl | rfl | rfl
    · have e1 := HS.out 0 (⟨#[100, 105, 115, 116, 97, 110, 99, 101]⟩, d0) rfl
      have g1 : ¬ 9223372036854775807 < 8 + 1 := by omega
      have g2 : ¬ 9223372036854775807 < 8 + 1 + d0.size := by omega
      have g3 : ¬ 9223372036854775807 < 8 + 1 + d0.size + 1 := by omega
      have ab := Lib.hid (show (acc (its d0 d1 d2 d3 d4 d5 d6 d7) 0).size + (⟨#[100, 105, 115, 116, 97, 110, 99, 101]⟩ ++ ⟨#[32]⟩ ++ d0 ++ ⟨#[32]⟩ : ByteArray).size ≤ 1099511627776 by
        have e32 : (⟨#[32]⟩ : ByteArray).size = 1 := rfl
        have el : (⟨#[100, 105, 115, 116, 97, 110, 99, 101]⟩ : ByteArray).size = 8 := rfl
        simp only [ByteArray.size_append, e32, el]
        omega)
      clear ak s1 s2 s3 s4 s5 s6 s7
      have ix : ∀ w, (Instr.index 69 (.agg #[.string ⟨#[100, 105, 115, 116, 97, 110, 99, 101]⟩, .int .i64 x0, .string ⟨#[98, 101, 97, 114, 105, 110, 103]⟩, .int .i64 x1, .string ⟨#[101, 108, 101, 118, 97, 116, 105, 111, 110]⟩, .int .i64 x2, .string ⟨#[102, 114, 101, 101]⟩, .int .i64 x3, .string ⟨#[103, 97, 115]⟩, .int .i64 x4, .string ⟨#[100, 105, 102, 102, 114, 97, 99, 116, 105, 111, 110]⟩, .int .i64 x5, .string ⟨#[99, 108, 117, 116, 116, 101, 114]⟩, .int .i64 x6, .string ⟨#[116, 111, 116, 97, 108]⟩, .int .i64 x7]) (.int .i64 0)).run Tryd.prog w = .ok (.agg #[.string ⟨#[100, 105, 115, 116, 97, 110, 99, 101]⟩, .int .i64 x0]) w := fun _ => by kernel_rfl
      go_wp2_with fail
      refine wp_region_on_tail 8 (by kernel_rfl) (by kernel_rfl) ?_
      simp only [List.take_succ_cons, List.take_zero, List.drop_succ_cons, List.drop_zero]
      repeat (refine wpQuiet_step (fun K hK => ?_); go_simp; first | (refine hK _ ?_; clear hK K) | (apply Exists.intro; refine ⟨fun v1 hv1 => ?_, hK _ ?_⟩; (first | with_reducible exact rfl | with_reducible exact ⟨rfl, rfl⟩ | with_reducible exact Calls.on hv1 (D0.out _ (On.trans (On.alloc HW.out _) hv1)) | (obtain ⟨hc, hf⟩ := bcell hv1; go_simp; first | with_reducible exact rfl | with_reducible exact ⟨rfl, rfl⟩ | exact rfl | exact ⟨rfl, rfl⟩)); clear hK K))
      refine wpQuiet_nil ?_
      intro w5 h5
      have hO5 := Lib.hid (On.trans (On.alloc (On.refl wr) _) h5)
      have HB5 := Lib.hid (Bld.is_on HB.out hO5.out)
      have hs5 : w.heap.size + 1 ≤ w5.heap.size := Nat.le_of_lt (Bld.is_lt HB5.out)
      have hc5 : w5.cell? ⟨w.heap.size, 8, none⟩ = some (.bool c) := (hO5.out.cell (p := ⟨w.heap.size, 8, none⟩) (by show w.heap.size < wr.heap.size; omega)).trans hc8
      clear h5
      go_wp2_with (go_at_call 24; refine (Bld.write_text (w.heap.size + 1) (w.heap.size + 1) (acc (its d0 d1 d2 d3 d4 d5 d6 d7) 0) _ _ HB5.out ab.out hs5).mono ?_; rintro e w6 ⟨rfl, hb6, h6⟩)
      have hb6' := e1 ▸ (show IsBuilder 57 5 (w.heap.size + 1) (w.heap.size + 1) (strCells (acc (its d0 d1 d2 d3 d4 d5 d6 d7) 0 ++ pt ⟨#[100, 105, 115, 116, 97, 110, 99, 101]⟩ d0)) w6 from hb6)
      go_roundw
      case rel => exact ⟨1, rfl, by decide, hb6', Below.trans (On.trans HW.out hO5.out) (Below.mono h6 (Nat.le_succ _)), (h6.cell (p := ⟨w.heap.size, 8, none⟩) (Nat.lt_succ_self _)).trans hc5, Bld.is_lt hb6⟩
      case measure => simp [intOf]
    · have e1 := HS.out 1 (⟨#[98, 101, 97, 114, 105, 110, 103]⟩, d1) rfl
      have g1 : ¬ 9223372036854775807 < 7 + 1 := by omega
      have g2 : ¬ 9223372036854775807 < 7 + 1 + d1.size := by omega
      have g3 : ¬ 9223372036854775807 < 7 + 1 + d1.size + 1 := by omega
      have ab := Lib.hid (show (acc (its d0 d1 d2 d3 d4 d5 d6 d7) 1).size + (⟨#[98, 101, 97, 114, 105, 110, 103]⟩ ++ ⟨#[32]⟩ ++ d1 ++ ⟨#[32]⟩ : ByteArray).size ≤ 1099511627776 by
        have e32 : (⟨#[32]⟩ : ByteArray).size = 1 := rfl
        have el : (⟨#[98, 101, 97, 114, 105, 110, 103]⟩ : ByteArray).size = 7 := rfl
        simp only [ByteArray.size_append, e32, el]
        omega)
      clear ak s0 s2 s3 s4 s5 s6 s7
      have ix : ∀ w, (Instr.index 69 (.agg #[.string ⟨#[100, 105, 115, 116, 97, 110, 99, 101]⟩, .int .i64 x0, .string ⟨#[98, 101, 97, 114, 105, 110, 103]⟩, .int .i64 x1, .string ⟨#[101, 108, 101, 118, 97, 116, 105, 111, 110]⟩, .int .i64 x2, .string ⟨#[102, 114, 101, 101]⟩, .int .i64 x3, .string ⟨#[103, 97, 115]⟩, .int .i64 x4, .string ⟨#[100, 105, 102, 102, 114, 97, 99, 116, 105, 111, 110]⟩, .int .i64 x5, .string ⟨#[99, 108, 117, 116, 116, 101, 114]⟩, .int .i64 x6, .string ⟨#[116, 111, 116, 97, 108]⟩, .int .i64 x7]) (.int .i64 1)).run Tryd.prog w = .ok (.agg #[.string ⟨#[98, 101, 97, 114, 105, 110, 103]⟩, .int .i64 x1]) w := fun _ => by kernel_rfl
      go_wp2_with fail
      refine wp_region_on_tail 8 (by kernel_rfl) (by kernel_rfl) ?_
      simp only [List.take_succ_cons, List.take_zero, List.drop_succ_cons, List.drop_zero]
      repeat (refine wpQuiet_step (fun K hK => ?_); go_simp; first | (refine hK _ ?_; clear hK K) | (apply Exists.intro; refine ⟨fun v1 hv1 => ?_, hK _ ?_⟩; (first | with_reducible exact rfl | with_reducible exact ⟨rfl, rfl⟩ | with_reducible exact Calls.on hv1 (D1.out _ (On.trans (On.alloc HW.out _) hv1)) | (obtain ⟨hc, hf⟩ := bcell hv1; go_simp; first | with_reducible exact rfl | with_reducible exact ⟨rfl, rfl⟩ | exact rfl | exact ⟨rfl, rfl⟩)); clear hK K))
      refine wpQuiet_nil ?_
      intro w5 h5
      have hO5 := Lib.hid (On.trans (On.alloc (On.refl wr) _) h5)
      have HB5 := Lib.hid (Bld.is_on HB.out hO5.out)
      have hs5 : w.heap.size + 1 ≤ w5.heap.size := Nat.le_of_lt (Bld.is_lt HB5.out)
      have hc5 : w5.cell? ⟨w.heap.size, 8, none⟩ = some (.bool c) := (hO5.out.cell (p := ⟨w.heap.size, 8, none⟩) (by show w.heap.size < wr.heap.size; omega)).trans hc8
      clear h5
      go_wp2_with (go_at_call 24; refine (Bld.write_text (w.heap.size + 1) (w.heap.size + 1) (acc (its d0 d1 d2 d3 d4 d5 d6 d7) 1) _ _ HB5.out ab.out hs5).mono ?_; rintro e w6 ⟨rfl, hb6, h6⟩)
      have hb6' := e1 ▸ (show IsBuilder 57 5 (w.heap.size + 1) (w.heap.size + 1) (strCells (acc (its d0 d1 d2 d3 d4 d5 d6 d7) 1 ++ pt ⟨#[98, 101, 97, 114, 105, 110, 103]⟩ d1)) w6 from hb6)
      go_roundw
      case rel => exact ⟨2, rfl, by decide, hb6', Below.trans (On.trans HW.out hO5.out) (Below.mono h6 (Nat.le_succ _)), (h6.cell (p := ⟨w.heap.size, 8, none⟩) (Nat.lt_succ_self _)).trans hc5, Bld.is_lt hb6⟩
      case measure => simp [intOf]
    · have e1 := HS.out 2 (⟨#[101, 108, 101, 118, 97, 116, 105, 111, 110]⟩, d2) rfl
      have g1 : ¬ 9223372036854775807 < 9 + 1 := by omega
      have g2 : ¬ 9223372036854775807 < 9 + 1 + d2.size := by omega
      have g3 : ¬ 9223372036854775807 < 9 + 1 + d2.size + 1 := by omega
      have ab := Lib.hid (show (acc (its d0 d1 d2 d3 d4 d5 d6 d7) 2).size + (⟨#[101, 108, 101, 118, 97, 116, 105, 111, 110]⟩ ++ ⟨#[32]⟩ ++ d2 ++ ⟨#[32]⟩ : ByteArray).size ≤ 1099511627776 by
        have e32 : (⟨#[32]⟩ : ByteArray).size = 1 := rfl
        have el : (⟨#[101, 108, 101, 118, 97, 116, 105, 111, 110]⟩ : ByteArray).size = 9 := rfl
        simp only [ByteArray.size_append, e32, el]
        omega)
      clear ak s0 s1 s3 s4 s5 s6 s7
      have ix : ∀ w, (Instr.index 69 (.agg #[.string ⟨#[100, 105, 115, 116, 97, 110, 99, 101]⟩, .int .i64 x0, .string ⟨#[98, 101, 97, 114, 105, 110, 103]⟩, .int .i64 x1, .string ⟨#[101, 108, 101, 118, 97, 116, 105, 111, 110]⟩, .int .i64 x2, .string ⟨#[102, 114, 101, 101]⟩, .int .i64 x3, .string ⟨#[103, 97, 115]⟩, .int .i64 x4, .string ⟨#[100, 105, 102, 102, 114, 97, 99, 116, 105, 111, 110]⟩, .int .i64 x5, .string ⟨#[99, 108, 117, 116, 116, 101, 114]⟩, .int .i64 x6, .string ⟨#[116, 111, 116, 97, 108]⟩, .int .i64 x7]) (.int .i64 2)).run Tryd.prog w = .ok (.agg #[.string ⟨#[101, 108, 101, 118, 97, 116, 105, 111, 110]⟩, .int .i64 x2]) w := fun _ => by kernel_rfl
      go_wp2_with fail
      refine wp_region_on_tail 8 (by kernel_rfl) (by kernel_rfl) ?_
      simp only [List.take_succ_cons, List.take_zero, List.drop_succ_cons, List.drop_zero]
      repeat (refine wpQuiet_step (fun K hK => ?_); go_simp; first | (refine hK _ ?_; clear hK K) | (apply Exists.intro; refine ⟨fun v1 hv1 => ?_, hK _ ?_⟩; (first | with_reducible exact rfl | with_reducible exact ⟨rfl, rfl⟩ | with_reducible exact Calls.on hv1 (D2.out _ (On.trans (On.alloc HW.out _) hv1)) | (obtain ⟨hc, hf⟩ := bcell hv1; go_simp; first | with_reducible exact rfl | with_reducible exact ⟨rfl, rfl⟩ | exact rfl | exact ⟨rfl, rfl⟩)); clear hK K))
      refine wpQuiet_nil ?_
      intro w5 h5
      have hO5 := Lib.hid (On.trans (On.alloc (On.refl wr) _) h5)
      have HB5 := Lib.hid (Bld.is_on HB.out hO5.out)
      have hs5 : w.heap.size + 1 ≤ w5.heap.size := Nat.le_of_lt (Bld.is_lt HB5.out)
      have hc5 : w5.cell? ⟨w.heap.size, 8, none⟩ = some (.bool c) := (hO5.out.cell (p := ⟨w.heap.size, 8, none⟩) (by show w.heap.size < wr.heap.size; omega)).trans hc8
      clear h5
      go_wp2_with (go_at_call 24; refine (Bld.write_text (w.heap.size + 1) (w.heap.size + 1) (acc (its d0 d1 d2 d3 d4 d5 d6 d7) 2) _ _ HB5.out ab.out hs5).mono ?_; rintro e w6 ⟨rfl, hb6, h6⟩)
      have hb6' := e1 ▸ (show IsBuilder 57 5 (w.heap.size + 1) (w.heap.size + 1) (strCells (acc (its d0 d1 d2 d3 d4 d5 d6 d7) 2 ++ pt ⟨#[101, 108, 101, 118, 97, 116, 105, 111, 110]⟩ d2)) w6 from hb6)
      go_roundw
      case rel => exact ⟨3, rfl, by decide, hb6', Below.trans (On.trans HW.out hO5.out) (Below.mono h6 (Nat.le_succ _)), (h6.cell (p := ⟨w.heap.size, 8, none⟩) (Nat.lt_succ_self _)).trans hc5, Bld.is_lt hb6⟩
      case measure => simp [intOf]
    · have e1 := HS.out 3 (⟨#[102, 114, 101, 101]⟩, d3) rfl
      have g1 : ¬ 9223372036854775807 < 4 + 1 := by omega
      have g2 : ¬ 9223372036854775807 < 4 + 1 + d3.size := by omega
      have g3 : ¬ 9223372036854775807 < 4 + 1 + d3.size + 1 := by omega
      have ab := Lib.hid (show (acc (its d0 d1 d2 d3 d4 d5 d6 d7) 3).size + (⟨#[102, 114, 101, 101]⟩ ++ ⟨#[32]⟩ ++ d3 ++ ⟨#[32]⟩ : ByteArray).size ≤ 1099511627776 by
        have e32 : (⟨#[32]⟩ : ByteArray).size = 1 := rfl
        have el : (⟨#[102, 114, 101, 101]⟩ : ByteArray).size = 4 := rfl
        simp only [ByteArray.size_append, e32, el]
        omega)
      clear ak s0 s1 s2 s4 s5 s6 s7
      have ix : ∀ w, (Instr.index 69 (.agg #[.string ⟨#[100, 105, 115, 116, 97, 110, 99, 101]⟩, .int .i64 x0, .string ⟨#[98, 101, 97, 114, 105, 110, 103]⟩, .int .i64 x1, .string ⟨#[101, 108, 101, 118, 97, 116, 105, 111, 110]⟩, .int .i64 x2, .string ⟨#[102, 114, 101, 101]⟩, .int .i64 x3, .string ⟨#[103, 97, 115]⟩, .int .i64 x4, .string ⟨#[100, 105, 102, 102, 114, 97, 99, 116, 105, 111, 110]⟩, .int .i64 x5, .string ⟨#[99, 108, 117, 116, 116, 101, 114]⟩, .int .i64 x6, .string ⟨#[116, 111, 116, 97, 108]⟩, .int .i64 x7]) (.int .i64 3)).run Tryd.prog w = .ok (.agg #[.string ⟨#[102, 114, 101, 101]⟩, .int .i64 x3]) w := fun _ => by kernel_rfl
      go_wp2_with fail
      refine wp_region_on_tail 8 (by kernel_rfl) (by kernel_rfl) ?_
      simp only [List.take_succ_cons, List.take_zero, List.drop_succ_cons, List.drop_zero]
      repeat (refine wpQuiet_step (fun K hK => ?_); go_simp; first | (refine hK _ ?_; clear hK K) | (apply Exists.intro; refine ⟨fun v1 hv1 => ?_, hK _ ?_⟩; (first | with_reducible exact rfl | with_reducible exact ⟨rfl, rfl⟩ | with_reducible exact Calls.on hv1 (D3.out _ (On.trans (On.alloc HW.out _) hv1)) | (obtain ⟨hc, hf⟩ := bcell hv1; go_simp; first | with_reducible exact rfl | with_reducible exact ⟨rfl, rfl⟩ | exact rfl | exact ⟨rfl, rfl⟩)); clear hK K))
      refine wpQuiet_nil ?_
      intro w5 h5
      have hO5 := Lib.hid (On.trans (On.alloc (On.refl wr) _) h5)
      have HB5 := Lib.hid (Bld.is_on HB.out hO5.out)
      have hs5 : w.heap.size + 1 ≤ w5.heap.size := Nat.le_of_lt (Bld.is_lt HB5.out)
      have hc5 : w5.cell? ⟨w.heap.size, 8, none⟩ = some (.bool c) := (hO5.out.cell (p := ⟨w.heap.size, 8, none⟩) (by show w.heap.size < wr.heap.size; omega)).trans hc8
      clear h5
      go_wp2_with (go_at_call 24; refine (Bld.write_text (w.heap.size + 1) (w.heap.size + 1) (acc (its d0 d1 d2 d3 d4 d5 d6 d7) 3) _ _ HB5.out ab.out hs5).mono ?_; rintro e w6 ⟨rfl, hb6, h6⟩)
      have hb6' := e1 ▸ (show IsBuilder 57 5 (w.heap.size + 1) (w.heap.size + 1) (strCells (acc (its d0 d1 d2 d3 d4 d5 d6 d7) 3 ++ pt ⟨#[102, 114, 101, 101]⟩ d3)) w6 from hb6)
      go_roundw
      case rel => exact ⟨4, rfl, by decide, hb6', Below.trans (On.trans HW.out hO5.out) (Below.mono h6 (Nat.le_succ _)), (h6.cell (p := ⟨w.heap.size, 8, none⟩) (Nat.lt_succ_self _)).trans hc5, Bld.is_lt hb6⟩
      case measure => simp [intOf]
    · have e1 := HS.out 4 (⟨#[103, 97, 115]⟩, d4) rfl
      have g1 : ¬ 9223372036854775807 < 3 + 1 := by omega
      have g2 : ¬ 9223372036854775807 < 3 + 1 + d4.size := by omega
      have g3 : ¬ 9223372036854775807 < 3 + 1 + d4.size + 1 := by omega
      have ab := Lib.hid (show (acc (its d0 d1 d2 d3 d4 d5 d6 d7) 4).size + (⟨#[103, 97, 115]⟩ ++ ⟨#[32]⟩ ++ d4 ++ ⟨#[32]⟩ : ByteArray).size ≤ 1099511627776 by
        have e32 : (⟨#[32]⟩ : ByteArray).size = 1 := rfl
        have el : (⟨#[103, 97, 115]⟩ : ByteArray).size = 3 := rfl
        simp only [ByteArray.size_append, e32, el]
        omega)
      clear ak s0 s1 s2 s3 s5 s6 s7
      have ix : ∀ w, (Instr.index 69 (.agg #[.string ⟨#[100, 105, 115, 116, 97, 110, 99, 101]⟩, .int .i64 x0, .string ⟨#[98, 101, 97, 114, 105, 110, 103]⟩, .int .i64 x1, .string ⟨#[101, 108, 101, 118, 97, 116, 105, 111, 110]⟩, .int .i64 x2, .string ⟨#[102, 114, 101, 101]⟩, .int .i64 x3, .string ⟨#[103, 97, 115]⟩, .int .i64 x4, .string ⟨#[100, 105, 102, 102, 114, 97, 99, 116, 105, 111, 110]⟩, .int .i64 x5, .string ⟨#[99, 108, 117, 116, 116, 101, 114]⟩, .int .i64 x6, .string ⟨#[116, 111, 116, 97, 108]⟩, .int .i64 x7]) (.int .i64 4)).run Tryd.prog w = .ok (.agg #[.string ⟨#[103, 97, 115]⟩, .int .i64 x4]) w := fun _ => by kernel_rfl
      go_wp2_with fail
      refine wp_region_on_tail 8 (by kernel_rfl) (by kernel_rfl) ?_
      simp only [List.take_succ_cons, List.take_zero, List.drop_succ_cons, List.drop_zero]
      repeat (refine wpQuiet_step (fun K hK => ?_); go_simp; first | (refine hK _ ?_; clear hK K) | (apply Exists.intro; refine ⟨fun v1 hv1 => ?_, hK _ ?_⟩; (first | with_reducible exact rfl | with_reducible exact ⟨rfl, rfl⟩ | with_reducible exact Calls.on hv1 (D4.out _ (On.trans (On.alloc HW.out _) hv1)) | (obtain ⟨hc, hf⟩ := bcell hv1; go_simp; first | with_reducible exact rfl | with_reducible exact ⟨rfl, rfl⟩ | exact rfl | exact ⟨rfl, rfl⟩)); clear hK K))
      refine wpQuiet_nil ?_
      intro w5 h5
      have hO5 := Lib.hid (On.trans (On.alloc (On.refl wr) _) h5)
      have HB5 := Lib.hid (Bld.is_on HB.out hO5.out)
      have hs5 : w.heap.size + 1 ≤ w5.heap.size := Nat.le_of_lt (Bld.is_lt HB5.out)
      have hc5 : w5.cell? ⟨w.heap.size, 8, none⟩ = some (.bool c) := (hO5.out.cell (p := ⟨w.heap.size, 8, none⟩) (by show w.heap.size < wr.heap.size; omega)).trans hc8
      clear h5
      go_wp2_with (go_at_call 24; refine (Bld.write_text (w.heap.size + 1) (w.heap.size + 1) (acc (its d0 d1 d2 d3 d4 d5 d6 d7) 4) _ _ HB5.out ab.out hs5).mono ?_; rintro e w6 ⟨rfl, hb6, h6⟩)
      have hb6' := e1 ▸ (show IsBuilder 57 5 (w.heap.size + 1) (w.heap.size + 1) (strCells (acc (its d0 d1 d2 d3 d4 d5 d6 d7) 4 ++ pt ⟨#[103, 97, 115]⟩ d4)) w6 from hb6)
      go_roundw
      case rel => exact ⟨5, rfl, by decide, hb6', Below.trans (On.trans HW.out hO5.out) (Below.mono h6 (Nat.le_succ _)), (h6.cell (p := ⟨w.heap.size, 8, none⟩) (Nat.lt_succ_self _)).trans hc5, Bld.is_lt hb6⟩
      case measure => simp [intOf]
    · have e1 := HS.out 5 (⟨#[100, 105, 102, 102, 114, 97, 99, 116, 105, 111, 110]⟩, d5) rfl
      have g1 : ¬ 9223372036854775807 < 11 + 1 := by omega
      have g2 : ¬ 9223372036854775807 < 11 + 1 + d5.size := by omega
      have g3 : ¬ 9223372036854775807 < 11 + 1 + d5.size + 1 := by omega
      have ab := Lib.hid (show (acc (its d0 d1 d2 d3 d4 d5 d6 d7) 5).size + (⟨#[100, 105, 102, 102, 114, 97, 99, 116, 105, 111, 110]⟩ ++ ⟨#[32]⟩ ++ d5 ++ ⟨#[32]⟩ : ByteArray).size ≤ 1099511627776 by
        have e32 : (⟨#[32]⟩ : ByteArray).size = 1 := rfl
        have el : (⟨#[100, 105, 102, 102, 114, 97, 99, 116, 105, 111, 110]⟩ : ByteArray).size = 11 := rfl
        simp only [ByteArray.size_append, e32, el]
        omega)
      clear ak s0 s1 s2 s3 s4 s6 s7
      have ix : ∀ w, (Instr.index 69 (.agg #[.string ⟨#[100, 105, 115, 116, 97, 110, 99, 101]⟩, .int .i64 x0, .string ⟨#[98, 101, 97, 114, 105, 110, 103]⟩, .int .i64 x1, .string ⟨#[101, 108, 101, 118, 97, 116, 105, 111, 110]⟩, .int .i64 x2, .string ⟨#[102, 114, 101, 101]⟩, .int .i64 x3, .string ⟨#[103, 97, 115]⟩, .int .i64 x4, .string ⟨#[100, 105, 102, 102, 114, 97, 99, 116, 105, 111, 110]⟩, .int .i64 x5, .string ⟨#[99, 108, 117, 116, 116, 101, 114]⟩, .int .i64 x6, .string ⟨#[116, 111, 116, 97, 108]⟩, .int .i64 x7]) (.int .i64 5)).run Tryd.prog w = .ok (.agg #[.string ⟨#[100, 105, 102, 102, 114, 97, 99, 116, 105, 111, 110]⟩, .int .i64 x5]) w := fun _ => by kernel_rfl
      go_wp2_with fail
      refine wp_region_on_tail 8 (by kernel_rfl) (by kernel_rfl) ?_
      simp only [List.take_succ_cons, List.take_zero, List.drop_succ_cons, List.drop_zero]
      repeat (refine wpQuiet_step (fun K hK => ?_); go_simp; first | (refine hK _ ?_; clear hK K) | (apply Exists.intro; refine ⟨fun v1 hv1 => ?_, hK _ ?_⟩; (first | with_reducible exact rfl | with_reducible exact ⟨rfl, rfl⟩ | with_reducible exact Calls.on hv1 (D5.out _ (On.trans (On.alloc HW.out _) hv1)) | (obtain ⟨hc, hf⟩ := bcell hv1; go_simp; first | with_reducible exact rfl | with_reducible exact ⟨rfl, rfl⟩ | exact rfl | exact ⟨rfl, rfl⟩)); clear hK K))
      refine wpQuiet_nil ?_
      intro w5 h5
      have hO5 := Lib.hid (On.trans (On.alloc (On.refl wr) _) h5)
      have HB5 := Lib.hid (Bld.is_on HB.out hO5.out)
      have hs5 : w.heap.size + 1 ≤ w5.heap.size := Nat.le_of_lt (Bld.is_lt HB5.out)
      have hc5 : w5.cell? ⟨w.heap.size, 8, none⟩ = some (.bool c) := (hO5.out.cell (p := ⟨w.heap.size, 8, none⟩) (by show w.heap.size < wr.heap.size; omega)).trans hc8
      clear h5
      go_wp2_with (go_at_call 24; refine (Bld.write_text (w.heap.size + 1) (w.heap.size + 1) (acc (its d0 d1 d2 d3 d4 d5 d6 d7) 5) _ _ HB5.out ab.out hs5).mono ?_; rintro e w6 ⟨rfl, hb6, h6⟩)
      have hb6' := e1 ▸ (show IsBuilder 57 5 (w.heap.size + 1) (w.heap.size + 1) (strCells (acc (its d0 d1 d2 d3 d4 d5 d6 d7) 5 ++ pt ⟨#[100, 105, 102, 102, 114, 97, 99, 116, 105, 111, 110]⟩ d5)) w6 from hb6)
      go_roundw
      case rel => exact ⟨6, rfl, by decide, hb6', Below.trans (On.trans HW.out hO5.out) (Below.mono h6 (Nat.le_succ _)), (h6.cell (p := ⟨w.heap.size, 8, none⟩) (Nat.lt_succ_self _)).trans hc5, Bld.is_lt hb6⟩
      case measure => simp [intOf]
    · have e1 := HS.out 6 (⟨#[99, 108, 117, 116, 116, 101, 114]⟩, d6) rfl
      have g1 : ¬ 9223372036854775807 < 7 + 1 := by omega
      have g2 : ¬ 9223372036854775807 < 7 + 1 + d6.size := by omega
      have g3 : ¬ 9223372036854775807 < 7 + 1 + d6.size + 1 := by omega
      have ab := Lib.hid (show (acc (its d0 d1 d2 d3 d4 d5 d6 d7) 6).size + (⟨#[99, 108, 117, 116, 116, 101, 114]⟩ ++ ⟨#[32]⟩ ++ d6 ++ ⟨#[32]⟩ : ByteArray).size ≤ 1099511627776 by
        have e32 : (⟨#[32]⟩ : ByteArray).size = 1 := rfl
        have el : (⟨#[99, 108, 117, 116, 116, 101, 114]⟩ : ByteArray).size = 7 := rfl
        simp only [ByteArray.size_append, e32, el]
        omega)
      clear ak s0 s1 s2 s3 s4 s5 s7
      have ix : ∀ w, (Instr.index 69 (.agg #[.string ⟨#[100, 105, 115, 116, 97, 110, 99, 101]⟩, .int .i64 x0, .string ⟨#[98, 101, 97, 114, 105, 110, 103]⟩, .int .i64 x1, .string ⟨#[101, 108, 101, 118, 97, 116, 105, 111, 110]⟩, .int .i64 x2, .string ⟨#[102, 114, 101, 101]⟩, .int .i64 x3, .string ⟨#[103, 97, 115]⟩, .int .i64 x4, .string ⟨#[100, 105, 102, 102, 114, 97, 99, 116, 105, 111, 110]⟩, .int .i64 x5, .string ⟨#[99, 108, 117, 116, 116, 101, 114]⟩, .int .i64 x6, .string ⟨#[116, 111, 116, 97, 108]⟩, .int .i64 x7]) (.int .i64 6)).run Tryd.prog w = .ok (.agg #[.string ⟨#[99, 108, 117, 116, 116, 101, 114]⟩, .int .i64 x6]) w := fun _ => by kernel_rfl
      go_wp2_with fail
      refine wp_region_on_tail 8 (by kernel_rfl) (by kernel_rfl) ?_
      simp only [List.take_succ_cons, List.take_zero, List.drop_succ_cons, List.drop_zero]
      repeat (refine wpQuiet_step (fun K hK => ?_); go_simp; first | (refine hK _ ?_; clear hK K) | (apply Exists.intro; refine ⟨fun v1 hv1 => ?_, hK _ ?_⟩; (first | with_reducible exact rfl | with_reducible exact ⟨rfl, rfl⟩ | with_reducible exact Calls.on hv1 (D6.out _ (On.trans (On.alloc HW.out _) hv1)) | (obtain ⟨hc, hf⟩ := bcell hv1; go_simp; first | with_reducible exact rfl | with_reducible exact ⟨rfl, rfl⟩ | exact rfl | exact ⟨rfl, rfl⟩)); clear hK K))
      refine wpQuiet_nil ?_
      intro w5 h5
      have hO5 := Lib.hid (On.trans (On.alloc (On.refl wr) _) h5)
      have HB5 := Lib.hid (Bld.is_on HB.out hO5.out)
      have hs5 : w.heap.size + 1 ≤ w5.heap.size := Nat.le_of_lt (Bld.is_lt HB5.out)
      have hc5 : w5.cell? ⟨w.heap.size, 8, none⟩ = some (.bool c) := (hO5.out.cell (p := ⟨w.heap.size, 8, none⟩) (by show w.heap.size < wr.heap.size; omega)).trans hc8
      clear h5
      go_wp2_with (go_at_call 24; refine (Bld.write_text (w.heap.size + 1) (w.heap.size + 1) (acc (its d0 d1 d2 d3 d4 d5 d6 d7) 6) _ _ HB5.out ab.out hs5).mono ?_; rintro e w6 ⟨rfl, hb6, h6⟩)
      have hb6' := e1 ▸ (show IsBuilder 57 5 (w.heap.size + 1) (w.heap.size + 1) (strCells (acc (its d0 d1 d2 d3 d4 d5 d6 d7) 6 ++ pt ⟨#[99, 108, 117, 116, 116, 101, 114]⟩ d6)) w6 from hb6)
      go_roundw
      case rel => exact ⟨7, rfl, by decide, hb6', Below.trans (On.trans HW.out hO5.out) (Below.mono h6 (Nat.le_succ _)), (h6.cell (p := ⟨w.heap.size, 8, none⟩) (Nat.lt_succ_self _)).trans hc5, Bld.is_lt hb6⟩
      case measure => simp [intOf]
    · have e1 := HS.out 7 (⟨#[116, 111, 116, 97, 108]⟩, d7) rfl
      have g1 : ¬ 9223372036854775807 < 5 + 1 := by omega
      have g2 : ¬ 9223372036854775807 < 5 + 1 + d7.size := by omega
      have g3 : ¬ 9223372036854775807 < 5 + 1 + d7.size + 1 := by omega
      have ab := Lib.hid (show (acc (its d0 d1 d2 d3 d4 d5 d6 d7) 7).size + (⟨#[116, 111, 116, 97, 108]⟩ ++ ⟨#[32]⟩ ++ d7 ++ ⟨#[32]⟩ : ByteArray).size ≤ 1099511627776 by
        have e32 : (⟨#[32]⟩ : ByteArray).size = 1 := rfl
        have el : (⟨#[116, 111, 116, 97, 108]⟩ : ByteArray).size = 5 := rfl
        simp only [ByteArray.size_append, e32, el]
        omega)
      clear ak s0 s1 s2 s3 s4 s5 s6
      have ix : ∀ w, (Instr.index 69 (.agg #[.string ⟨#[100, 105, 115, 116, 97, 110, 99, 101]⟩, .int .i64 x0, .string ⟨#[98, 101, 97, 114, 105, 110, 103]⟩, .int .i64 x1, .string ⟨#[101, 108, 101, 118, 97, 116, 105, 111, 110]⟩, .int .i64 x2, .string ⟨#[102, 114, 101, 101]⟩, .int .i64 x3, .string ⟨#[103, 97, 115]⟩, .int .i64 x4, .string ⟨#[100, 105, 102, 102, 114, 97, 99, 116, 105, 111, 110]⟩, .int .i64 x5, .string ⟨#[99, 108, 117, 116, 116, 101, 114]⟩, .int .i64 x6, .string ⟨#[116, 111, 116, 97, 108]⟩, .int .i64 x7]) (.int .i64 7)).run Tryd.prog w = .ok (.agg #[.string ⟨#[116, 111, 116, 97, 108]⟩, .int .i64 x7]) w := fun _ => by kernel_rfl
      go_wp2_with fail
      refine wp_region_on_tail 8 (by kernel_rfl) (by kernel_rfl) ?_
      simp only [List.take_succ_cons, List.take_zero, List.drop_succ_cons, List.drop_zero]
      repeat (refine wpQuiet_step (fun K hK => ?_); go_simp; first | (refine hK _ ?_; clear hK K) | (apply Exists.intro; refine ⟨fun v1 hv1 => ?_, hK _ ?_⟩; (first | with_reducible exact rfl | with_reducible exact ⟨rfl, rfl⟩ | with_reducible exact Calls.on hv1 (D7.out _ (On.trans (On.alloc HW.out _) hv1)) | (obtain ⟨hc, hf⟩ := bcell hv1; go_simp; first | with_reducible exact rfl | with_reducible exact ⟨rfl, rfl⟩ | exact rfl | exact ⟨rfl, rfl⟩)); clear hK K))
      refine wpQuiet_nil ?_
      intro w5 h5
      have hO5 := Lib.hid (On.trans (On.alloc (On.refl wr) _) h5)
      have HB5 := Lib.hid (Bld.is_on HB.out hO5.out)
      have hs5 : w.heap.size + 1 ≤ w5.heap.size := Nat.le_of_lt (Bld.is_lt HB5.out)
      have hc5 : w5.cell? ⟨w.heap.size, 8, none⟩ = some (.bool c) := (hO5.out.cell (p := ⟨w.heap.size, 8, none⟩) (by show w.heap.size < wr.heap.size; omega)).trans hc8
      clear h5
      go_wp2_with (go_at_call 24; refine (Bld.write_text (w.heap.size + 1) (w.heap.size + 1) (acc (its d0 d1 d2 d3 d4 d5 d6 d7) 7) _ _ HB5.out ab.out hs5).mono ?_; rintro e w6 ⟨rfl, hb6, h6⟩)
      have hb6' := e1 ▸ (show IsBuilder 57 5 (w.heap.size + 1) (w.heap.size + 1) (strCells (acc (its d0 d1 d2 d3 d4 d5 d6 d7) 7 ++ pt ⟨#[116, 111, 116, 97, 108]⟩ d7)) w6 from hb6)
      go_roundw
      case rel => exact ⟨8, rfl, by decide, hb6', Below.trans (On.trans HW.out hO5.out) (Below.mono h6 (Nat.le_succ _)), (h6.cell (p := ⟨w.heap.size, 8, none⟩) (Nat.lt_succ_self _)).trans hc5, Bld.is_lt hb6⟩
      case measure => simp [intOf]
    · clear D0 s0 D1 s1 D2 s2 D3 s3 D4 s4 D5 s5 D6 s6 D7 s7
      have HT := Lib.hid (show (acc (its d0 d1 d2 d3 d4 d5 d6 d7) 8).size ≤ 272 from ak)
      clear ak
      generalize acc (its d0 d1 d2 d3 d4 d5 d6 d7) 8 = t at *
      have g1 : ¬ 9223372036854775807 < t.size + 5 := by have := HT.out; omega
      have g2 : ¬ 9223372036854775807 < t.size + 10 := by have := HT.out; omega
      have hs5 : w.heap.size + 1 ≤ wr.heap.size := by omega
      cases c <;> (
        go_wp2_with (go_at_call 26; refine (Bld.read (w.heap.size + 1) (w.heap.size + 1) t _ HB.out hs5).mono ?_; rintro e w6 ⟨rfl, h6⟩)
        go_ret
        exact ⟨ret_str (by simpa using HE.out), Below.trans HW.out (Below.mono h6 (Nat.le_succ _))⟩)
set_option maxHeartbeats 2000000 in
theorem copy (x0 x1 x2 x3 x4 x5 x6 x7 : Int) (c : Bool) (w : World) :
    Calls Tryd.prog 12 #[.agg #[.int .i64 x0, .int .i64 x1, .int .i64 x2, .int .i64 x3, .int .i64 x4, .int .i64 x5, .int .i64 x6, .int .i64 x7, .bool c]] w fun e w' => e = .returned (.agg #[.int .i64 x0, .int .i64 x1, .int .i64 x2, .int .i64 x3, .int .i64 x4, .int .i64 x5, .int .i64 x6, .int .i64 x7, .bool c]) ∧ On w w' := by
  go_enter Tryd.func12, Tryd.ntmps12
  go_wp2_with fail
  refine bodyPost_ret (v := .agg #[.int .i64 x0, .int .i64 x1, .int .i64 x2, .int .i64 x3, .int .i64 x4, .int .i64 x5, .int .i64 x6, .int .i64 x7, .bool c]) (by simp [results, Tryd.results12, go_sem]) rfl ⟨rfl, ?_⟩
  repeat (first | with_reducible exact On.refl _ | apply On.alloc | (refine On.setCell ?_ (by (try simp) <;> omega) _))
end Go.Proofs.YtggiilbdlbhpgaaDoor.PTxt
