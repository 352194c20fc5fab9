
/-
  Plain facts on bytes, with no program in them: names, and the check value of 16 bits.
-/
import Derived.Laws.BitsLemmas
import Derived.Test.YtnambnddoebeiaaPlain
namespace Go.Proofs.Ytnambnddoebeiaa.Plain
open Go

/-! ### Names -/

def okc (b : UInt8) : Bool := inB b.toNat 97 122 || inB b.toNat 48 57
/-- Whether bytes are a name. -/
def nameB (l : List UInt8) : Bool :=
  match l with
  | [] => false
  | b :: r => decide (l.length ≤ 10) && inB b.toNat 97 122 && r.all okc
def AllOk (l : List UInt8) (k : Nat) : Prop := (l.take k).all okc = true
theorem allOk_zero (l : List UInt8) : AllOk l 0 := by simp [AllOk]
theorem allOk_one {l : List UInt8} (h : 0 < l.length) (hb : inB (l[0]'h).toNat 97 122 = true) : AllOk l 1 := by
  match l, h with
  | b :: r, _ => simp at hb; simp [AllOk, okc, hb]
theorem allOk_succ {l : List UInt8} {k : Nat} (h : AllOk l k) (hk : k < l.length) (hb : okc (l[k]'hk) = true) : AllOk l (k + 1) := by
  unfold AllOk at *
  rw [List.take_succ_eq_append_getElem hk, List.all_append, h]
  simp [hb]
theorem name_yes {l : List UInt8} (h0 : 0 < l.length) (h1 : l.length ≤ 10) (hb : inB (l[0]'h0).toNat 97 122 = true) (h : AllOk l l.length) : nameB l = true := by
  unfold AllOk at h
  rw [List.take_length] at h
  match l, h0 with
  | b :: r, _ =>
    simp only [List.all_cons, Bool.and_eq_true] at h
    simp only [List.getElem_cons_zero] at hb
    simp only [nameB, hb, h.2, Bool.and_true, decide_eq_true_eq]
    exact h1
theorem name_empty {l : List UInt8} (h : l.length = 0) : nameB l = false := by
  obtain rfl := List.eq_nil_of_length_eq_zero h
  rfl
theorem name_long {l : List UInt8} (h : 10 < l.length) : nameB l = false := by
  match l, h with
  | b :: r, h => simp only [nameB]; rw [decide_eq_false (by omega)]; rfl
theorem name_head {l : List UInt8} (h0 : 0 < l.length) (hb : inB (l[0]'h0).toNat 97 122 = false) : nameB l = false := by
  match l, h0 with
  | b :: r, _ =>
    simp only [List.getElem_cons_zero] at hb
    simp [nameB, hb]
theorem name_bad {l : List UInt8} {k : Nat} (hk : k < l.length) (hb : okc (l[k]'hk) = false) : nameB l = false := by
  match l, k, hk with
  | b :: r, 0, _ =>
    simp only [List.getElem_cons_zero] at hb
    unfold okc at hb
    rw [Bool.or_eq_false_iff] at hb
    simp [nameB, hb.1]
  | b :: r, k + 1, hk =>
    simp only [List.getElem_cons_succ] at hb
    have hk' : k < r.length := by simp at hk; omega
    have : r.all okc = false := by
      rw [List.all_eq_false]
      exact ⟨r[k], List.getElem_mem hk', by rw [hb]; simp⟩
    simp [nameB, this]
theorem okc_letter {b : UInt8} (h : inB b.toNat 97 122 = true) : okc b = true := by simp [okc, h]
theorem okc_digit {b : UInt8} (h : inB b.toNat 48 57 = true) : okc b = true := by simp [okc, h]
theorem okc_no {b : UInt8} (h : inB b.toNat 97 122 = false) (h2 : inB b.toNat 48 57 = false) : okc b = false := by simp [okc, h, h2]

/-! ### The check value -/

theorem xor_i64 (a b : Nat) (ha : a < 65536) (hb : b < 65536) : bits .xor .i64 (a : Int) (b : Int) = ((a ^^^ b : Nat) : Int) := by
  have hx : a ^^^ b < 2 ^ 16 := Nat.xor_lt_two_pow (by omega) (by omega)
  have h1 : (BitVec.ofInt 64 (a : Int)).toNat = a := by
    rw [BitVec.ofInt_natCast, BitVec.toNat_ofNat]; exact Nat.mod_eq_of_lt (by omega)
  have h2 : (BitVec.ofInt 64 (b : Int)).toNat = b := by
    rw [BitVec.ofInt_natCast, BitVec.toNat_ofNat]; exact Nat.mod_eq_of_lt (by omega)
  show IntKind.i64.wrap ((BitVec.ofInt 64 (a : Int) ^^^ BitVec.ofInt 64 (b : Int)).toNat : Int) = _
  rw [BitVec.toNat_xor, h1, h2, IntKind.wrap_i64]
  omega
theorem xor_bd (a b : Int) (ha : 0 ≤ a) (ha' : a ≤ 65535) (hb : 0 ≤ b) (hb' : b ≤ 65535) : 0 ≤ bits .xor .i64 a b ∧ bits .xor .i64 a b ≤ 65535 := by
  obtain ⟨x, rfl⟩ := Int.eq_ofNat_of_zero_le ha
  obtain ⟨y, rfl⟩ := Int.eq_ofNat_of_zero_le hb
  rw [xor_i64 x y (by omega) (by omega)]
  have hx : x ^^^ y < 2 ^ 16 := Nat.xor_lt_two_pow (by omega) (by omega)
  omega
theorem and_i64 (a : Int) (h0 : 0 ≤ a) (h1 : a ≤ 131071) : bits .and .i64 a 65535 = a % 65536 :=
  bits_mask .i64 17 (by decide) (fun n a b => by rw [IntKind.wrap_i64]; omega) 16 (by decide) a h0 (by omega)

def crcBit (c : Int) : Int := if 65535 < c * 2 then bits .xor .i64 (c * 2 % 65536) 4129 else c * 2
def crcIt : Nat → Int → Int
  | 0, c => c
  | k + 1, c => crcBit (crcIt k c)
def crcByte (c : Int) (b : UInt8) : Int := crcIt 8 (bits .xor .i64 c ((b.toNat : Int) * 256))
def crcOf (l : List UInt8) (c : Int) : Int := l.foldl crcByte c
theorem crcBit_bd {c : Int} (h0 : 0 ≤ c) (h1 : c ≤ 65535) : 0 ≤ crcBit c ∧ crcBit c ≤ 65535 := by
  unfold crcBit
  split
  · exact xor_bd _ _ (by omega) (by omega) (by omega) (by omega)
  · omega
theorem crcIt_bd {c : Int} (h0 : 0 ≤ c) (h1 : c ≤ 65535) (k : Nat) : 0 ≤ crcIt k c ∧ crcIt k c ≤ 65535 := by
  induction k with
  | zero => exact ⟨h0, h1⟩
  | succ k ih => exact crcBit_bd ih.1 ih.2
theorem crcByte_bd {c : Int} (b : UInt8) (h0 : 0 ≤ c) (h1 : c ≤ 65535) : 0 ≤ crcByte c b ∧ crcByte c b ≤ 65535 := by
  have hb := b.toNat_lt
  have := xor_bd c ((b.toNat : Int) * 256) h0 h1 (by omega) (by omega)
  exact crcIt_bd this.1 this.2 8
theorem crcOf_bd (l : List UInt8) : ∀ {c : Int}, 0 ≤ c → c ≤ 65535 → 0 ≤ crcOf l c ∧ crcOf l c ≤ 65535 := by
  induction l with
  | nil => exact fun h0 h1 => ⟨h0, h1⟩
  | cons b l ih => exact fun h0 h1 => ih (crcByte_bd b h0 h1).1 (crcByte_bd b h0 h1).2
theorem crcOf_succ (l : List UInt8) (c : Int) (k : Nat) (hk : k < l.length) : crcOf (l.take (k + 1)) c = crcByte (crcOf (l.take k) c) (l[k]'hk) := by
  unfold crcOf
  rw [List.take_succ_eq_append_getElem hk, List.foldl_append]
  rfl

end Go.Proofs.Ytnambnddoebeiaa.Plain
