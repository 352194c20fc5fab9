
/-
  Plain facts on numbers read from texts, with no program in them: what a text's number is, and that it is the number with this decimal form.
-/
import Derived.Test.YtnambnddoebeiaaDoorDecPlain
import Derived.Lib.AtoiTie
import Derived.Lib.AtoiAllCases
import Derived.Lib.ParseIntBTie
namespace Go.Proofs.YtnambnddoebeiaaDoor.Plain
open Go Go.Lib

/-- The bytes behind the sign. -/
def behind (l : List UInt8) : List UInt8 := if l.head? = some 45 then l.tail else l
def lead (l : List UInt8) : Bool := decide (l.head? = some 48)
/-- The number with the decimal form l, of at most 18 digits. -/
def num (l : List UInt8) : Option Int :=
  if behind l = [] ∨ 18 < (behind l).length ∨ (lead (behind l) = true ∧ 1 < l.length) then none
  else (decFrom 0 (behind l)).map fun (m : Nat) => if l.head? = some 45 then -(m : Int) else (m : Int)

theorem decFrom_append : ∀ (l : List UInt8) (acc : Nat) (r : List UInt8), decFrom acc (l ++ r) = (decFrom acc l).bind fun m => decFrom m r
  | [], acc, r => rfl
  | b :: l, acc, r => by
    simp only [List.cons_append, decFrom]
    cases digitVal b with
    | none => rfl
    | some d => exact decFrom_append l _ r
theorem decFrom_snoc {l : List UInt8} {b : UInt8} {acc n : Nat} (h : decFrom acc (l ++ [b]) = some n) : ∃ m d, decFrom acc l = some m ∧ digitVal b = some d ∧ n = m * 10 + d := by
  rw [decFrom_append] at h
  cases h1 : decFrom acc l with
  | none => rw [h1] at h; cases h
  | some m =>
    rw [h1] at h
    simp only [Option.bind_some, decFrom] at h
    cases h2 : digitVal b with
    | none => rw [h2] at h; cases h
    | some d => rw [h2] at h; exact ⟨m, d, rfl, rfl, by simpa [decFrom] using h.symm⟩
theorem digit_back {b : UInt8} {d : Nat} (h : digitVal b = some d) : d < 10 ∧ UInt8.ofNat (48 + d) = b := by
  obtain ⟨h1, h2, h3⟩ := digitVal_eq h
  refine ⟨by omega, ?_⟩
  have : 48 + d = b.toNat := by omega
  rw [this]
  exact UInt8.ofNat_toNat
/-- A row of digits without a needless zero is the decimal form of its number. -/
theorem decDigits_of (n : Nat) : ∀ (l : List UInt8), l.length = n → ∀ m, decFrom 0 l = some m → l ≠ [] → (l.head? ≠ some 48 ∨ l.length = 1) → decDigits m = l ∧ (l.head? ≠ some 48 → 0 < m) := by
  induction n with
  | zero => intro l hl m _ h0; exact absurd (List.eq_nil_of_length_eq_zero hl) h0
  | succ n ih =>
    intro l hl m hm h0 hz
    obtain ⟨r, b, rfl⟩ : ∃ r b, l = r ++ [b] := ⟨l.dropLast, l.getLast h0, (List.dropLast_concat_getLast h0).symm⟩
    obtain ⟨k, d, hk, hd, rfl⟩ := decFrom_snoc hm
    obtain ⟨d1, d2⟩ := digit_back hd
    cases r with
    | nil =>
      simp only [decFrom, Option.some.injEq] at hk
      subst hk
      refine ⟨by rw [decDigits_one (by omega)]; simp [d2], fun hne => ?_⟩
      by_cases hd0 : d = 0
      · subst hd0
        exfalso
        apply hne
        rw [← d2]
        rfl
      · omega
    | cons a r =>
      have hne : a :: r ≠ [] := by simp
      have hh : (a :: r).head? ≠ some 48 := by
        rcases hz with h | h
        · simpa using h
        · simp at h
      obtain ⟨e1, e2⟩ := ih (a :: r) (by simpa using hl) k hk hne (.inl hh)
      have hk0 := e2 hh
      refine ⟨?_, fun _ => by omega⟩
      rw [decDigits, dif_neg (by omega), show (k * 10 + d) / 10 = k from by omega, show (k * 10 + d) % 10 = d from by omega, e1, d2]
theorem decFrom_decDigits (n : Nat) : decFrom 0 (decDigits n) = some n := by
  induction n using Nat.strongRecOn with
  | _ n ih =>
    have dv : ∀ d, d < 10 → digitVal (UInt8.ofNat (48 + d)) = some d := by
      intro d hd
      unfold digitVal
      have e : (UInt8.ofNat (48 + d)).toNat = 48 + d := by rw [UInt8.toNat_ofNat']; exact Nat.mod_eq_of_lt (by omega)
      rw [e, if_pos (by omega)]
      congr 1
      omega
    rw [decDigits]
    split
    · simp only [decFrom, dv n ‹_›]
      congr 1
      omega
    · rw [decFrom_append, ih (n / 10) (by omega)]
      simp only [Option.bind_some, decFrom, dv (n % 10) (by omega)]
      congr 1
      omega
theorem decDigits_head (n : Nat) (h : 0 < n) : (decDigits n).head? ≠ some 48 := by
  induction n using Nat.strongRecOn with
  | _ n ih =>
    rw [decDigits]
    split
    · intro hc
      simp only [List.head?_cons, Option.some.injEq] at hc
      have := congrArg UInt8.toNat hc
      rw [UInt8.toNat_ofNat', Nat.mod_eq_of_lt (by omega)] at this
      have e : (48 : UInt8).toNat = 48 := rfl
      omega
    · have h1 := ih (n / 10) (by omega) (by omega)
      have h2 : decDigits (n / 10) ≠ [] := by
        have := decDigits_pos (n / 10)
        intro hc
        rw [hc] at this
        simp at this
      cases h3 : decDigits (n / 10) with
      | nil => exact absurd h3 h2
      | cons a r => rw [h3] at h1; simpa using h1
theorem decDigits_first (n : Nat) : ∃ b r, decDigits n = b :: r ∧ 48 ≤ b.toNat ∧ b.toNat ≤ 57 := by
  have h1 := decFrom_decDigits n
  cases h : decDigits n with
  | nil => have := decDigits_pos n; rw [h] at this; simp at this
  | cons b r =>
    rw [h] at h1
    simp only [decFrom] at h1
    cases hd : digitVal b with
    | none => rw [hd] at h1; cases h1
    | some d =>
      obtain ⟨a1, a2, _⟩ := digitVal_eq hd
      exact ⟨b, r, rfl, a1, a2⟩
theorem digits_short {n : Nat} (h : n < 1000000000000000000) : (decDigits n).length ≤ 18 := by
  rw [decDigits_length]; exact nDigits_le 17 n h

/-- What a number's decimal form is read as. -/
theorem num_itoa (v : Int) (h1 : -1000000000000000000 < v) (h2 : v < 1000000000000000000) : num (itoa v) = some v := by
  by_cases hv : v < 0
  · have e : itoa v = 45 :: decDigits v.natAbs := if_pos hv
    have hb : behind (itoa v) = decDigits v.natAbs := by rw [e]; rfl
    have hh : (itoa v).head? = some 45 := by rw [e]; rfl
    unfold num
    rw [hb, if_neg, decFrom_decDigits]
    · simp only [Option.map_some, hh, if_true]
      congr 1
      omega
    · have := digits_short (n := v.natAbs) (by omega)
      have h0 := decDigits_pos v.natAbs
      rintro (h | h | ⟨h, _⟩)
      · rw [h] at h0; simp at h0
      · omega
      · exact decDigits_head v.natAbs (by omega) (of_decide_eq_true h)
  · have e : itoa v = decDigits v.toNat := if_neg hv
    obtain ⟨b, r, hbr, b1, b2⟩ := decDigits_first v.toNat
    have hh : (itoa v).head? ≠ some 45 := by
      rw [e, hbr]
      intro hc
      simp only [List.head?_cons, Option.some.injEq] at hc
      have e45 : (45 : UInt8).toNat = 45 := rfl
      rw [hc] at b1
      omega
    have hb : behind (itoa v) = decDigits v.toNat := by unfold behind; rw [if_neg hh, e]
    unfold num
    rw [hb, if_neg, decFrom_decDigits]
    · simp only [Option.map_some, if_neg hh]
      congr 1
      omega
    · have := digits_short (n := v.toNat) (by omega)
      have h0 := decDigits_pos v.toNat
      rintro (h | h | ⟨h, h3⟩)
      · rw [h] at h0; simp at h0
      · omega
      · by_cases hz : v.toNat = 0
        · rw [e, hz, decDigits_one (by omega)] at h3; simp at h3
        · exact decDigits_head v.toNat (by omega) (of_decide_eq_true h)

/-- A text that is read as a number is this number's decimal form. -/
theorem itoa_of_num {l : List UInt8} {v : Int} (h : num l = some v) : itoa v = l ∧ -1000000000000000000 < v ∧ v < 1000000000000000000 := by
  unfold num at h
  split at h
  · cases h
  · rename_i hn
    cases hm : decFrom 0 (behind l) with
    | none => rw [hm] at h; cases h
    | some m =>
      rw [hm] at h
      simp only [Option.map_some, Option.some.injEq] at h
      have h0 : behind l ≠ [] := fun hc => hn (.inl hc)
      have h18 : (behind l).length ≤ 18 := by
        by_cases g : (behind l).length ≤ 18
        · exact g
        · exact absurd (.inr (.inl (by omega))) hn
      have hlt := decFrom_lt18 hm h18
      by_cases hs : l.head? = some 45
      · rw [if_pos hs] at h
        have hbt : behind l = l.tail := if_pos hs
        have hl : l = 45 :: l.tail := by
          cases l with
          | nil => cases hs
          | cons a r => simp at hs; simp [hs]
        have hlen : 1 < l.length := by
          rw [hl]
          rw [hbt] at h0
          cases ht : l.tail with
          | nil => exact absurd ht h0
          | cons _ _ => simp
        have hz : (behind l).head? ≠ some 48 := fun hc => hn (.inr (.inr ⟨decide_eq_true hc, hlen⟩))
        obtain ⟨e1, e2⟩ := decDigits_of _ (behind l) rfl m hm h0 (.inl hz)
        have m0 := e2 hz
        subst h
        refine ⟨?_, by omega, by omega⟩
        rw [itoa_neg m m0, e1, hbt, ← hl]
      · rw [if_neg hs] at h
        have hbt : behind l = l := if_neg hs
        rw [hbt] at hm h0 hn
        have hz : l.head? ≠ some 48 ∨ l.length = 1 := by
          by_cases hc : l.head? = some 48
          · refine .inr ?_
            have hl0 : l.length ≠ 0 := fun hc => h0 (List.eq_nil_of_length_eq_zero hc)
            by_cases g : 1 < l.length
            · exact absurd (.inr (.inr ⟨decide_eq_true hc, g⟩)) hn
            · omega
          · exact .inl hc
        obtain ⟨e1, _⟩ := decDigits_of _ l rfl m hm h0 hz
        subst h
        exact ⟨by rw [itoa_nat, e1], by omega, by omega⟩

/-- A text that is read as a number is a numeral of the library's. -/
theorem parse_of_num {l : List UInt8} {v : Int} (h : num l = some v) : parseIntB 64 l = .ok v := by
  rw [parseIntB_64]
  unfold num at h
  split at h
  · cases h
  · rename_i hn
    cases hm : decFrom 0 (behind l) with
    | none => rw [hm] at h; cases h
    | some m =>
      rw [hm] at h
      simp only [Option.map_some, Option.some.injEq] at h
      have h0 : behind l ≠ [] := fun hc => hn (.inl hc)
      have h18 : (behind l).length ≤ 18 := by
        by_cases g : (behind l).length ≤ 18
        · exact g
        · exact absurd (.inr (.inl (by omega))) hn
      have hnat : decNat (behind l) = some m := by
        unfold decNat
        rw [if_neg (by simpa using h0)]
        exact hm
      by_cases hs : l.head? = some 45
      · rw [if_pos hs] at h
        have hbt : behind l = l.tail := if_pos hs
        have hl : l = 45 :: l.tail := by
          cases l with
          | nil => cases hs
          | cons a r => simp at hs; simp [hs]
        rw [hl, atoiAll_minus, ← hbt, signed_short h18, hnat, ← h]
        rfl
      · rw [if_neg hs] at h
        have hbt : behind l = l := if_neg hs
        rw [hbt] at hm h0 h18 hnat
        cases l with
        | nil => exact absurd rfl h0
        | cons c r =>
          have hc : 48 ≤ c.toNat ∧ c.toNat ≤ 57 := by
            simp only [decFrom] at hm
            cases hd : digitVal c with
            | none => rw [hd] at hm; cases hm
            | some d => obtain ⟨a1, a2, _⟩ := digitVal_eq hd; exact ⟨a1, a2⟩
          rw [atoiAll_plain c r (by omega) (by omega), signless_short h18, hnat, ← h]
          rfl

/-! ### By cases, as a reader of bytes meets them -/
def numV (l : List UInt8) : Int := (num l).getD 0
def numB (l : List UInt8) : Bool := (num l).isSome
theorem num_no {l : List UInt8} (h : num l = none) : numV l = 0 ∧ numB l = false := by unfold numV numB; rw [h]; exact ⟨rfl, rfl⟩
theorem num_yes {l : List UInt8} {v : Int} (h : num l = some v) : numV l = v ∧ numB l = true := by unfold numV numB; rw [h]; exact ⟨rfl, rfl⟩
theorem num_empty {l : List UInt8} (h : (behind l).length = 0) : num l = none := if_pos (.inl (List.eq_nil_of_length_eq_zero h))
theorem num_long {l : List UInt8} (h : 18 < (behind l).length) : num l = none := if_pos (.inr (.inl h))
theorem num_zero {l : List UInt8} (h0 : 0 < (behind l).length) (h : ((behind l)[0]'h0).toNat = 48) (h1 : 1 < l.length) : num l = none := by
  refine if_pos (.inr (.inr ⟨decide_eq_true ?_, h1⟩))
  cases hb : behind l with
  | nil => rw [hb] at h0; simp at h0
  | cons a r =>
    simp only [hb, List.getElem_cons_zero] at h
    simp only [List.head?_cons, Option.some.injEq]
    exact UInt8.toNat_inj.1 h
theorem num_bad {l : List UInt8} {k : Nat} (hk : k < (behind l).length) (h : ((behind l)[k]'hk).toNat < 48 ∨ 57 < ((behind l)[k]'hk).toNat) : num l = none := by
  unfold num
  split
  · rfl
  · cases hm : decFrom 0 (behind l) with
    | none => rfl
    | some m =>
      obtain ⟨d, hd⟩ := digit_of_decFrom _ _ _ hm k _ (List.getElem?_eq_getElem hk)
      obtain ⟨h1, h2, _⟩ := digitVal_eq hd
      omega
theorem num_good {l : List UInt8} {m : Nat} (h0 : 0 < (behind l).length) (h18 : (behind l).length ≤ 18) (hz : ((behind l)[0]'h0).toNat ≠ 48 ∨ l.length ≤ 1) (hm : decFrom 0 (behind l) = some m) :
    num l = some (if l.head? = some 45 then -(m : Int) else (m : Int)) := by
  unfold num
  rw [if_neg, hm]
  · rfl
  · rintro (h | h | ⟨h, h3⟩)
    · rw [h] at h0; simp at h0
    · omega
    · rcases hz with hz | hz
      · apply hz
        have := of_decide_eq_true h
        rw [List.head?_eq_getElem?, List.getElem?_eq_getElem h0, Option.some.injEq] at this
        rw [this]
        rfl
      · omega
theorem dec_step {l : List UInt8} {k m : Nat} (h : decFrom 0 (l.take k) = some m) (hk : k < l.length) (h1 : 48 ≤ (l[k]'hk).toNat) (h2 : (l[k]'hk).toNat ≤ 57) : decFrom 0 (l.take (k + 1)) = some (m * 10 + ((l[k]'hk).toNat - 48)) :=
  decFrom_take l k 0 m _ _ h (List.getElem?_eq_getElem hk) (if_pos ⟨h1, h2⟩)
theorem dec_lt {l : List UInt8} {k m : Nat} (h : decFrom 0 (l.take k) = some m) (hk : k ≤ 17) : m < 100000000000000000 := decFrom_take_lt h hk
theorem behind_minus {l : List UInt8} (h : l.head? = some 45) : behind l = l.drop 1 := by unfold behind; rw [if_pos h]; simp
theorem behind_plain {l : List UInt8} (h : l.head? ≠ some 45) : behind l = l := if_neg h

end Go.Proofs.YtnambnddoebeiaaDoor.Plain
