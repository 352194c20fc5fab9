
/-
  Five texts, and six, joined by blanks, by the library. Condition: at most 2000000 bytes in each.
-/
import Derived.Test.YtbmhhhhodlfcbaaDoorOn
import Derived.Test.YtbmhhhhodlfcbaaDoorShelfSplit
namespace Go.Proofs.YtbmhhhhodlfcbaaDoor.Join
open Go.RowKit

theorem eq5 (s0 s1 s2 s3 s4 : ByteArray) : (⟨(Lib.join ([s0, s1, s2, s3, s4].map (·.data.toList)) [32]).toArray⟩ : ByteArray) = s0 ++ ⟨#[32]⟩ ++ s1 ++ ⟨#[32]⟩ ++ s2 ++ ⟨#[32]⟩ ++ s3 ++ ⟨#[32]⟩ ++ s4 := by
  obtain ⟨⟨s0⟩⟩ := s0
  obtain ⟨⟨s1⟩⟩ := s1
  obtain ⟨⟨s2⟩⟩ := s2
  obtain ⟨⟨s3⟩⟩ := s3
  obtain ⟨⟨s4⟩⟩ := s4
  simp [Lib.join, ByteArray.mk_append_mk, List.intercalate]
theorem join5 (s0 s1 s2 s3 s4 : ByteArray) (g c : Nat) (w : World) (h0 : w.cell? ⟨g, 0, none⟩ = some (.string s0)) (h1 : w.cell? ⟨g, 1, none⟩ = some (.string s1)) (h2 : w.cell? ⟨g, 2, none⟩ = some (.string s2)) (h3 : w.cell? ⟨g, 3, none⟩ = some (.string s3)) (h4 : w.cell? ⟨g, 4, none⟩ = some (.string s4)) (q0 : s0.size ≤ 2000000) (q1 : s1.size ≤ 2000000) (q2 : s2.size ≤ 2000000) (q3 : s3.size ≤ 2000000) (q4 : s4.size ≤ 2000000) (hc : 5 ≤ c) :
    Calls Tryd.prog 48 #[.slice (some ⟨g, 0, none⟩) 5 c, .string ⟨#[32]⟩] w fun e w' => e = .returned (.string (s0 ++ ⟨#[32]⟩ ++ s1 ++ ⟨#[32]⟩ ++ s2 ++ ⟨#[32]⟩ ++ s3 ++ ⟨#[32]⟩ ++ s4)) ∧ On w w' := by
  have hz := congrArg ByteArray.size (eq5 s0 s1 s2 s3 s4)
  rw [← eq5]
  refine Tryd.strings_Join g 0 c [s0, s1, s2, s3, s4] ⟨#[32]⟩ w ?_ (World.block_lt_of_cell? w _ h0) (by simp) hc ?_
  · intro j x hx
    rw [Nat.zero_add]
    match j, hx with
    | 0, hx => simp at hx; subst hx; exact h0
    | 1, hx => simp at hx; subst hx; exact h1
    | 2, hx => simp at hx; subst hx; exact h2
    | 3, hx => simp at hx; subst hx; exact h3
    | 4, hx => simp at hx; subst hx; exact h4
    | j + 5, hx => simp at hx
  · have e : (⟨(Lib.join ([s0, s1, s2, s3, s4].map (·.data.toList)) [32]).toArray⟩ : ByteArray).size = (Lib.join ([s0, s1, s2, s3, s4].map (·.data.toList)) [32]).length := by simp [ByteArray.size]
    rw [e] at hz
    show (Lib.join ([s0, s1, s2, s3, s4].map (·.data.toList)) [32]).length ≤ _
    rw [hz]
    simp only [ByteArray.size_append]
    have z : (⟨#[32]⟩ : ByteArray).size = 1 := rfl
    omega

theorem eq6 (s0 s1 s2 s3 s4 s5 : ByteArray) : (⟨(Lib.join ([s0, s1, s2, s3, s4, s5].map (·.data.toList)) [32]).toArray⟩ : ByteArray) = s0 ++ ⟨#[32]⟩ ++ s1 ++ ⟨#[32]⟩ ++ s2 ++ ⟨#[32]⟩ ++ s3 ++ ⟨#[32]⟩ ++ s4 ++ ⟨#[32]⟩ ++ s5 := by
  obtain ⟨⟨s0⟩⟩ := s0
  obtain ⟨⟨s1⟩⟩ := s1
  obtain ⟨⟨s2⟩⟩ := s2
  obtain ⟨⟨s3⟩⟩ := s3
  obtain ⟨⟨s4⟩⟩ := s4
  obtain ⟨⟨s5⟩⟩ := s5
  simp [Lib.join, ByteArray.mk_append_mk, List.intercalate]
theorem join6 (s0 s1 s2 s3 s4 s5 : ByteArray) (g c : Nat) (w : World) (h0 : w.cell? ⟨g, 0, none⟩ = some (.string s0)) (h1 : w.cell? ⟨g, 1, none⟩ = some (.string s1)) (h2 : w.cell? ⟨g, 2, none⟩ = some (.string s2)) (h3 : w.cell? ⟨g, 3, none⟩ = some (.string s3)) (h4 : w.cell? ⟨g, 4, none⟩ = some (.string s4)) (h5 : w.cell? ⟨g, 5, none⟩ = some (.string s5)) (q0 : s0.size ≤ 2000000) (q1 : s1.size ≤ 2000000) (q2 : s2.size ≤ 2000000) (q3 : s3.size ≤ 2000000) (q4 : s4.size ≤ 2000000) (q5 : s5.size ≤ 2000000) (hc : 6 ≤ c) :
    Calls Tryd.prog 48 #[.slice (some ⟨g, 0, none⟩) 6 c, .string ⟨#[32]⟩] w fun e w' => e = .returned (.string (s0 ++ ⟨#[32]⟩ ++ s1 ++ ⟨#[32]⟩ ++ s2 ++ ⟨#[32]⟩ ++ s3 ++ ⟨#[32]⟩ ++ s4 ++ ⟨#[32]⟩ ++ s5)) ∧ On w w' := by
  have hz := congrArg ByteArray.size (eq6 s0 s1 s2 s3 s4 s5)
  rw [← eq6]
  refine Tryd.strings_Join g 0 c [s0, s1, s2, s3, s4, s5] ⟨#[32]⟩ w ?_ (World.block_lt_of_cell? w _ h0) (by simp) hc ?_
  · intro j x hx
    rw [Nat.zero_add]
    match j, hx with
    | 0, hx => simp at hx; subst hx; exact h0
    | 1, hx => simp at hx; subst hx; exact h1
    | 2, hx => simp at hx; subst hx; exact h2
    | 3, hx => simp at hx; subst hx; exact h3
    | 4, hx => simp at hx; subst hx; exact h4
    | 5, hx => simp at hx; subst hx; exact h5
    | j + 6, hx => simp at hx
  · have e : (⟨(Lib.join ([s0, s1, s2, s3, s4, s5].map (·.data.toList)) [32]).toArray⟩ : ByteArray).size = (Lib.join ([s0, s1, s2, s3, s4, s5].map (·.data.toList)) [32]).length := by simp [ByteArray.size]
    rw [e] at hz
    show (Lib.join ([s0, s1, s2, s3, s4, s5].map (·.data.toList)) [32]).length ≤ _
    rw [hz]
    simp only [ByteArray.size_append]
    have z : (⟨#[32]⟩ : ByteArray).size = 1 := rfl
    omega

end Go.Proofs.YtbmhhhhodlfcbaaDoor.Join
