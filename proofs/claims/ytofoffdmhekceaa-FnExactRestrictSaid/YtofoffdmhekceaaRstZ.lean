
/-
  The size of a problem with fewer channels of an item: it fits the laws' marks. No condition.
-/
import Derived.Test.YtofoffdmhekceaaOwnP
namespace Go.Proofs.Ytofoffdmhekceaa.Rst
open Go.RowKit
open Con
open Prb (T)
open Del (kept kept_len)
open Mats (tot pre)

theorem pre_le {zss : List (List Int)} {m : Nat} : ∀ n, (∀ k, k < n → (zss.getD k []).length ≤ m) → pre zss n ≤ n * m
  | 0, _ => by simp [pre]
  | n + 1, h => by
    have h1 := pre_le n (fun k hk => h k (by omega))
    have h2 := h n (by omega)
    show pre zss n + _ ≤ _
    rw [Nat.add_mul]
    omega
theorem rst_size (N : T) (x : Int) (ch : List Int) : (rstV N x ch).Small 1048576 ∧ 1 + tot (rstV N x ch).f0 + tot (rstV N x ch).f1 ≤ 1048576 := by
  cases hg : good N x ch with
  | false =>
    rw [show rstV N x ch = ⟨[], []⟩ from if_neg (by rw [hg]; simp)]
    exact ⟨⟨⟨by simp, fun k hk => by simp at hk⟩, ⟨by simp, fun k hk => by simp at hk⟩⟩, by simp [tot, pre]⟩
  | true =>
    rw [show rstV N x ch = ⟨N.f0.set x.toNat (left N x.toNat ch), N.f1⟩ from if_pos hg]
    unfold good at hg
    rw [Bool.and_eq_true] at hg
    have ok := ok_of hg.1
    have hn2 := ok.n2
    have hlen := ok.len
    have d32 : ∀ k, k < N.f0.length → (N.f0.getD k []).length ≤ 32 := fun k hk => (Asg.of_dom (ok.dom k hk)).1.2
    have r0 : ∀ k, k < N.f0.length → ((N.f0.set x.toNat (left N x.toNat ch)).getD k []).length ≤ 32 := fun k hk => by
      by_cases g : k = x.toNat
      · subst g
        rw [getD_set_eq _ _ hk]
        exact Nat.le_trans (kept_len _ _ _) (d32 _ hk)
      · rw [getD_set_ne _ _ g]
        exact d32 k hk
    have r1 : ∀ k, k < N.f1.length → (N.f1.getD k []).length ≤ 24 := fun k hk => by rw [ok.row k (by omega)]; exact hn2
    have t0 : pre (N.f0.set x.toNat (left N x.toNat ch)) N.f0.length ≤ N.f0.length * 32 := pre_le _ r0
    have t1 : pre N.f1 N.f1.length ≤ N.f1.length * 24 := pre_le _ r1
    have hl0 : (N.f0.set x.toNat (left N x.toNat ch)).length = N.f0.length := List.length_set ..
    refine ⟨⟨⟨by show (N.f0.set _ _).length ≤ _; omega, fun k hk => ?_⟩, ⟨by show N.f1.length ≤ _; omega, fun k hk => ?_⟩⟩, ?_⟩
    · rw [show ((⟨N.f0.set x.toNat (left N x.toNat ch), N.f1⟩ : T).f0) = N.f0.set x.toNat (left N x.toNat ch) from rfl, hl0] at hk
      exact Nat.le_trans (r0 k hk) (by decide)
    · exact Nat.le_trans (r1 k hk) (by decide)
    · show 1 + pre (N.f0.set _ _) (N.f0.set _ _).length + pre N.f1 N.f1.length ≤ _
      rw [hl0]
      omega
end Go.Proofs.Ytofoffdmhekceaa.Rst
