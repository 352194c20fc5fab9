
/-
  Slices of texts: what the laws' comparison, their marking and the later look at the marks return. Condition: at most 1048577 texts.
-/
import Derived.Test.YtpnmodmaabhldaaGreatProg
import Derived.Test.YtpnmodmaabhldaaGreatInts
import Derived.WalkKit
import Derived.Lib.Hide
import Derived.Below
import Derived.IntWalk
import Derived.Deep.OwnRows
import Derived.Deep.QuietTactic
import Derived.BigQuiet
namespace Go.Proofs.YtpnmodmaabhldaaGreat.Strs
open Go.RowKit
open Ints (below_drewN)

def noText : ByteArray := ⟨#[]⟩
/-- The value v is a slice that reads as the texts zs in the world w. -/
def Strs (w : World) (v : Value) (zs : List ByteArray) : Prop :=
  ∃ a cap, v = .slice a zs.length cap ∧ (0 < zs.length → ∃ b off, a = some ⟨b, off, none⟩ ∧ b < w.heap.size ∧ ∀ i, i < zs.length → w.cell? ⟨b, off + i, none⟩ = some (.string (zs.getD i noText)))
theorem Strs.below {w w' : World} {v : Value} {zs : List ByteArray} (h : Strs w v zs) (hb : Below w.heap.size w w') : Strs w' v zs := by
  obtain ⟨a, cap, hv, hc⟩ := h
  refine ⟨a, cap, hv, fun h0 => ?_⟩
  obtain ⟨b, off, ha, hlt, hcell⟩ := hc h0
  exact ⟨b, off, ha, Nat.lt_of_lt_of_le hlt hb.size, fun i hi => (hb.cell (by exact hlt)).trans (hcell i hi)⟩
/-- The value v is a slice that reads as the texts zs, in memory from block B on, none of it frozen. -/
def Own (B : Nat) (w : World) (v : Value) (zs : List ByteArray) : Prop :=
  ∃ a cap, v = .slice a zs.length cap ∧ (0 < zs.length → ∃ b off, a = some ⟨b, off, none⟩ ∧ B ≤ b ∧ b < w.heap.size ∧ (∀ i, i < zs.length → w.frozen? ⟨b, off + i, none⟩ = false) ∧ ∀ i, i < zs.length → w.cell? ⟨b, off + i, none⟩ = some (.string (zs.getD i noText)))
theorem Own.strs {B : Nat} {w : World} {v : Value} {zs : List ByteArray} (h : Own B w v zs) : Strs w v zs := by
  obtain ⟨a, cap, hv, hc⟩ := h
  refine ⟨a, cap, hv, fun h0 => ?_⟩
  obtain ⟨b, off, ha, _, hlt, _, hcell⟩ := hc h0
  exact ⟨b, off, ha, hlt, hcell⟩
theorem Own.below {B : Nat} {w w' : World} {v : Value} {zs : List ByteArray} (h : Own B w v zs) (hb : Below w.heap.size w w') : Own B w' v zs := by
  obtain ⟨a, cap, hv, hc⟩ := h
  refine ⟨a, cap, hv, fun h0 => ?_⟩
  obtain ⟨b, off, ha, hB, hlt, hf, hcell⟩ := hc h0
  exact ⟨b, off, ha, hB, Nat.lt_of_lt_of_le hlt hb.size, fun i hi => (hb.frozen (by exact hlt)).trans (hf i hi), fun i hi => (hb.cell (by exact hlt)).trans (hcell i hi)⟩
theorem Own.empty (B : Nat) (w : World) (a : Option Addr) (cap : Nat) : Own B w (.slice a 0 cap) [] := ⟨a, cap, rfl, fun h => by simp at h⟩
theorem str_eq (x : ByteArray) : (x.toList == x.toList) = true := by simp
theorem eq_some (b off cap b2 off2 cap2 : Nat) (zs : List ByteArray) (w : World) (hn : zs.length ≤ 1048577)
    (hcell : ∀ i, i < zs.length → w.cell? ⟨b, off + i, none⟩ = some (.string (zs.getD i noText))) (hcell2 : ∀ i, i < zs.length → w.cell? ⟨b2, off2 + i, none⟩ = some (.string (zs.getD i noText))) :
    Calls Tryz.prog 15 #[.slice (some ⟨b, off, none⟩) zs.length cap, .slice (some ⟨b2, off2, none⟩) zs.length cap2] w fun e w' => e = .returned (.bool true) ∧ ∃ n, w' = w.drewN n := by
  have HC := Lib.hid hcell
  have HC2 := Lib.hid hcell2
  clear hcell hcell2
  go_enter Tryz.func15, Tryz.ntmps15
  go_wp2
  go_loopw [5] (fun i wr => ∃ k : Nat, k ≤ zs.length ∧ i = .int .i64 k ∧ ∃ n, wr = w.drewN n) (fun i _ => zs.length - (intOf i).toNat)
  case atStart => exact ⟨0, Nat.zero_le _, rfl, 0, rfl⟩
  case round =>
    obtain ⟨k, hk, rfl, n, rfl⟩ := hrel
    by_cases hlt : k < zs.length
    · have hlti : (k : Int) < (zs.length : Int) := by omega
      obtain ⟨z, hz⟩ : ∃ z, z = zs.getD k noText := ⟨_, rfl⟩
      have hc1 : w.cell? ⟨b, off + k, none⟩ = some (.string z) := by rw [hz]; exact HC.out k hlt
      have hc2 : w.cell? ⟨b2, off2 + k, none⟩ = some (.string z) := by rw [hz]; exact HC2.out k hlt
      clear hz
      go_wp2
      go_quiet (fail)
      go_wp2
      go_roundw
      case rel => exact ⟨k + 1, by omega, by go_num, _, rfl⟩
      case measure => simp [intOf]; omega
    · go_wp2
      go_ret
      exact ⟨rfl, _, rfl⟩
theorem eq_none (a a2 : Option Addr) (cap cap2 : Nat) (w : World) :
    Calls Tryz.prog 15 #[.slice a 0 cap, .slice a2 0 cap2] w fun e w' => e = .returned (.bool true) ∧ ∃ n, w' = w.drewN n := by
  go_enter Tryz.func15, Tryz.ntmps15
  go_wp2
  refine wp_loop_rounds 1 ?_
  rw [rounds_succ]
  go_wp2
  go_ret
  exact ⟨rfl, 0, rfl⟩
/-- The comparison of two slices that read alike. -/
theorem eq (v v2 : Value) (zs : List ByteArray) (w : World) (hn : zs.length ≤ 1048577) (h : Strs w v zs) (h2 : Strs w v2 zs) :
    Calls Tryz.prog 15 #[v, v2] w fun e w' => e = .returned (.bool true) ∧ ∃ n, w' = w.drewN n := by
  obtain ⟨a, cap, rfl, hc⟩ := h
  obtain ⟨a2, cap2, rfl, hc2⟩ := h2
  by_cases h0 : 0 < zs.length
  · obtain ⟨b, off, rfl, hlt, hcell⟩ := hc h0
    obtain ⟨b2, off2, rfl, hlt2, hcell2⟩ := hc2 h0
    exact eq_some b off cap b2 off2 cap2 zs w hn hcell hcell2
  · have : zs = [] := List.eq_nil_of_length_eq_zero (by omega)
    subst this
    exact eq_none a a2 cap cap2 w
end Go.Proofs.YtpnmodmaabhldaaGreat.Strs
