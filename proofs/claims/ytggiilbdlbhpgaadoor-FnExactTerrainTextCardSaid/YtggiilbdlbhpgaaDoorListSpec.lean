
/-
  What the model's text of a list of numbers is. Condition: at most 1048576 numbers.
-/
import Derived.Test.YtggiilbdlbhpgaaDoorProg
import Derived.Test.YtggiilbdlbhpgaaDoorArith
import Derived.Test.YtggiilbdlbhpgaaDoorDec
import Derived.Test.YtggiilbdlbhpgaaDoorListPlain
import Derived.Test.YtggiilbdlbhpgaaDoorInts
import Derived.WalkKit
import Derived.Lib.Hide
import Derived.Below
import Derived.IntWalk
namespace Go.Proofs.YtggiilbdlbhpgaaDoor.ListSpec
open Go.RowKit
open Plain
open Arith (ret_bool)

theorem list_some (b off cap : Nat) (zs : List Int) (w : World) (h0 : 0 < zs.length) (hf : fitsB zs = true) (hlt : b < w.heap.size) (hcell : ∀ i, i < zs.length → w.cell? ⟨b, off + i, none⟩ = some (.int .i64 (zs.getD i 0))) :
    Calls Tryd.prog 31 #[.slice (some ⟨b, off, none⟩) zs.length cap] w fun e w' => e = .returned (.string ⟨(commas zs).toArray⟩) ∧ Below w.heap.size w w' := by
  obtain ⟨hn, hin⟩ := fits_in hf
  have HC := Lib.hid hcell
  have HI := Lib.hid hin
  clear hcell hin hf
  have hne : ((zs.length : Int) == 0) = false := beq_eq_false_iff_ne.2 (by omega)
  go_enter Tryd.func31, Tryd.ntmps31
  go_wp2
  go_loopw [3, 4] (fun x i wr => ∃ (k : Nat) (o : ByteArray), k ≤ zs.length ∧ i = .int .i64 k ∧ x = .string o ∧ o = ⟨(commas (zs.take k)).toArray⟩ ∧ Below w.heap.size w wr) (fun _ i _ => zs.length - (intOf i).toNat)
  case atStart => exact ⟨0, ⟨#[]⟩, Nat.zero_le _, rfl, rfl, by simp [commas, Lib.join_nil], Below.refl _ _⟩
  case round =>
    obtain ⟨k, o, hk, rfl, rfl, ho, hb⟩ := hrel
    have HB := Lib.hid hb
    have hol : o.size ≤ 22 * k := by rw [ho]; simpa [ByteArray.size] using commas_len HI.out k hk
    have HO := Lib.hid ho
    clear hb ho
    by_cases hlt2 : k < zs.length
    · obtain ⟨z, hz⟩ : ∃ z, z = zs.getD k 0 := ⟨_, rfl⟩
      have hc1 : wr.cell? ⟨b, off + k, none⟩ = some (.int .i64 z) := by rw [hz]; exact (HB.out.cell (by exact hlt)).trans (HC.out k hlt2)
      obtain ⟨z0, z1⟩ := HI.out k hlt2
      rw [← hz] at z0 z1
      obtain ⟨s, hs⟩ : ∃ s : ByteArray, s = ⟨(Lib.itoa z).toArray⟩ := ⟨_, rfl⟩
      have hsl : s.size ≤ 21 := by rw [hs]; simpa [ByteArray.size] using itoa_len2 z z0 z1
      have HS := Lib.hid hs
      have HZ := Lib.hid hz
      clear hs hz
      by_cases hk0 : 0 < k
      · have HN := Lib.hid (commas_step hlt2 hk0)
        go_wp2_with (go_at_call 28; refine (Dec.spec_dec z _ (by omega) (by omega)).mono ?_; rintro e w1 ⟨rfl, hb1⟩; rw [← HS.out])
        go_roundw
        case rel =>
          refine ⟨k + 1, _, by omega, by go_num, rfl, ?_, HB.out.trans (hb1.mono HB.out.size)⟩
          rw [HN.out, HO.out, HS.out, HZ.out]
          rw [show (⟨#[44]⟩ : ByteArray) = ⟨([44] : List UInt8).toArray⟩ from rfl, ByteArray.mk_append_mk, ByteArray.mk_append_mk]
          simp
        case measure => simp [intOf]; omega
      · obtain rfl : k = 0 := by omega
        have hc0 : wr.cell? ⟨b, off, none⟩ = some (.int .i64 z) := by simpa using hc1
        clear hc1
        have HN := Lib.hid (commas_first (zs := zs) h0)
        go_wp2_with (go_at_call 28; refine (Dec.spec_dec z _ (by omega) (by omega)).mono ?_; rintro e w1 ⟨rfl, hb1⟩; rw [← HS.out])
        go_roundw
        case rel =>
          refine ⟨1, _, by omega, by go_num, rfl, ?_, HB.out.trans (hb1.mono HB.out.size)⟩
          rw [HN.out, HO.out, HS.out, HZ.out, ByteArray.mk_append_mk]
          simp [commas, Lib.join_nil]
        case measure => simp [intOf]; omega
    · have hfin : o = ⟨(commas zs).toArray⟩ := by rw [HO.out, List.take_of_length_le (by omega)]
      have HF := Lib.hid hfin
      clear hfin
      go_wp2
      go_ret
      exact ⟨by rw [← HF.out]; rfl, HB.out⟩
theorem list_none (a : Option Addr) (cap : Nat) (w : World) :
    Calls Tryd.prog 31 #[.slice a 0 cap] w fun e w' => e = .returned (.string ⟨#[45]⟩) ∧ w = w' := by
  go_enter Tryd.func31, Tryd.ntmps31
  go_wp2
  go_ret
  exact ⟨rfl, rfl⟩
/-- What ListText returns. -/
def listT (zs : List Int) : ByteArray := if fitsB zs = true then ⟨(listB zs).toArray⟩ else ⟨#[]⟩
theorem listT_no {zs : List Int} (h : fitsB zs = false) : listT zs = ⟨#[]⟩ := if_neg (by rw [h]; simp)
theorem listT_yes {zs : List Int} (h : fitsB zs = true) (h0 : 0 < zs.length) : listT zs = ⟨(commas zs).toArray⟩ := by
  unfold listT listB
  rw [if_pos h, if_neg (by intro hc; rw [hc] at h0; simp at h0)]
theorem listT_nil : listT [] = ⟨#[45]⟩ := rfl
end Go.Proofs.YtggiilbdlbhpgaaDoor.ListSpec
