
/-
  What the program's text of a list of numbers is. Condition: at most 1048576 numbers; the library's table holds what its text lays.
-/
import Derived.Test.YtggiilbdlbhpgaaDoorListSpec
import Derived.Test.YtggiilbdlbhpgaaDoorShelfSplit
namespace Go.Proofs.YtggiilbdlbhpgaaDoor.ListImpl
open Go.RowKit
open Plain
open ListSpec (listT listT_no listT_yes listT_nil)

theorem infoS : (Tryd.prog.info? 9).map (fun i => (i.zero, i.size, i.bytes)) = some (some (.string ⟨#[]⟩), 1, 16) := by kernel_rfl
def piece (z : Int) : ByteArray := ⟨(Lib.itoa z).toArray⟩
theorem join_pieces (zs : List Int) (bk c : Nat) (w : World) (h0 : ∀ j, j < zs.length → w.cell? ⟨bk, j, none⟩ = some (.string (piece (zs.getD j 0)))) (hbk : bk < w.heap.size) (hn : zs.length ≤ 64) (hc : zs.length ≤ c)
    (hin : ∀ k, k < zs.length → -1000000000000 ≤ zs.getD k 0 ∧ zs.getD k 0 ≤ 1000000000000) :
    Calls Tryd.prog 50 #[.slice (some ⟨bk, 0, none⟩) zs.length c, .string ⟨#[44]⟩] w fun e w' => e = .returned (.string ⟨(commas zs).toArray⟩) ∧ Below w.heap.size w w' := by
  have e1 : (zs.map piece).length = zs.length := List.length_map _
  have e2 : (zs.map piece).map (·.data.toList) = zs.map Lib.itoa := by simp [piece]
  have hl : (Lib.join (zs.map Lib.itoa) [44]).length ≤ 1408 := by
    have := commas_len hin zs.length (Nat.le_refl _)
    rw [List.take_length] at this
    unfold commas at this
    omega
  have h := Tryd.strings_Join bk 0 c (zs.map piece) ⟨#[44]⟩ w (by
    intro j x hx
    have hj : j < zs.length := by
      have := (List.getElem?_eq_some_iff.1 hx).1
      rw [e1] at this
      exact this
    rw [Nat.zero_add, h0 j hj]
    rw [List.getElem?_map, List.getElem?_eq_getElem hj] at hx
    simp only [Option.map_some, Option.some.injEq] at hx
    rw [← hx]
    simp [hj]) hbk (by omega) (by omega) (by rw [e2]; show (Lib.join (zs.map Lib.itoa) [44]).length ≤ _; omega)
  rw [e1, e2] at h
  exact h

theorem impl_some (b off cap : Nat) (zs : List Int) (w : World) (h0 : 0 < zs.length) (hn : zs.length ≤ 64) (hlt : b < w.heap.size) (hcell : ∀ i, i < zs.length → w.cell? ⟨b, off + i, none⟩ = some (.int .i64 (zs.getD i 0)))
    (ht : Lib.TabBelow Tryd.prog w.heap.size w "internal/strconv.uint64pow10" .u64 Lib.pow10Tab) :
    Calls Tryd.prog 34 #[.slice (some ⟨b, off, none⟩) zs.length cap] w fun e w' => e = .returned (.string (listT zs)) ∧ Below w.heap.size w w' := by
  have hmk := fun w => run_make_row' (P := Tryd.prog) 91 9 (.string ⟨#[]⟩) 16 Tryd.underlying91 infoS rfl .i64 .i64 zs.length (by omega) (by omega) w
  have HC := Lib.hid hcell
  have HT := Lib.hid ht
  clear hcell ht
  have hne : ((zs.length : Int) == 0) = false := beq_eq_false_iff_ne.2 (by omega)
  go_enter Tryd.func34, Tryd.ntmps34
  go_wp2
  clear hmk
  go_loopw [17] (fun i wr => ∃ k : Nat, k ≤ zs.length ∧ i = .int .i64 k ∧ wr.rowIs w.heap.size 9 zs.length (fun j => if j < k then .string (piece (zs.getD j 0)) else .string ⟨#[]⟩) ∧ Below w.heap.size w wr ∧ AllIn zs k) (fun i _ => zs.length - (intOf i).toNat)
  case atStart =>
    refine ⟨0, Nat.zero_le _, rfl, ?_, (Below.refl _ _).alloc (Nat.le_refl _) _, allIn_zero _⟩
    exact (World.rowIs_made w (.string ⟨#[]⟩) zs.length _).congr fun i _ => by simp
  case round =>
    obtain ⟨k, hk, rfl, hrow, hb, hall⟩ := hrel
    have HR := Lib.hid hrow
    have HB := Lib.hid hb
    have HA := Lib.hid hall
    clear hrow hb hall
    by_cases hlt2 : k < zs.length
    · obtain ⟨z, hz⟩ : ∃ z, z = zs.getD k 0 := ⟨_, rfl⟩
      have hc1 : wr.cell? ⟨b, off + k, none⟩ = some (.int .i64 z) := by rw [hz]; exact (HB.out.cell (by exact hlt)).trans (HC.out k hlt2)
      cases hin : inB z (-1000000000000) 1000000000000 with
      | true =>
        obtain ⟨z0, z1⟩ := of_inB hin
        have HN := Lib.hid (allIn_succ HA.out hlt2 (by rw [← hz]; exact hin))
        have HZ := Lib.hid hz
        clear hz
        go_wp2_with (go_at_call 42; refine (Arith.within _ _ _ _).mono ?_; rintro e w' ⟨rfl, rfl⟩)
        refine (Dec.impl_decimal z _ (by omega) (by omega) (HT.out _ HB.out)).mono ?_
        rintro e w1 ⟨rfl, hb1⟩
        have hc2 : w1.cell? ⟨w.heap.size, k, none⟩ = some (.string ⟨#[]⟩) := by have := HR.out.cell hlt2; rw [if_neg (by omega)] at this; exact (hb1.cell (by exact HR.out.lt)).trans this
        have hf2 : w1.frozen? ⟨w.heap.size, k, none⟩ = false := (hb1.frozen (by exact HR.out.lt)).trans (HR.out.frozen k)
        have HR1 := Lib.hid (HR.out.of_block (hb1.block _ HR.out.lt))
        have HB1 := Lib.hid (HB.out.trans (hb1.mono HB.out.size))
        clear hb1 hin
        obtain ⟨s, hs⟩ : ∃ s : ByteArray, s = ⟨(Lib.itoa z).toArray⟩ := ⟨_, rfl⟩
        rw [← hs]
        have HS := Lib.hid hs
        clear hs
        go_wp2
        go_roundw
        case rel =>
          refine ⟨k + 1, by omega, by go_num, (HR1.out.set k _).congr fun i _ => ?_, HB1.out.setCell (by exact Nat.le_refl _) _, HN.out⟩
          by_cases h1 : i = k
          · subst h1; rw [if_pos rfl, if_pos (by omega), HS.out, HZ.out]; rfl
          · rw [if_neg h1]
            by_cases h2 : i < k
            · rw [if_pos h2, if_pos (by omega)]
            · rw [if_neg h2, if_neg (by omega)]
        case measure => simp [intOf]; omega
      | false =>
        have en := Lib.hid (listT_no (fits_bad hlt2 (by rw [← hz]; exact hin)))
        clear hz
        go_wp2_with (go_at_call 42; refine (Arith.within _ _ _ _).mono ?_; rintro e w' ⟨rfl, rfl⟩)
        go_ret
        exact ⟨by rw [en.out]; rfl, HB.out⟩
    · have hke : k = zs.length := by omega
      have hfit : fitsB zs = true := by rw [fits_all (by rw [← hke]; exact HA.out)]; exact decide_eq_true hn
      have en := Lib.hid (listT_yes hfit h0)
      have hcl := Lib.hid (fun j (hj : j < zs.length) => (show wr.cell? ⟨w.heap.size, j, none⟩ = some (.string (piece (zs.getD j 0))) by have := HR.out.cell hj; rw [if_pos (by omega)] at this; exact this))
      have hin := Lib.hid (fits_in hfit).2
      have hbk := HR.out.lt
      clear hke hfit
      go_wp2_with fail
      refine (join_pieces zs w.heap.size zs.length _ hcl.out hbk hn (Nat.le_refl _) hin.out).mono ?_
      rintro e w1 ⟨rfl, hb1⟩
      have HB1 := Lib.hid (HB.out.trans (hb1.mono HB.out.size))
      clear hb1
      go_wp2_with fail
      go_ret
      exact ⟨by rw [en.out]; rfl, HB1.out⟩
theorem impl_none (a : Option Addr) (cap : Nat) (w : World) :
    Calls Tryd.prog 34 #[.slice a 0 cap] w fun e w' => e = .returned (.string ⟨#[45]⟩) ∧ w = w' := by
  go_enter Tryd.func34, Tryd.ntmps34
  go_wp2
  go_ret
  exact ⟨rfl, rfl⟩
theorem impl_long (a : Option Addr) (n cap : Nat) (w : World) (hn : 64 < n) (h : n ≤ 1048576) :
    Calls Tryd.prog 34 #[.slice a n cap] w fun e w' => e = .returned (.string ⟨#[]⟩) ∧ w = w' := by
  go_enter Tryd.func34, Tryd.ntmps34
  go_wp2
  go_ret
  exact ⟨rfl, rfl⟩
theorem impl_listText (v : Value) (zs : List Int) (w : World) (hn : zs.length ≤ 1048576) (h : Ints.Ints w v zs) (ht : Lib.TabBelow Tryd.prog w.heap.size w "internal/strconv.uint64pow10" .u64 Lib.pow10Tab) :
    Calls Tryd.prog 34 #[v] w fun e w' => e = .returned (.string (listT zs)) ∧ Below w.heap.size w w' := by
  obtain ⟨a, cap, rfl, hc⟩ := h
  by_cases h0 : 0 < zs.length
  · by_cases h64 : zs.length ≤ 64
    · obtain ⟨b, off, rfl, hlt, hcell⟩ := hc h0
      exact impl_some b off cap zs w h0 h64 hlt hcell ht
    · rw [listT_no (fits_long (by omega))]
      exact (impl_long a zs.length cap w (by omega) hn).mono fun e w' ⟨he, hw⟩ => ⟨he, hw ▸ Below.refl _ _⟩
  · have : zs = [] := List.eq_nil_of_length_eq_zero (by omega)
    subst this
    exact (impl_none a cap w).mono fun e w' ⟨he, hw⟩ => ⟨he, hw ▸ Below.refl _ _⟩
end Go.Proofs.YtggiilbdlbhpgaaDoor.ListImpl
