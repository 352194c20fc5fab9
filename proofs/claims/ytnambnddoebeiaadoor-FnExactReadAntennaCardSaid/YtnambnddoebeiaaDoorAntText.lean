
/-
  The text of an antenna, in the model and in the program. Condition: at most 1048576 losses in each list and bytes in the name; the library's table of powers of ten holds what its text lays.
-/
import Derived.Test.YtnambnddoebeiaaDoorAntOk
import Derived.Test.YtnambnddoebeiaaDoorListImpl
namespace Go.Proofs.YtnambnddoebeiaaDoor.Ant
open Go.RowKit
open Plain
open Ints (Ints Own)

def dec (x : Int) : ByteArray := ⟨(Lib.itoa x).toArray⟩
def com (zs : List Int) : ByteArray := ⟨(commas zs).toArray⟩
theorem dec_size {x : Int} (h0 : -60000 ≤ x) (h1 : x ≤ 60000) : (dec x).size ≤ 21 := by
  have := itoa_len2 x (by omega) (by omega)
  simpa [dec, ByteArray.size] using this
theorem fits_loss {zs : List Int} {n m : Nat} (h : lossB zs n m = true) (hn : n ≤ 64) : fitsB zs = true := by
  obtain ⟨h1, _, _⟩ := of_loss h
  unfold lossB at h
  rw [Bool.and_eq_true, Bool.and_eq_true] at h
  have h3 := h.2.2
  unfold fitsB
  rw [decide_eq_true (by omega), Bool.and_true]
  rw [List.all_eq_true] at h3 ⊢
  intro z hz
  obtain ⟨a, b⟩ := of_inB (h3 z hz)
  unfold inV inB
  simp
  omega
theorem com_size {zs : List Int} (h : fitsB zs = true) : (com zs).size ≤ 1408 := by
  obtain ⟨h1, h2⟩ := fits_in h
  have := commas_len h2 zs.length (Nat.le_refl _)
  rw [List.take_length] at this
  have e : (com zs).size = (commas zs).length := by simp [com, ByteArray.size]
  omega
def antT (x0 : ByteArray) (x1 : Int) (z2 z3 : List Int) : ByteArray := x0 ++ ⟨#[32]⟩ ++ dec x1 ++ ⟨#[32]⟩ ++ com z2 ++ ⟨#[32]⟩ ++ com z3
def textV (ok : Bool) (x0 : ByteArray) (x1 : Int) (z2 z3 : List Int) : ByteArray := if ok = true then antT x0 x1 z2 z3 else ⟨#[]⟩
theorem ret_str {a b : ByteArray} (h : a = b) : Ending.returned (.string a) = .returned (.string b) := by rw [h]
set_option maxHeartbeats 2000000 in
theorem impl_AntennaText (x0 : ByteArray) (x1 : Int) (v2 v3 : Value) (z2 z3 : List Int) (w : World) (q0 : x0.size ≤ 1048576) (q2 : z2.length ≤ 1048576) (q3 : z3.length ≤ 1048576) (h2 : Ints w v2 z2) (h3 : Ints w v3 z3) (ht : Lib.TabBelow Tryd.prog w.heap.size w "internal/strconv.uint64pow10" .u64 Lib.pow10Tab) :
    Calls Tryd.prog 22 #[.agg #[.string x0, .int .i64 x1, v2, v3]] w fun e w' => e = .returned (.string (textV (okA x0 x1 z2 z3) x0 x1 z2 z3)) ∧ On w w' := by
  have HO := Lib.hid (fun w' (hb : On w w') => impl_valid x0 x1 v2 v3 z2 z3 w' q0 q2 q3 (h2.below hb) (h3.below hb))
  cases hok : okA x0 x1 z2 z3 with
  | false =>
    obtain ⟨a2, cap2, rfl, -⟩ := h2
    obtain ⟨a3, cap3, rfl, -⟩ := h3
    rw [hok] at HO
    have E := Lib.hid (show textV false x0 x1 z2 z3 = ⟨#[]⟩ from rfl)
    clear ht
    go_enter Tryd.func22, Tryd.ntmps22
    go_wp2_with fail
    refine (HO.out _ (by repeat (first | with_reducible exact On.refl _ | apply On.alloc))).mono ?_
    rintro r w1 ⟨rfl, h1⟩
    go_wp2_with fail
    go_ret
    exact ⟨ret_str E.out.symm, On.trans (by repeat (first | with_reducible exact On.refl _ | apply On.alloc)) h1⟩
  | true =>
    rw [hok] at HO
    have hl := (of_okA hok).2.2.1
    have hv := (of_okA hok).2.2.2
    obtain ⟨b1, b2⟩ := (of_okA hok).2.1
    have n36 := (of_loss hl).1
    have n19 := (of_loss hv).1
    have f2 := fits_loss hl (by omega)
    have f3 := fits_loss hv (by omega)
    have s2 := com_size f2
    have s3 := com_size f3
    have s1 := dec_size b1 b2
    have g1 : ¬ 9223372036854775807 < x0.size + 1 := by omega
    have g2 : ¬ 9223372036854775807 < x0.size + 1 + (dec x1).size := by omega
    have g3 : ¬ 9223372036854775807 < x0.size + 1 + (dec x1).size + 1 := by omega
    have g4 : ¬ 9223372036854775807 < x0.size + 1 + (dec x1).size + 1 + (com z2).size := by omega
    have g5 : ¬ 9223372036854775807 < x0.size + 1 + (dec x1).size + 1 + (com z2).size + 1 := by omega
    have g6 : ¬ 9223372036854775807 < x0.size + 1 + (dec x1).size + 1 + (com z2).size + 1 + (com z3).size := by omega
    have E := Lib.hid (show textV true x0 x1 z2 z3 = x0 ++ ⟨#[32]⟩ ++ dec x1 ++ ⟨#[32]⟩ ++ com z2 ++ ⟨#[32]⟩ ++ com z3 from rfl)
    have C1 := fun w1 (h : On w w1) => Dec.impl_decimal x1 w1 (by omega) (by omega) (ht w1 h)
    have C2 := fun w1 (h : On w w1) => ListImpl.impl_listText v2 z2 w1 q2 (h2.below h) (fun w' h' => ht w' (On.trans h h'))
    have C3 := fun w1 (h : On w w1) => ListImpl.impl_listText v3 z3 w1 q3 (h3.below h) (fun w' h' => ht w' (On.trans h h'))
    rw [show (⟨(Lib.itoa x1).toArray⟩ : ByteArray) = dec x1 from rfl] at C1
    rw [show ListSpec.listT z2 = com z2 from ListSpec.listT_yes f2 (by omega)] at C2
    rw [show ListSpec.listT z3 = com z3 from ListSpec.listT_yes f3 (by omega)] at C3
    obtain ⟨a2, cap2, rfl, -⟩ := h2
    obtain ⟨a3, cap3, rfl, -⟩ := h3
    generalize dec x1 = td at *
    generalize com z2 = t2 at *
    generalize com z3 = t3 at *
    have D1 := Lib.hid C1
    have D2 := Lib.hid C2
    have D3 := Lib.hid C3
    clear C1 C2 C3 hl hv f2 f3 hok n36 n19 b1 b2 ht
    go_enter Tryd.func22, Tryd.ntmps22
    go_wp2_with fail
    refine (HO.out _ (by repeat (first | with_reducible exact On.refl _ | apply On.alloc))).mono ?_
    rintro r w1 ⟨rfl, h1⟩
    have P1 : In w1 w.heap.size x0 x1 (.slice a2 z2.length cap2) (.slice a3 z3.length cap3) := In.on ⟨by simp [go_sem], by simp [go_sem], by simp [go_sem], by simp [go_sem]⟩ h1
    have hO1 : On w w1 := On.trans (On.alloc (On.refl w) _) h1
    obtain ⟨p0, p1, p2, p3⟩ := P1
    have y1 := World.block_lt_of_cell? w1 _ p0
    clear h1
    go_wp2_with fail
    refine wp_region_onh (by kernel_rfl) (by kernel_rfl) ?_
    repeat (refine rest_step (fun K hK => ?_); go_simp; first | (refine hK _ ?_; clear hK K) | (apply Exists.intro; refine ⟨fun v1 hv1 => ?_, hK _ ?_⟩; (first | with_reducible exact rfl | with_reducible exact ⟨rfl, rfl⟩ | with_reducible exact Calls.on hv1 (D1.out _ (On.trans hO1 hv1)) | with_reducible exact Calls.on hv1 (D2.out _ (On.trans hO1 hv1)) | with_reducible exact Calls.on hv1 (D3.out _ (On.trans hO1 hv1)) | (obtain ⟨hc, hf⟩ := bcell hv1; go_simp; first | with_reducible exact rfl | with_reducible exact ⟨rfl, rfl⟩ | exact rfl | exact ⟨rfl, rfl⟩)); clear hK K))
    refine rest_nil ?_
    intro w5 h5
    go_wp2_with fail
    go_ret
    exact ⟨ret_str E.out.symm, On.trans hO1 h5⟩
end Go.Proofs.YtnambnddoebeiaaDoor.Ant
