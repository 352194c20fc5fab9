
/-
  The text of a mask, in the model and in the program. Condition: at most 1048576 numbers in each list; the library's table of powers of ten holds what its text lays.
-/
import Derived.Test.YtjnkfpgglhgkaaaDoorMskOk2
import Derived.Test.YtjnkfpgglhgkaaaDoorListImpl
namespace Go.Proofs.YtjnkfpgglhgkaaaDoor.Msk
open Go.RowKit
open Plain
open Ints (Ints Own)

def com (zs : List Int) : ByteArray := ⟨(commas zs).toArray⟩
theorem fits_climb {s lim : Int} {zs : List Int} (h : Climb s lim zs) (hs : 0 ≤ s) (hlim : lim ≤ 1000000) (hn : zs.length ≤ 64) : fitsB zs = true := by
  unfold fitsB
  rw [decide_eq_true (by omega), Bool.and_true]
  rw [List.all_eq_true]
  intro z hz
  obtain ⟨i, hi, rfl⟩ := List.getElem_of_mem hz
  have hb := h.bd hs hi
  rw [show zs.getD i 0 = zs[i] from by simp [hi]] at hb
  unfold inV inB
  simp
  omega
theorem com_size {zs : List Int} (h : fitsB zs = true) : (com zs).size ≤ 1408 := by
  obtain ⟨h1, h2⟩ := fits_in h
  have := commas_len h2 zs.length (Nat.le_refl _)
  rw [List.take_length] at this
  have e : (com zs).size = (commas zs).length := by simp [com, ByteArray.size]
  omega
def mskT (os ls : List Int) : ByteArray := com os ++ ⟨#[32]⟩ ++ com ls
def textV (ok : Bool) (os ls : List Int) : ByteArray := if ok = true then mskT os ls else ⟨#[]⟩
theorem ret_str {a b : ByteArray} (h : a = b) : Ending.returned (.string a) = .returned (.string b) := by rw [h]
set_option maxHeartbeats 2000000 in
theorem spec_text (g : Nat) (v0 v1 : Value) (os ls : List Int) (w : World) (hok : okM os ls = true) (hp : In w g v0 v1) (h2 : Ints w v0 os) (h3 : Ints w v1 ls) :
    Calls Tryd.prog 16 #[.pointer (some ⟨g, 0, none⟩)] w fun e w' => e = .returned (.string (mskT os ls)) ∧ On w w' := by
  obtain ⟨⟨n2, n12⟩, hl, ho, hs⟩ := of_okM hok
  have f2 := fits_climb ho (by omega) (by omega) (by omega)
  have f3 := fits_climb hs (by omega) (by omega) (by omega)
  have s2 := com_size f2
  have s3 := com_size f3
  have g1 : ¬ 9223372036854775807 < (com os).size + 1 := by omega
  have g2 : ¬ 9223372036854775807 < (com os).size + 1 + (com ls).size := by omega
  have E := Lib.hid (show mskT os ls = com os ++ ⟨#[32]⟩ ++ com ls from rfl)
  have h2' := h2
  have h3' := h3
  obtain ⟨a2, cap2, rfl, -⟩ := h2
  obtain ⟨a3, cap3, rfl, -⟩ := h3
  obtain ⟨c2, o2, rfl, hb2, hc2⟩ := slice_of h2' rfl (by omega)
  obtain ⟨c3, o3, rfl, hb3, hc3⟩ := slice_of h3' rfl (by omega)
  have C2 := fun w1 (h : On w w1) => ListSpec.list_some c2 o2 cap2 os w1 (by omega) f2 (h.lts _ hb2) (fun i hi => (h.cell (by exact hb2)).trans (hc2 i hi))
  have C3 := fun w1 (h : On w w1) => ListSpec.list_some c3 o3 cap3 ls w1 (by omega) f3 (h.lts _ hb3) (fun i hi => (h.cell (by exact hb3)).trans (hc3 i hi))
  rw [show (⟨(commas os).toArray⟩ : ByteArray) = com os from rfl] at C2
  rw [show (⟨(commas ls).toArray⟩ : ByteArray) = com ls from rfl] at C3
  generalize com os = t2 at *
  generalize com ls = t3 at *
  obtain ⟨k0, k1⟩ := hp
  have hg : g < w.heap.size := World.block_lt_of_cell? w _ k0
  have D2 := Lib.hid C2
  have D3 := Lib.hid C3
  clear C2 C3 h2' h3' hc2 hc3 ho hs f2 f3 hok hl n2 n12
  go_enter Tryd.func16, Tryd.ntmps16
  go_wp2_with fail
  refine wp_region_onh (by kernel_rfl) (by kernel_rfl) ?_
  repeat (refine rest_step (fun K hK => ?_); go_simp; first | (refine hK _ ?_; clear hK K) | (apply Exists.intro; refine ⟨fun v1 hv1 => ?_, hK _ ?_⟩; (first | with_reducible exact rfl | with_reducible exact ⟨rfl, rfl⟩ | with_reducible exact Calls.on hv1 (D2.out _ hv1) | with_reducible exact Calls.on hv1 (D3.out _ hv1) | (obtain ⟨hc, hf⟩ := bcell hv1; go_simp; first | with_reducible exact rfl | with_reducible exact ⟨rfl, rfl⟩ | exact rfl | exact ⟨rfl, rfl⟩)); clear hK K))
  refine rest_nil ?_
  intro w5 h5
  go_wp2_with fail
  go_ret
  exact ⟨ret_str E.out.symm, h5⟩
set_option maxHeartbeats 2000000 in
theorem spec_MaskText (v0 v1 : Value) (os ls : List Int) (w : World) (q2 : os.length ≤ 1048576) (q3 : ls.length ≤ 1048576) (h2 : Ints w v0 os) (h3 : Ints w v1 ls) :
    Calls Tryd.prog 6 #[.agg #[v0, v1]] w fun e w' => e = .returned (.string (textV (okM os ls) os ls)) ∧ On w w' := by
  have HO := Lib.hid (fun w' (hb : On w w') hp => spec_ok w.heap.size v0 v1 os ls w' q2 q3 hp (h2.below hb) (h3.below hb))
  have HT := Lib.hid (fun hok w' (hb : On w w') hp => spec_text w.heap.size v0 v1 os ls w' hok hp (h2.below hb) (h3.below hb))
  obtain ⟨a2, cap2, rfl, -⟩ := h2
  obtain ⟨a3, cap3, rfl, -⟩ := h3
  cases hok : okM os ls with
  | false =>
    rw [hok] at HO
    have E := Lib.hid (show textV false os ls = ⟨#[]⟩ from rfl)
    go_enter Tryd.func6, Tryd.ntmps6
    go_wp2_with fail
    refine (HO.out _ (by repeat (first | with_reducible exact On.refl _ | apply On.alloc)) ⟨by simp [go_sem], by simp [go_sem]⟩).mono ?_
    rintro r w1 ⟨rfl, h1⟩
    go_wp2_with fail
    go_ret
    exact ⟨ret_str E.out.symm, On.trans (by repeat (first | with_reducible exact On.refl _ | apply On.alloc)) h1⟩
  | true =>
    have HT2 := Lib.hid (HT.out hok)
    rw [hok] at HO
    have E := Lib.hid (show textV true os ls = mskT os ls from rfl)
    generalize mskT os ls = tx at *
    clear HT
    go_enter Tryd.func6, Tryd.ntmps6
    go_wp2_with fail
    refine (HO.out _ (by repeat (first | with_reducible exact On.refl _ | apply On.alloc)) ⟨by simp [go_sem], by simp [go_sem]⟩).mono ?_
    rintro r w1 ⟨rfl, h1⟩
    have P1 : In w1 w.heap.size (.slice a2 os.length cap2) (.slice a3 ls.length cap3) := In.on ⟨by simp [go_sem], by simp [go_sem]⟩ h1
    have HO1 := Lib.hid (On.trans (On.alloc (On.refl w) _) h1)
    have HP1 := Lib.hid P1
    obtain ⟨p0, p1⟩ := P1
    have y1 := World.block_lt_of_cell? w1 _ p0
    clear h1
    go_wp2_with fail
    refine (HT2.out _ HO1.out HP1.out).mono ?_
    rintro r w2 ⟨rfl, h2⟩
    go_wp2_with fail
    go_ret
    exact ⟨ret_str E.out.symm, HO1.out.trans h2⟩
set_option maxHeartbeats 2000000 in
theorem impl_MaskText (v0 v1 : Value) (os ls : List Int) (w : World) (q2 : os.length ≤ 1048576) (q3 : ls.length ≤ 1048576) (h2 : Ints w v0 os) (h3 : Ints w v1 ls) (ht : Lib.TabBelow Tryd.prog w.heap.size w "internal/strconv.uint64pow10" .u64 Lib.pow10Tab) :
    Calls Tryd.prog 8 #[.agg #[v0, v1]] w fun e w' => e = .returned (.string (textV (okM os ls) os ls)) ∧ On w w' := by
  have HO := Lib.hid (fun w' (hb : On w w') => impl_valid v0 v1 os ls w' q2 q3 (h2.below hb) (h3.below hb))
  cases hok : okM os ls with
  | false =>
    obtain ⟨a2, cap2, rfl, -⟩ := h2
    obtain ⟨a3, cap3, rfl, -⟩ := h3
    rw [hok] at HO
    have E := Lib.hid (show textV false os ls = ⟨#[]⟩ from rfl)
    clear ht
    go_enter Tryd.func8, Tryd.ntmps8
    go_wp2_with fail
    refine (HO.out _ (by repeat (first | with_reducible exact On.refl _ | apply On.alloc))).mono ?_
    rintro r w1 ⟨rfl, h1⟩
    go_wp2_with fail
    go_ret
    exact ⟨ret_str E.out.symm, On.trans (by repeat (first | with_reducible exact On.refl _ | apply On.alloc)) h1⟩
  | true =>
    rw [hok] at HO
    obtain ⟨⟨n2, n12⟩, hl, ho, hs⟩ := of_okM hok
    have f2 := fits_climb ho (by omega) (by omega) (by omega)
    have f3 := fits_climb hs (by omega) (by omega) (by omega)
    have s2 := com_size f2
    have s3 := com_size f3
    have g1 : ¬ 9223372036854775807 < (com os).size + 1 := by omega
    have g2 : ¬ 9223372036854775807 < (com os).size + 1 + (com ls).size := by omega
    have E := Lib.hid (show textV true os ls = com os ++ ⟨#[32]⟩ ++ com ls from rfl)
    have C2 := fun w1 (h : On w w1) => ListImpl.impl_listText v0 os w1 q2 (h2.below h) (fun w' h' => ht w' (On.trans h h'))
    have C3 := fun w1 (h : On w w1) => ListImpl.impl_listText v1 ls w1 q3 (h3.below h) (fun w' h' => ht w' (On.trans h h'))
    rw [show ListSpec.listT os = com os from ListSpec.listT_yes f2 (by omega)] at C2
    rw [show ListSpec.listT ls = com ls from ListSpec.listT_yes f3 (by omega)] at C3
    obtain ⟨a2, cap2, rfl, -⟩ := h2
    obtain ⟨a3, cap3, rfl, -⟩ := h3
    generalize com os = t2 at *
    generalize com ls = t3 at *
    have D2 := Lib.hid C2
    have D3 := Lib.hid C3
    clear C2 C3 ho hs f2 f3 hok hl n2 n12 ht
    go_enter Tryd.func8, Tryd.ntmps8
    go_wp2_with fail
    refine (HO.out _ (by repeat (first | with_reducible exact On.refl _ | apply On.alloc))).mono ?_
    rintro r w1 ⟨rfl, h1⟩
    have P1 : In w1 w.heap.size (.slice a2 os.length cap2) (.slice a3 ls.length cap3) := In.on ⟨by simp [go_sem], by simp [go_sem]⟩ h1
    have hO1 : On w w1 := On.trans (On.alloc (On.refl w) _) h1
    obtain ⟨p0, p1⟩ := P1
    have y1 := World.block_lt_of_cell? w1 _ p0
    clear h1
    go_wp2_with fail
    refine wp_region_onh (by kernel_rfl) (by kernel_rfl) ?_
    repeat (refine rest_step (fun K hK => ?_); go_simp; first | (refine hK _ ?_; clear hK K) | (apply Exists.intro; refine ⟨fun v1 hv1 => ?_, hK _ ?_⟩; (first | with_reducible exact rfl | with_reducible exact ⟨rfl, rfl⟩ | with_reducible exact Calls.on hv1 (D2.out _ (On.trans hO1 hv1)) | with_reducible exact Calls.on hv1 (D3.out _ (On.trans hO1 hv1)) | (obtain ⟨hc, hf⟩ := bcell hv1; go_simp; first | with_reducible exact rfl | with_reducible exact ⟨rfl, rfl⟩ | exact rfl | exact ⟨rfl, rfl⟩)); clear hK K))
    refine rest_nil ?_
    intro w5 h5
    go_wp2_with fail
    go_ret
    exact ⟨ret_str E.out.symm, On.trans hO1 h5⟩
end Go.Proofs.YtjnkfpgglhgkaaaDoor.Msk
