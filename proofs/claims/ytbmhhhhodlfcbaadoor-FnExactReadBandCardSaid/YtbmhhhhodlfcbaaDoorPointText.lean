
/-
  What the texts of points are, in the model and in the program. Condition: the library's table of powers of ten holds what its text lays.
-/
import Derived.Test.YtbmhhhhodlfcbaaDoorPoint
import Derived.Test.YtbmhhhhodlfcbaaDoorDec
namespace Go.Proofs.YtbmhhhhodlfcbaaDoor.PointText
open Go.RowKit
open Plain
open Point

def dec (x : Int) : ByteArray := ⟨(Lib.itoa x).toArray⟩
theorem dec_size {x : Int} (h0 : 0 ≤ x) (h1 : x ≤ 200000) : (dec x).size ≤ 20 := by
  have := (itoa_len x h0 (by omega)).2
  simpa [dec, ByteArray.size] using this
def ptT (x y : Int) : ByteArray := if okB x y = true then dec x ++ ⟨#[44]⟩ ++ dec y else ⟨#[]⟩
theorem ptT_no {x y : Int} (h : okB x y = false) : ptT x y = ⟨#[]⟩ := if_neg (by rw [h]; simp)
theorem ptT_yes {x y : Int} (h : okB x y = true) : ptT x y = dec x ++ ⟨#[44]⟩ ++ dec y := if_pos h
theorem ret_str {a b : ByteArray} (h : a = b) : Ending.returned (.string a) = .returned (.string b) := by rw [h]
theorem spec_l03Text (x y : Int) (w : World) (k : okB x y = true) :
    Calls Tryd.prog 94 #[.agg #[.int .i64 x, .int .i64 y]] w fun e w' => e = .returned (.string (ptT x y)) ∧ On w w' := by
  obtain ⟨x0, x1, y0, y1⟩ := of_okB k
  have c1 := fun w => Dec.spec_dec x w (by omega) (by omega)
  have c2 := fun w => Dec.spec_dec y w (by omega) (by omega)
  have l1 := dec_size x0 x1
  have l2 := dec_size y0 y1
  obtain ⟨s, hs⟩ : ∃ s, s = dec x := ⟨_, rfl⟩
  obtain ⟨t, ht⟩ : ∃ t, t = dec y := ⟨_, rfl⟩
  have H := Lib.hid (ptT_yes k)
  rw [show (⟨(Lib.itoa x).toArray⟩ : ByteArray) = dec x from rfl, ← hs] at c1
  rw [show (⟨(Lib.itoa y).toArray⟩ : ByteArray) = dec y from rfl, ← ht] at c2
  rw [← hs, ← ht] at H
  rw [← hs] at l1
  rw [← ht] at l2
  have C1 := Lib.hid c1
  have C2 := Lib.hid c2
  have g1 : ¬ 9223372036854775807 < s.size + 1 := by omega
  have g2 : ¬ 9223372036854775807 < s.size + 1 + t.size := by omega
  clear c1 c2 hs ht x0 x1 y0 y1 k
  go_enter Tryd.func94, Tryd.ntmps94
  go_wp2_with fail
  refine wp_region_on (by kernel_rfl) (by kernel_rfl) ?_
  repeat (refine wpQuiet_step (fun K hK => ?_); go_simp; first | (refine hK _ ?_; clear hK K) | (apply Exists.intro; refine ⟨fun v1 hv1 => ?_, hK _ ?_⟩; (first | with_reducible exact rfl | with_reducible exact ⟨rfl, rfl⟩ | with_reducible exact Calls.on hv1 (C1.out _) | with_reducible exact Calls.on hv1 (C2.out _) | (obtain ⟨hc, hf⟩ := bcell hv1; go_simp; first | exact rfl | exact ⟨rfl, rfl⟩)); clear hK K))
  refine wpQuiet_nil ?_
  intro w1 h1
  go_wp2_with fail
  go_ret
  exact ⟨ret_str H.out.symm, by repeat (first | exact On.refl _ | apply On.alloc | refine On.trans ?_ h1)⟩
theorem impl_pointText (x y : Int) (w : World) (ht : Lib.TabBelow Tryd.prog w.heap.size w "internal/strconv.uint64pow10" .u64 Lib.pow10Tab) :
    Calls Tryd.prog 58 #[.agg #[.int .i64 x, .int .i64 y]] w fun e w' => e = .returned (.string (ptT x y)) ∧ On w w' := by
  cases k : okB x y with
  | false =>
    have H := Lib.hid (ptT_no k)
    clear ht
    go_enter Tryd.func58, Tryd.ntmps58
    go_wp2_with fail
    refine (impl_ok x y _).mono ?_
    rintro e w1 ⟨rfl, h1⟩
    go_wp2_with fail
    go_ret
    exact ⟨ret_str H.out.symm, by repeat (first | exact On.refl _ | apply On.alloc | refine On.trans ?_ h1)⟩
  | true =>
    obtain ⟨x0, x1, y0, y1⟩ := of_okB k
    have c1 := fun (w1 : World) (h : On w w1) => Dec.impl_decimal x w1 (by omega) (by omega) (ht w1 h)
    have c2 := fun (w1 : World) (h : On w w1) => Dec.impl_decimal y w1 (by omega) (by omega) (ht w1 h)
    have l1 := dec_size x0 x1
    have l2 := dec_size y0 y1
    obtain ⟨s, hs⟩ : ∃ s, s = dec x := ⟨_, rfl⟩
    obtain ⟨t, ht2⟩ : ∃ t, t = dec y := ⟨_, rfl⟩
    have H := Lib.hid (ptT_yes k)
    rw [show (⟨(Lib.itoa x).toArray⟩ : ByteArray) = dec x from rfl, ← hs] at c1
    rw [show (⟨(Lib.itoa y).toArray⟩ : ByteArray) = dec y from rfl, ← ht2] at c2
    rw [← hs, ← ht2] at H
    rw [← hs] at l1
    rw [← ht2] at l2
    have C1 := Lib.hid c1
    have C2 := Lib.hid c2
    have HOK := Lib.hid (fun w => impl_ok x y w)
    rw [k] at HOK
    have g1 : ¬ 9223372036854775807 < s.size + 1 := by omega
    have g2 : ¬ 9223372036854775807 < s.size + 1 + t.size := by omega
    clear c1 c2 hs ht ht2 x0 x1 y0 y1 k
    go_enter Tryd.func58, Tryd.ntmps58
    go_wp2_with fail
    refine (HOK.out _).mono ?_
    rintro e w1 ⟨rfl, h1⟩
    obtain ⟨hc1, hf1⟩ := bcell h1
    have z1 : w.heap.size < w1.heap.size := by have := h1.size; (try simp at this); omega
    have hO1 : On w w1 := by repeat (first | exact On.refl _ | apply On.alloc | refine On.trans ?_ h1)
    go_wp2_with fail
    refine wp_region_on (by kernel_rfl) (by kernel_rfl) ?_
    repeat (refine wpQuiet_step (fun K hK => ?_); go_simp; first | (refine hK _ ?_; clear hK K) | (apply Exists.intro; refine ⟨fun v1 hv1 => ?_, hK _ ?_⟩; (first | with_reducible exact rfl | with_reducible exact ⟨rfl, rfl⟩ | with_reducible exact Calls.on hv1 (C1.out _ (On.trans hO1 hv1)) | with_reducible exact Calls.on hv1 (C2.out _ (On.trans hO1 hv1)) | (obtain ⟨hc, hf⟩ := bcell hv1; go_simp; first | exact rfl | exact ⟨rfl, rfl⟩)); clear hK K))
    refine wpQuiet_nil ?_
    intro w2 h2
    go_wp2_with fail
    go_ret
    exact ⟨ret_str H.out.symm, On.trans hO1 h2⟩
end Go.Proofs.YtbmhhhhodlfcbaaDoor.PointText
