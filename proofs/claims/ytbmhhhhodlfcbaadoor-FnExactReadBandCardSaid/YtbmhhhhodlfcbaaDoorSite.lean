
/-
  When a site is valid, and its text, in the model and in the program. Conditions: at most 1048576 bytes in a name; for the program's, what the library's variable holds.
-/
import Derived.Test.YtbmhhhhodlfcbaaDoorSite0
import Derived.Test.YtbmhhhhodlfcbaaDoorText1
import Derived.Test.YtbmhhhhodlfcbaaDoorPointText
import Derived.Test.YtbmhhhhodlfcbaaDoorOnH
namespace Go.Proofs.YtbmhhhhodlfcbaaDoor.Site
open Go.RowKit
open Plain
open Point (okB of_okB)
open PointText (dec ptT ptT_yes dec_size ret_str)

def okS (s t : ByteArray) (x y : Int) : Bool := nameB s.data.toList && (nameB t.data.toList && okB x y)
def siteT (s t : ByteArray) (x y : Int) : ByteArray := if okS s t x y then s ++ ⟨#[32]⟩ ++ t ++ ⟨#[32]⟩ ++ ptT x y else ⟨#[]⟩
theorem siteT_no {s t : ByteArray} {x y : Int} (h : okS s t x y = false) : siteT s t x y = ⟨#[]⟩ := if_neg (by rw [h]; simp)
theorem siteT_yes {s t : ByteArray} {x y : Int} (h : okS s t x y = true) : siteT s t x y = s ++ ⟨#[32]⟩ ++ t ++ ⟨#[32]⟩ ++ ptT x y := if_pos h
theorem of_okS {s t : ByteArray} {x y : Int} (h : okS s t x y = true) : nameB s.data.toList = true ∧ nameB t.data.toList = true ∧ okB x y = true := by
  unfold okS at h
  rw [Bool.and_eq_true, Bool.and_eq_true] at h
  exact h
theorem pt_size {x y : Int} (k : okB x y = true) : (ptT x y).size ≤ 100 := by
  obtain ⟨x0, x1, y0, y1⟩ := of_okB k
  have l1 := dec_size x0 x1
  have l2 := dec_size y0 y1
  rw [ptT_yes k, ByteArray.size_append, ByteArray.size_append]
  show (dec x).size + 1 + (dec y).size ≤ 100
  omega

set_option maxHeartbeats 2000000 in
theorem spec_ok (g : Nat) (s t : ByteArray) (x y : Int) (w : World) (q0 : s.size ≤ 1048576) (q1 : t.size ≤ 1048576) (hp : In w g s t x y) :
    Calls Tryd.prog 54 #[.pointer (some ⟨g, 0, none⟩)] w fun e w' => e = .returned (.bool (okS s t x y)) ∧ On w w' := by
  have en := Lib.hid (show okS s t x y = (nameB s.data.toList && (nameB t.data.toList && okB x y)) from rfl)
  have hN0 := fun w => Text1.spec_l01Name s w q0
  have hN1 := fun w => Text1.spec_l01Name t w q1
  have hOK := fun w => Point.spec_ok x y w
  have hg := hp.lt
  obtain ⟨k0, k1, k2, k3⟩ := hp
  generalize nameB s.data.toList = b0 at *
  generalize nameB t.data.toList = b1 at *
  generalize okB x y = b2 at *
  have HN0 := Lib.hid hN0
  have HN1 := Lib.hid hN1
  have HOK := Lib.hid hOK
  clear hN0 hN1 hOK q0 q1
  cases b0 <;> cases b1 <;> (
    go_enter Tryd.func54, Tryd.ntmps54
    go_wp2_with (first
      | (go_at_call 78; with_reducible refine (HN0.out _).mono ?_; rintro e w' ⟨rfl, rfl⟩)
      | (go_at_call 78; with_reducible refine (HN1.out _).mono ?_; rintro e w' ⟨rfl, rfl⟩)
      | (go_at_call 93; refine (HOK.out _).mono ?_; rintro e w9 ⟨rfl, h9⟩))
    go_ret
    exact ⟨ret_bool (by rw [en.out]; simp), by repeat (first | with_reducible exact On.refl _ | apply On.alloc | apply On.drewN | apply On.drew | refine On.setCell ?_ (by (try simp) <;> omega) _ | refine On.trans ?_ ‹On _ _›)⟩)

set_option maxHeartbeats 2000000 in
theorem impl_ok (s t : ByteArray) (x y : Int) (w : World) (q0 : s.size ≤ 1048576) (q1 : t.size ≤ 1048576) :
    Calls Tryd.prog 57 #[.agg #[.string s, .string t, .int .i64 x, .int .i64 y]] w fun e w' => e = .returned (.bool (okS s t x y)) ∧ On w w' := by
  have en := Lib.hid (show okS s t x y = (nameB s.data.toList && (nameB t.data.toList && okB x y)) from rfl)
  have hN0 := fun w => Text1.impl_isName s w q0
  have hN1 := fun w => Text1.impl_isName t w q1
  have hOK := fun w => Point.impl_ok x y w
  generalize nameB s.data.toList = b0 at *
  generalize nameB t.data.toList = b1 at *
  generalize okB x y = b2 at *
  have HN0 := Lib.hid hN0
  have HN1 := Lib.hid hN1
  have HOK := Lib.hid hOK
  clear hN0 hN1 hOK q0 q1
  cases b0 <;> cases b1 <;> (
    go_enter Tryd.func57, Tryd.ntmps57
    go_wp2_with (first
      | (go_at_call 82; with_reducible refine (HN0.out _).mono ?_; rintro e w' ⟨rfl, rfl⟩)
      | (go_at_call 82; with_reducible refine (HN1.out _).mono ?_; rintro e w' ⟨rfl, rfl⟩)
      | (go_at_call 95; refine (HOK.out _).mono ?_; rintro e w9 ⟨rfl, h9⟩))
    go_ret
    exact ⟨ret_bool (by rw [en.out]; simp), by repeat (first | with_reducible exact On.refl _ | apply On.alloc | apply On.drewN | apply On.drew | refine On.setCell ?_ (by (try simp) <;> omega) _ | refine On.trans ?_ ‹On _ _›)⟩)

set_option maxHeartbeats 2000000 in
theorem spec_text (g : Nat) (s t : ByteArray) (x y : Int) (w : World) (q0 : s.size ≤ 1048576) (q1 : t.size ≤ 1048576) (hp : In w g s t x y) (k : okB x y = true) :
    Calls Tryd.prog 55 #[.pointer (some ⟨g, 0, none⟩)] w fun e w' => e = .returned (.string (s ++ ⟨#[32]⟩ ++ t ++ ⟨#[32]⟩ ++ ptT x y)) ∧ On w w' := by
  have hg := hp.lt
  obtain ⟨k0, k1, k2, k3⟩ := hp
  have hs := pt_size k
  have hL := fun w => PointText.spec_l03Text x y w k
  generalize ptT x y = u at *
  have HL := Lib.hid hL
  clear hL k
  have g1 : ¬ 9223372036854775807 < s.size + 1 := by omega
  have g2 : ¬ 9223372036854775807 < s.size + 1 + t.size := by omega
  have g3 : ¬ 9223372036854775807 < s.size + 1 + t.size + 1 := by omega
  have g4 : ¬ 9223372036854775807 < s.size + 1 + t.size + 1 + u.size := by omega
  go_enter Tryd.func55, Tryd.ntmps55
  go_wp2_with fail
  refine wp_region_onh (by kernel_rfl) (by kernel_rfl) ?_
  repeat (refine rest_step (fun K hK => ?_); go_simp; first | (refine hK _ ?_; clear hK K) | (apply Exists.intro; refine ⟨fun v1 hv1 => ?_, hK _ ?_⟩; (first | with_reducible exact rfl | with_reducible exact ⟨rfl, rfl⟩ | with_reducible exact Calls.on hv1 (HL.out _) | (obtain ⟨hc, hf⟩ := bcell hv1; go_simp; first | with_reducible exact rfl | with_reducible exact ⟨rfl, rfl⟩ | exact rfl | exact ⟨rfl, rfl⟩)); clear hK K))
  refine rest_nil ?_
  intro w1 h1
  go_wp2_with fail
  go_ret
  exact ⟨rfl, h1⟩

theorem spec_SiteText (s t : ByteArray) (x y : Int) (w : World) (q0 : s.size ≤ 1048576) (q1 : t.size ≤ 1048576) :
    Calls Tryd.prog 20 #[.agg #[.string s, .string t, .int .i64 x, .int .i64 y]] w fun e w' => e = .returned (.string (siteT s t x y)) ∧ On w w' := by
  have HV := Lib.hid (fun w' hp => spec_ok w.heap.size s t x y w' q0 q1 hp)
  cases k : okS s t x y with
  | false =>
    rw [k] at HV
    rw [siteT_no k]
    clear k
    go_enter Tryd.func20, Tryd.ntmps20
    go_wp2_with fail
    refine (HV.out _ ⟨by simp [go_sem], by simp [go_sem], by simp [go_sem], by simp [go_sem]⟩).mono ?_
    rintro e w1 ⟨rfl, h1⟩
    go_wp2_with fail
    go_ret
    exact ⟨rfl, by repeat (first | with_reducible exact On.refl _ | apply On.alloc | apply On.drewN | apply On.drew | refine On.setCell ?_ (by (try simp) <;> omega) _ | refine On.trans ?_ h1)⟩
  | true =>
    rw [k] at HV
    rw [siteT_yes k]
    have HT := Lib.hid (fun w' hp => spec_text w.heap.size s t x y w' q0 q1 hp (of_okS k).2.2)
    generalize s ++ ⟨#[32]⟩ ++ t ++ ⟨#[32]⟩ ++ ptT x y = u at *
    clear k
    go_enter Tryd.func20, Tryd.ntmps20
    go_wp2_with fail
    refine (HV.out _ ⟨by simp [go_sem], by simp [go_sem], by simp [go_sem], by simp [go_sem]⟩).mono ?_
    rintro e w1 ⟨rfl, h1⟩
    have K1 : In w1 w.heap.size s t x y := In.on ⟨by simp [go_sem], by simp [go_sem], by simp [go_sem], by simp [go_sem]⟩ h1
    go_wp2_with fail
    refine (HT.out _ K1).mono ?_
    rintro e w2 ⟨rfl, h2⟩
    go_wp2_with fail
    go_ret
    exact ⟨rfl, by repeat (first | with_reducible exact On.refl _ | apply On.alloc | apply On.drewN | apply On.drew | refine On.setCell ?_ (by (try simp) <;> omega) _ | refine On.trans ?_ h2 | refine On.trans ?_ h1)⟩

set_option maxHeartbeats 2000000 in
theorem impl_SiteText (s t : ByteArray) (x y : Int) (w : World) (q0 : s.size ≤ 1048576) (q1 : t.size ≤ 1048576) (ht : Lib.TabBelow Tryd.prog w.heap.size w "internal/strconv.uint64pow10" .u64 Lib.pow10Tab) :
    Calls Tryd.prog 22 #[.agg #[.string s, .string t, .int .i64 x, .int .i64 y]] w fun e w' => e = .returned (.string (siteT s t x y)) ∧ On w w' := by
  have HV := Lib.hid (fun w' => impl_ok s t x y w' q0 q1)
  cases k : okS s t x y with
  | false =>
    rw [k] at HV
    rw [siteT_no k]
    clear k
    go_enter Tryd.func22, Tryd.ntmps22
    go_wp2_with fail
    refine (HV.out _).mono ?_
    rintro e w1 ⟨rfl, h1⟩
    go_wp2_with fail
    go_ret
    exact ⟨rfl, by repeat (first | with_reducible exact On.refl _ | apply On.alloc | apply On.drewN | apply On.drew | refine On.setCell ?_ (by (try simp) <;> omega) _ | refine On.trans ?_ h1)⟩
  | true =>
    rw [k] at HV
    rw [siteT_yes k]
    have hs := pt_size (of_okS k).2.2
    have hT := fun w' (ho : On w w') => PointText.impl_pointText x y w' (fun w'' hb => ht w'' (On.trans ho hb))
    generalize ptT x y = u at *
    have HT := Lib.hid hT
    clear k hT ht
    have g1 : ¬ 9223372036854775807 < s.size + 1 := by omega
    have g2 : ¬ 9223372036854775807 < s.size + 1 + t.size := by omega
    have g3 : ¬ 9223372036854775807 < s.size + 1 + t.size + 1 := by omega
    have g4 : ¬ 9223372036854775807 < s.size + 1 + t.size + 1 + u.size := by omega
    go_enter Tryd.func22, Tryd.ntmps22
    go_wp2_with fail
    refine (HV.out _).mono ?_
    rintro e w1 ⟨rfl, h1⟩
    have K1 : In w1 w.heap.size s t x y := In.on ⟨by simp [go_sem], by simp [go_sem], by simp [go_sem], by simp [go_sem]⟩ h1
    have z1 := K1.lt
    obtain ⟨k0, k1, k2, k3⟩ := K1
    have hO1 : On w w1 := by repeat (first | with_reducible exact On.refl _ | apply On.alloc | apply On.drewN | apply On.drew | refine On.setCell ?_ (by (try simp) <;> omega) _ | refine On.trans ?_ h1)
    clear h1
    go_wp2_with fail
    refine wp_region_onh (by kernel_rfl) (by kernel_rfl) ?_
    repeat (refine rest_step (fun K hK => ?_); go_simp; first | (refine hK _ ?_; clear hK K) | (apply Exists.intro; refine ⟨fun v1 hv1 => ?_, hK _ ?_⟩; (first | with_reducible exact rfl | with_reducible exact ⟨rfl, rfl⟩ | with_reducible exact Calls.on hv1 (HT.out _ (hO1.trans hv1)) | (obtain ⟨hc, hf⟩ := bcell hv1; go_simp; first | with_reducible exact rfl | with_reducible exact ⟨rfl, rfl⟩ | exact rfl | exact ⟨rfl, rfl⟩)); clear hK K))
    refine rest_nil ?_
    intro w2 h2
    go_wp2_with fail
    go_ret
    exact ⟨rfl, by repeat (first | with_reducible exact On.refl _ | apply On.alloc | apply On.drewN | apply On.drew | refine On.setCell ?_ (by (try simp) <;> omega) _ | refine On.trans ?_ h2 | refine On.trans ?_ hO1)⟩

end Go.Proofs.YtbmhhhhodlfcbaaDoor.Site
