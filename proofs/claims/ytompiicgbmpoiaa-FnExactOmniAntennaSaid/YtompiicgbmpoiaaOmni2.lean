
/-
  The antenna without losses, in the model and in the program: the whole functions. Condition: at most 1048576 bytes in the name.
-/
import Derived.Test.YtompiicgbmpoiaaOmniW
namespace Go.Proofs.Ytompiicgbmpoiaa.Ant
open Go.RowKit
open Plain
open Ints (Ints Own)
theorem nilR (w : World) (B : Nat) : OwnR B w none 0 0 none 0 0 [] [] := ⟨rfl, rfl, Own.empty B w none 0, Own.empty B w none 0, fun h _ => absurd h (by decide)⟩
set_option maxHeartbeats 4000000 in
theorem spec_OmniAntenna (s : ByteArray) (g : Int) (w : World) (q0 : s.size ≤ 1048576) :
    Calls Try.prog 19 #[.string s, .int .i64 g] w fun e w' => ∃ a2 c2 a3 c3, e = .returned (.tuple #[.agg #[.string (omT (omB s g) s), .int .i64 (omG (omB s g) g), .slice a2 (omL (omB s g) 36).length c2, .slice a3 (omL (omB s g) 19).length c3], .int .i64 (omC s g)]) ∧ OwnR w.heap.size w' a2 (omL (omB s g) 36).length c2 a3 (omL (omB s g) 19).length c3 (omL (omB s g) 36) (omL (omB s g) 19) ∧ On w w' := by
  cases h1 : nameB s.data.toList with
  | false =>
    have HN := Lib.hid (show ∀ w, Calls Try.prog 43 #[.string s] w (fun e w' => e = .returned (.bool false) ∧ w = w') from fun w => by have := Text1.spec_l01Name s w q0; rw [h1] at this; exact this)
    obtain ⟨e1, e2⟩ := om_1 (g := g) h1
    rw [e1, e2]
    obtain ⟨o1, o2, o3⟩ := om_no s g 36
    obtain ⟨-, -, o4⟩ := om_no s g 19
    rw [o1, o2, o3, o4]
    clear e1 e2 o1 o2 o3 o4
    go_enter Try.func19, Try.ntmps19
    go_wp2_with (go_at_call 43; refine (HN.out _).mono ?_; rintro e w' ⟨rfl, rfl⟩)
    refine bodyPost_ret (v := .tuple #[.agg #[.string ⟨#[]⟩, .int .i64 0, .slice none 0 0, .slice none 0 0], .int .i64 1]) (by simp [results, Try.results19, go_sem]) rfl ⟨_, _, _, _, rfl, nilR _ _, ?_⟩
    repeat (first | with_reducible exact On.refl _ | apply On.alloc | apply On.drew | apply On.drewN | refine On.setCell ?_ (by (try simp) <;> omega) _)
  | true =>
    cases h2 : inB g (-60000) 60000 with
    | false =>
      have HN := Lib.hid (show ∀ w, Calls Try.prog 43 #[.string s] w (fun e w' => e = .returned (.bool true) ∧ w = w') from fun w => by have := Text1.spec_l01Name s w q0; rw [h1] at this; exact this)
      have HG := Lib.hid (show ∀ w, Calls Try.prog 44 #[.int .i64 g] w (fun e w' => e = .returned (.bool false) ∧ w = w') from fun w => by have := spec_gain g w; rw [h2] at this; exact this)
      obtain ⟨e1, e2⟩ := om_2 h1 h2
      rw [e1, e2]
      obtain ⟨o1, o2, o3⟩ := om_no s g 36
      obtain ⟨-, -, o4⟩ := om_no s g 19
      rw [o1, o2, o3, o4]
      clear e1 e2 o1 o2 o3 o4
      go_enter Try.func19, Try.ntmps19
      go_wp2_with (first | (go_at_call 43; refine (HN.out _).mono ?_; rintro e w' ⟨rfl, rfl⟩) | (go_at_call 44; refine (HG.out _).mono ?_; rintro e w' ⟨rfl, rfl⟩))
      refine bodyPost_ret (v := .tuple #[.agg #[.string ⟨#[]⟩, .int .i64 0, .slice none 0 0, .slice none 0 0], .int .i64 2]) (by simp [results, Try.results19, go_sem]) rfl ⟨_, _, _, _, rfl, nilR _ _, ?_⟩
      repeat (first | with_reducible exact On.refl _ | apply On.alloc | apply On.drew | apply On.drewN | refine On.setCell ?_ (by (try simp) <;> omega) _)
    | true =>
      obtain ⟨e1, e2⟩ := om_0 h1 h2
      rw [e1, e2]
      obtain ⟨o1, o2, o3⟩ := om_yes s g 36
      obtain ⟨-, -, o4⟩ := om_yes s g 19
      rw [o1, o2, o3, o4, List.length_replicate, List.length_replicate]
      clear e1 e2 o1 o2 o3 o4
      exact spec_omni s g w q0 h1 h2
set_option maxHeartbeats 4000000 in
theorem impl_OmniAntenna (s : ByteArray) (g : Int) (w : World) (q0 : s.size ≤ 1048576) :
    Calls Try.prog 20 #[.string s, .int .i64 g] w fun e w' => ∃ a2 c2 a3 c3, e = .returned (.tuple #[.agg #[.string (omT (omB s g) s), .int .i64 (omG (omB s g) g), .slice a2 (omL (omB s g) 36).length c2, .slice a3 (omL (omB s g) 19).length c3], .int .i64 (omC s g)]) ∧ OwnR w.heap.size w' a2 (omL (omB s g) 36).length c2 a3 (omL (omB s g) 19).length c3 (omL (omB s g) 36) (omL (omB s g) 19) ∧ On w w' := by
  cases h1 : nameB s.data.toList with
  | false =>
    have HN := Lib.hid (show ∀ w, Calls Try.prog 45 #[.string s] w (fun e w' => e = .returned (.bool false) ∧ w = w') from fun w => by have := Text1.impl_isName s w q0; rw [h1] at this; exact this)
    obtain ⟨e1, e2⟩ := om_1 (g := g) h1
    rw [e1, e2]
    obtain ⟨o1, o2, o3⟩ := om_no s g 36
    obtain ⟨-, -, o4⟩ := om_no s g 19
    rw [o1, o2, o3, o4]
    clear e1 e2 o1 o2 o3 o4
    go_enter Try.func20, Try.ntmps20
    go_wp2_with (go_at_call 45; refine (HN.out _).mono ?_; rintro e w' ⟨rfl, rfl⟩)
    refine bodyPost_ret (v := .tuple #[.agg #[.string ⟨#[]⟩, .int .i64 0, .slice none 0 0, .slice none 0 0], .int .i64 1]) (by simp [results, Try.results20, go_sem]) rfl ⟨_, _, _, _, rfl, nilR _ _, ?_⟩
    repeat (first | with_reducible exact On.refl _ | apply On.alloc | apply On.drew | apply On.drewN | refine On.setCell ?_ (by (try simp) <;> omega) _)
  | true =>
    cases h2 : inB g (-60000) 60000 with
    | false =>
      have HN := Lib.hid (show ∀ w, Calls Try.prog 45 #[.string s] w (fun e w' => e = .returned (.bool true) ∧ w = w') from fun w => by have := Text1.impl_isName s w q0; rw [h1] at this; exact this)
      have HG := Lib.hid (show ∀ w, Calls Try.prog 46 #[.int .i64 g] w (fun e w' => e = .returned (.bool false) ∧ w = w') from fun w => by have := impl_isGain g w; rw [h2] at this; exact this)
      obtain ⟨e1, e2⟩ := om_2 h1 h2
      rw [e1, e2]
      obtain ⟨o1, o2, o3⟩ := om_no s g 36
      obtain ⟨-, -, o4⟩ := om_no s g 19
      rw [o1, o2, o3, o4]
      clear e1 e2 o1 o2 o3 o4
      go_enter Try.func20, Try.ntmps20
      go_wp2_with (first | (go_at_call 45; refine (HN.out _).mono ?_; rintro e w' ⟨rfl, rfl⟩) | (go_at_call 46; refine (HG.out _).mono ?_; rintro e w' ⟨rfl, rfl⟩))
      refine bodyPost_ret (v := .tuple #[.agg #[.string ⟨#[]⟩, .int .i64 0, .slice none 0 0, .slice none 0 0], .int .i64 2]) (by simp [results, Try.results20, go_sem]) rfl ⟨_, _, _, _, rfl, nilR _ _, ?_⟩
      repeat (first | with_reducible exact On.refl _ | apply On.alloc | apply On.drew | apply On.drewN | refine On.setCell ?_ (by (try simp) <;> omega) _)
    | true =>
      have HN := Lib.hid (show ∀ w, Calls Try.prog 45 #[.string s] w (fun e w' => e = .returned (.bool true) ∧ w = w') from fun w => by have := Text1.impl_isName s w q0; rw [h1] at this; exact this)
      have HG := Lib.hid (show ∀ w, Calls Try.prog 46 #[.int .i64 g] w (fun e w' => e = .returned (.bool true) ∧ w = w') from fun w => by have := impl_isGain g w; rw [h2] at this; exact this)
      obtain ⟨e1, e2⟩ := om_0 h1 h2
      rw [e1, e2]
      obtain ⟨o1, o2, o3⟩ := om_yes s g 36
      obtain ⟨-, -, o4⟩ := om_yes s g 19
      rw [o1, o2, o3, o4, List.length_replicate, List.length_replicate]
      clear e1 e2 o1 o2 o3 o4
      have HC := Lib.hid (fun w => antennaWith s g w)
      go_enter Try.func20, Try.ntmps20
      go_wp2_with (first | (go_at_call 45; refine (HN.out _).mono ?_; rintro e w' ⟨rfl, rfl⟩) | (go_at_call 46; refine (HG.out _).mono ?_; rintro e w' ⟨rfl, rfl⟩))
      refine (HC.out _).mono ?_
      rintro e w1 ⟨a2, c2, a3, c3, rfl, ho, h3⟩
      have h3' : On w w1 := by refine On.trans ?_ h3; repeat (first | with_reducible exact On.refl _ | apply On.alloc | apply On.drew | apply On.drewN | refine On.setCell ?_ (by (try simp) <;> omega) _)
      have z1 : w.heap.size < w1.heap.size := by have := h3.size; simp at this; omega
      obtain ⟨hc3, hf3⟩ := bcell h3
      have HO := Lib.hid (ho.mono (B' := w.heap.size + 1) (by simp))
      have H3 := Lib.hid h3'
      clear ho h3 h3'
      go_wp2_with fail
      refine bodyPost_ret (v := .tuple #[.agg #[.string s, .int .i64 g, .slice a2 36 c2, .slice a3 19 c3], .int .i64 0]) (by simp [results, Try.results20, go_sem, hc3]) rfl ⟨_, _, _, _, rfl, ?_, ?_⟩
      · refine OwnR.mono (B := w.heap.size + 1) ?_ (by omega)
        obtain ⟨l0, l1, p0, p1, pd⟩ := HO.out
        exact ⟨l0, l1, by repeat (first | with_reducible exact p0 | refine Own.setCell ?_ (by (try simp) <;> omega) _), by repeat (first | with_reducible exact p1 | refine Own.setCell ?_ (by (try simp) <;> omega) _), pd⟩
      · repeat (first | with_reducible exact H3.out | refine On.setCell ?_ (by (try simp) <;> omega) _)
theorem spec_OmniAntennaI (s : ByteArray) (g : Int) (w : World) (q0 : s.size ≤ 1048576) :
    Calls Try.prog 19 #[.string s, .int .i64 g] w fun e w' => ∃ a2 c2 a3 c3, e = .returned (.tuple #[.agg #[.string (omT (omB s g) s), .int .i64 (omG (omB s g) g), .slice a2 (omL (omB s g) 36).length c2, .slice a3 (omL (omB s g) 19).length c3], .int .i64 (omC s g)]) ∧ Ints w' (.slice a2 (omL (omB s g) 36).length c2) (omL (omB s g) 36) ∧ Ints w' (.slice a3 (omL (omB s g) 19).length c3) (omL (omB s g) 19) ∧ On w w' :=
  (spec_OmniAntenna s g w q0).mono fun _ _ ⟨a2, c2, a3, c3, he, ho, h⟩ => ⟨a2, c2, a3, c3, he, ho.ints2, ho.ints3, h⟩
end Go.Proofs.Ytompiicgbmpoiaa.Ant
