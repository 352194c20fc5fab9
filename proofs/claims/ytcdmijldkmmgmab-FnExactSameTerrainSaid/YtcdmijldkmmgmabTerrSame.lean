
/-
  Whether two terrains are equal, in the model and in the program. Condition: at most 1048576 heights and classes each in the first one.
-/
import Derived.Test.YtcdmijldkmmgmabSame
import Derived.Test.YtcdmijldkmmgmabTerrOkI
namespace Go.Proofs.Ytcdmijldkmmgmab.Terr
open Go.RowKit
open Plain
open Ints (Ints Own)

def sameT (s x y : Int) (zs cs : List Int) (s2 x2 y2 : Int) (ys ds : List Int) : Bool := s == s2 && (x == x2 && (y == y2 && (decide (zs = ys) && decide (cs = ds))))
theorem sameT_of {s x y s2 x2 y2 : Int} {zs cs ys ds : List Int} {b1 b2 b3 b4 b5 b : Bool} (h1 : (s == s2) = b1) (h2 : (x == x2) = b2) (h3 : (y == y2) = b3) (h4 : decide (zs = ys) = b4) (h5 : decide (cs = ds) = b5) (h : (b1 && (b2 && (b3 && (b4 && b5)))) = b) : sameT s x y zs cs s2 x2 y2 ys ds = b := by unfold sameT; rw [h1, h2, h3, h4, h5, h]
set_option maxHeartbeats 2000000 in
theorem spec_sameT (s x y s2 x2 y2 : Int) (v u v2 u2 : Value) (zs cs ys ds : List Int) (w : World) (hn : zs.length ≤ 1048576) (hm : cs.length ≤ 1048576) (h : Ints w v zs) (k : Ints w u cs) (h2 : Ints w v2 ys) (k2 : Ints w u2 ds) :
    Calls Try.prog 23 #[.agg #[.int .i64 s, .int .i64 x, .int .i64 y, v, u], .agg #[.int .i64 s2, .int .i64 x2, .int .i64 y2, v2, u2]] w fun e w' => e = .returned (.bool (sameT s x y zs cs s2 x2 y2 ys ds)) ∧ On w w' := by
  have HZ := Lib.hid (fun w' (hb : On w w') => Same.spec _ _ zs ys w' hn (h.below hb) (h2.below hb))
  have HC := Lib.hid (fun w' (hb : On w w') => Same.spec _ _ cs ds w' hm (k.below hb) (k2.below hb))
  obtain ⟨a, cap, rfl, -⟩ := h
  obtain ⟨b, dap, rfl, -⟩ := k
  obtain ⟨a2, cap2, rfl, -⟩ := h2
  obtain ⟨b2, dap2, rfl, -⟩ := k2
  cases e1 : s == s2 with
  | false =>
    have en := Lib.hid (show sameT s x y zs cs s2 x2 y2 ys ds = false by unfold sameT; rw [e1]; rfl)
    go_enter Try.func23, Try.ntmps23
    go_wp2_with fail
    go_ret
    exact ⟨ret_bool en.out.symm, by repeat (first | with_reducible exact On.refl _ | apply On.alloc)⟩
  | true =>
    cases e2 : x == x2 with
    | false =>
      have en := Lib.hid (show sameT s x y zs cs s2 x2 y2 ys ds = false by unfold sameT; rw [e1, e2]; simp)
      go_enter Try.func23, Try.ntmps23
      go_wp2_with fail
      go_ret
      exact ⟨ret_bool en.out.symm, by repeat (first | with_reducible exact On.refl _ | apply On.alloc)⟩
    | true =>
      cases e3 : y == y2 with
      | false =>
        have en := Lib.hid (show sameT s x y zs cs s2 x2 y2 ys ds = false by unfold sameT; rw [e1, e2, e3]; simp)
        go_enter Try.func23, Try.ntmps23
        go_wp2_with fail
        go_ret
        exact ⟨ret_bool en.out.symm, by repeat (first | with_reducible exact On.refl _ | apply On.alloc)⟩
      | true =>
        cases e4 : decide (zs = ys) with
        | false =>
          have en := Lib.hid (show sameT s x y zs cs s2 x2 y2 ys ds = false by unfold sameT; rw [e1, e2, e3, e4]; simp)
          have HZ2 := Lib.hid (show ∀ w', On w w' → Calls _ _ _ w' (fun e w'' => e = .returned (.bool false) ∧ On w' w'') from fun w' hb => by have := HZ.out w' hb; rw [e4] at this; exact this)
          go_enter Try.func23, Try.ntmps23
          go_wp2_with fail
          refine (HZ2.out _ (by repeat (first | with_reducible exact On.refl _ | with_reducible exact Below.refl _ _ | apply On.alloc))).mono ?_
          rintro e w1 ⟨rfl, h1⟩
          obtain ⟨hc1, hf1⟩ := bcell h1
          obtain ⟨y1', y2'⟩ : w.heap.size < w1.heap.size ∧ w.heap.size + 1 < w1.heap.size := by have := h1.size; simp at this; omega
          have HO1 := Lib.hid (show On w w1 by repeat (first | with_reducible exact On.refl _ | apply On.alloc | refine On.trans ?_ h1))
          go_wp2_with fail
          go_ret
          exact ⟨ret_bool en.out.symm, HO1.out⟩
        | true =>
          cases e5 : decide (cs = ds) with
          | false =>
            have en := Lib.hid (show sameT s x y zs cs s2 x2 y2 ys ds = false by unfold sameT; rw [e1, e2, e3, e4, e5]; simp)
            have HZ2 := Lib.hid (show ∀ w', On w w' → Calls _ _ _ w' (fun e w'' => e = .returned (.bool true) ∧ On w' w'') from fun w' hb => by have := HZ.out w' hb; rw [e4] at this; exact this)
            have HC2 := Lib.hid (show ∀ w', On w w' → Calls _ _ _ w' (fun e w'' => e = .returned (.bool false) ∧ On w' w'') from fun w' hb => by have := HC.out w' hb; rw [e5] at this; exact this)
            go_enter Try.func23, Try.ntmps23
            go_wp2_with fail
            refine (HZ2.out _ (by repeat (first | with_reducible exact On.refl _ | with_reducible exact Below.refl _ _ | apply On.alloc))).mono ?_
            rintro e w1 ⟨rfl, h1⟩
            obtain ⟨hc1, hf1⟩ := bcell h1
            obtain ⟨y1', y2'⟩ : w.heap.size < w1.heap.size ∧ w.heap.size + 1 < w1.heap.size := by have := h1.size; simp at this; omega
            have HO1 := Lib.hid (show On w w1 by repeat (first | with_reducible exact On.refl _ | apply On.alloc | refine On.trans ?_ h1))
            go_wp2_with fail
            refine (HC2.out _ HO1.out).mono ?_
            rintro e w2 ⟨rfl, h2⟩
            go_wp2_with fail
            go_ret
            exact ⟨ret_bool en.out.symm, HO1.out.trans h2⟩
          | true =>
            have en := Lib.hid (sameT_of (s := s) (x := x) (y := y) (s2 := s2) (x2 := x2) (y2 := y2) (zs := zs) (cs := cs) (ys := ys) (ds := ds) e1 e2 e3 e4 e5 rfl)
            have HZ2 := Lib.hid (show ∀ w', On w w' → Calls _ _ _ w' (fun e w'' => e = .returned (.bool true) ∧ On w' w'') from fun w' hb => by have := HZ.out w' hb; rw [e4] at this; exact this)
            have HC2 := Lib.hid (show ∀ w', On w w' → Calls _ _ _ w' (fun e w'' => e = .returned (.bool true) ∧ On w' w'') from fun w' hb => by have := HC.out w' hb; rw [e5] at this; exact this)
            go_enter Try.func23, Try.ntmps23
            go_wp2_with fail
            refine (HZ2.out _ (by repeat (first | with_reducible exact On.refl _ | with_reducible exact Below.refl _ _ | apply On.alloc))).mono ?_
            rintro e w1 ⟨rfl, h1⟩
            obtain ⟨hc1, hf1⟩ := bcell h1
            obtain ⟨y1', y2'⟩ : w.heap.size < w1.heap.size ∧ w.heap.size + 1 < w1.heap.size := by have := h1.size; simp at this; omega
            have HO1 := Lib.hid (show On w w1 by repeat (first | with_reducible exact On.refl _ | apply On.alloc | refine On.trans ?_ h1))
            go_wp2_with fail
            refine (HC2.out _ HO1.out).mono ?_
            rintro e w2 ⟨rfl, h2⟩
            go_wp2_with fail
            go_ret
            exact ⟨ret_bool en.out.symm, HO1.out.trans h2⟩
set_option maxHeartbeats 2000000 in
theorem impl_sameT (s x y s2 x2 y2 : Int) (v u v2 u2 : Value) (zs cs ys ds : List Int) (w : World) (hn : zs.length ≤ 1048576) (hm : cs.length ≤ 1048576) (h : Ints w v zs) (k : Ints w u cs) (h2 : Ints w v2 ys) (k2 : Ints w u2 ds) :
    Calls Try.prog 24 #[.agg #[.int .i64 s, .int .i64 x, .int .i64 y, v, u], .agg #[.int .i64 s2, .int .i64 x2, .int .i64 y2, v2, u2]] w fun e w' => e = .returned (.bool (sameT s x y zs cs s2 x2 y2 ys ds)) ∧ On w w' := by
  have HZ := Lib.hid (fun w' (hb : On w w') => Same.lib _ _ zs ys w' hn (h.below hb) (h2.below hb))
  have HC := Lib.hid (fun w' (hb : On w w') => Same.lib _ _ cs ds w' hm (k.below hb) (k2.below hb))
  obtain ⟨a, cap, rfl, -⟩ := h
  obtain ⟨b, dap, rfl, -⟩ := k
  obtain ⟨a2, cap2, rfl, -⟩ := h2
  obtain ⟨b2, dap2, rfl, -⟩ := k2
  have HG1 := Lib.hid (fun w => impl_grid s x y a b zs.length cap cs.length dap w)
  have HG2 := Lib.hid (fun w => impl_grid s2 x2 y2 a2 b2 ys.length cap2 ds.length dap2 w)
  cases e1 : s == s2 with
  | false =>
    have en := Lib.hid (show sameT s x y zs cs s2 x2 y2 ys ds = false by unfold sameT; rw [e1]; rfl)
    go_enter Try.func24, Try.ntmps24
    go_wp2_with fail
    refine wp_region_onh (by kernel_rfl) (by kernel_rfl) ?_
    repeat (refine rest_step (fun K hK => ?_); go_simp; first | (refine hK _ ?_; clear hK K) | (apply Exists.intro; refine ⟨fun v1 hv1 => ?_, hK _ ?_⟩; (first | with_reducible exact rfl | with_reducible exact ⟨rfl, rfl⟩ | with_reducible exact Calls.on hv1 (HG1.out _) | with_reducible exact Calls.on hv1 (HG2.out _) | (obtain ⟨hc, hf⟩ := bcell hv1; go_simp; first | with_reducible exact rfl | with_reducible exact ⟨rfl, rfl⟩ | exact rfl | exact ⟨rfl, rfl⟩)); clear hK K))
    refine rest_nil ?_
    intro v1 r1
    go_wp2_with fail
    go_ret
    exact ⟨ret_bool en.out.symm, by repeat (first | with_reducible exact On.refl _ | apply On.alloc | refine On.trans ?_ r1)⟩
  | true =>
    cases e2 : x == x2 with
    | false =>
      have en := Lib.hid (show sameT s x y zs cs s2 x2 y2 ys ds = false by unfold sameT; rw [e1, e2]; simp)
      go_enter Try.func24, Try.ntmps24
      go_wp2_with fail
      refine wp_region_onh (by kernel_rfl) (by kernel_rfl) ?_
      repeat (refine rest_step (fun K hK => ?_); go_simp; first | (refine hK _ ?_; clear hK K) | (apply Exists.intro; refine ⟨fun v1 hv1 => ?_, hK _ ?_⟩; (first | with_reducible exact rfl | with_reducible exact ⟨rfl, rfl⟩ | with_reducible exact Calls.on hv1 (HG1.out _) | with_reducible exact Calls.on hv1 (HG2.out _) | (obtain ⟨hc, hf⟩ := bcell hv1; go_simp; first | with_reducible exact rfl | with_reducible exact ⟨rfl, rfl⟩ | exact rfl | exact ⟨rfl, rfl⟩)); clear hK K))
      refine rest_nil ?_
      intro v1 r1
      go_wp2_with fail
      go_ret
      exact ⟨ret_bool en.out.symm, by repeat (first | with_reducible exact On.refl _ | apply On.alloc | refine On.trans ?_ r1)⟩
    | true =>
      cases e3 : y == y2 with
      | false =>
        have en := Lib.hid (show sameT s x y zs cs s2 x2 y2 ys ds = false by unfold sameT; rw [e1, e2, e3]; simp)
        go_enter Try.func24, Try.ntmps24
        go_wp2_with fail
        refine wp_region_onh (by kernel_rfl) (by kernel_rfl) ?_
        repeat (refine rest_step (fun K hK => ?_); go_simp; first | (refine hK _ ?_; clear hK K) | (apply Exists.intro; refine ⟨fun v1 hv1 => ?_, hK _ ?_⟩; (first | with_reducible exact rfl | with_reducible exact ⟨rfl, rfl⟩ | with_reducible exact Calls.on hv1 (HG1.out _) | with_reducible exact Calls.on hv1 (HG2.out _) | (obtain ⟨hc, hf⟩ := bcell hv1; go_simp; first | with_reducible exact rfl | with_reducible exact ⟨rfl, rfl⟩ | exact rfl | exact ⟨rfl, rfl⟩)); clear hK K))
        refine rest_nil ?_
        intro v1 r1
        go_wp2_with fail
        go_ret
        exact ⟨ret_bool en.out.symm, by repeat (first | with_reducible exact On.refl _ | apply On.alloc | refine On.trans ?_ r1)⟩
      | true =>
        cases e4 : decide (zs = ys) with
        | false =>
          have en := Lib.hid (show sameT s x y zs cs s2 x2 y2 ys ds = false by unfold sameT; rw [e1, e2, e3, e4]; simp)
          have HZ2 := Lib.hid (show ∀ w', On w w' → Calls _ _ _ w' (fun e w'' => e = .returned (.bool false) ∧ On w' w'') from fun w' hb => by have := HZ.out w' hb; rw [e4] at this; exact this)
          go_enter Try.func24, Try.ntmps24
          go_wp2_with fail
          refine wp_region_onh (by kernel_rfl) (by kernel_rfl) ?_
          repeat (refine rest_step (fun K hK => ?_); go_simp; first | (refine hK _ ?_; clear hK K) | (apply Exists.intro; refine ⟨fun v1 hv1 => ?_, hK _ ?_⟩; (first | with_reducible exact rfl | with_reducible exact ⟨rfl, rfl⟩ | with_reducible exact Calls.on hv1 (HG1.out _) | with_reducible exact Calls.on hv1 (HG2.out _) | with_reducible exact Calls.on hv1 (HZ2.out _ (On.trans (On.alloc (On.alloc (On.refl w) _) _) hv1)) | (obtain ⟨hc, hf⟩ := bcell hv1; go_simp; first | with_reducible exact rfl | with_reducible exact ⟨rfl, rfl⟩ | exact rfl | exact ⟨rfl, rfl⟩)); clear hK K))
          refine rest_nil ?_
          intro v1 r1
          go_wp2_with fail
          go_ret
          exact ⟨ret_bool en.out.symm, by repeat (first | with_reducible exact On.refl _ | apply On.alloc | refine On.trans ?_ r1)⟩
        | true =>
          cases e5 : decide (cs = ds) with
          | false =>
            have en := Lib.hid (show sameT s x y zs cs s2 x2 y2 ys ds = false by unfold sameT; rw [e1, e2, e3, e4, e5]; simp)
            have HZ2 := Lib.hid (show ∀ w', On w w' → Calls _ _ _ w' (fun e w'' => e = .returned (.bool true) ∧ On w' w'') from fun w' hb => by have := HZ.out w' hb; rw [e4] at this; exact this)
            have HC2 := Lib.hid (show ∀ w', On w w' → Calls _ _ _ w' (fun e w'' => e = .returned (.bool false) ∧ On w' w'') from fun w' hb => by have := HC.out w' hb; rw [e5] at this; exact this)
            go_enter Try.func24, Try.ntmps24
            go_wp2_with fail
            refine wp_region_onh (by kernel_rfl) (by kernel_rfl) ?_
            repeat (refine rest_step (fun K hK => ?_); go_simp; first | (refine hK _ ?_; clear hK K) | (apply Exists.intro; refine ⟨fun v1 hv1 => ?_, hK _ ?_⟩; (first | with_reducible exact rfl | with_reducible exact ⟨rfl, rfl⟩ | with_reducible exact Calls.on hv1 (HG1.out _) | with_reducible exact Calls.on hv1 (HG2.out _) | with_reducible exact Calls.on hv1 (HZ2.out _ (On.trans (On.alloc (On.alloc (On.refl w) _) _) hv1)) | with_reducible exact Calls.on hv1 (HC2.out _ (On.trans (On.alloc (On.alloc (On.refl w) _) _) hv1)) | (obtain ⟨hc, hf⟩ := bcell hv1; go_simp; first | with_reducible exact rfl | with_reducible exact ⟨rfl, rfl⟩ | exact rfl | exact ⟨rfl, rfl⟩)); clear hK K))
            refine rest_nil ?_
            intro v1 r1
            go_wp2_with fail
            go_ret
            exact ⟨ret_bool en.out.symm, by repeat (first | with_reducible exact On.refl _ | apply On.alloc | refine On.trans ?_ r1)⟩
          | true =>
            have en := Lib.hid (sameT_of (s := s) (x := x) (y := y) (s2 := s2) (x2 := x2) (y2 := y2) (zs := zs) (cs := cs) (ys := ys) (ds := ds) e1 e2 e3 e4 e5 rfl)
            have HZ2 := Lib.hid (show ∀ w', On w w' → Calls _ _ _ w' (fun e w'' => e = .returned (.bool true) ∧ On w' w'') from fun w' hb => by have := HZ.out w' hb; rw [e4] at this; exact this)
            have HC2 := Lib.hid (show ∀ w', On w w' → Calls _ _ _ w' (fun e w'' => e = .returned (.bool true) ∧ On w' w'') from fun w' hb => by have := HC.out w' hb; rw [e5] at this; exact this)
            go_enter Try.func24, Try.ntmps24
            go_wp2_with fail
            refine wp_region_onh (by kernel_rfl) (by kernel_rfl) ?_
            repeat (refine rest_step (fun K hK => ?_); go_simp; first | (refine hK _ ?_; clear hK K) | (apply Exists.intro; refine ⟨fun v1 hv1 => ?_, hK _ ?_⟩; (first | with_reducible exact rfl | with_reducible exact ⟨rfl, rfl⟩ | with_reducible exact Calls.on hv1 (HG1.out _) | with_reducible exact Calls.on hv1 (HG2.out _) | with_reducible exact Calls.on hv1 (HZ2.out _ (On.trans (On.alloc (On.alloc (On.refl w) _) _) hv1)) | with_reducible exact Calls.on hv1 (HC2.out _ (On.trans (On.alloc (On.alloc (On.refl w) _) _) hv1)) | (obtain ⟨hc, hf⟩ := bcell hv1; go_simp; first | with_reducible exact rfl | with_reducible exact ⟨rfl, rfl⟩ | exact rfl | exact ⟨rfl, rfl⟩)); clear hK K))
            refine rest_nil ?_
            intro v1 r1
            go_wp2_with fail
            go_ret
            exact ⟨ret_bool en.out.symm, by repeat (first | with_reducible exact On.refl _ | apply On.alloc | refine On.trans ?_ r1)⟩
end Go.Proofs.Ytcdmijldkmmgmab.Terr
