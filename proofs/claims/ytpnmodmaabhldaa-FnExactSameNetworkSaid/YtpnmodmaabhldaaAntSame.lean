
/-
  Whether two antennas are equal, in the model and in the program. Condition: at most 1048576 losses in each list of the first one.
-/
import Derived.Test.YtpnmodmaabhldaaSame
import Derived.Deep.DeepCutAuto
import Derived.Deep.RegionWith
import Derived.Test.YtpnmodmaabhldaaAnt0
import Derived.Test.YtpnmodmaabhldaaArith
namespace Go.Proofs.Ytpnmodmaabhldaa.Ant
open Go.RowKit
open Plain
open Ints (Ints Own)

def sameA (s : ByteArray) (x : Int) (zs cs : List Int) (s2 : ByteArray) (x2 : Int) (ys ds : List Int) : Bool := s.toList == s2.toList && (x == x2 && (decide (zs = ys) && decide (cs = ds)))
theorem sameA_of {s s2 : ByteArray} {x x2 : Int} {zs cs ys ds : List Int} {b1 b2 b4 b5 b : Bool} (h1 : (s.toList == s2.toList) = b1) (h2 : (x == x2) = b2) (h4 : decide (zs = ys) = b4) (h5 : decide (cs = ds) = b5) (h : (b1 && (b2 && (b4 && b5))) = b) : sameA s x zs cs s2 x2 ys ds = b := by unfold sameA; rw [h1, h2, h4, h5, h]
set_option maxHeartbeats 2000000 in
theorem spec_same (s : ByteArray) (x : Int) (v u : Value) (zs cs : List Int) (s2 : ByteArray) (x2 : Int) (v2 u2 : Value) (ys ds : List Int) (w : World) (_ : s.size ≤ 1048576) (hn : zs.length ≤ 1048576) (hm : cs.length ≤ 1048576) (_ : s2.size ≤ 1048576) (_ : ys.length ≤ 1048576) (_ : ds.length ≤ 1048576) (h : Ints w v zs) (k : Ints w u cs) (h2 : Ints w v2 ys) (k2 : Ints w u2 ds) :
    Calls Try.prog 49 #[.agg #[.string s, .int .i64 x, v, u], .agg #[.string s2, .int .i64 x2, v2, u2]] w fun e w' => e = .returned (.bool (sameA s x zs cs s2 x2 ys ds)) ∧ On w w' := by
  have HZ := Lib.hid (fun w' (hb : On w w') => Same.spec _ _ zs ys w' hn (h.below hb) (h2.below hb))
  have HC := Lib.hid (fun w' (hb : On w w') => Same.spec _ _ cs ds w' hm (k.below hb) (k2.below hb))
  obtain ⟨a, cap, rfl, -⟩ := h
  obtain ⟨b, dap, rfl, -⟩ := k
  obtain ⟨a2, cap2, rfl, -⟩ := h2
  obtain ⟨b2, dap2, rfl, -⟩ := k2
  cases e1 : s.toList == s2.toList with
  | false =>
    have en := Lib.hid (show sameA s x zs cs s2 x2 ys ds = false by unfold sameA; rw [e1]; rfl)
    have p1 : ¬ s.toList = s2.toList := ne_of_beq_false e1
    go_enter Try.func49, Try.ntmps49
    go_wp2_with fail
    go_ret
    exact ⟨ret_bool en.out.symm, by repeat (first | with_reducible exact On.refl _ | apply On.alloc)⟩
  | true =>
    cases e2 : x == x2 with
    | false =>
      have en := Lib.hid (show sameA s x zs cs s2 x2 ys ds = false by unfold sameA; rw [e1, e2]; simp)
      have p1 : s.toList = s2.toList := eq_of_beq e1
      go_enter Try.func49, Try.ntmps49
      go_wp2_with fail
      go_ret
      exact ⟨ret_bool en.out.symm, by repeat (first | with_reducible exact On.refl _ | apply On.alloc)⟩
    | true =>
      cases e4 : decide (zs = ys) with
      | false =>
        have en := Lib.hid (show sameA s x zs cs s2 x2 ys ds = false by unfold sameA; rw [e1, e2, e4]; simp)
        have p1 : s.toList = s2.toList := eq_of_beq e1
        have HZ2 := Lib.hid (show ∀ w', On w w' → Calls _ _ _ w' (fun e w'' => e = .returned (.bool false) ∧ On w' w'') from fun w' hb => by have := HZ.out w' hb; rw [e4] at this; exact this)
        go_enter Try.func49, Try.ntmps49
        go_wp2_with fail
        refine (HZ2.out _ (by repeat (first | with_reducible exact On.refl _ | with_reducible exact Below.refl _ _ | apply On.alloc))).mono ?_
        rintro e w1 ⟨rfl, h1⟩
        obtain ⟨hc1, hf1⟩ := bcell h1
        obtain ⟨y1', y2'⟩ : w.heap.size < w1.heap.size ∧ w.heap.size + 1 < w1.heap.size := by have := h1.size; simp at this; omega
        have HO1 := Lib.hid (show On w w1 by repeat (first | with_reducible exact On.refl _ | apply On.alloc | refine On.trans ?_ h1))
        go_wp2_with fail
        go_ret
        exact ⟨ret_bool en.out.symm, HO1.out⟩
      | true =>
        cases e5 : decide (cs = ds) with
        | false =>
          have en := Lib.hid (show sameA s x zs cs s2 x2 ys ds = false by unfold sameA; rw [e1, e2, e4, e5]; simp)
          have p1 : s.toList = s2.toList := eq_of_beq e1
          have HZ2 := Lib.hid (show ∀ w', On w w' → Calls _ _ _ w' (fun e w'' => e = .returned (.bool true) ∧ On w' w'') from fun w' hb => by have := HZ.out w' hb; rw [e4] at this; exact this)
          have HC2 := Lib.hid (show ∀ w', On w w' → Calls _ _ _ w' (fun e w'' => e = .returned (.bool false) ∧ On w' w'') from fun w' hb => by have := HC.out w' hb; rw [e5] at this; exact this)
          go_enter Try.func49, Try.ntmps49
          go_wp2_with fail
          refine (HZ2.out _ (by repeat (first | with_reducible exact On.refl _ | with_reducible exact Below.refl _ _ | apply On.alloc))).mono ?_
          rintro e w1 ⟨rfl, h1⟩
          obtain ⟨hc1, hf1⟩ := bcell h1
          obtain ⟨y1', y2'⟩ : w.heap.size < w1.heap.size ∧ w.heap.size + 1 < w1.heap.size := by have := h1.size; simp at this; omega
          have HO1 := Lib.hid (show On w w1 by repeat (first | with_reducible exact On.refl _ | apply On.alloc | refine On.trans ?_ h1))
          go_wp2_with fail
          refine (HC2.out _ HO1.out).mono ?_
          rintro e w2 ⟨rfl, h2⟩
          go_wp2_with fail
          go_ret
          exact ⟨ret_bool en.out.symm, HO1.out.trans h2⟩
        | true =>
          have en := Lib.hid (sameA_of (s := s) (x := x) (s2 := s2) (x2 := x2) (zs := zs) (cs := cs) (ys := ys) (ds := ds) e1 e2 e4 e5 rfl)
          have p1 : s.toList = s2.toList := eq_of_beq e1
          have HZ2 := Lib.hid (show ∀ w', On w w' → Calls _ _ _ w' (fun e w'' => e = .returned (.bool true) ∧ On w' w'') from fun w' hb => by have := HZ.out w' hb; rw [e4] at this; exact this)
          have HC2 := Lib.hid (show ∀ w', On w w' → Calls _ _ _ w' (fun e w'' => e = .returned (.bool true) ∧ On w' w'') from fun w' hb => by have := HC.out w' hb; rw [e5] at this; exact this)
          go_enter Try.func49, Try.ntmps49
          go_wp2_with fail
          refine (HZ2.out _ (by repeat (first | with_reducible exact On.refl _ | with_reducible exact Below.refl _ _ | apply On.alloc))).mono ?_
          rintro e w1 ⟨rfl, h1⟩
          obtain ⟨hc1, hf1⟩ := bcell h1
          obtain ⟨y1', y2'⟩ : w.heap.size < w1.heap.size ∧ w.heap.size + 1 < w1.heap.size := by have := h1.size; simp at this; omega
          have HO1 := Lib.hid (show On w w1 by repeat (first | with_reducible exact On.refl _ | apply On.alloc | refine On.trans ?_ h1))
          go_wp2_with fail
          refine (HC2.out _ HO1.out).mono ?_
          rintro e w2 ⟨rfl, h2⟩
          go_wp2_with fail
          go_ret
          exact ⟨ret_bool en.out.symm, HO1.out.trans h2⟩
set_option maxHeartbeats 2000000 in
theorem impl_same (s : ByteArray) (x : Int) (v u : Value) (zs cs : List Int) (s2 : ByteArray) (x2 : Int) (v2 u2 : Value) (ys ds : List Int) (w : World) (_ : s.size ≤ 1048576) (hn : zs.length ≤ 1048576) (hm : cs.length ≤ 1048576) (_ : s2.size ≤ 1048576) (_ : ys.length ≤ 1048576) (_ : ds.length ≤ 1048576) (h : Ints w v zs) (k : Ints w u cs) (h2 : Ints w v2 ys) (k2 : Ints w u2 ds) :
    Calls Try.prog 54 #[.agg #[.string s, .int .i64 x, v, u], .agg #[.string s2, .int .i64 x2, v2, u2]] w fun e w' => e = .returned (.bool (sameA s x zs cs s2 x2 ys ds)) ∧ On w w' := by
  have HZ := Lib.hid (fun w' (hb : On w w') => Same.lib _ _ zs ys w' hn (h.below hb) (h2.below hb))
  have HC := Lib.hid (fun w' (hb : On w w') => Same.lib _ _ cs ds w' hm (k.below hb) (k2.below hb))
  obtain ⟨a, cap, rfl, -⟩ := h
  obtain ⟨b, dap, rfl, -⟩ := k
  obtain ⟨a2, cap2, rfl, -⟩ := h2
  obtain ⟨b2, dap2, rfl, -⟩ := k2
  cases e1 : s.toList == s2.toList with
  | false =>
    have en := Lib.hid (show sameA s x zs cs s2 x2 ys ds = false by unfold sameA; rw [e1]; rfl)
    have p1 : ¬ s.toList = s2.toList := ne_of_beq_false e1
    go_enter Try.func54, Try.ntmps54
    go_wp2_with fail
    go_ret
    exact ⟨ret_bool en.out.symm, by repeat (first | with_reducible exact On.refl _ | apply On.alloc)⟩
  | true =>
    cases e2 : x == x2 with
    | false =>
      have en := Lib.hid (show sameA s x zs cs s2 x2 ys ds = false by unfold sameA; rw [e1, e2]; simp)
      have p1 : s.toList = s2.toList := eq_of_beq e1
      go_enter Try.func54, Try.ntmps54
      go_wp2_with fail
      go_ret
      exact ⟨ret_bool en.out.symm, by repeat (first | with_reducible exact On.refl _ | apply On.alloc)⟩
    | true =>
      cases e4 : decide (zs = ys) with
      | false =>
        have en := Lib.hid (show sameA s x zs cs s2 x2 ys ds = false by unfold sameA; rw [e1, e2, e4]; simp)
        have p1 : s.toList = s2.toList := eq_of_beq e1
        have HZ2 := Lib.hid (show ∀ w', On w w' → Calls _ _ _ w' (fun e w'' => e = .returned (.bool false) ∧ On w' w'') from fun w' hb => by have := HZ.out w' hb; rw [e4] at this; exact this)
        go_enter Try.func54, Try.ntmps54
        go_wp2_with fail
        refine (HZ2.out _ (by repeat (first | with_reducible exact On.refl _ | with_reducible exact Below.refl _ _ | apply On.alloc))).mono ?_
        rintro e w1 ⟨rfl, h1⟩
        obtain ⟨hc1, hf1⟩ := bcell h1
        obtain ⟨y1', y2'⟩ : w.heap.size < w1.heap.size ∧ w.heap.size + 1 < w1.heap.size := by have := h1.size; simp at this; omega
        have HO1 := Lib.hid (show On w w1 by repeat (first | with_reducible exact On.refl _ | apply On.alloc | refine On.trans ?_ h1))
        go_wp2_with fail
        go_ret
        exact ⟨ret_bool en.out.symm, HO1.out⟩
      | true =>
        cases e5 : decide (cs = ds) with
        | false =>
          have en := Lib.hid (show sameA s x zs cs s2 x2 ys ds = false by unfold sameA; rw [e1, e2, e4, e5]; simp)
          have p1 : s.toList = s2.toList := eq_of_beq e1
          have HZ2 := Lib.hid (show ∀ w', On w w' → Calls _ _ _ w' (fun e w'' => e = .returned (.bool true) ∧ On w' w'') from fun w' hb => by have := HZ.out w' hb; rw [e4] at this; exact this)
          have HC2 := Lib.hid (show ∀ w', On w w' → Calls _ _ _ w' (fun e w'' => e = .returned (.bool false) ∧ On w' w'') from fun w' hb => by have := HC.out w' hb; rw [e5] at this; exact this)
          go_enter Try.func54, Try.ntmps54
          go_wp2_with fail
          refine (HZ2.out _ (by repeat (first | with_reducible exact On.refl _ | with_reducible exact Below.refl _ _ | apply On.alloc))).mono ?_
          rintro e w1 ⟨rfl, h1⟩
          obtain ⟨hc1, hf1⟩ := bcell h1
          obtain ⟨y1', y2'⟩ : w.heap.size < w1.heap.size ∧ w.heap.size + 1 < w1.heap.size := by have := h1.size; simp at this; omega
          have HO1 := Lib.hid (show On w w1 by repeat (first | with_reducible exact On.refl _ | apply On.alloc | refine On.trans ?_ h1))
          go_wp2_with fail
          refine (HC2.out _ HO1.out).mono ?_
          rintro e w2 ⟨rfl, h2⟩
          go_wp2_with fail
          go_ret
          exact ⟨ret_bool en.out.symm, HO1.out.trans h2⟩
        | true =>
          have en := Lib.hid (sameA_of (s := s) (x := x) (s2 := s2) (x2 := x2) (zs := zs) (cs := cs) (ys := ys) (ds := ds) e1 e2 e4 e5 rfl)
          have p1 : s.toList = s2.toList := eq_of_beq e1
          have HZ2 := Lib.hid (show ∀ w', On w w' → Calls _ _ _ w' (fun e w'' => e = .returned (.bool true) ∧ On w' w'') from fun w' hb => by have := HZ.out w' hb; rw [e4] at this; exact this)
          have HC2 := Lib.hid (show ∀ w', On w w' → Calls _ _ _ w' (fun e w'' => e = .returned (.bool true) ∧ On w' w'') from fun w' hb => by have := HC.out w' hb; rw [e5] at this; exact this)
          go_enter Try.func54, Try.ntmps54
          go_wp2_with fail
          refine (HZ2.out _ (by repeat (first | with_reducible exact On.refl _ | with_reducible exact Below.refl _ _ | apply On.alloc))).mono ?_
          rintro e w1 ⟨rfl, h1⟩
          obtain ⟨hc1, hf1⟩ := bcell h1
          obtain ⟨y1', y2'⟩ : w.heap.size < w1.heap.size ∧ w.heap.size + 1 < w1.heap.size := by have := h1.size; simp at this; omega
          have HO1 := Lib.hid (show On w w1 by repeat (first | with_reducible exact On.refl _ | apply On.alloc | refine On.trans ?_ h1))
          go_wp2_with fail
          refine (HC2.out _ HO1.out).mono ?_
          rintro e w2 ⟨rfl, h2⟩
          go_wp2_with fail
          go_ret
          exact ⟨ret_bool en.out.symm, HO1.out.trans h2⟩
end Go.Proofs.Ytpnmodmaabhldaa.Ant
