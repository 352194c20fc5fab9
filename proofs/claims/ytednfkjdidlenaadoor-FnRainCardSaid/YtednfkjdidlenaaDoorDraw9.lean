
/-
  Drawing functions of chapter 9: that they return numbers in bounds. Condition: at most 1048576 bytes.
-/
import Derived.Test.YtednfkjdidlenaaDoorSrc
namespace Go.Proofs.YtednfkjdidlenaaDoor.Draw
open Go.RowKit
open Ints (Ints)
open Src (Src Only)

/-- A literal of numbers, cell for cell. -/
theorem lit (w : World) (b : Nat) (t : TypeId) (zs : List Int) (C : Array Value) (hb : b = w.heap.size) (hC : C = (zs.map fun z => Value.int .i64 z).toArray) : ∀ i, i < zs.length → (w.alloc (.cells C t)).cell? ⟨b, i, none⟩ = some (.int .i64 (zs.getD i 0)) := by
  subst hb hC
  intro i hi
  rw [World.cell?_alloc_mark, List.getElem?_toArray, List.getElem?_map, List.getElem?_eq_getElem hi]
  simp [hi]
theorem long (a : Option Addr) (len cap : Nat) (w : World) (h : 1048576 < len) :
    Calls Tryd.prog 4 #[.slice a len cap] w fun e w' => e = .returned (.bool true) ∧ w = w' := by
  have hi : (1048576 : Int) < (len : Int) := by omega
  go_enter Tryd.func4, Tryd.ntmps4
  go_wp2
  go_ret
  exact ⟨rfl, rfl⟩
theorem short (a : Option Addr) (len cap : Nat) (w : World) (h : ¬ 1048576 < len) :
    Calls Tryd.prog 4 #[.slice a len cap] w fun e w' => e = .returned (.bool false) ∧ w = w' := by
  have hi : ¬ (1048576 : Int) < (len : Int) := by omega
  go_enter Tryd.func4, Tryd.ntmps4
  go_wp2
  go_ret
  exact ⟨rfl, rfl⟩
/-- Bytes that came in. -/
theorem code_of {w : World} {a : Option Addr} {len cap : Nat} {zs : List Int} (hl : ¬ 1048576 < len)
    (h : (a = none ∧ len = 0 ∧ cap = 0 ∧ zs = []) ∨ ∃ x, a = some x ∧ len ≤ cap ∧ cap ≤ maxLen ∧ zs.length = cap ∧ (∀ i, i < zs.length → w.cell? (x.add i) = some (.int .u8 (zs.getD i 0))) ∧ ∀ n ∈ zs, (Lit.int .u8 n).wf = true) : Src.Code w w.heap.size (.slice a len cap) := by
  rcases h with ⟨rfl, rfl, rfl, rfl⟩ | ⟨x, rfl, h1, h2, h3, h4, h5⟩
  · exact ⟨none, 0, 0, rfl, by decide, fun h => by omega⟩
  · refine ⟨some x, len, cap, rfl, by omega, fun h0 => ?_⟩
    obtain ⟨b, off, spot⟩ := x
    have hc := h4 0 (by omega)
    have hspot : spot = none := by simpa [Addr.add] using World.cell?_spot hc
    subst hspot
    have ea : ∀ i, (⟨b, off, none⟩ : Addr).add i = ⟨b, off + i, none⟩ := fun i => by cases i <;> simp [Addr.add]
    have hb : b < w.heap.size := World.block_lt_of_cell? w _ hc
    refine ⟨b, off, rfl, hb, hb, fun i hi => ⟨zs.getD i 0, ?_, ?_, by rw [← ea]; exact h4 i (by omega)⟩⟩
    all_goals
      have hm := h5 (zs.getD i 0) (Src.getD_mem (by omega))
      have : 0 ≤ zs.getD i 0 ∧ zs.getD i 0 ≤ 255 := by simpa [Lit.wf, IntKind.min, IntKind.max, IntKind.signed, IntKind.bits] using hm
      omega
theorem l09DrawFrequency (g k : Nat) (w : World) (h : Src w g k) (hk : k ≤ 800000000) :
    Calls Tryd.prog 13 #[.pointer (some ⟨g, 0, none⟩)] w fun e w' => ∃ z : Int, e = .returned (.int .i64 z) ∧ -1 ≤ z ∧ z ≤ 100000001 ∧ Only g w w' ∧ Src w' g (k + 10) := by
  have HS := Lib.hid h
  clear h
  go_enter Tryd.func13, Tryd.ntmps13
  go_wp2_with fail
  refine (Src.pick g _ 6 _ HS.out (by omega) (by decide) (by decide)).mono ?_
  rintro e w1 ⟨v, rfl, va, vb, o1, s1⟩
  have O1 := Lib.hid o1
  have S1 := Lib.hid s1
  clear o1 s1
  by_cases q0 : v = 0
  · subst q0
    go_wp2_with fail
    refine (Src.among g _ _ _ [0, 1, -1, 100000000, 100000001, 30] _ (S1.out.on (On.alloc (On.refl _) _)) (by omega) (by decide) (by decide) (by have := S1.out.lt; (try simp) <;> omega) (by simp <;> omega) (lit _ _ _ [0, 1, -1, 100000000, 100000001, 30] _ (by simp) rfl)).mono ?_
    rintro e w2 ⟨x, rfl, xm, o2, s2⟩
    have O2 := Lib.hid (Only.trans O1.out (Only.trans (Only.of_on (On.alloc (On.refl _) _)) o2))
    have S2 := Lib.hid s2
    clear o2 s2
    go_wp2_with fail
    have xr := (show ∀ z ∈ ([0, 1, -1, 100000000, 100000001, 30] : List Int), -1 ≤ z ∧ z ≤ 100000001 by decide) x xm
    obtain ⟨xa, xb⟩ := xr
    clear xm
    go_ret
    exact ⟨_, rfl, by omega, by omega, O2.out, S2.out.more (by omega)⟩
  · skip
    by_cases q1 : v = 1
    · subst q1
      go_wp2_with fail
      refine (Src.pick g _ 1000 _ S1.out (by omega) (by decide) (by decide)).mono ?_
      rintro e w2 ⟨x, rfl, xa, xb, o2, s2⟩
      have O2 := Lib.hid (Only.trans O1.out o2)
      have S2 := Lib.hid s2
      clear o2 s2
      go_wp2_with fail
      go_ret
      exact ⟨_, rfl, by omega, by omega, O2.out, S2.out.more (by omega)⟩
    · skip
      have q0b : (v == 0) = false := beq_eq_false_iff_ne.2 q0
      have q1b : (v == 1) = false := beq_eq_false_iff_ne.2 q1
      go_wp2_with fail
      refine (Src.among g _ _ _ [150000, 460000, 900000, 1800000, 2600000, 3500000, 6000000, 18000000, 38000000, 80000000] _ (S1.out.on (On.alloc (On.refl _) _)) (by omega) (by decide) (by decide) (by have := S1.out.lt; (try simp) <;> omega) (by simp <;> omega) (lit _ _ _ [150000, 460000, 900000, 1800000, 2600000, 3500000, 6000000, 18000000, 38000000, 80000000] _ (by simp) rfl)).mono ?_
      rintro e w2 ⟨x, rfl, xm, o2, s2⟩
      have O2 := Lib.hid (Only.trans O1.out (Only.trans (Only.of_on (On.alloc (On.refl _) _)) o2))
      have S2 := Lib.hid s2
      clear o2 s2
      go_wp2_with fail
      have xr := (show ∀ z ∈ ([150000, 460000, 900000, 1800000, 2600000, 3500000, 6000000, 18000000, 38000000, 80000000] : List Int), 150000 ≤ z ∧ z ≤ 80000000 by decide) x xm
      obtain ⟨xa, xb⟩ := xr
      clear xm
      go_ret
      exact ⟨_, rfl, by omega, by omega, O2.out, S2.out.more (by omega)⟩
theorem l09DrawDistance (g k : Nat) (w : World) (h : Src w g k) (hk : k ≤ 800000000) :
    Calls Tryd.prog 14 #[.pointer (some ⟨g, 0, none⟩)] w fun e w' => ∃ z : Int, e = .returned (.int .i64 z) ∧ -1 ≤ z ∧ z ≤ 283001 ∧ Only g w w' ∧ Src w' g (k + 10) := by
  have HS := Lib.hid h
  clear h
  go_enter Tryd.func14, Tryd.ntmps14
  go_wp2_with fail
  refine (Src.pick g _ 6 _ HS.out (by omega) (by decide) (by decide)).mono ?_
  rintro e w1 ⟨v, rfl, va, vb, o1, s1⟩
  have O1 := Lib.hid o1
  have S1 := Lib.hid s1
  clear o1 s1
  by_cases q0 : v = 0
  · subst q0
    go_wp2_with fail
    refine (Src.among g _ _ _ [0, 1, -1, 283000, 283001, 10] _ (S1.out.on (On.alloc (On.refl _) _)) (by omega) (by decide) (by decide) (by have := S1.out.lt; (try simp) <;> omega) (by simp <;> omega) (lit _ _ _ [0, 1, -1, 283000, 283001, 10] _ (by simp) rfl)).mono ?_
    rintro e w2 ⟨x, rfl, xm, o2, s2⟩
    have O2 := Lib.hid (Only.trans O1.out (Only.trans (Only.of_on (On.alloc (On.refl _) _)) o2))
    have S2 := Lib.hid s2
    clear o2 s2
    go_wp2_with fail
    have xr := (show ∀ z ∈ ([0, 1, -1, 283000, 283001, 10] : List Int), -1 ≤ z ∧ z ≤ 283001 by decide) x xm
    obtain ⟨xa, xb⟩ := xr
    clear xm
    go_ret
    exact ⟨_, rfl, by omega, by omega, O2.out, S2.out.more (by omega)⟩
  · skip
    by_cases q1 : v = 1
    · subst q1
      go_wp2_with fail
      refine (Src.pick g _ 100 _ S1.out (by omega) (by decide) (by decide)).mono ?_
      rintro e w2 ⟨x, rfl, xa, xb, o2, s2⟩
      have O2 := Lib.hid (Only.trans O1.out o2)
      have S2 := Lib.hid s2
      clear o2 s2
      go_wp2_with fail
      go_ret
      exact ⟨_, rfl, by omega, by omega, O2.out, S2.out.more (by omega)⟩
    · skip
      have q0b : (v == 0) = false := beq_eq_false_iff_ne.2 q0
      have q1b : (v == 1) = false := beq_eq_false_iff_ne.2 q1
      go_wp2_with fail
      refine (Src.pick g _ 200 _ S1.out (by omega) (by decide) (by decide)).mono ?_
      rintro e w2 ⟨x, rfl, xa, xb, o2, s2⟩
      have O2 := Lib.hid (Only.trans O1.out o2)
      have S2 := Lib.hid s2
      clear o2 s2
      go_wp2_with fail
      refine (Src.pick g _ 1000 _ S2.out (by omega) (by decide) (by decide)).mono ?_
      rintro e w3 ⟨y, rfl, ya, yb, o3, s3⟩
      have O3 := Lib.hid (Only.trans O2.out o3)
      have S3 := Lib.hid s3
      clear o3 s3
      go_wp2_with fail
      go_ret
      exact ⟨_, rfl, by omega, by omega, O3.out, S3.out.more (by omega)⟩
end Go.Proofs.YtednfkjdidlenaaDoor.Draw
