
/-
  Names and heights of clutter, in the model and in the program. Condition: the program's variables of spans and of surroundings hold what their texts lay.
-/
import Derived.Test.YtednfkjdidlenaaDoorLossX
namespace Go.Proofs.YtednfkjdidlenaaDoor.Loss
open Go.RowKit
open Plain
open Span (SpanG)
open Surr (SurrG nameV)

def nameOf (c : Int) : ByteArray := if inB c 0 7 = true then nameV c.toNat else ByteArray.empty
def heightOf (c : Int) : Int := if inB c 0 7 = true then highV c.toNat else 0
theorem ret_str {a b : ByteArray} (h : a = b) : Ending.returned (.string a) = .returned (.string b) := by rw [h]
theorem ret_int' {a b : Int} (h : a = b) : Ending.returned (.int .i64 a) = .returned (.int .i64 b) := by rw [h]
theorem names_at {c : Nat} (h : c < 8) : ([Value.string ⟨#[111, 112, 101, 110]⟩, .string ⟨#[102, 105, 101, 108, 100]⟩, .string ⟨#[119, 97, 116, 101, 114]⟩, .string ⟨#[116, 114, 101, 101, 115]⟩, .string ⟨#[118, 105, 108, 108, 97, 103, 101]⟩, .string ⟨#[115, 117, 98, 117, 114, 98]⟩, .string ⟨#[116, 111, 119, 110]⟩, .string ⟨#[99, 105, 116, 121]⟩] : List Value)[c]'(by simpa using h) = .string (nameV c) := by
  rcases Clut.eight h with rfl | rfl | rfl | rfl | rfl | rfl | rfl | rfl <;> rfl
/-- The names of the model. -/
def NamesAt (w : World) (b : Nat) : Prop := ∀ c, c < 8 → w.cell? ⟨b, c, none⟩ = some (.string (nameV c))
theorem impl_ClutterHeight (c : Int) (w : World) (hg : SpanG w) (hs : SurrG w) :
    Calls Tryd.prog 9 #[.int .i64 c] w fun e w' => e = .returned (.int .i64 (heightOf c)) ∧ On w w' := by
  cases h0 : inB c 0 7 with
  | false =>
    have en := Lib.hid (show heightOf c = 0 by unfold heightOf; rw [h0]; rfl)
    have HG := Lib.hid hg
    go_enter Tryd.func9, Tryd.ntmps9
    go_wp2_with fail
    refine (Span.allows1_6 c _ _ (by simp [go_sem]) (HG.out.on (by repeat (first | with_reducible exact On.refl _ | apply On.alloc)))).mono ?_
    rintro e w1 ⟨rfl, k1⟩
    have HO1 := Lib.hid (show On w w1 by refine On.trans ?_ k1; repeat (first | with_reducible exact On.refl _ | apply On.alloc))
    clear k1
    go_wp2_with fail
    go_ret
    exact ⟨ret_int' en.out.symm, HO1.out⟩
  | true =>
    have en := Lib.hid (show heightOf c = highV c.toNat by unfold heightOf; rw [h0]; rfl)
    obtain ⟨c0, c1⟩ := of_inB h0
    obtain ⟨k, rfl⟩ := Int.eq_ofNat_of_zero_le c0
    have hk : k < 8 := by omega
    rw [Int.toNat_natCast] at en
    obtain ⟨d0, d1, d2⟩ := hs k hk
    have hki : (k : Int) < 8 := by omega
    have HG := Lib.hid hg
    go_enter Tryd.func9, Tryd.ntmps9
    go_wp2_with fail
    refine (Span.allows1_6 (k : Int) _ _ (by simp [go_sem]) (HG.out.on (by repeat (first | with_reducible exact On.refl _ | apply On.alloc)))).mono ?_
    rintro e w1 ⟨rfl, k1⟩
    have HO1 := Lib.hid (show On w w1 by refine On.trans ?_ k1; repeat (first | with_reducible exact On.refl _ | apply On.alloc))
    have hb := World.block_lt_of_cell? w _ d0
    have e0 := (HO1.out.cell (by exact hb)).trans d0
    have e1 := (HO1.out.cell (by exact hb)).trans d1
    have hb1 := HO1.out.lts _ hb
    clear k1
    go_wp2_with fail
    go_ret
    exact ⟨ret_int' en.out.symm, HO1.out⟩
end Go.Proofs.YtednfkjdidlenaaDoor.Loss
