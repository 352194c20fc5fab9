
/-
  When a site is valid, in the model and in the program. Conditions: at most 1048576 bytes in a name.
-/
import Derived.Test.YtpnmodmaabhldaaGreatSites
import Derived.Test.YtpnmodmaabhldaaGreatText1
import Derived.Test.YtpnmodmaabhldaaGreatPoint
import Derived.Test.YtpnmodmaabhldaaGreatOnH
namespace Go.Proofs.YtpnmodmaabhldaaGreat.Site
open Go.RowKit
open Plain
open Point (okB of_okB)

def okS (s t : ByteArray) (x y : Int) : Bool := nameB s.data.toList && (nameB t.data.toList && okB x y)
/-- The cells from o on in block g hold it. -/
def InO (w : World) (g o : Nat) (s t : ByteArray) (x y : Int) : Prop := w.cell? ⟨g, o, none⟩ = some (.string s) ∧ w.cell? ⟨g, o + 1, none⟩ = some (.string t) ∧ w.cell? ⟨g, o + 2, none⟩ = some (.int .i64 x) ∧ w.cell? ⟨g, o + 3, none⟩ = some (.int .i64 y)
theorem InO.lt {w : World} {g o : Nat} {s t : ByteArray} {x y : Int} (hi : InO w g o s t x y) : g < w.heap.size := World.block_lt_of_cell? w _ hi.1
theorem InO.on {w w' : World} {g o : Nat} {s t : ByteArray} {x y : Int} (hi : InO w g o s t x y) (ho : On w w') : InO w' g o s t x y :=
  ⟨(ho.cell (by exact hi.lt)).trans hi.1, (ho.cell (by exact hi.lt)).trans hi.2.1, (ho.cell (by exact hi.lt)).trans hi.2.2.1, (ho.cell (by exact hi.lt)).trans hi.2.2.2⟩
set_option maxHeartbeats 2000000 in
theorem spec_okO (g o : Nat) (s t : ByteArray) (x y : Int) (w : World) (q0 : s.size ≤ 1048576) (q1 : t.size ≤ 1048576) (hp : InO w g o s t x y) :
    Calls Tryz.prog 69 #[.pointer (some ⟨g, o, none⟩)] w fun e w' => e = .returned (.bool (okS s t x y)) ∧ On w w' := by
  have en := Lib.hid (show okS s t x y = (nameB s.data.toList && (nameB t.data.toList && okB x y)) from rfl)
  have hN0 := fun w => Text1.spec_l01Name s w q0
  have hN1 := fun w => Text1.spec_l01Name t w q1
  have hOK := fun w => Point.spec_ok x y w
  have hg := hp.lt
  obtain ⟨k0, k1, k2, k3⟩ := hp
  generalize nameB s.data.toList = b0 at *
  generalize nameB t.data.toList = b1 at *
  generalize okB x y = b2 at *
  have HN0 := Lib.hid hN0
  have HN1 := Lib.hid hN1
  have HOK := Lib.hid hOK
  clear hN0 hN1 hOK q0 q1
  cases b0 <;> cases b1 <;> (
    go_enter Tryz.func69, Tryz.ntmps69
    go_wp2_with (first
      | (go_at_call 107; with_reducible refine (HN0.out _).mono ?_; rintro e w' ⟨rfl, rfl⟩)
      | (go_at_call 107; with_reducible refine (HN1.out _).mono ?_; rintro e w' ⟨rfl, rfl⟩)
      | (go_at_call 108; refine (HOK.out _).mono ?_; rintro e w9 ⟨rfl, h9⟩))
    go_ret
    exact ⟨ret_bool (by rw [en.out]; simp), by repeat (first | with_reducible exact On.refl _ | apply On.alloc | apply On.drewN | apply On.drew | refine On.setCell ?_ (by (try simp) <;> omega) _ | refine On.trans ?_ ‹On _ _›)⟩)
set_option maxHeartbeats 2000000 in
theorem impl_ok (s t : ByteArray) (x y : Int) (w : World) (q0 : s.size ≤ 1048576) (q1 : t.size ≤ 1048576) :
    Calls Tryz.prog 73 #[.agg #[.string s, .string t, .int .i64 x, .int .i64 y]] w fun e w' => e = .returned (.bool (okS s t x y)) ∧ On w w' := by
  have en := Lib.hid (show okS s t x y = (nameB s.data.toList && (nameB t.data.toList && okB x y)) from rfl)
  have hN0 := fun w => Text1.impl_isName s w q0
  have hN1 := fun w => Text1.impl_isName t w q1
  have hOK := fun w => Point.impl_ok x y w
  generalize nameB s.data.toList = b0 at *
  generalize nameB t.data.toList = b1 at *
  generalize okB x y = b2 at *
  have HN0 := Lib.hid hN0
  have HN1 := Lib.hid hN1
  have HOK := Lib.hid hOK
  clear hN0 hN1 hOK q0 q1
  cases b0 <;> cases b1 <;> (
    go_enter Tryz.func73, Tryz.ntmps73
    go_wp2_with (first
      | (go_at_call 117; with_reducible refine (HN0.out _).mono ?_; rintro e w' ⟨rfl, rfl⟩)
      | (go_at_call 117; with_reducible refine (HN1.out _).mono ?_; rintro e w' ⟨rfl, rfl⟩)
      | (go_at_call 118; refine (HOK.out _).mono ?_; rintro e w9 ⟨rfl, h9⟩))
    go_ret
    exact ⟨ret_bool (by rw [en.out]; simp), by repeat (first | with_reducible exact On.refl _ | apply On.alloc | apply On.drewN | apply On.drew | refine On.setCell ?_ (by (try simp) <;> omega) _ | refine On.trans ?_ ‹On _ _›)⟩)
end Go.Proofs.YtpnmodmaabhldaaGreat.Site
namespace Go.Proofs.YtpnmodmaabhldaaGreat.Sites
open Go.RowKit
def ok (z : Z) : Bool := Site.okS z.x0 z.x1 z.x2 z.x3
def nm (z : Z) : ByteArray := z.x0
theorem spec_ok (g o : Nat) (z : Z) (w : World) (hs : Small 1048576 z) (h : El w g o z) :
    Calls Tryz.prog 69 #[.pointer (some ⟨g, o, none⟩)] w fun e w' => e = .returned (.bool (ok z)) ∧ On w w' :=
  Site.spec_okO g o _ _ _ _ w hs.1 hs.2 ⟨h.c0, h.c1, h.c2, h.c3⟩
theorem impl_ok (z : Z) (w : World) (hs : Small 1048576 z) :
    Calls Tryz.prog 73 #[.agg #[.string z.x0, .string z.x1, .int .i64 z.x2, .int .i64 z.x3]] w fun e w' => e = .returned (.bool (ok z)) ∧ On w w' :=
  Site.impl_ok _ _ _ _ w hs.1 hs.2
end Go.Proofs.YtpnmodmaabhldaaGreat.Sites
