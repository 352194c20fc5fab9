
/-
  When an antenna is valid, the model's asked by a pointer into any place of a block. Condition: at most 1048576 losses in each list and bytes in the name.
-/
import Derived.Test.YtpnmodmaabhldaaGreatAntOk
import Derived.Test.YtpnmodmaabhldaaGreatAnts
namespace Go.Proofs.YtpnmodmaabhldaaGreat.Ant
open Go.RowKit
open Plain
open Ints (Ints Own)

/-- The cells from o on in block g hold it. -/
def InO (w : World) (g o : Nat) (x0 : ByteArray) (x1 : Int) (v2 v3 : Value) : Prop := w.cell? ⟨g, o, none⟩ = some (.string x0) ∧ w.cell? ⟨g, o + 1, none⟩ = some (.int .i64 x1) ∧ w.cell? ⟨g, o + 2, none⟩ = some v2 ∧ w.cell? ⟨g, o + 3, none⟩ = some v3
theorem InO.lt {w : World} {g o : Nat} {x0 : ByteArray} {x1 : Int} {v2 v3 : Value} (hi : InO w g o x0 x1 v2 v3) : g < w.heap.size := World.block_lt_of_cell? w _ hi.1
theorem InO.on {w w' : World} {g o : Nat} {x0 : ByteArray} {x1 : Int} {v2 v3 : Value} (hi : InO w g o x0 x1 v2 v3) (ho : On w w') : InO w' g o x0 x1 v2 v3 :=
  ⟨(ho.cell (by exact hi.lt)).trans hi.1, (ho.cell (by exact hi.lt)).trans hi.2.1, (ho.cell (by exact hi.lt)).trans hi.2.2.1, (ho.cell (by exact hi.lt)).trans hi.2.2.2⟩
set_option maxHeartbeats 2000000 in
theorem spec_okO (b o : Nat) (x0 : ByteArray) (x1 : Int) (v2 v3 : Value) (z2 z3 : List Int) (w : World) (q0 : x0.size ≤ 1048576) (q2 : z2.length ≤ 1048576) (q3 : z3.length ≤ 1048576) (hp : InO w b o x0 x1 v2 v3) (h2 : Ints w v2 z2) (h3 : Ints w v3 z3) :
    Calls Tryz.prog 144 #[.pointer (some ⟨b, o, none⟩)] w fun e w' => e = .returned (.bool (okA x0 x1 z2 z3)) ∧ w = w' := by
  obtain ⟨k0, k1, k2, k3⟩ := hp
  have HN := Lib.hid (fun w => Text1.spec_l01Name x0 w q0)
  have HG := Lib.hid (fun w => spec_gain x1 w)
  have hh := spec_losses v2 z2 36 0 w q2 (by omega) (by omega) h2
  have hv := spec_losses v3 z3 19 9 w q3 (by omega) (by omega) h3
  rw [show (((36 : Nat) : Int)) = 36 from rfl, show (((0 : Nat) : Int)) = 0 from rfl] at hh
  rw [show (((19 : Nat) : Int)) = 19 from rfl, show (((9 : Nat) : Int)) = 9 from rfl] at hv
  have HH := Lib.hid hh
  have HV := Lib.hid hv
  clear hh hv
  have en := Lib.hid (show okA x0 x1 z2 z3 = (nameB x0.data.toList && (inB x1 (-60000) 60000 && (lossB z2 36 0 && lossB z3 19 9))) from rfl)
  obtain ⟨a2, cap2, rfl, -⟩ := h2
  obtain ⟨a3, cap3, rfl, -⟩ := h3
  generalize nameB x0.data.toList = t1 at *
  generalize inB x1 (-60000) 60000 = t2 at *
  generalize lossB z2 36 0 = t3 at *
  generalize lossB z3 19 9 = t4 at *
  clear q0 q2 q3
  cases t1 <;> cases t2 <;> cases t3 <;> (
    go_enter Tryz.func144, Tryz.ntmps144
    go_wp2_with (first
      | (go_at_call 107; refine (HN.out _).mono ?_; rintro e w' ⟨rfl, rfl⟩)
      | (go_at_call 160; refine (HG.out _).mono ?_; rintro e w' ⟨rfl, rfl⟩)
      | (go_at_call 161; with_reducible refine HH.out.mono ?_; rintro e w' ⟨rfl, rfl⟩)
      | (go_at_call 161; with_reducible refine HV.out.mono ?_; rintro e w' ⟨rfl, rfl⟩))
    go_ret
    exact ⟨ret_bool (by rw [en.out]; simp), rfl⟩)
end Go.Proofs.YtpnmodmaabhldaaGreat.Ant
namespace Go.Proofs.YtpnmodmaabhldaaGreat.Ants
open Go.RowKit
def ok (z : Z) : Bool := Ant.okA z.x0 z.x1 z.x2 z.x3
def nm (z : Z) : ByteArray := z.x0
theorem spec_ok (g o : Nat) (z : Z) (w : World) (hs : Small 1048576 z) (h : El w g o z) :
    Calls Tryz.prog 144 #[.pointer (some ⟨g, o, none⟩)] w fun e w' => e = .returned (.bool (ok z)) ∧ On w w' := by
  obtain ⟨a2, cap2, c2, _, i2⟩ := h.c2
  obtain ⟨a3, cap3, c3, _, i3⟩ := h.c3
  refine (Ant.spec_okO g o _ _ _ _ z.x2 z.x3 w hs.1 hs.2.1 hs.2.2 ⟨h.c0, h.c1, c2, c3⟩ i2 i3).mono ?_
  rintro e w' ⟨he, rfl⟩
  exact ⟨he, On.refl _⟩
theorem impl_ok (z : Z) (a2 : Option Addr) (cap2 : Nat) (a3 : Option Addr) (cap3 : Nat) (w : World) (hs : Small 1048576 z) (h2 : Ints.Ints w (.slice a2 z.x2.length cap2) z.x2) (h3 : Ints.Ints w (.slice a3 z.x3.length cap3) z.x3) :
    Calls Tryz.prog 114 #[.agg #[.string z.x0, .int .i64 z.x1, .slice a2 z.x2.length cap2, .slice a3 z.x3.length cap3]] w fun e w' => e = .returned (.bool (ok z)) ∧ On w w' :=
  Ant.impl_valid _ _ _ _ z.x2 z.x3 w hs.1 hs.2.1 hs.2.2 h2 h3
end Go.Proofs.YtpnmodmaabhldaaGreat.Ants
