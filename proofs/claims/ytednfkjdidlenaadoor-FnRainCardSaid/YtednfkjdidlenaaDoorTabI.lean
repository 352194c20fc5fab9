
/-
  The value of a table at a place, in the model and in the program, and the program's tables. Conditions: each theorem's own.
-/
import Derived.Test.YtednfkjdidlenaaDoorTab
import Derived.Test.YtednfkjdidlenaaDoorLossP
import Derived.Test.YtednfkjdidlenaaDoorInts
import Derived.Test.YtednfkjdidlenaaDoorOnH
import Derived.Handy
import Derived.OwnWalk
namespace Go.Proofs.YtednfkjdidlenaaDoor.Tab
open Go.RowKit
open Plain
open Ints (Ints)
open Line (line)

theorem slice_of {w : World} {a : Option Addr} {n cap : Nat} {zs : List Int} (h : Ints w (.slice a n cap) zs) (hl : zs.length = n) (h0 : 0 < n) : ∃ b off, a = some ⟨b, off, none⟩ ∧ b < w.heap.size ∧ ∀ i, i < n → w.cell? ⟨b, off + i, none⟩ = some (.int .i64 (zs.getD i 0)) := by
  obtain ⟨a', cap', he, hc⟩ := h
  injection he with h1 h2 h3
  subst h1
  obtain ⟨b, off, ha, hb, hcell⟩ := hc (by omega)
  exact ⟨b, off, ha, hb, fun i hi => hcell i (by omega)⟩
theorem ret_int {k : IntKind} {a b : Int} (h : a = b) : Ending.returned (.int k a) = .returned (.int k b) := by rw [h]
/-- What a table of n rows asks. -/
structure Ok (ps vs : List Int) (n : Nat) : Prop where
  lp : ps.length = n + 2
  lv : vs.length = n + 2
  few : n ≤ 62
  bp : ∀ p ∈ ps, -1000000 ≤ p ∧ p ≤ 1000000
  bv : ∀ p ∈ vs, -1000000 ≤ p ∧ p ≤ 1000000
  first : ps.getD 0 0 ≤ ps.getD 1 0
  last : ps.getD n 0 < ps.getD (n + 1) 0
theorem rain_k : Ok rainP rainK 5 := ⟨rfl, rfl, by decide, by decide, by decide, by decide, by decide⟩
theorem rain_a : Ok rainP rainA 5 := ⟨rfl, rfl, by decide, by decide, by decide, by decide, by decide⟩
theorem gas_v : Ok gasP gasV 7 := ⟨rfl, rfl, by decide, by decide, by decide, by decide, by decide⟩
theorem leaf_v : Ok leafP leafV 2 := ⟨rfl, rfl, by decide, by decide, by decide, by decide, by decide⟩
/-- The value v is a slice that reads as the rows of a table in the world w. -/
def Curve (w : World) (b : Nat) (ps vs : List Int) (n : Nat) : Prop := ∀ k, k < n → w.cell? ⟨b, k * 2, none⟩ = some (.int .i64 (ps.getD k 0)) ∧ w.cell? ⟨b, k * 2 + 1, none⟩ = some (.int .i64 (vs.getD k 0))
set_option maxHeartbeats 1000000 in
theorem impl_rainFactors (w : World) :
    Calls Tryd.prog 37 #[] w fun e w' => e = .returned (.slice (some ⟨w.heap.size, 0, none⟩) 7 7) ∧ On w w' ∧ Curve w' w.heap.size rainP rainK 7 ∧ w.heap.size < w'.heap.size := by
  go_enter Tryd.func37, Tryd.ntmps37
  go_wp2
  go_ret
  refine ⟨rfl, by repeat (first | with_reducible exact On.refl _ | apply On.alloc), fun k hk => ?_, by simp⟩
  match k, hk with
    | 0, _ => exact ⟨by rw [World.cell?_alloc_mark]; kernel_rfl, by rw [World.cell?_alloc_mark]; kernel_rfl⟩
    | 1, _ => exact ⟨by rw [World.cell?_alloc_mark]; kernel_rfl, by rw [World.cell?_alloc_mark]; kernel_rfl⟩
    | 2, _ => exact ⟨by rw [World.cell?_alloc_mark]; kernel_rfl, by rw [World.cell?_alloc_mark]; kernel_rfl⟩
    | 3, _ => exact ⟨by rw [World.cell?_alloc_mark]; kernel_rfl, by rw [World.cell?_alloc_mark]; kernel_rfl⟩
    | 4, _ => exact ⟨by rw [World.cell?_alloc_mark]; kernel_rfl, by rw [World.cell?_alloc_mark]; kernel_rfl⟩
    | 5, _ => exact ⟨by rw [World.cell?_alloc_mark]; kernel_rfl, by rw [World.cell?_alloc_mark]; kernel_rfl⟩
    | 6, _ => exact ⟨by rw [World.cell?_alloc_mark]; kernel_rfl, by rw [World.cell?_alloc_mark]; kernel_rfl⟩
set_option maxHeartbeats 1000000 in
theorem impl_rainExponents (w : World) :
    Calls Tryd.prog 38 #[] w fun e w' => e = .returned (.slice (some ⟨w.heap.size, 0, none⟩) 7 7) ∧ On w w' ∧ Curve w' w.heap.size rainP rainA 7 ∧ w.heap.size < w'.heap.size := by
  go_enter Tryd.func38, Tryd.ntmps38
  go_wp2
  go_ret
  refine ⟨rfl, by repeat (first | with_reducible exact On.refl _ | apply On.alloc), fun k hk => ?_, by simp⟩
  match k, hk with
    | 0, _ => exact ⟨by rw [World.cell?_alloc_mark]; kernel_rfl, by rw [World.cell?_alloc_mark]; kernel_rfl⟩
    | 1, _ => exact ⟨by rw [World.cell?_alloc_mark]; kernel_rfl, by rw [World.cell?_alloc_mark]; kernel_rfl⟩
    | 2, _ => exact ⟨by rw [World.cell?_alloc_mark]; kernel_rfl, by rw [World.cell?_alloc_mark]; kernel_rfl⟩
    | 3, _ => exact ⟨by rw [World.cell?_alloc_mark]; kernel_rfl, by rw [World.cell?_alloc_mark]; kernel_rfl⟩
    | 4, _ => exact ⟨by rw [World.cell?_alloc_mark]; kernel_rfl, by rw [World.cell?_alloc_mark]; kernel_rfl⟩
    | 5, _ => exact ⟨by rw [World.cell?_alloc_mark]; kernel_rfl, by rw [World.cell?_alloc_mark]; kernel_rfl⟩
    | 6, _ => exact ⟨by rw [World.cell?_alloc_mark]; kernel_rfl, by rw [World.cell?_alloc_mark]; kernel_rfl⟩
set_option maxHeartbeats 1000000 in
theorem impl_gases (w : World) :
    Calls Tryd.prog 34 #[] w fun e w' => e = .returned (.slice (some ⟨w.heap.size, 0, none⟩) 9 9) ∧ On w w' ∧ Curve w' w.heap.size gasP gasV 9 ∧ w.heap.size < w'.heap.size := by
  go_enter Tryd.func34, Tryd.ntmps34
  go_wp2
  go_ret
  refine ⟨rfl, by repeat (first | with_reducible exact On.refl _ | apply On.alloc), fun k hk => ?_, by simp⟩
  match k, hk with
    | 0, _ => exact ⟨by rw [World.cell?_alloc_mark]; kernel_rfl, by rw [World.cell?_alloc_mark]; kernel_rfl⟩
    | 1, _ => exact ⟨by rw [World.cell?_alloc_mark]; kernel_rfl, by rw [World.cell?_alloc_mark]; kernel_rfl⟩
    | 2, _ => exact ⟨by rw [World.cell?_alloc_mark]; kernel_rfl, by rw [World.cell?_alloc_mark]; kernel_rfl⟩
    | 3, _ => exact ⟨by rw [World.cell?_alloc_mark]; kernel_rfl, by rw [World.cell?_alloc_mark]; kernel_rfl⟩
    | 4, _ => exact ⟨by rw [World.cell?_alloc_mark]; kernel_rfl, by rw [World.cell?_alloc_mark]; kernel_rfl⟩
    | 5, _ => exact ⟨by rw [World.cell?_alloc_mark]; kernel_rfl, by rw [World.cell?_alloc_mark]; kernel_rfl⟩
    | 6, _ => exact ⟨by rw [World.cell?_alloc_mark]; kernel_rfl, by rw [World.cell?_alloc_mark]; kernel_rfl⟩
    | 7, _ => exact ⟨by rw [World.cell?_alloc_mark]; kernel_rfl, by rw [World.cell?_alloc_mark]; kernel_rfl⟩
    | 8, _ => exact ⟨by rw [World.cell?_alloc_mark]; kernel_rfl, by rw [World.cell?_alloc_mark]; kernel_rfl⟩
set_option maxHeartbeats 1000000 in
theorem impl_leaves (w : World) :
    Calls Tryd.prog 25 #[] w fun e w' => e = .returned (.slice (some ⟨w.heap.size, 0, none⟩) 4 4) ∧ On w w' ∧ Curve w' w.heap.size leafP leafV 4 ∧ w.heap.size < w'.heap.size := by
  go_enter Tryd.func25, Tryd.ntmps25
  go_wp2
  go_ret
  refine ⟨rfl, by repeat (first | with_reducible exact On.refl _ | apply On.alloc), fun k hk => ?_, by simp⟩
  match k, hk with
    | 0, _ => exact ⟨by rw [World.cell?_alloc_mark]; kernel_rfl, by rw [World.cell?_alloc_mark]; kernel_rfl⟩
    | 1, _ => exact ⟨by rw [World.cell?_alloc_mark]; kernel_rfl, by rw [World.cell?_alloc_mark]; kernel_rfl⟩
    | 2, _ => exact ⟨by rw [World.cell?_alloc_mark]; kernel_rfl, by rw [World.cell?_alloc_mark]; kernel_rfl⟩
    | 3, _ => exact ⟨by rw [World.cell?_alloc_mark]; kernel_rfl, by rw [World.cell?_alloc_mark]; kernel_rfl⟩
end Go.Proofs.YtednfkjdidlenaaDoor.Tab
