
/-
  The rows of a problem's lists, as the walks read them; whether there is an item. Condition: sizes that fit.
-/
import Derived.Test.YtofoffdmhekceaaConI
namespace Go.Proofs.Ytofoffdmhekceaa.Con
open Go.RowKit
open Plain
open Ints (Ints)
open Prb (T)

theorem ret_two {a b c d : Int} (h : a = b) (k : c = d) : Ending.returned (.tuple #[.int .i64 a, .int .i64 c]) = .returned (.tuple #[.int .i64 b, .int .i64 d]) := by rw [h, k]
/-- The row i of a square matrix. -/
def RowAt (w : World) (b off n i : Nat) (zs : List (List Int)) : Prop :=
  ∃ b1 o1 c1, w.cell? ⟨b, off + i, none⟩ = some (.slice (some ⟨b1, o1, none⟩) n c1) ∧ b1 < w.heap.size ∧ ∀ k, k < n → w.cell? ⟨b1, o1 + k, none⟩ = some (.int .i64 (at2 zs i k))
theorem RowAt.on {w w' : World} {b off n i : Nat} {zs : List (List Int)} (h : RowAt w b off n i zs) (hb : b < w.heap.size) (ho : On w w') : RowAt w' b off n i zs := by
  obtain ⟨b1, o1, c1, h1, h2, h3⟩ := h
  exact ⟨b1, o1, c1, (ho.cell (by exact hb)).trans h1, ho.lts _ h2, fun k hk => (ho.cell (by exact h2)).trans (h3 k hk)⟩
theorem rows_at {w : World} {a : Option Addr} {cap n : Nat} {zs : List (List Int)} (h : Mats.Rows w (.slice a zs.length cap) zs) (h0 : 0 < zs.length) (hn : zs.length = n) (hsq : ∀ i, i < n → (zs.getD i []).length = n) :
    ∃ b off, a = some ⟨b, off, none⟩ ∧ b < w.heap.size ∧ ∀ i, i < n → RowAt w b off n i zs := by
  obtain ⟨b, off, ha, hb, hcell⟩ := Mats.slice_of h h0
  refine ⟨b, off, ha, hb, fun i hi => ?_⟩
  obtain ⟨u, hu, hz⟩ := hcell i (by omega)
  obtain ⟨a1, c1, rfl, hc1⟩ := hz
  rw [hsq i hi] at hc1 hu
  obtain ⟨b1, o1, rfl, hb1, hk⟩ := hc1 (by omega)
  exact ⟨b1, o1, c1, hu, hb1, hk⟩
/-- The row i of a list of lists. -/
def LisAt (w : World) (b off i : Nat) (zs : List (List Int)) : Prop :=
  ∃ d e, w.cell? ⟨b, off + i, none⟩ = some (.slice d (zs.getD i []).length e) ∧ Ints w (.slice d (zs.getD i []).length e) (zs.getD i [])
theorem lists_at {w : World} {a : Option Addr} {cap : Nat} {zs : List (List Int)} (h : Mats.Rows w (.slice a zs.length cap) zs) (h0 : 0 < zs.length) :
    ∃ b off, a = some ⟨b, off, none⟩ ∧ b < w.heap.size ∧ ∀ i, i < zs.length → LisAt w b off i zs := by
  obtain ⟨b, off, ha, hb, hcell⟩ := Mats.slice_of h h0
  refine ⟨b, off, ha, hb, fun i hi => ?_⟩
  obtain ⟨u, hu, hz⟩ := hcell i hi
  have hz' := hz
  obtain ⟨d, e, rfl, -⟩ := hz
  exact ⟨d, e, hu, hz'⟩
theorem LisAt.on {w w' : World} {b off i : Nat} {zs : List (List Int)} (h : LisAt w b off i zs) (hb : b < w.heap.size) (ho : On w w') : LisAt w' b off i zs := by
  obtain ⟨d, e, h1, h2⟩ := h
  exact ⟨d, e, (ho.cell (by exact hb)).trans h1, h2.below ho⟩
def itemB (N : T) (x : Int) : Bool := inB x 0 ((N.f0.length : Int) - 1)
theorem spec_item (g : Nat) (N : T) (a0 a1 : Option Addr) (c0 c1 : Nat) (x : Int) (w : World) (hn : N.f0.length ≤ 1048576) (h : At w g N a0 a1 c0 c1) :
    Calls Try.prog 50 #[.pointer (some ⟨g, 0, none⟩), .int .i64 x] w fun e w' => e = .returned (.bool (itemB N x)) ∧ w = w' := by
  have hlt := h.lt
  have k0 := h.k0
  have HI := Lib.hid (fun w => Arith.l00In x 0 ((N.f0.length : Int) - 1) w)
  have en := Lib.hid (show itemB N x = inB x 0 ((N.f0.length : Int) - 1) from rfl)
  generalize N.f0.length = n at *
  clear h
  go_enter Try.func50, Try.ntmps50
  go_wp2_with fail
  refine (HI.out _).mono ?_
  rintro e w1 ⟨rfl, rfl⟩
  go_wp2_with fail
  go_ret
  exact ⟨ret_bool en.out.symm, rfl⟩
theorem impl_item (v : Value) (N : T) (x : Int) (w : World) (hn : N.f0.length ≤ 1048576) (h : Prb.Is w v N) :
    Calls Try.prog 52 #[v, .int .i64 x] w fun e w' => e = .returned (.bool (itemB N x)) ∧ On w w' := by
  obtain ⟨a0, a1, c0, c1, rfl, -, -⟩ := Is.shape h
  have HI := Lib.hid (fun w => Arith.within x 0 ((N.f0.length : Int) - 1) w)
  have en := Lib.hid (show itemB N x = inB x 0 ((N.f0.length : Int) - 1) from rfl)
  generalize N.f0.length = n at *
  generalize N.f1.length = m at *
  clear h
  go_enter Try.func52, Try.ntmps52
  go_wp2_with fail
  refine (HI.out _).mono ?_
  rintro e w1 ⟨rfl, rfl⟩
  go_wp2_with fail
  go_ret
  exact ⟨ret_bool en.out.symm, by repeat (first | with_reducible exact On.refl _ | with_reducible apply On.alloc)⟩
theorem of_item {N : T} {x : Int} (h : itemB N x = true) : ∃ i : Nat, x = (i : Int) ∧ i < N.f0.length := by
  have := of_inB h
  exact ⟨x.toNat, by omega, by omega⟩
end Go.Proofs.Ytofoffdmhekceaa.Con
