
/-
  Lists of lists of numbers as a field of a record: the names that gen_net0.py asks of a field. Condition: at most 1048576 lists of at most 1048576 numbers.
-/
import Derived.Test.YtofoffdmhekceaaMatsC
namespace Go.Proofs.Ytofoffdmhekceaa.Mts
open Go.RowKit

abbrev Z := List Int
def d0 : Z := []
def Small (m : Nat) (z : Z) : Prop := z.length ≤ m
theorem Small.mono {m n : Nat} {z : Z} (h : Small m z) (k : m ≤ n) : Small n z := Nat.le_trans h k
def Rows (w : World) (v : Value) (zs : List Z) : Prop := Mats.Rows w v zs
def RowsO (B : Nat) (w : World) (v : Value) (zs : List Z) : Prop := Mats.Own B w v zs
theorem Rows.on {w w' : World} {v : Value} {zs : List Z} (h : Rows w v zs) (hb : On w w') : Rows w' v zs := Mats.Rows.below h hb
theorem RowsO.rows {B : Nat} {w : World} {v : Value} {zs : List Z} (h : RowsO B w v zs) : Rows w v zs := Mats.Own.rows h
theorem RowsO.on {B : Nat} {w w' : World} {v : Value} {zs : List Z} (h : RowsO B w v zs) (hb : On w w') : RowsO B w' v zs := Mats.Own.below h hb
theorem RowsO.mono {B B' : Nat} {w : World} {v : Value} {zs : List Z} (h : RowsO B w v zs) (hb : B' ≤ B) : RowsO B' w v zs := Mats.Own.mono h hb
theorem RowsO.setCell {B : Nat} {w : World} {v : Value} {zs : List Z} (h : RowsO B w v zs) {p : Addr} (hp : p.block < B) (u : Value) : RowsO B (w.setCell p u) v zs := by
  obtain ⟨a, cap, hv, hc⟩ := h
  refine ⟨a, cap, hv, fun h0 => ?_⟩
  obtain ⟨b, off, ha, hB, hlt, hcell⟩ := hc h0
  refine ⟨b, off, ha, hB, by simpa using hlt, fun i hi => ?_⟩
  obtain ⟨hf, x, hx, hz⟩ := hcell i hi
  have hne : p ≠ (⟨b, off + i, none⟩ : Addr) := by intro hc; rw [hc] at hp; exact absurd hp (by simp; omega)
  exact ⟨by rw [World.frozen?_setCell]; exact hf, x, (World.cell?_setCell_other (h := hne) ..).trans hx, Ints.Own.setCell hz hp u⟩
/-- A list of lists that came in. -/
def Arg (w : World) (a : Option Addr) (cap : Nat) (zs : List Z) : Prop := Rows w (.slice a zs.length cap) zs ∧ zs.length ≤ maxLen ∧ ∀ k, k < zs.length → Small maxLen (zs.getD k d0)
theorem open_rows {H : Type} {enc : TypeId × Value → H} {w : World} {base fuel : Nat} {c : Value} {x : DataW H × List MemPlace} (h : DataW.trod enc Try.prog w base (fun _ => true) true fuel 22 [c] = some x) :
    ∃ a cap zs, c = .slice a zs.length cap ∧ Arg w a cap zs := by
  obtain ⟨a, len, cap, zs, hc, he, hr, hm, hl⟩ := Mats.open_rows h
  subst he
  exact ⟨a, cap, zs, hc, hr, hm, hl⟩
theorem copyS (v : Value) (zs : List Z) (w : World) (hn : zs.length ≤ 1048576) (h : Rows w v zs) (hs : ∀ k, k < zs.length → Small 1048576 (zs.getD k d0)) :
    Calls Try.prog 37 #[v] w fun e w' => ∃ a cap, e = .returned (.slice a zs.length cap) ∧ RowsO w.heap.size w' (.slice a zs.length cap) zs ∧ On w w' :=
  Mats.copyS v zs w hn hs h
theorem eqS (v v2 : Value) (zs : List Z) (w : World) (hn : zs.length ≤ 1048576) (h : Rows w v zs) (h2 : Rows w v2 zs) (hs : ∀ k, k < zs.length → Small 1048576 (zs.getD k d0)) :
    Calls Try.prog 23 #[v, v2] w fun e w' => e = .returned (.bool true) ∧ On w w' :=
  Mats.eqS v v2 zs w hn hs h h2
theorem szS (left : Nat) (v : Value) (zs : List Z) (w : World) (hleft : left ≤ 1048576) (hm : zs.length ≤ maxLen) (hall : ∀ k, k < zs.length → Small maxLen (zs.getD k d0)) (h : Rows w v zs) :
    Calls Try.prog 35 #[v, .int .i64 left] w fun e w' => ∃ r : Int, e = .returned (.int .i64 r) ∧ On w w' ∧ (r < 0 ∨ ∃ c : Nat, r = (c : Int) ∧ c ≤ 1048576 ∧ zs.length ≤ 1048576 ∧ ∀ i, i < zs.length → Small 1048576 (zs.getD i d0)) :=
  (Mats.szFrom left v zs w hleft hm hall h).mono fun e w' ⟨r, he, ho, hr⟩ => ⟨r, he, ho, hr.imp id fun ⟨h0, h1, h2, h3⟩ => ⟨r.toNat, by omega, by omega, h2, h3⟩⟩
end Go.Proofs.Ytofoffdmhekceaa.Mts
