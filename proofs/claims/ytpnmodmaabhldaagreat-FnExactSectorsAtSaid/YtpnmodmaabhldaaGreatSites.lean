
/-
  Slices of records Site: opened where one comes in; what the laws' copy, comparison and count of them return. Condition: at most 1048576 of them, and of numbers and bytes in each.
-/
import Derived.Test.YtpnmodmaabhldaaGreatOn
import Derived.Test.YtpnmodmaabhldaaGreatOnH
import Derived.Test.YtpnmodmaabhldaaGreatPoint
import Derived.Deep.Slices
import Derived.ChangeSame
import Derived.Lib.SmallJoins
import Derived.OpenShut
import Derived.Deep.OwnRows
import Derived.Deep.QuietTactic
import Derived.BigQuiet
import Derived.IntWalk
namespace Go.Proofs.YtpnmodmaabhldaaGreat.Sites
open Go.ChangeShapes Go.WideShapes Go.Deep Go.RowKit
variable {H : Type} {enc : TypeId × Value → H} {P : Program} {w : World} {base : Nat} {spare : Nat → Bool} {held : Bool}

theorem fields_Point {t : TypeId} {g0 g1 : Field} {fuel : Nat} {u0 u1 : Value} {x : DataW H × List MemPlace} (ht : P.underlying t = some (.struct #[g0, g1])) (hoff : (g0.offset, g1.offset, P.cellsOf g0.type, P.cellsOf g1.type) = (0, 1, 1, 1)) (h : DataW.trod enc P w base spare held fuel t [u0, u1] = some x) :
    ∃ y0 y1 n, DataW.trod enc P w base spare held n g0.type [u0] = some y0 ∧ DataW.trod enc P w base spare held n g1.type [u1] = some y1 := by
  simp only [Prod.mk.injEq] at hoff
  obtain ⟨o0, o1, c0, c1⟩ := hoff
  obtain ⟨xs, n, _, rfl, hl, hlen, hf⟩ := DataW.trod_struct ht h
  match xs, hlen with
  | [y0, y1], _ => exact ⟨y0, y1, n, by simpa [o0, c0] using hf 0 g0 rfl, by simpa [o1, c1] using hf 1 g1 rfl⟩
theorem open_list {t e : TypeId} {f0 f1 f2 : Field} {fuel : Nat} {cs : List Value} {x : DataW H × List MemPlace} (ht : P.underlying t = some (.slice e)) (he : P.underlying e = some (.struct #[f0, f1, f2]))
    (ce : P.cellsOf e = 4) (hoff : (f0.offset, f1.offset, f2.offset, P.cellsOf f0.type, P.cellsOf f1.type, P.cellsOf f2.type) = (0, 1, 2, 1, 1, 2))
    (h : DataW.trod enc P w base (fun _ => true) held fuel t cs = some x) :
    cs = [.slice none 0 0] ∨ ∃ (a : Addr) (len cap : Nat), cs = [.slice (some a) len cap] ∧ len ≤ cap ∧ cap ≤ maxLen ∧ ∀ i, i < cap → ∃ (v0 v1 v2 v3 : Value) (y0 y1 y2 : DataW H × List MemPlace) (n : Nat),
      w.cell? (a.add (i * 4 + 0)) = some v0 ∧ w.cell? (a.add (i * 4 + 1)) = some v1 ∧ w.cell? (a.add (i * 4 + 2)) = some v2 ∧ w.cell? (a.add (i * 4 + 3)) = some v3 ∧
      DataW.trod enc P w base (fun _ => true) held n f0.type [v0] = some y0 ∧ DataW.trod enc P w base (fun _ => true) held n f1.type [v1] = some y1 ∧ DataW.trod enc P w base (fun _ => true) held n f2.type [v2, v3] = some y2 := by
  simp only [Prod.mk.injEq] at hoff
  obtain ⟨o0, o1, o2, c0, c1, c2⟩ := hoff
  rcases open_slice ht h with ⟨h0, _⟩ | ⟨a, len, cap, m, n, D, Pl, rfl, hb, hl, hm, hmm, rfl, hx⟩
  · exact .inl h0
  · have hmc : m = cap := by simpa using hmm
    subst hmc
    refine .inr ⟨a, len, m, rfl, hl, hm, fun i hi => ?_⟩
    obtain ⟨cs', h1, h2⟩ := hx i hi
    rw [ce] at h1
    obtain ⟨_, hlen, hcell⟩ := World.cells?_some h1
    obtain ⟨xs, k, hk, hxy, _, hxl, hf⟩ := DataW.trod_struct he h2
    match xs, hxl, cs', hlen with
    | [y0, y1, y2], _, [v0, v1, v2, v3], _ =>
      have g0 := hf 0 f0 rfl
      have g1 := hf 1 f1 rfl
      have g2 := hf 2 f2 rfl
      simp [o0, o1, o2, c0, c1, c2] at g0 g1 g2
      have e0 := hcell 0 (by omega)
      have e1 := hcell 1 (by omega)
      have e2 := hcell 2 (by omega)
      have e3 := hcell 3 (by omega)
      rw [add_add] at e0 e1 e2 e3
      exact ⟨v0, v1, v2, v3, y0, y1, y2, k, by simpa using e0, by simpa using e1, by simpa using e2, by simpa using e3, g0, g1, g2⟩

/-- One record: its texts and numbers, and what its slices read as. -/
structure Z where
  x0 : ByteArray
  x1 : ByteArray
  x2 : Int
  x3 : Int
def d0 : Z := ⟨⟨#[]⟩, ⟨#[]⟩, 0, 0⟩
/-- The cells from o on in block b hold the record z. -/
structure El (w : World) (b o : Nat) (z : Z) : Prop where
  c0 : w.cell? ⟨b, o, none⟩ = some (.string z.x0)
  c1 : w.cell? ⟨b, o + 1, none⟩ = some (.string z.x1)
  c2 : w.cell? ⟨b, o + 2, none⟩ = some (.int .i64 z.x2)
  c3 : w.cell? ⟨b, o + 3, none⟩ = some (.int .i64 z.x3)
theorem El.lt {w : World} {b o : Nat} {z : Z} (h : El w b o z) : b < w.heap.size := World.block_lt_of_cell? w _ h.c0
theorem El.on {w w' : World} {b o : Nat} {z : Z} (h : El w b o z) (ho : On w w') : El w' b o z where
  c0 := (ho.cell (by exact h.lt)).trans h.c0
  c1 := (ho.cell (by exact h.lt)).trans h.c1
  c2 := (ho.cell (by exact h.lt)).trans h.c2
  c3 := (ho.cell (by exact h.lt)).trans h.c3
/-- The value v is a slice that reads as the records zs in the world w. -/
def Rows (w : World) (v : Value) (zs : List Z) : Prop :=
  ∃ a cap, v = .slice a zs.length cap ∧ zs.length ≤ cap ∧ (0 < zs.length → ∃ b off, a = some ⟨b, off, none⟩ ∧ b < w.heap.size ∧ ∀ k, k < zs.length → El w b (off + k * 4) (zs.getD k d0))
theorem Rows.on {w w' : World} {v : Value} {zs : List Z} (h : Rows w v zs) (hb : On w w') : Rows w' v zs := by
  obtain ⟨a, cap, hv, hf, hc⟩ := h
  refine ⟨a, cap, hv, hf, fun h0 => ?_⟩
  obtain ⟨b, off, ha, hlt, hcell⟩ := hc h0
  exact ⟨b, off, ha, hb.lts _ hlt, fun k hk => (hcell k hk).on hb⟩
/-- The same, in memory from block B on, none of it frozen. -/
structure ElO (B : Nat) (w : World) (b o : Nat) (z : Z) : Prop where
  c0 : w.cell? ⟨b, o, none⟩ = some (.string z.x0)
  c1 : w.cell? ⟨b, o + 1, none⟩ = some (.string z.x1)
  c2 : w.cell? ⟨b, o + 2, none⟩ = some (.int .i64 z.x2)
  c3 : w.cell? ⟨b, o + 3, none⟩ = some (.int .i64 z.x3)
theorem ElO.el {B : Nat} {w : World} {b o : Nat} {z : Z} (h : ElO B w b o z) : El w b o z where
  c0 := h.c0
  c1 := h.c1
  c2 := h.c2
  c3 := h.c3
theorem ElO.lt {B : Nat} {w : World} {b o : Nat} {z : Z} (h : ElO B w b o z) : b < w.heap.size := World.block_lt_of_cell? w _ h.c0
theorem ElO.on {B : Nat} {w w' : World} {b o : Nat} {z : Z} (h : ElO B w b o z) (ho : On w w') : ElO B w' b o z where
  c0 := (ho.cell (by exact h.lt)).trans h.c0
  c1 := (ho.cell (by exact h.lt)).trans h.c1
  c2 := (ho.cell (by exact h.lt)).trans h.c2
  c3 := (ho.cell (by exact h.lt)).trans h.c3
theorem ElO.mono {B B' : Nat} {w : World} {b o : Nat} {z : Z} (h : ElO B w b o z) (_hb : B' ≤ B) : ElO B' w b o z where
  c0 := h.c0
  c1 := h.c1
  c2 := h.c2
  c3 := h.c3
theorem ElO.setCell {B : Nat} {w : World} {b o : Nat} {z : Z} (h : ElO B w b o z) {p : Addr} (hp : p.block < B) (hb : B ≤ b) (u : Value) : ElO B (w.setCell p u) b o z where
  c0 := (World.cell?_setCell_other (h := fun hc => absurd (congrArg Addr.block hc) (by simp; omega)) ..).trans h.c0
  c1 := (World.cell?_setCell_other (h := fun hc => absurd (congrArg Addr.block hc) (by simp; omega)) ..).trans h.c1
  c2 := (World.cell?_setCell_other (h := fun hc => absurd (congrArg Addr.block hc) (by simp; omega)) ..).trans h.c2
  c3 := (World.cell?_setCell_other (h := fun hc => absurd (congrArg Addr.block hc) (by simp; omega)) ..).trans h.c3
def RowsO (B : Nat) (w : World) (v : Value) (zs : List Z) : Prop :=
  ∃ a cap, v = .slice a zs.length cap ∧ zs.length ≤ cap ∧ (0 < zs.length → ∃ b off, a = some ⟨b, off, none⟩ ∧ B ≤ b ∧ b < w.heap.size ∧ (∀ i, w.frozen? ⟨b, i, none⟩ = false) ∧ ∀ k, k < zs.length → ElO B w b (off + k * 4) (zs.getD k d0))
theorem RowsO.rows {B : Nat} {w : World} {v : Value} {zs : List Z} (h : RowsO B w v zs) : Rows w v zs := by
  obtain ⟨a, cap, hv, hf, hc⟩ := h
  refine ⟨a, cap, hv, hf, fun h0 => ?_⟩
  obtain ⟨b, off, ha, _, hlt, _, hcell⟩ := hc h0
  exact ⟨b, off, ha, hlt, fun k hk => (hcell k hk).el⟩
theorem RowsO.on {B : Nat} {w w' : World} {v : Value} {zs : List Z} (h : RowsO B w v zs) (ho : On w w') : RowsO B w' v zs := by
  obtain ⟨a, cap, hv, hf, hc⟩ := h
  refine ⟨a, cap, hv, hf, fun h0 => ?_⟩
  obtain ⟨b, off, ha, hb, hlt, hz, hcell⟩ := hc h0
  exact ⟨b, off, ha, hb, ho.lts _ hlt, fun i => (ho.frozen (p := ⟨b, i, none⟩) (by exact hlt)).trans (hz i), fun k hk => (hcell k hk).on ho⟩
theorem RowsO.mono {B B' : Nat} {w : World} {v : Value} {zs : List Z} (h : RowsO B w v zs) (hb : B' ≤ B) : RowsO B' w v zs := by
  obtain ⟨a, cap, hv, hf, hc⟩ := h
  refine ⟨a, cap, hv, hf, fun h0 => ?_⟩
  obtain ⟨b, off, ha, hB, hlt, hz, hcell⟩ := hc h0
  exact ⟨b, off, ha, Nat.le_trans hb hB, hlt, hz, fun k hk => (hcell k hk).mono hb⟩
theorem RowsO.setCell {B : Nat} {w : World} {v : Value} {zs : List Z} (h : RowsO B w v zs) {p : Addr} (hp : p.block < B) (u : Value) : RowsO B (w.setCell p u) v zs := by
  obtain ⟨a, cap, hv, hf, hc⟩ := h
  refine ⟨a, cap, hv, hf, fun h0 => ?_⟩
  obtain ⟨b, off, ha, hB, hlt, hz, hcell⟩ := hc h0
  exact ⟨b, off, ha, hB, by simpa using hlt, fun i => by rw [World.frozen?_setCell]; exact hz i, fun k hk => (hcell k hk).setCell hp hB u⟩
theorem RowsO.empty (B : Nat) (w : World) (a : Option Addr) (cap : Nat) : RowsO B w (.slice a 0 cap) [] := ⟨a, cap, rfl, Nat.zero_le _, fun h => by simp at h⟩
theorem Rows.empty (w : World) (a : Option Addr) (cap : Nat) : Rows w (.slice a 0 cap) [] := ⟨a, cap, rfl, Nat.zero_le _, fun h => by simp at h⟩
theorem slice_of {w : World} {a : Option Addr} {cap : Nat} {zs : List Z} (h : Rows w (.slice a zs.length cap) zs) (h0 : 0 < zs.length) : ∃ b off, a = some ⟨b, off, none⟩ ∧ b < w.heap.size ∧ ∀ k, k < zs.length → El w b (off + k * 4) (zs.getD k d0) := by
  obtain ⟨a', cap', he, _, hc⟩ := h
  injection he with h1 h2 h3
  subst h1
  exact hc h0
/-- What is long in a record is at most n long. -/
def Small (n : Nat) (z : Z) : Prop := z.x0.size ≤ n ∧ z.x1.size ≤ n
/-- A slice of records that came in, as the shell opens it. -/
def Arg (w : World) (a : Option Addr) (cap : Nat) (zs : List Z) : Prop := Rows w (.slice a zs.length cap) zs ∧ zs.length ≤ maxLen ∧ ∀ k, k < zs.length → Small maxLen (zs.getD k d0)
/-- A slice of records that came in, opened. -/
theorem open_rows {w : World} {base fuel : Nat} {c : Value} {x : DataW H × List MemPlace} (h : DataW.trod enc Tryz.prog w base (fun _ => true) true fuel 22 [c] = some x) :
    ∃ a cap zs, c = .slice a zs.length cap ∧ Arg w a cap zs := by
  rcases open_list Tryz.underlying22 Tryz.underlying53 (by kernel_rfl) (by kernel_rfl) h with hcs | ⟨a, len, cap, hcs, hl, hm, hx⟩
  · exact ⟨none, 0, [], by simpa using hcs, Rows.empty _ _ _, Nat.zero_le _, fun k hk => by simp at hk⟩
  · obtain ⟨b, off, spot⟩ := a
    have hsp : 0 < cap → spot = none := fun h0 => by
      obtain ⟨v0, v1, v2, v3, y0, y1, y2, n, e0, _⟩ := hx 0 h0
      simpa [Addr.add] using World.cell?_spot e0
    have hp : ∀ i, ∃ z : Z, i < cap → El w b (off + i * 4) z ∧ Small maxLen z := fun i => by
      by_cases hi : i < cap
      · have hs := hsp (by omega)
        subst hs
        obtain ⟨v0, v1, v2, v3, y0, y1, y2, n, e0, e1, e2, e3, g0, g1, g2⟩ := hx i hi
        have ea : ∀ i, (⟨b, off, none⟩ : Addr).add i = ⟨b, off + i, none⟩ := fun i => by cases i <;> simp [Addr.add]
        rw [ea] at e0 e1 e2 e3
        obtain ⟨s0, gs0, -, ws0⟩ := DataW.trod_string Tryz.underlying9 g0
        obtain rfl : v0 = .string s0 := by simpa using gs0
        obtain ⟨s1, gs1, -, ws1⟩ := DataW.trod_string Tryz.underlying9 g1
        obtain rfl : v1 = .string s1 := by simpa using gs1
        obtain ⟨t2_0, t2_1, n2, q2_0, q2_1⟩ := fields_Point Tryz.underlying51 (by kernel_rfl) g2
        obtain ⟨s2, gs2, -, ws2⟩ := DataW.trod_int Tryz.underlying2 q2_0
        obtain rfl : v2 = .int .i64 s2 := by simpa using gs2
        obtain ⟨s3, gs3, -, ws3⟩ := DataW.trod_int Tryz.underlying2 q2_1
        obtain rfl : v3 = .int .i64 s3 := by simpa using gs3
        exact ⟨⟨s0, s1, s2, s3⟩, fun _ => ⟨⟨by simpa [Nat.add_assoc] using e0, by simpa [Nat.add_assoc] using e1, by simpa [Nat.add_assoc] using e2, by simpa [Nat.add_assoc] using e3⟩, ⟨ws0, ws1⟩⟩⟩
      · exact ⟨d0, fun h => absurd h hi⟩
    have hz : ∀ i, i < len → (((List.range len).map fun i => Classical.choose (hp i)).getD i d0) = Classical.choose (hp i) := fun i hi => by simp [hi]
    refine ⟨some ⟨b, off, spot⟩, cap, (List.range len).map fun i => Classical.choose (hp i), by simpa using hcs, ⟨_, _, rfl, by simpa using hl, fun h0 => ?_⟩, by simpa using Nat.le_trans hl hm, fun k hk => ?_⟩
    · have h0' : 0 < len := by simpa using h0
      have hs := hsp (by omega)
      subst hs
      refine ⟨b, off, rfl, (Classical.choose_spec (hp 0) (by omega)).1.lt, fun k hk => ?_⟩
      have hk' : k < len := by simpa using hk
      rw [hz k hk']
      exact (Classical.choose_spec (hp k) (by omega)).1
    · have hk' : k < len := by simpa using hk
      rw [hz k hk']
      exact (Classical.choose_spec (hp k) (by omega)).2

set_option maxHeartbeats 2000000 in
theorem copy1 (z : Z) (w : World) :
    Calls Tryz.prog 25 #[.agg #[.string z.x0, .string z.x1, .int .i64 z.x2, .int .i64 z.x3]] w fun e w' => e = .returned (.agg #[.string z.x0, .string z.x1, .int .i64 z.x2, .int .i64 z.x3]) ∧ On w w' := by
  go_enter Tryz.func25, Tryz.ntmps25
  go_wp2_with fail
  refine (Point.laws_toPoint _ _ _).mono ?_
  rintro e w1 ⟨rfl, h1⟩
  obtain ⟨hc1, hf1⟩ := bcell h1
  have z1 : w.heap.size + 2 < w1.heap.size := by have := h1.size; simp at this; omega
  have z2 : w.heap.size + 1 < w1.heap.size := by omega
  have z3 : w.heap.size < w1.heap.size := by omega
  go_wp2_with fail
  refine bodyPost_ret (v := .agg #[.string z.x0, .string z.x1, .int .i64 z.x2, .int .i64 z.x3]) (by simp [results, Tryz.results25, go_sem, hc1]) rfl ⟨rfl, ?_⟩
  iterate 6 refine On.setCell ?_ (by (try simp) <;> omega) _
  refine On.trans ?_ h1
  repeat (first | with_reducible exact On.refl _ | with_reducible apply On.alloc | with_reducible apply On.drewN | with_reducible apply On.drew | with_reducible refine On.setCell ?_ (by (try simp) <;> omega) _)
theorem eqPoint (x y : Int) (w : World) :
    Calls Tryz.prog 68 #[.agg #[.int .i64 x, .int .i64 y], .agg #[.int .i64 x, .int .i64 y]] w fun e w' => e = .returned (.bool true) ∧ On w w' := by
  go_enter Tryz.func68, Tryz.ntmps68
  go_wp2_with fail
  go_ret
  exact ⟨rfl, by repeat (first | with_reducible exact On.refl _ | with_reducible apply On.alloc | with_reducible apply On.drewN | with_reducible apply On.drew | with_reducible refine On.setCell ?_ (by (try simp) <;> omega) _)⟩
set_option maxHeartbeats 2000000 in
theorem eq1 (z : Z) (w : World) :
    Calls Tryz.prog 101 #[.agg #[.string z.x0, .string z.x1, .int .i64 z.x2, .int .i64 z.x3], .agg #[.string z.x0, .string z.x1, .int .i64 z.x2, .int .i64 z.x3]] w fun e w' => e = .returned (.bool true) ∧ On w w' := by
  go_enter Tryz.func101, Tryz.ntmps101
  go_wp2_with fail
  refine (eqPoint _ _ _).mono ?_
  rintro e w1 ⟨rfl, h1⟩
  obtain ⟨hc1, hf1⟩ := bcell h1
  have s1 := h1.size
  go_wp2_with fail
  go_ret
  exact ⟨rfl, by refine On.trans ?_ h1; repeat (first | with_reducible exact On.refl _ | with_reducible apply On.alloc | with_reducible apply On.drewN | with_reducible apply On.drew | with_reducible refine On.setCell ?_ (by (try simp) <;> omega) _)⟩
/-- What is left of a count behind several lengths. -/
def restL : Nat → List Nat → Int
  | left, [] => (left : Int)
  | left, l :: ls => if l ≤ left then restL (left - l) ls else -1
theorem restL_or (ls : List Nat) : ∀ left, restL left ls = -1 ∨ ∃ r : Nat, restL left ls = (r : Int) ∧ r ≤ left ∧ ∀ l ∈ ls, l ≤ left := by
  induction ls with
  | nil => intro left; exact .inr ⟨left, rfl, Nat.le_refl _, fun _ h => by cases h⟩
  | cons l ls ih =>
    intro left
    unfold restL
    by_cases h : l ≤ left
    · rw [if_pos h]
      rcases ih (left - l) with h1 | ⟨r, h1, h2, h3⟩
      · exact .inl h1
      · refine .inr ⟨r, h1, by omega, fun m hm => ?_⟩
        rcases List.mem_cons.1 hm with rfl | hm
        · exact h
        · have := h3 m hm; omega
    · rw [if_neg h]; exact .inl rfl
theorem restL_yes {left l : Nat} {ls : List Nat} (h : l ≤ left) : restL left (l :: ls) = restL (left - l) ls := if_pos h
theorem restL_no {left l : Nat} {ls : List Nat} (h : ¬ l ≤ left) : restL left (l :: ls) = -1 := if_neg h
set_option maxHeartbeats 4000000 in
theorem count1 (left : Nat) (z : Z) (w : World) (h : left ≤ 1048576) (m0 : z.x0.size ≤ maxLen) (m1 : z.x1.size ≤ maxLen) :
    Calls Tryz.prog 23 #[.agg #[.string z.x0, .string z.x1, .int .i64 z.x2, .int .i64 z.x3], .int .i64 left] w fun e w' => e = .returned (.int .i64 (restL left [z.x0.size, z.x1.size])) ∧ On w w' := by
  unfold maxLen at m0 m1
  by_cases g0 : z.x0.size ≤ left
  · obtain ⟨r0, e0⟩ : ∃ r : Nat, r = left - z.x0.size := ⟨_, rfl⟩
    have d0 : ((left : Nat) : Int) - (z.x0.size : Int) = ((r0 : Nat) : Int) := by omega
    have q0 : ¬ ((left : Nat) : Int) - (z.x0.size : Int) < 0 := by omega
    have t0 : ¬ ((r0 : Nat) : Int) < 0 := by omega
    by_cases g1 : z.x1.size ≤ r0
    · obtain ⟨r1, e1⟩ : ∃ r : Nat, r = r0 - z.x1.size := ⟨_, rfl⟩
      have d1 : ((r0 : Nat) : Int) - (z.x1.size : Int) = ((r1 : Nat) : Int) := by omega
      have q1 : ¬ ((r0 : Nat) : Int) - (z.x1.size : Int) < 0 := by omega
      have t1 : ¬ ((r1 : Nat) : Int) < 0 := by omega
      have en := Lib.hid (show restL left [z.x0.size, z.x1.size] = ((r1 : Nat) : Int) by rw [restL_yes g0, ← e0, restL_yes g1, ← e1]; rfl)
      clear e0 e1
      go_enter Tryz.func23, Tryz.ntmps23
      go_wp2_with fail
      go_ret
      exact ⟨ret_int en.out.symm, by repeat (first | with_reducible exact On.refl _ | with_reducible apply On.alloc | with_reducible apply On.drewN | with_reducible apply On.drew | with_reducible refine On.setCell ?_ (by (try simp) <;> omega) _)⟩
    · have en := Lib.hid (show restL left [z.x0.size, z.x1.size] = -1 by rw [restL_yes g0, ← e0, restL_no g1])
      have q1 : ((r0 : Nat) : Int) - (z.x1.size : Int) < 0 := by omega
      clear e0
      go_enter Tryz.func23, Tryz.ntmps23
      go_wp2_with fail
      go_ret
      exact ⟨ret_int en.out.symm, by repeat (first | with_reducible exact On.refl _ | with_reducible apply On.alloc | with_reducible apply On.drewN | with_reducible apply On.drew | with_reducible refine On.setCell ?_ (by (try simp) <;> omega) _)⟩
  · have en := Lib.hid (show restL left [z.x0.size, z.x1.size] = -1 by rw [restL_no g0])
    have q0 : ((left : Nat) : Int) - (z.x0.size : Int) < 0 := by omega
    go_enter Tryz.func23, Tryz.ntmps23
    go_wp2_with fail
    go_ret
    exact ⟨ret_int en.out.symm, by repeat (first | with_reducible exact On.refl _ | with_reducible apply On.alloc | with_reducible apply On.drewN | with_reducible apply On.drew | with_reducible refine On.setCell ?_ (by (try simp) <;> omega) _)⟩
/-- What a count leaves bounds the record. -/
theorem small_of {left r : Nat} {z : Z} (_ : r ≤ left) (h : ∀ l ∈ ([z.x0.size, z.x1.size] : List Nat), l ≤ left) : Small left z :=
  ⟨h _ (by simp), h _ (by simp)⟩
theorem Small.mono {m n : Nat} {z : Z} (h : Small m z) (k : m ≤ n) : Small n z :=
  ⟨Nat.le_trans h.1 k, Nat.le_trans h.2 k⟩

/-- The values of a row from o on are those of the record z. -/
structure ElF (F : Nat → Value) (o : Nat) (z : Z) : Prop where
  c0 : F (o) = .string z.x0
  c1 : F (o + 1) = .string z.x1
  c2 : F (o + 2) = .int .i64 z.x2
  c3 : F (o + 3) = .int .i64 z.x3
theorem ElF.move {F G : Nat → Value} {o : Nat} {z : Z} (h : ElF F o z)  (hg : ∀ q, q < 4 → G (o + q) = F (o + q)) : ElF G o z where
  c0 := (hg 0 (by omega)).trans h.c0
  c1 := (hg 1 (by omega)).trans h.c1
  c2 := (hg 2 (by omega)).trans h.c2
  c3 := (hg 3 (by omega)).trans h.c3
def put (F : Nat → Value) (o : Nat) (u0 u1 u2 u3 : Value) (j : Nat) : Value := if j = o + 3 then u3 else (if j = o + 2 then u2 else (if j = o + 1 then u1 else (if j = o then u0 else F j)))
theorem put_0 (F : Nat → Value) (o : Nat) (u0 u1 u2 u3 : Value) : put F o u0 u1 u2 u3 (o) = u0 := by simp [put]
theorem put_1 (F : Nat → Value) (o : Nat) (u0 u1 u2 u3 : Value) : put F o u0 u1 u2 u3 (o + 1) = u1 := by simp [put]
theorem put_2 (F : Nat → Value) (o : Nat) (u0 u1 u2 u3 : Value) : put F o u0 u1 u2 u3 (o + 2) = u2 := by simp [put]
theorem put_3 (F : Nat → Value) (o : Nat) (u0 u1 u2 u3 : Value) : put F o u0 u1 u2 u3 (o + 3) = u3 := by simp [put]
theorem put_other (F : Nat → Value) (o : Nat) (u0 u1 u2 u3 : Value) {j : Nat} (h : j < o ∨ o + 4 ≤ j) : put F o u0 u1 u2 u3 j = F j := by
  unfold put
  rw [if_neg (by omega), if_neg (by omega), if_neg (by omega), if_neg (by omega)]
theorem ElO.of_row {w : World} {b : Nat} {t : TypeId} {n : Nat} {F : Nat → Value} {o : Nat} {z : Z} (h : w.rowIs b t n F) (ho : o + 4 ≤ n) (he : ElF F o z) : ElO b w b o z where
  c0 := by rw [h.cell (i := o) (by omega), he.c0]
  c1 := by rw [h.cell (i := o + 1) (by omega), he.c1]
  c2 := by rw [h.cell (i := o + 2) (by omega), he.c2]
  c3 := by rw [h.cell (i := o + 3) (by omega), he.c3]
def zeroAt : Nat → Value
  | 0 => .string ⟨#[]⟩
  | 1 => .string ⟨#[]⟩
  | 2 => .int .i64 0
  | _ => .int .i64 0
theorem infoP : (Tryz.prog.info? 58).map (fun i => (i.zero, i.size, i.bytes)) = some (some (.agg #[.string ⟨#[]⟩, .string ⟨#[]⟩, .int .i64 0, .int .i64 0]), 4, 48) := by kernel_rfl
/-- 'make' of n records. -/
theorem run_make_rows (n : Nat) (hn : n ≤ 1048576) (w : World) :
    (Instr.makeSlice 32 (.int .i64 (n : Int)) (.int .i64 (n : Int))).run Tryz.prog w = .ok (.slice (some ⟨w.heap.size, 0, none⟩) n n) (w.alloc (.cells (madeCells #[.string ⟨#[]⟩, .string ⟨#[]⟩, .int .i64 0, .int .i64 0] (n * 4)) 58)) := by
  obtain ⟨i, hi, hzz⟩ := Option.map_eq_some_iff.1 infoP
  simp only [Prod.mk.injEq] at hzz
  obtain ⟨hz, hs, hb⟩ := hzz
  have hr := run_make (P := Tryz.prog) w 32 58 i _ Tryz.underlying32 hi hz .i64 .i64 (n : Int) (n : Int) (by omega) (Int.le_refl _) (by rw [hb]; omega) (by omega)
  simp only [Int.toNat_natCast, hs] at hr
  exact hr
theorem made_row (w : World) (n : Nat) (t : TypeId) : (w.alloc (.cells (madeCells #[.string ⟨#[]⟩, .string ⟨#[]⟩, .int .i64 0, .int .i64 0] (n * 4)) t)).rowIs w.heap.size t (n * 4) (fun j => zeroAt (j % 4)) :=
  ⟨_, Go.Deep.blk_alloc_new _ _, size_madeCells _ _, fun i hi => by
    simp only [madeCells, Array.getElem?_map, Array.getElem?_range, hi, if_true, Option.map_some]
    rcases (show i % 4 = 0 ∨ i % 4 = 1 ∨ i % 4 = 2 ∨ i % 4 = 3 by omega) with h | h | h | h <;> simp [h, zeroAt]⟩
set_option maxHeartbeats 4000000 in
theorem copy_some (b off cap : Nat) (zs : List Z) (w : World) (hn : zs.length ≤ 1048576) (hlt : b < w.heap.size)
    (hcell : ∀ k, k < zs.length → El w b (off + k * 4) (zs.getD k d0)) :
    Calls Tryz.prog 50 #[.slice (some ⟨b, off, none⟩) zs.length cap] w fun e w' => ∃ a cap, e = .returned (.slice a zs.length cap) ∧ RowsO w.heap.size w' (.slice a zs.length cap) zs ∧ On w w' := by
  have hmk := fun w => run_make_rows zs.length hn w
  have HC := Lib.hid hcell
  clear hcell
  go_enter Tryz.func50, Tryz.ntmps50
  go_wp2_with fail
  clear hmk
  go_loopw [4] (fun i wr => ∃ k : Nat, k ≤ zs.length ∧ i = .int .i64 k ∧ (∃ F : Nat → Value, wr.rowIs w.heap.size 58 (zs.length * 4) F ∧ (∀ m, m < k → ElF F (m * 4) (zs.getD m d0)) ∧ ∀ j, k * 4 ≤ j → F j = zeroAt (j % 4)) ∧ On w wr) (fun i _ => zs.length - (intOf i).toNat)
  case atStart => exact ⟨0, Nat.zero_le _, rfl, ⟨_, made_row w zs.length _, fun m h => by omega, fun j _ => rfl⟩, On.alloc (On.refl _) _⟩
  case round =>
    obtain ⟨k, hk, rfl, ⟨F, hrow, hel, hze⟩, hb⟩ := hrel
    have HR := Lib.hid hrow
    have HE := Lib.hid hel
    have HZE := Lib.hid hze
    have HB := Lib.hid hb
    clear hrow hel hze hb
    by_cases hlt2 : k < zs.length
    · have hlti : (k : Int) < (zs.length : Int) := by omega
      obtain ⟨z, hz⟩ : ∃ z : Z, z = zs.getD k d0 := ⟨_, rfl⟩
      have E := (HC.out k hlt2).on HB.out
      rw [← hz] at E
      have c0 := E.c0
      have c1 := E.c1
      have c2 := E.c2
      have c3 := E.c3
      have hbr : b < wr.heap.size := HB.out.lts _ hlt
      have HZ := Lib.hid hz
      clear hz E
      go_wp2_with fail
      refine (copy1 z _).mono ?_
      rintro e w1 ⟨rfl, h1⟩
      have hR1 : w1.rowIs w.heap.size 58 (zs.length * 4) F := HR.out.of_block (h1.block _ HR.out.lt)
      have HR1 := Lib.hid hR1
      have HO1 := Lib.hid (HB.out.trans h1)
      have d0 : w1.cell? ⟨w.heap.size, k * 4, none⟩ = some (.string ⟨#[]⟩) := by have := hR1.cell (i := k * 4) (by omega); rw [HZE.out _ (by omega), show (k * 4) % 4 = 0 by omega] at this; exact this
      have f0 : w1.frozen? ⟨w.heap.size, k * 4, none⟩ = false := hR1.frozen _
      have d1 : w1.cell? ⟨w.heap.size, k * 4 + 1, none⟩ = some (.string ⟨#[]⟩) := by have := hR1.cell (i := k * 4 + 1) (by omega); rw [HZE.out _ (by omega), show (k * 4 + 1) % 4 = 1 by omega] at this; exact this
      have f1 : w1.frozen? ⟨w.heap.size, k * 4 + 1, none⟩ = false := hR1.frozen _
      have d2 : w1.cell? ⟨w.heap.size, k * 4 + 2, none⟩ = some (.int .i64 0) := by have := hR1.cell (i := k * 4 + 2) (by omega); rw [HZE.out _ (by omega), show (k * 4 + 2) % 4 = 2 by omega] at this; exact this
      have f2 : w1.frozen? ⟨w.heap.size, k * 4 + 2, none⟩ = false := hR1.frozen _
      have d3 : w1.cell? ⟨w.heap.size, k * 4 + 3, none⟩ = some (.int .i64 0) := by have := hR1.cell (i := k * 4 + 3) (by omega); rw [HZE.out _ (by omega), show (k * 4 + 3) % 4 = 3 by omega] at this; exact this
      have f3 : w1.frozen? ⟨w.heap.size, k * 4 + 3, none⟩ = false := hR1.frozen _
      have zw : w.heap.size < w1.heap.size := hR1.lt
      clear h1 hR1 c0 c1 c2 c3 hbr
      go_wp2_with fail
      go_roundw
      case rel =>
        refine ⟨k + 1, by omega, by go_num, ⟨put F (k * 4) (.string z.x0) (.string z.x1) (.int .i64 z.x2) (.int .i64 z.x3), ((((HR1.out.set (k * 4) _).set (k * 4 + 1) _).set (k * 4 + 2) _).set (k * 4 + 3) _).congr fun j hj => rfl, fun m hm => ?_, fun j hj => ?_⟩, ((((HO1.out.setCell (by exact Nat.le_refl _) _).setCell (by exact Nat.le_refl _) _).setCell (by exact Nat.le_refl _) _).setCell (by exact Nat.le_refl _) _)⟩
        · by_cases g : m = k
          · subst g
            rw [← HZ.out]
            exact ⟨put_0 _ _ _ _ _ _, put_1 _ _ _ _ _ _, put_2 _ _ _ _ _ _, put_3 _ _ _ _ _ _⟩
          · refine (HE.out m (by omega)).move fun q hq => put_other _ _ _ _ _ _ (by omega)
        · rw [put_other _ _ _ _ _ _ (by omega)]
          exact HZE.out j (by omega)
      case measure => simp [intOf]; omega
    · obtain rfl : k = zs.length := by omega
      have hfin := HR
      go_wp2
      go_ret
      refine ⟨_, _, rfl, ⟨_, _, rfl, Nat.le_refl _, fun _ => ⟨w.heap.size, 0, rfl, Nat.le_refl _, hfin.out.lt, fun i => hfin.out.frozen i, fun i hi => ?_⟩⟩, HB.out⟩
      rw [Nat.zero_add]
      exact ElO.of_row hfin.out (by omega) (HE.out i hi)
theorem copy_none (a : Option Addr) (cap : Nat) (w : World) :
    Calls Tryz.prog 50 #[.slice a 0 cap] w fun e w' => ∃ a cap, e = .returned (.slice a 0 cap) ∧ RowsO w.heap.size w' (.slice a 0 cap) [] ∧ On w w' := by
  have hmk := fun w => run_make_rows 0 (by omega) w
  rw [show (((0 : Nat) : Int)) = 0 from rfl] at hmk
  go_enter Tryz.func50, Tryz.ntmps50
  go_wp2
  refine wp_loop_rounds 1 ?_
  rw [rounds_succ]
  go_wp2
  go_ret
  exact ⟨_, _, rfl, RowsO.empty _ _ _ _, by repeat (first | with_reducible exact On.refl _ | with_reducible apply On.alloc | with_reducible apply On.drewN | with_reducible apply On.drew | with_reducible refine On.setCell ?_ (by (try simp) <;> omega) _)⟩
/-- The copy: a new slice with the same records. -/
theorem copyS (v : Value) (zs : List Z) (w : World) (hn : zs.length ≤ 1048576) (h : Rows w v zs) :
    Calls Tryz.prog 50 #[v] w fun e w' => ∃ a cap, e = .returned (.slice a zs.length cap) ∧ RowsO w.heap.size w' (.slice a zs.length cap) zs ∧ On w w' := by
  have h' := h
  obtain ⟨a, cap, rfl, -⟩ := h
  by_cases h0 : 0 < zs.length
  · obtain ⟨b, off, rfl, hlt, hcell⟩ := slice_of h' h0
    exact copy_some b off cap zs w hn hlt hcell
  · have : zs = [] := List.eq_nil_of_length_eq_zero (by omega)
    subst this
    exact copy_none a cap w
set_option maxHeartbeats 4000000 in
theorem eq_some (b off cap b2 off2 cap2 : Nat) (zs : List Z) (w : World) (hn : zs.length ≤ 1048576) (hl1 : b < w.heap.size) (hl2 : b2 < w.heap.size)
    (hcell : ∀ k, k < zs.length → El w b (off + k * 4) (zs.getD k d0)) (hcell2 : ∀ k, k < zs.length → El w b2 (off2 + k * 4) (zs.getD k d0)) :
    Calls Tryz.prog 55 #[.slice (some ⟨b, off, none⟩) zs.length cap, .slice (some ⟨b2, off2, none⟩) zs.length cap2] w fun e w' => e = .returned (.bool true) ∧ On w w' := by
  have HC := Lib.hid hcell
  have HC2 := Lib.hid hcell2
  clear hcell hcell2
  go_enter Tryz.func55, Tryz.ntmps55
  go_wp2_with fail
  go_loopw [5] (fun i wr => ∃ k : Nat, k ≤ zs.length ∧ i = .int .i64 k ∧ On w wr) (fun i _ => zs.length - (intOf i).toNat)
  case atStart => exact ⟨0, Nat.zero_le _, rfl, On.refl _⟩
  case round =>
    obtain ⟨k, hk, rfl, ho⟩ := hrel
    have HB := Lib.hid ho
    by_cases hlt2 : k < zs.length
    · have hlti : (k : Int) < (zs.length : Int) := by omega
      obtain ⟨z, hz⟩ : ∃ z : Z, z = zs.getD k d0 := ⟨_, rfl⟩
      have E := (HC.out k hlt2).on HB.out
      have E2 := (HC2.out k hlt2).on HB.out
      rw [← hz] at E E2
      have c0 := E.c0
      have c1 := E.c1
      have c2 := E.c2
      have c3 := E.c3
      have k0 := E2.c0
      have k1 := E2.c1
      have k2 := E2.c2
      have k3 := E2.c3
      have g1 := ho.lts _ hl1
      have g2 := ho.lts _ hl2
      have HEQ := Lib.hid (fun w => eq1 z w)
      clear hz ho E E2
      go_wp2_with fail
      refine wp_region_onh (by kernel_rfl) (by kernel_rfl) ?_
      repeat (refine rest_step (fun K hK => ?_); go_simp; first | (refine hK _ ?_; clear hK K) | (apply Exists.intro; refine ⟨fun v1 hv1 => ?_, hK _ ?_⟩; (first | with_reducible exact rfl | with_reducible exact ⟨rfl, rfl⟩ | with_reducible exact Calls.on hv1 (HEQ.out _) | (obtain ⟨hc, hf⟩ := bcell hv1; go_simp; first | with_reducible exact rfl | with_reducible exact ⟨rfl, rfl⟩ | exact rfl | exact ⟨rfl, rfl⟩)); clear hK K))
      refine rest_nil ?_
      intro w1 h1
      have HO1 := Lib.hid (HB.out.trans h1)
      clear h1
      go_wp2_with fail
      go_roundw
      case rel => exact ⟨k + 1, by omega, by go_num, HO1.out⟩
      case measure => simp [intOf]; omega
    · go_wp2
      go_ret
      exact ⟨rfl, HB.out⟩
theorem eq_none (a a2 : Option Addr) (cap cap2 : Nat) (w : World) :
    Calls Tryz.prog 55 #[.slice a 0 cap, .slice a2 0 cap2] w fun e w' => e = .returned (.bool true) ∧ On w w' := by
  go_enter Tryz.func55, Tryz.ntmps55
  go_wp2
  refine wp_loop_rounds 1 ?_
  rw [rounds_succ]
  go_wp2
  go_ret
  exact ⟨rfl, On.refl _⟩
/-- The comparison of two slices that read alike. -/
theorem eqS (v v2 : Value) (zs : List Z) (w : World) (hn : zs.length ≤ 1048576) (h : Rows w v zs) (h2 : Rows w v2 zs) :
    Calls Tryz.prog 55 #[v, v2] w fun e w' => e = .returned (.bool true) ∧ On w w' := by
  have h' := h
  have h2' := h2
  obtain ⟨a, cap, rfl, -⟩ := h
  obtain ⟨a2, cap2, rfl, -⟩ := h2
  by_cases h0 : 0 < zs.length
  · obtain ⟨b, off, rfl, hlt, hcell⟩ := slice_of h' h0
    obtain ⟨b2, off2, rfl, hlt2, hcell2⟩ := slice_of h2' h0
    exact eq_some b off cap b2 off2 cap2 zs w hn hlt hlt2 hcell hcell2
  · have : zs = [] := List.eq_nil_of_length_eq_zero (by omega)
    subst this
    exact eq_none a a2 cap cap2 w
set_option maxHeartbeats 4000000 in
/-- The count. -/
theorem szS (left : Nat) (v : Value) (zs : List Z) (w : World) (hleft : left ≤ 1048576) (hm : zs.length ≤ maxLen) (hall : ∀ k, k < zs.length → Small maxLen (zs.getD k d0)) (h : Rows w v zs) :
    Calls Tryz.prog 43 #[v, .int .i64 left] w fun e w' => ∃ r : Int, e = .returned (.int .i64 r) ∧ On w w' ∧ (r < 0 ∨ ∃ c : Nat, r = (c : Int) ∧ c ≤ left ∧ zs.length ≤ left ∧ ∀ i, i < zs.length → Small left (zs.getD i d0)) := by
  unfold maxLen at hm
  have HALL := Lib.hid hall
  clear hall
  have h' := h
  obtain ⟨a, cap, rfl, -⟩ := h
  by_cases hle : zs.length ≤ left
  · obtain ⟨m, hmd⟩ : ∃ m, m = left - zs.length := ⟨_, rfl⟩
    have g0 : ¬ (left : Int) - (zs.length : Int) < 0 := by omega
    have g1 : (left : Int) - (zs.length : Int) = (m : Int) := by omega
    have g2 : ¬ (m : Int) < 0 := by omega
    have hmb : m ≤ left := by omega
    by_cases h0 : 0 < zs.length
    · obtain ⟨b, off, rfl, hlt, hcell⟩ := slice_of h' h0
      have HC := Lib.hid hcell
      clear hcell h' hmd h0
      go_enter Tryz.func43, Tryz.ntmps43
      go_wp2_with fail
      go_loopw [1, 5] (fun u i wr => ∃ k c : Nat, k ≤ zs.length ∧ i = .int .i64 k ∧ u = .int .i64 c ∧ c ≤ left ∧ (∀ j, j < k → Small left (zs.getD j d0)) ∧ On w wr) (fun _ i _ => zs.length - (intOf i).toNat)
      case atStart => exact ⟨0, m, Nat.zero_le _, rfl, rfl, hmb, fun j h => by omega, On.refl _⟩
      case round =>
        obtain ⟨k, c, hk, rfl, rfl, hcl, hpre, ho⟩ := hrel
        have HB := Lib.hid ho
        have HPRE := Lib.hid hpre
        have hc : c ≤ 1048576 := by omega
        clear hpre
        by_cases hlt2 : k < zs.length
        · have hlti : (k : Int) < (zs.length : Int) := by omega
          obtain ⟨z, hz⟩ : ∃ z : Z, z = zs.getD k d0 := ⟨_, rfl⟩
          have E := (HC.out k hlt2).on HB.out
          have S0 := HALL.out k hlt2
          rw [← hz] at E S0
          have c0 := E.c0
          have c1 := E.c1
          have c2 := E.c2
          have c3 := E.c3
          have m0 := S0.1
          have m1 := S0.2
          have g3 := ho.lts _ hlt
          have hcn := fun w => count1 c z w hc m0 m1
          have HZ := Lib.hid hz
          rcases restL_or [z.x0.size, z.x1.size] c with hr0 | ⟨n, hr0, hn1, hn2⟩
          · rw [hr0] at hcn
            have HCN := Lib.hid hcn
            clear hcn hr0 hz ho E S0
            go_wp2_with fail
            refine (HCN.out _).mono ?_
            rintro e w1 ⟨rfl, h1⟩
            go_wp2_with fail
            go_ret
            exact ⟨-1, rfl, HB.out.trans h1, .inl (by decide)⟩
          · rw [hr0] at hcn
            have HCN := Lib.hid hcn
            have g4 : ¬ (n : Int) < 0 := by omega
            have HPRE2 := Lib.hid (fun j (hj : j < k + 1) => show Small left (zs.getD j d0) by
              by_cases g : j = k
              · subst g; rw [← HZ.out]; exact (small_of hn1 hn2).mono hcl
              · exact HPRE.out j (by omega))
            have hn3 : n ≤ left := by omega
            clear hcn hr0 hz ho hn1 hn2 E S0
            go_wp2_with fail
            refine (HCN.out _).mono ?_
            rintro e w1 ⟨rfl, h1⟩
            have HO1 := Lib.hid (HB.out.trans h1)
            clear h1
            go_wp2_with fail
            go_roundw
            case rel => exact ⟨k + 1, n, by omega, by go_num, rfl, hn3, HPRE2.out, HO1.out⟩
            case measure => simp [intOf]; omega
        · obtain rfl : k = zs.length := by omega
          go_wp2
          go_ret
          exact ⟨_, rfl, HB.out, .inr ⟨c, rfl, hcl, hle, HPRE.out⟩⟩
    · have : zs = [] := List.eq_nil_of_length_eq_zero (by omega)
      subst this
      clear h' hmd
      go_enter Tryz.func43, Tryz.ntmps43
      go_wp2
      refine wp_loop_rounds 1 ?_
      rw [rounds_succ]
      go_wp2
      go_ret
      exact ⟨_, rfl, On.refl _, .inr ⟨left, rfl, Nat.le_refl _, Nat.zero_le _, fun i hi => by simp at hi⟩⟩
  · have g0 : (left : Int) - (zs.length : Int) < 0 := by omega
    go_enter Tryz.func43, Tryz.ntmps43
    go_wp2_with fail
    go_ret
    exact ⟨-1, rfl, On.refl _, .inl (by decide)⟩
end Go.Proofs.YtpnmodmaabhldaaGreat.Sites
