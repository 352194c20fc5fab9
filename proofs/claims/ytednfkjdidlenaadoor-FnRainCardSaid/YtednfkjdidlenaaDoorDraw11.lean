
/-
  Drawing functions of chapter 11: that they return numbers and lists in bounds. Condition: at most 1048576 bytes.
-/
import Derived.Test.YtednfkjdidlenaaDoorDraw9
import Derived.OwnWalk
import Derived.RangeFuncBox
import Derived.Laws.AppendOwn
import Derived.Laws.OwnMore
import Derived.Test.YtednfkjdidlenaaDoorSrc
namespace Go.Proofs.YtednfkjdidlenaaDoor.Draw
open Go.RowKit
open Ints (Ints)
open Src (Src Only)

theorem l11DrawRain (g k : Nat) (w : World) (h : Src w g k) (hk : k ≤ 800000000) :
    Calls Tryd.prog 15 #[.pointer (some ⟨g, 0, none⟩)] w fun e w' => ∃ z : Int, e = .returned (.int .i64 z) ∧ -1 ≤ z ∧ z ≤ 201 ∧ Only g w w' ∧ Src w' g (k + 4) := by
  have HS := Lib.hid h
  clear h
  go_enter Tryd.func15, Tryd.ntmps15
  go_wp2_with fail
  refine (Src.one g _ 9 _ HS.out (by omega) (by decide) (by decide)).mono ?_
  rintro e w1 ⟨b, rfl, o1, s1⟩
  have O1 := Lib.hid o1
  have S1 := Lib.hid s1
  clear o1 s1
  cases b with
  | true =>
    go_wp2_with fail
    refine (Src.among g _ _ _ [-1, 0, 200, 201, 1] _ (S1.out.on (On.alloc (On.refl _) _)) (by omega) (by decide) (by decide) (by have := S1.out.lt; (try simp) <;> omega) (by simp <;> omega) (lit _ _ _ [-1, 0, 200, 201, 1] _ (by simp) rfl)).mono ?_
    rintro e w2 ⟨x, rfl, xm, o2, s2⟩
    have O2 := Lib.hid (Only.trans O1.out (Only.trans (Only.of_on (On.alloc (On.refl _) _)) o2))
    have S2 := Lib.hid s2
    clear o2 s2
    go_wp2_with fail
    have xr := (show ∀ z ∈ ([-1, 0, 200, 201, 1] : List Int), -1 ≤ z ∧ z ≤ 201 by decide) x xm
    obtain ⟨xa, xb⟩ := xr
    clear xm
    go_ret
    exact ⟨_, rfl, by omega, by omega, O2.out, S2.out.more (by omega)⟩
  | false =>
    go_wp2_with fail
    refine (Src.pick g _ 120 _ S1.out (by omega) (by decide) (by decide)).mono ?_
    rintro e w2 ⟨x, rfl, xa, xb, o2, s2⟩
    have O2 := Lib.hid (Only.trans O1.out o2)
    have S2 := Lib.hid s2
    clear o2 s2
    go_wp2_with fail
    go_ret
    exact ⟨_, rfl, by omega, by omega, O2.out, S2.out.more (by omega)⟩
theorem l11DrawClass (g k : Nat) (w : World) (h : Src w g k) (hk : k ≤ 800000000) :
    Calls Tryd.prog 16 #[.pointer (some ⟨g, 0, none⟩)] w fun e w' => ∃ z : Int, e = .returned (.int .i64 z) ∧ -1 ≤ z ∧ z ≤ 8 ∧ Only g w w' ∧ Src w' g (k + 4) := by
  have HS := Lib.hid h
  clear h
  go_enter Tryd.func16, Tryd.ntmps16
  go_wp2_with fail
  refine (Src.one g _ 10 _ HS.out (by omega) (by decide) (by decide)).mono ?_
  rintro e w1 ⟨b, rfl, o1, s1⟩
  have O1 := Lib.hid o1
  have S1 := Lib.hid s1
  clear o1 s1
  cases b with
  | true =>
    go_wp2_with fail
    refine (Src.among g _ _ _ [-1, 8] _ (S1.out.on (On.alloc (On.refl _) _)) (by omega) (by decide) (by decide) (by have := S1.out.lt; (try simp) <;> omega) (by simp <;> omega) (lit _ _ _ [-1, 8] _ (by simp) rfl)).mono ?_
    rintro e w2 ⟨x, rfl, xm, o2, s2⟩
    have O2 := Lib.hid (Only.trans O1.out (Only.trans (Only.of_on (On.alloc (On.refl _) _)) o2))
    have S2 := Lib.hid s2
    clear o2 s2
    go_wp2_with fail
    have xr := (show ∀ z ∈ ([-1, 8] : List Int), -1 ≤ z ∧ z ≤ 8 by decide) x xm
    obtain ⟨xa, xb⟩ := xr
    clear xm
    go_ret
    exact ⟨_, rfl, by omega, by omega, O2.out, S2.out.more (by omega)⟩
  | false =>
    go_wp2_with fail
    refine (Src.pick g _ 8 _ S1.out (by omega) (by decide) (by decide)).mono ?_
    rintro e w2 ⟨x, rfl, xa, xb, o2, s2⟩
    have O2 := Lib.hid (Only.trans O1.out o2)
    have S2 := Lib.hid s2
    clear o2 s2
    go_wp2_with fail
    go_ret
    exact ⟨_, rfl, by omega, by omega, O2.out, S2.out.more (by omega)⟩
theorem l11DrawAbove (g k : Nat) (w : World) (h : Src w g k) (hk : k ≤ 800000000) :
    Calls Tryd.prog 17 #[.pointer (some ⟨g, 0, none⟩)] w fun e w' => ∃ z : Int, e = .returned (.int .i64 z) ∧ -1 ≤ z ∧ z ≤ 90001 ∧ Only g w w' ∧ Src w' g (k + 4) := by
  have HS := Lib.hid h
  clear h
  go_enter Tryd.func17, Tryd.ntmps17
  go_wp2_with fail
  refine (Src.one g _ 10 _ HS.out (by omega) (by decide) (by decide)).mono ?_
  rintro e w1 ⟨b, rfl, o1, s1⟩
  have O1 := Lib.hid o1
  have S1 := Lib.hid s1
  clear o1 s1
  cases b with
  | true =>
    go_wp2_with fail
    refine (Src.among g _ _ _ [-1, 0, 90000, 90001, 240, 239] _ (S1.out.on (On.alloc (On.refl _) _)) (by omega) (by decide) (by decide) (by have := S1.out.lt; (try simp) <;> omega) (by simp <;> omega) (lit _ _ _ [-1, 0, 90000, 90001, 240, 239] _ (by simp) rfl)).mono ?_
    rintro e w2 ⟨x, rfl, xm, o2, s2⟩
    have O2 := Lib.hid (Only.trans O1.out (Only.trans (Only.of_on (On.alloc (On.refl _) _)) o2))
    have S2 := Lib.hid s2
    clear o2 s2
    go_wp2_with fail
    have xr := (show ∀ z ∈ ([-1, 0, 90000, 90001, 240, 239] : List Int), -1 ≤ z ∧ z ≤ 90001 by decide) x xm
    obtain ⟨xa, xb⟩ := xr
    clear xm
    go_ret
    exact ⟨_, rfl, by omega, by omega, O2.out, S2.out.more (by omega)⟩
  | false =>
    go_wp2_with fail
    refine (Src.pick g _ 250 _ S1.out (by omega) (by decide) (by decide)).mono ?_
    rintro e w2 ⟨x, rfl, xa, xb, o2, s2⟩
    have O2 := Lib.hid (Only.trans O1.out o2)
    have S2 := Lib.hid s2
    clear o2 s2
    go_wp2_with fail
    go_ret
    exact ⟨_, rfl, by omega, by omega, O2.out, S2.out.more (by omega)⟩
theorem at_ (v : Value) (B : Nat) (i n : Int) (w : World) (h : Src.Code w B v) (i0 : 0 ≤ i) (i1 : i ≤ 1000) (n0 : 2 ≤ n) (n1 : n ≤ 100000) :
    Calls Tryd.prog 10 #[v, .int .i64 i, .int .i64 n] w fun e w' => ∃ x : Int, e = .returned (.int .i64 x) ∧ 0 ≤ x ∧ x < n ∧ w = w' := by
  obtain ⟨a, len, cap, rfl, hl, hc⟩ := h
  obtain ⟨j, rfl⟩ := Int.eq_ofNat_of_zero_le i0
  by_cases hj : j < len
  · obtain ⟨b, off, rfl, _, hb, hx⟩ := hc (by omega)
    obtain ⟨x, x0, x1, hxc⟩ := hx j hj
    have hji : (j : Int) < (len : Int) := by omega
    have wx : IntKind.i64.wrap x = x := IntWalk.i64_in _ (by omega)
    clear hc hx
    go_enter Tryd.func10, Tryd.ntmps10
    go_wp2_with fail
    go_ret
    exact ⟨_, rfl, Int.emod_nonneg _ (by omega), Int.emod_lt_of_pos _ (by omega), rfl⟩
  · have hji : ¬ (j : Int) < (len : Int) := by omega
    clear hc
    go_enter Tryd.func10, Tryd.ntmps10
    go_wp2_with fail
    go_ret
    exact ⟨_, rfl, Int.emod_nonneg _ (by omega), Int.emod_lt_of_pos _ (by omega), rfl⟩
def cellsOf (zs : List Int) : List Value := zs.map (.int .i64 ·)
/-- A list of its own memory, apart from the source. -/
def Row (w : World) (B g : Nat) (v : Value) (zs : List Int) : Prop := w.ownsRow B 2 1 v zs.length (cellsOf zs) ∧ g < B
theorem grown_of {g : Nat} {w w' : World} (h : Only g w w') : w.grownBy w' (some g) := ⟨h.os, h.tape, h.output, h.size, fun k hk hne => h.block k (fun e => hne (by rw [e])) hk⟩
theorem Row.only {w w' : World} {B g : Nat} {v : Value} {zs : List Int} (h : Row w B g v zs) (ho : Only g w w') : Row w' B g v zs := by
  refine ⟨h.1.kept (grown_of ho) ?_, h.2⟩
  cases hv : v.ownBlock with
  | none => exact .inl rfl
  | some k => exact .inr (fun e => by have := h.1.lt k hv; have := h.2; simp at e; omega)
theorem Row.grown {w w' : World} {B A g : Nat} {v u : Value} {zs : List Int} (h : Row w B g v zs) (hg : w.grownBy w' u.ownBlock) (hA : ∀ k, u.ownBlock = some k → A ≤ k) (hv : ∀ k, v.ownBlock = some k → k < A) : Row w' B g v zs := by
  refine ⟨h.1.kept hg ?_, h.2⟩
  cases hk : v.ownBlock with
  | none => exact .inl rfl
  | some k => exact .inr (fun e => by have := hv k hk; have := hA k e.symm; omega)
theorem Row.alloc {w : World} {B g : Nat} {v : Value} {zs : List Int} (h : Row w B g v zs) (o : Obj) : Row (w.alloc o) B g v zs := ⟨h.1.alloc o, h.2⟩
theorem Row.lit {w : World} {g : Nat} (x : Int) (hg : g < w.heap.size) : Row (w.alloc (.cells #[.int .i64 x] 2)) w.heap.size g (.slice (some ⟨w.heap.size, 0, none⟩) 1 1) [x] := ⟨World.ownsRow_lit w #[.int .i64 x] 1 (Nat.le_refl _) (by decide) rfl, hg⟩
theorem Row.ints {w : World} {B g : Nat} {v : Value} {zs : List Int} (h : Row w B g v zs) : Ints w v zs := by
  have hlt := h.1.lt
  have hc := fun g (hg : v.ownBlock = some g) => h.1.cells hg
  obtain ⟨⟨_, ⟨rfl, h2⟩ | ⟨q, cap, cur, rfl, hB, _⟩⟩, _⟩ := h
  · exact ⟨none, 0, by rw [h2], fun h0 => by omega⟩
  · refine ⟨_, cap, rfl, fun _ => ⟨q, 0, rfl, (hlt q rfl).2, fun j hj => ?_⟩⟩
    have := hc q rfl j (.int .i64 (zs.getD j 0)) (by simp [cellsOf, hj])
    have e : (⟨q, 0, none⟩ : Addr).add j = ⟨q, 0 + j, none⟩ := by cases j <;> simp [Addr.add]
    rw [e] at this
    exact this
theorem Src_below {w w' : World} {g k B : Nat} (h : Src w g k) (hb : Below B w w') (hg : g < B) : Src w' g k := by
  obtain ⟨v, t, seed, c0, c1, c2, hf, ht, s0, s1, hc⟩ := h
  exact ⟨v, t, seed, (hb.cell (by exact hg)).trans c0, (hb.cell (by exact hg)).trans c1, (hb.cell (by exact hg)).trans c2, fun j => (hb.frozen (by exact hg)).trans (hf j), ht, s0, s1, hc.below (Below.mono hb (by omega))⟩
theorem one_at {w : World} {x : Int} {t : TypeId} : ∀ (j : Nat) u, [Value.int .i64 x][j]? = some u → (w.alloc (.cells #[.int .i64 x] t)).cell? ((⟨w.heap.size, 0, none⟩ : Addr).add j) = some u := by
  intro j u hj
  match j, hj with
  | 0, hj => simp at hj; subst hj; simp [Addr.add]
theorem one_cell {k : IntKind} {n : Int} : ∀ u ∈ [Value.int k n], u.oneCell' = true := by
  intro u hu; simp at hu; subst hu; rfl
set_option maxHeartbeats 4000000 in
set_option maxRecDepth 1000000 in
theorem DrawLossesOf (v : Value) (w : World) (h : Src.Code w w.heap.size v) :
    Calls Tryd.prog 5 #[v] w fun e w' => ∃ (f d r : Int) (v1 v2 : Value) (zs hs : List Int), e = .returned (.tuple #[.int .i64 f, .int .i64 d, .int .i64 r, v1, v2]) ∧ (-1 ≤ f ∧ f ≤ 100000001 ∧ -1 ≤ d ∧ d ≤ 283001 ∧ -1 ≤ r ∧ r ≤ 201) ∧ Ints w' v1 zs ∧ Ints w' v2 hs ∧ zs.length ≤ 3 ∧ hs.length ≤ 3 ∧ On w w' := by
  obtain ⟨i0, hi, hz0, hz1, hz2⟩ := info_parts Ints.info
  go_enter Tryd.func5, Tryd.ntmps5
  go_wp2_with fail
  refine (Src.from_ v _ h).mono ?_
  rintro e w0 ⟨rfl, k0, s0⟩
  have K0 := Lib.hid k0
  have S0 := Lib.hid s0
  have hz : w.heap.size < w0.heap.size := s0.lt
  clear k0 s0 h
  obtain ⟨g, hg⟩ : ∃ g, g = w.heap.size := ⟨_, rfl⟩
  rw [← hg] at S0 hz ⊢
  have HG := Lib.hid hg
  clear hg
  go_wp2_with fail
  refine (l09DrawFrequency g _ _ S0.out (by omega)).mono ?_
  rintro e w1 ⟨f, rfl, fa, fb, o1, s1⟩
  have O1 := Lib.hid o1
  have S1 := Lib.hid s1
  clear o1 s1
  go_wp2_with fail
  refine (l09DrawDistance g _ _ S1.out (by omega)).mono ?_
  rintro e w2 ⟨d, rfl, da, db, o2, s2⟩
  have O2 := Lib.hid (Only.trans O1.out o2)
  have S2 := Lib.hid s2
  clear o2 s2
  go_wp2_with fail
  refine (l11DrawRain g _ _ S2.out (by omega)).mono ?_
  rintro e w3 ⟨r, rfl, ra, rb, o3, s3⟩
  have O3 := Lib.hid (Only.trans O2.out o3)
  have S3 := Lib.hid s3
  clear o3 s3
  go_wp2_with fail
  refine (l11DrawClass g _ _ S3.out (by omega)).mono ?_
  rintro e w4 ⟨x, rfl, xa, xb, o4, s4⟩
  have O4 := Lib.hid (Only.trans O3.out o4)
  have S4 := Lib.hid s4
  clear o4 s4
  go_wp2_with fail
  have hz4 : g < w4.heap.size := S4.out.lt
  have R4 := Lib.hid (Row.lit (w := w4) x hz4)
  refine (l11DrawClass g _ _ (S4.out.on (On.alloc (On.refl _) _)) (by omega)).mono ?_
  rintro e w5 ⟨y, rfl, ya, yb, o5, s5⟩
  have R5 := Lib.hid (R4.out.only o5)
  have S5 := Lib.hid s5
  have hz5 : w4.heap.size < w5.heap.size := by have := o5.size; (try simp at this); omega
  have O5 := Lib.hid (Only.trans O4.out (Only.trans (Only.of_on (On.alloc (On.refl _) _)) o5))
  clear o5 s5 R4
  go_wp2_with (at_builtin; refine wpList_append_own _ rfl (.tmp 24) (.tmp 27) 24 rfl w4.heap.size 2 i0 (.int .i64 0) 1 8 Tryd.underlying24 hi hz0 hz1 hz2 rfl (by decide) _ 1 _ rfl (R5.out.1.alloc _) ⟨w5.heap.size, 0, none⟩ 1 1 [.int .i64 y] rfl rfl ?c1 ?c2 ?c3 ?c4 ?c5 ?_)
  case c1 => exact one_at
  case c2 => exact one_cell
  case c3 => decide
  case c4 => decide
  case c5 => (try simp) <;> omega
  intro q w6 hown hgrow _
  have hB : Below w4.heap.size w5 w6 := Below.grown (Below.alloc (Below.refl _ _) (by omega) _) hgrow (by (try simp) <;> omega) (fun k hk => (R5.out.1.lt k hk).1)
  have R6 := Lib.hid (show Row w6 w4.heap.size g q [x, y] from ⟨hown, hz4⟩)
  have S6 := Lib.hid (Src_below S5.out hB hz4)
  have B6 := Lib.hid hB
  have hz6 : w5.heap.size ≤ w6.heap.size := hB.size
  clear hown hgrow hB R5
  go_wp2_with fail
  refine (l11DrawAbove g _ _ S6.out (by omega)).mono ?_
  rintro e w7 ⟨s, rfl, sa, sb, o7, s7⟩
  have R7 := Lib.hid (R6.out.only o7)
  have S7 := Lib.hid s7
  have O7 := Lib.hid o7
  have hz7 : g < w7.heap.size := s7.lt
  have hz67 : w6.heap.size ≤ w7.heap.size := o7.size
  have hq : ∀ k, q.ownBlock = some k → k < w7.heap.size := fun k hk => (R7.out.1.lt k hk).2
  clear o7 s7 R6
  go_wp2_with fail
  have T7 := Lib.hid (Row.lit (w := w7) s hz7)
  refine (l11DrawAbove g _ _ (S7.out.on (On.alloc (On.refl _) _)) (by omega)).mono ?_
  rintro e w8 ⟨t, rfl, ta, tb, o8, s8⟩
  have T8 := Lib.hid (T7.out.only o8)
  have R8 := Lib.hid ((R7.out.alloc _).only o8)
  have S8 := Lib.hid s8
  have O8 := Lib.hid o8
  have hz8 : w7.heap.size < w8.heap.size := by have := o8.size; (try simp at this); omega
  clear o8 s8 T7 R7
  go_wp2_with (at_builtin; refine wpList_append_own _ rfl (.tmp 32) (.tmp 35) 24 rfl w7.heap.size 2 i0 (.int .i64 0) 1 8 Tryd.underlying24 hi hz0 hz1 hz2 rfl (by decide) _ 1 _ rfl (T8.out.1.alloc _) ⟨w8.heap.size, 0, none⟩ 1 1 [.int .i64 t] rfl rfl ?c1 ?c2 ?c3 ?c4 ?c5 ?_)
  case c1 => exact one_at
  case c2 => exact one_cell
  case c3 => decide
  case c4 => decide
  case c5 => (try simp) <;> omega
  intro p w9 hown hgrow _
  have hB : Below w7.heap.size w8 w9 := Below.grown (Below.alloc (Below.refl _ _) (by omega) _) hgrow (by (try simp) <;> omega) (fun k hk => (T8.out.1.lt k hk).1)
  have T9 := Lib.hid (show Row w9 w7.heap.size g p [s, t] from ⟨hown, hz7⟩)
  have R9 := Lib.hid ((R8.out.alloc _).grown hgrow (fun k hk => (T8.out.1.lt k hk).1) hq)
  have S9 := Lib.hid (Src_below S8.out hB hz7)
  have B9 := Lib.hid hB
  clear hown hgrow hB T8 R8
  have ON9 := Lib.hid (show On w w9 from by
    have a5 : On w w5 := Only.on K0.out O5.out (Nat.le_of_eq HG.out.symm) hz
    have a6 : On w w6 := Below.trans a5 (Below.mono B6.out (by have := HG.out; omega))
    have a7 : On w w7 := Only.on a6 O7.out (Nat.le_of_eq HG.out.symm) S6.out.lt
    have a8 : On w w8 := Only.on (On.alloc a7 _) O8.out (Nat.le_of_eq HG.out.symm) (by (try simp) <;> omega)
    exact Below.trans a8 (Below.mono B9.out (by have := HG.out; omega)))
  clear O5 B6 O7 O8 B9
  go_wp2_with fail
  refine (Src.one g _ 12 _ S9.out (by omega) (by decide) (by decide)).mono ?_
  rintro e wa ⟨b1, rfl, oa, sa'⟩
  have TA := Lib.hid (T9.out.only oa)
  have RA := Lib.hid (R9.out.only oa)
  have SA := Lib.hid sa'
  have ONA := Lib.hid (Only.on ON9.out oa (Nat.le_of_eq HG.out.symm) S9.out.lt)
  clear oa sa' T9 R9 ON9
  obtain ⟨q0, qcap, rfl⟩ := Go.ownsRow_succ (k := 1) RA.out.1
  obtain ⟨p0, pcap, rfl⟩ := Go.ownsRow_succ (k := 1) TA.out.1
  have hqc : 2 ≤ qcap := by
    obtain ⟨_, ⟨hn, _⟩ | ⟨g', cap', cur, he, _, _, hle, _⟩⟩ := RA.out.1
    · cases hn
    · cases he
      simpa using hle
  have hqi : (2 : Int) ≤ (qcap : Int) := by omega
  have hIZ := Lib.hid RA.out.ints
  have hIZ1 := Lib.hid (show Ints wa (.slice (some ⟨q0, 0, none⟩) 1 qcap) [x] from by
    obtain ⟨a', c', he, hcc⟩ := RA.out.ints
    simp only [Value.slice.injEq] at he
    obtain ⟨rfl, _, rfl⟩ := he
    obtain ⟨b, off, hb1, hb2, hb3⟩ := hcc (by simp)
    exact ⟨_, _, rfl, fun _ => ⟨b, off, hb1, hb2, fun i hi => by
      obtain rfl : i = 0 := by simpa using hi
      exact hb3 0 (by simp)⟩⟩)
  cases b1 with
  | true =>
    go_wp2_with fail
    refine (Src.one g _ 12 _ SA.out (by omega) (by decide) (by decide)).mono ?_
    rintro e wb ⟨b2, rfl, ob, sb'⟩
    have TB := Lib.hid (TA.out.only ob)
    have ONB := Lib.hid (Only.on ONA.out ob (Nat.le_of_eq HG.out.symm) SA.out.lt)
    have hzb : w7.heap.size < wb.heap.size := by have := TB.out.1.lt _ rfl; omega
    have IB := Lib.hid (show Ints wb (.slice (some ⟨q0, 0, none⟩) 1 qcap) [x] from by
      obtain ⟨a', c', he, hcc⟩ := hIZ1.out
      refine ⟨a', c', he, fun h0 => ?_⟩
      obtain ⟨b, off, hb1, hb2, hb3⟩ := hcc h0
      have hbq : b = q0 := by simp only [Value.slice.injEq] at he; obtain ⟨e1, _, _⟩ := he; rw [hb1] at e1; injection e1 with e1; injection e1 with e1 _ _; exact e1.symm
      have hne : b ≠ g := by have := (RA.out.1.lt q0 rfl).1; omega
      exact ⟨b, off, hb1, Nat.lt_of_lt_of_le hb2 ob.size, fun i hi => (ob.cell hne hb2 _).trans (hb3 i hi)⟩)
    have hq0 : q0 < w7.heap.size := hq q0 rfl
    clear ob sb'
    cases b2 with
    | true =>
      go_wp2_with (at_builtin; refine wpList_append_own _ rfl (.tmp 43) (.tmp 44) 24 rfl w7.heap.size 2 i0 (.int .i64 0) 1 8 Tryd.underlying24 hi hz0 hz1 hz2 rfl (by decide) _ 2 _ rfl (TB.out.1.alloc _) ⟨wb.heap.size, 0, none⟩ 1 1 [.int .i64 0] rfl rfl ?c1 ?c2 ?c3 ?c4 ?c5 ?_)
      case c1 => exact one_at
      case c2 => exact one_cell
      case c3 => decide
      case c4 => decide
      case c5 => (try simp) <;> omega
      intro u wc hown hgrow _
      have hB : Below w7.heap.size wb wc := Below.grown (Below.alloc (Below.refl _ _) (by omega) _) hgrow (by (try simp) <;> omega) (fun k hk => (TB.out.1.lt k hk).1)
      have TC := Lib.hid (show Row wc w7.heap.size g u [s, t, 0] from ⟨hown, hz7⟩)
      have IC := Lib.hid (show Ints wc (.slice (some ⟨q0, 0, none⟩) 1 qcap) [x] from by
        obtain ⟨a', c', he, hcc⟩ := IB.out
        refine ⟨a', c', he, fun h0 => ?_⟩
        obtain ⟨b, off, hb1, hb2, hb3⟩ := hcc h0
        have hbq : b = q0 := by simp only [Value.slice.injEq] at he; obtain ⟨e1, _, _⟩ := he; rw [hb1] at e1; injection e1 with e1; injection e1 with e1 _ _; exact e1.symm
        exact ⟨b, off, hb1, Nat.lt_of_lt_of_le hb2 hB.size, fun i hi => (hB.cell (by show b < _; omega)).trans (hb3 i hi)⟩)
      have ONC := Lib.hid (show On w wc from Below.trans ONB.out (Below.mono hB (by have := HG.out; omega)))
      clear hown hgrow hB
      go_wp2_with fail
      refine bodyPost_ret (v := .tuple #[.int .i64 f, .int .i64 d, .int .i64 r, .slice (some ⟨q0, 0, none⟩) 1 qcap, u]) (by simp [results, Tryd.results5, go_sem]) rfl ⟨f, d, r, _, _, _, _, rfl, ⟨by omega, by omega, by omega, by omega, by omega, by omega⟩, IC.out, TC.out.ints, by simp, by simp, ONC.out⟩
    | false =>
      go_wp2_with fail
      refine bodyPost_ret (v := .tuple #[.int .i64 f, .int .i64 d, .int .i64 r, .slice (some ⟨q0, 0, none⟩) 1 qcap, .slice (some ⟨p0, 0, none⟩) 2 pcap]) (by simp [results, Tryd.results5, go_sem]) rfl ⟨f, d, r, _, _, _, _, rfl, ⟨by omega, by omega, by omega, by omega, by omega, by omega⟩, IB.out, TB.out.ints, by simp, by simp, ONB.out⟩
  | false =>
    go_wp2_with fail
    refine (Src.one g _ 12 _ SA.out (by omega) (by decide) (by decide)).mono ?_
    rintro e wb ⟨b2, rfl, ob, sb'⟩
    have TB := Lib.hid (TA.out.only ob)
    have ONB := Lib.hid (Only.on ONA.out ob (Nat.le_of_eq HG.out.symm) SA.out.lt)
    have hzb : w7.heap.size < wb.heap.size := by have := TB.out.1.lt _ rfl; omega
    have IB := Lib.hid (show Ints wb (.slice (some ⟨q0, 0, none⟩) 2 qcap) [x, y] from by
      obtain ⟨a', c', he, hcc⟩ := hIZ.out
      refine ⟨a', c', he, fun h0 => ?_⟩
      obtain ⟨b, off, hb1, hb2, hb3⟩ := hcc h0
      have hbq : b = q0 := by simp only [Value.slice.injEq] at he; obtain ⟨e1, _, _⟩ := he; rw [hb1] at e1; injection e1 with e1; injection e1 with e1 _ _; exact e1.symm
      have hne : b ≠ g := by have := (RA.out.1.lt q0 rfl).1; omega
      exact ⟨b, off, hb1, Nat.lt_of_lt_of_le hb2 ob.size, fun i hi => (ob.cell hne hb2 _).trans (hb3 i hi)⟩)
    have hq0 : q0 < w7.heap.size := hq q0 rfl
    clear ob sb'
    cases b2 with
    | true =>
      go_wp2_with (at_builtin; refine wpList_append_own _ rfl (.tmp 43) (.tmp 44) 24 rfl w7.heap.size 2 i0 (.int .i64 0) 1 8 Tryd.underlying24 hi hz0 hz1 hz2 rfl (by decide) _ 2 _ rfl (TB.out.1.alloc _) ⟨wb.heap.size, 0, none⟩ 1 1 [.int .i64 0] rfl rfl ?c1 ?c2 ?c3 ?c4 ?c5 ?_)
      case c1 => exact one_at
      case c2 => exact one_cell
      case c3 => decide
      case c4 => decide
      case c5 => (try simp) <;> omega
      intro u wc hown hgrow _
      have hB : Below w7.heap.size wb wc := Below.grown (Below.alloc (Below.refl _ _) (by omega) _) hgrow (by (try simp) <;> omega) (fun k hk => (TB.out.1.lt k hk).1)
      have TC := Lib.hid (show Row wc w7.heap.size g u [s, t, 0] from ⟨hown, hz7⟩)
      have IC := Lib.hid (show Ints wc (.slice (some ⟨q0, 0, none⟩) 2 qcap) [x, y] from by
        obtain ⟨a', c', he, hcc⟩ := IB.out
        refine ⟨a', c', he, fun h0 => ?_⟩
        obtain ⟨b, off, hb1, hb2, hb3⟩ := hcc h0
        have hbq : b = q0 := by simp only [Value.slice.injEq] at he; obtain ⟨e1, _, _⟩ := he; rw [hb1] at e1; injection e1 with e1; injection e1 with e1 _ _; exact e1.symm
        exact ⟨b, off, hb1, Nat.lt_of_lt_of_le hb2 hB.size, fun i hi => (hB.cell (by show b < _; omega)).trans (hb3 i hi)⟩)
      have ONC := Lib.hid (show On w wc from Below.trans ONB.out (Below.mono hB (by have := HG.out; omega)))
      clear hown hgrow hB
      go_wp2_with fail
      refine bodyPost_ret (v := .tuple #[.int .i64 f, .int .i64 d, .int .i64 r, .slice (some ⟨q0, 0, none⟩) 2 qcap, u]) (by simp [results, Tryd.results5, go_sem]) rfl ⟨f, d, r, _, _, _, _, rfl, ⟨by omega, by omega, by omega, by omega, by omega, by omega⟩, IC.out, TC.out.ints, by simp, by simp, ONC.out⟩
    | false =>
      go_wp2_with fail
      refine bodyPost_ret (v := .tuple #[.int .i64 f, .int .i64 d, .int .i64 r, .slice (some ⟨q0, 0, none⟩) 2 qcap, .slice (some ⟨p0, 0, none⟩) 2 pcap]) (by simp [results, Tryd.results5, go_sem]) rfl ⟨f, d, r, _, _, _, _, rfl, ⟨by omega, by omega, by omega, by omega, by omega, by omega⟩, IB.out, TB.out.ints, by simp, by simp, ONB.out⟩
end Go.Proofs.YtednfkjdidlenaaDoor.Draw
