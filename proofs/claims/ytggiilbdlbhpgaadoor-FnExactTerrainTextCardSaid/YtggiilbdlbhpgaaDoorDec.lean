
/-
  What the decimal forms of the model and of the program are, for every number. Condition: the library's table of powers of ten holds what its text lays.
-/
import Derived.Test.YtggiilbdlbhpgaaDoorProg
import Derived.Test.YtggiilbdlbhpgaaDoorShelfNum
import Derived.Test.YtggiilbdlbhpgaaDoorDecPlain
import Derived.OwnWalk
import Derived.Laws.AppendOwn
import Derived.Laws.IdiomStrings
import Derived.WalkKit
import Derived.Lib.Hide
import Derived.Below
import Derived.Lib.AppendIntMem
namespace Go.Proofs.YtggiilbdlbhpgaaDoor.Dec
open Go.RowKit
open Plain

theorem impl_decimal (n : Int) (w : World) (h0 : -9223372036854775808 ≤ n) (h1 : n ≤ 9223372036854775807) (ht : Lib.TabIs Tryd.prog w "internal/strconv.uint64pow10" .u64 Lib.pow10Tab) :
    Calls Tryd.prog 25 #[.int .i64 n] w fun e w' => e = .returned (.string ⟨(Lib.itoa n).toArray⟩) ∧ Below w.heap.size w w' := by
  have HT := Lib.hid ht
  clear ht
  go_enter Tryd.func25, Tryd.ntmps25
  go_wp2_with (go_at_call 45; refine (Tryd.strconv_FormatInt_10 n h0 h1 _ HT.out).mono ?_; rintro e w' ⟨rfl, k, os, rfl⟩)
  go_ret
  exact ⟨rfl, Lib.below_grow _ _ (Nat.le_refl _) k os⟩

theorem info5 : (Tryd.prog.info? 5).map (fun i => (i.zero, i.size, i.bytes)) = some (some (.int .u8 0), 1, 1) := by kernel_rfl

/-- What an owned row that is not empty looks like: its address, and its cells. -/
theorem row_shape {w : World} {B e : Nat} {v : Value} {l : List UInt8} (h : w.ownsRow B e 1 v l.length (Lib.byteCells l)) (h0 : 0 < l.length) :
    ∃ g cap, v = .slice (some ⟨g, 0, none⟩) l.length cap ∧ B ≤ g ∧ g < w.heap.size ∧ ∀ j (hj : j < l.length), w.cell? ⟨g, j, none⟩ = some (.int .u8 (l[j].toNat : Int)) := by
  have hlt := h.lt
  have hc := fun g (hg : v.ownBlock = some g) => h.cells hg
  obtain ⟨_, ⟨_, h2⟩ | ⟨g, cap, cur, rfl, hB, _⟩⟩ := h
  · omega
  · refine ⟨g, cap, rfl, hB, (hlt g rfl).2, fun j hj => ?_⟩
    have := hc g rfl j (.int .u8 (l[j].toNat : Int)) (by simp [Lib.byteCells, List.getElem?_eq_getElem hj])
    have e : (⟨g, 0, none⟩ : Addr).add j = ⟨g, j, none⟩ := by cases j <;> simp [Addr.add]
    rw [e] at this
    exact this
theorem add_off {g j : Nat} : (⟨g, 0, none⟩ : Addr).add j = ⟨g, j, none⟩ := by cases j <;> simp [Addr.add]
theorem cells_one {w : World} {v : Value} {t : TypeId} : ∀ (j : Nat) u, [v][j]? = some u → (w.alloc (.cells #[v] t)).cell? ((⟨w.heap.size, 0, none⟩ : Addr).add j) = some u := by
  intro j u hj
  match j, hj with
  | 0, hj => simp at hj; subst hj; simp [Addr.add]
theorem one_cell {k : IntKind} {n : Int} : ∀ u ∈ [Value.int k n], u.oneCell' = true := by
  intro u hu; simp at hu; subst hu; rfl

set_option maxHeartbeats 1600000 in
set_option maxRecDepth 1000000 in
set_option maxHeartbeats 1600000 in
set_option maxRecDepth 1000000 in
theorem spec_dec_pos (n : Nat) (w : World) (h0 : 0 < n) (h1 : n ≤ 9223372036854775807) :
    Calls Tryd.prog 28 #[.int .i64 n] w fun e w' => e = .returned (.string ⟨(Lib.itoa n).toArray⟩) ∧ Below w.heap.size w w' := by
  obtain ⟨i0, hi, hz0, hz1, hz2⟩ := info_parts info5
  have hn0 : ((n : Int) == 0) = false := by simp; omega
  go_enter Tryd.func28, Tryd.ntmps28
  go_wp2
  go_loopw [3, 4] (fun v m wr => ∃ (u : Nat) (ds : List UInt8), m = .int .i64 u ∧ u ≤ n ∧ wr.ownsRow w.heap.size 5 1 v ds.length (Lib.byteCells ds) ∧ Below w.heap.size w wr ∧ Rev n u ds) (fun _ m _ => (intOf m).toNat)
  case atStart => exact ⟨n, [], rfl, Nat.le_refl _, World.ownsRow_lit w #[] 0 (Nat.le_refl _) (by unfold maxLen; omega) rfl, (Below.refl _ _).alloc (Nat.le_refl _) _, rev_start (by omega)⟩
  case round =>
    obtain ⟨u, ds, rfl, hun, hown, hb, hrev⟩ := hrel
    have hlen := rev_len hrev (by omega)
    have HR := Lib.hid hrev
    have HO := Lib.hid hown
    have HB := Lib.hid hb
    have hsz := hb.size
    clear hrev hown hb
    by_cases hu : u = 0
    · subst hu
      have hpos : 0 < ds.length := by
        have h1 := decDigits_pos n
        have h2 := congrArg List.length (rev_end HR.out)
        simp at h2
        omega
      obtain ⟨g, cap, hv, hg1, hg2, hcell⟩ := row_shape HO.out hpos
      have HC := Lib.hid hcell
      clear hcell
      rw [hv]
      have HV := Lib.hid hv
      clear hv
      obtain ⟨wo, rfl⟩ : ∃ wo : World, wo = wr := ⟨_, rfl⟩
      go_wp2
      go_loopw [6, 7] (fun v j w2 => ∃ s : Nat, s ≤ ds.length ∧ j = .int .i64 ((s : Int) - 1) ∧ w2.ownsRow wo.heap.size 5 1 v (ds.length - s) (Lib.byteCells (ds.reverse.take (ds.length - s))) ∧ Below wo.heap.size wo w2) (fun _ j _ => (intOf j + 1).toNat)
      case atStart =>
        refine ⟨ds.length, Nat.le_refl _, rfl, ?_, (Below.refl _ _).alloc (Nat.le_refl _) _⟩
        rw [Nat.sub_self, List.take_zero]
        exact World.ownsRow_lit _ #[] 0 (Nat.le_refl _) (by unfold maxLen; omega) rfl
      case round =>
        obtain ⟨s, hs, hj, hown, hb2⟩ := hrel
        have HO2 := Lib.hid hown
        have HB2 := Lib.hid hb2
        have hsz2 := hb2.size
        clear hown hb2
        cases s with
        | zero =>
          rw [show (((0 : Nat) : Int) - 1) = -1 from rfl] at hj
          subst hj
          have ho := HO2.out
          rw [Nat.sub_zero, List.take_of_length_le (by simp), ← List.length_reverse] at ho
          obtain ⟨g6, cap6, hv6, _, _, hc6⟩ := row_shape ho (by simp; omega)
          rw [List.length_reverse] at hv6
          rw [hv6]
          clear hv6 ho
          have kc := run_convert_bytes_back (P := Tryd.prog) wr 55 9 5 ⟨g6, 0, none⟩ cap6 ds.reverse Tryd.underlying55 Tryd.underlying5 Tryd.underlying9 (fun j hj => by rw [add_off]; exact hc6 j hj)
          rw [List.length_reverse] at kc
          clear hc6
          go_wp2
          go_ret
          exact ⟨by rw [rev_end HR.out, itoa_nat]; rfl, HB.out.trans (HB2.out.mono hsz)⟩
        | succ q =>
          rw [show (((q + 1 : Nat) : Int) - 1) = (q : Int) from by omega] at hj
          subst hj
          have hcq : wr.cell? ⟨g, q, none⟩ = some (.int .u8 (ds[q].toNat : Int)) := (HB2.out.cell (by exact hg2)).trans (HC.out q (by omega))
          have bq := (ds[q]).toNat_lt
          obtain ⟨bv, hbv⟩ : ∃ bv : Nat, bv = (ds[q]).toNat := ⟨_, rfl⟩
          rw [← hbv] at hcq bq
          have HBV := Lib.hid hbv
          clear hbv
          go_wp2_with (at_builtin; refine wpList_append_own _ rfl (.tmp 41) (.tmp 46) 55 rfl wo.heap.size 5 i0 (.int .u8 0) 1 1 Tryd.underlying55 hi hz0 hz1 hz2 rfl (by decide) _ (ds.length - (q + 1)) _ rfl (HO2.out.alloc _) ⟨wr.heap.size, 0, none⟩ 1 1 [.int .u8 (bv : Int)] rfl rfl ?d1 ?d2 ?d3 ?d4 ?d5 ?_)
          case d1 => exact cells_one
          case d2 => exact one_cell
          case d3 => unfold maxLen; omega
          case d4 => omega
          case d5 => simp; omega
          intro v' w3 hown' hgrow _
          have hd : Lib.byteCells (ds.reverse.take (ds.length - (q + 1))) ++ [Value.int .u8 (bv : Int)] = Lib.byteCells (ds.reverse.take (ds.length - q)) := by
            rw [rev_take _ q (by omega), HBV.out]; simp [Lib.byteCells]
          have hl : ds.length - (q + 1) + 1 = ds.length - q := by omega
          rw [hd, hl] at hown'
          have HO3 := Lib.hid hown'
          have HB3 := Lib.hid ((HB2.out.alloc hsz2 _).grown hgrow (by simp; omega) (fun k hk => (HO2.out.lt k hk).1))
          clear hown' hgrow hd hl
          go_wp2
          go_roundw
          case rel => first | exact ⟨q, by omega, rfl, HO3.out, HB3.out⟩ | ((repeat apply Exists.intro); exact ⟨⟨q, by omega, rfl, HO3.out, HB3.out⟩, rfl⟩)
          case measure => simp [intOf] <;> omega
    · have hu1 : 0 < u := by omega
      have hune : ((u : Int) == 0) = false := by simp; omega
      clear hu
      go_wp2_with (at_builtin; refine wpList_append_own _ rfl (.tmp 22) (.tmp 26) 55 rfl w.heap.size 5 i0 (.int .u8 0) 1 1 Tryd.underlying55 hi hz0 hz1 hz2 rfl (by decide) _ ds.length _ rfl (HO.out.alloc _) ⟨wr.heap.size, 0, none⟩ 1 1 [.int .u8 (48 + (u : Int) % 10)] rfl rfl ?c1 ?c2 ?c3 ?c4 ?c5 ?_)
      case c1 => exact cells_one
      case c2 => exact one_cell
      case c3 => unfold maxLen; omega
      case c4 => omega
      case c5 => simp; omega
      intro v' w1 hown' hgrow _
      have hd : Lib.byteCells ds ++ [Value.int .u8 (48 + (u : Int) % 10)] = Lib.byteCells (ds ++ [dig u]) := by simp [Lib.byteCells, dig_toNat]
      have hl : ds.length + 1 = (ds ++ [dig u]).length := by simp
      rw [hd, hl] at hown'
      have HO2 := Lib.hid hown'
      have HB2 := Lib.hid ((HB.out.alloc hsz _).grown hgrow (by simp; omega) (fun k hk => (HO.out.lt k hk).1))
      clear hown' hgrow hd hl
      go_wp2
      go_roundw
      case rel => exact ⟨u / 10, ds ++ [dig u], by go_num, by omega, HO2.out, HB2.out, rev_step HR.out (by omega)⟩
      case measure => simp [intOf]; omega
set_option maxHeartbeats 1600000 in
set_option maxRecDepth 1000000 in
theorem spec_dec_neg (n : Nat) (w : World) (h0 : 0 < n) (h1 : n ≤ 9223372036854775808) :
    Calls Tryd.prog 28 #[.int .i64 (-(n : Int))] w fun e w' => e = .returned (.string ⟨(Lib.itoa (-(n : Int))).toArray⟩) ∧ Below w.heap.size w w' := by
  obtain ⟨i0, hi, hz0, hz1, hz2⟩ := info_parts info5
  have hn0 : (-(n : Int) == 0) = false := by simp; omega
  go_enter Tryd.func28, Tryd.ntmps28
  go_wp2
  go_loopw [3, 4] (fun v m wr => ∃ (u : Nat) (ds : List UInt8), m = .int .i64 (-(u : Int)) ∧ u ≤ n ∧ wr.ownsRow w.heap.size 5 1 v ds.length (Lib.byteCells ds) ∧ Below w.heap.size w wr ∧ Rev n u ds) (fun _ m _ => (-intOf m).toNat)
  case atStart => exact ⟨n, [], rfl, Nat.le_refl _, World.ownsRow_lit w #[] 0 (Nat.le_refl _) (by unfold maxLen; omega) rfl, (Below.refl _ _).alloc (Nat.le_refl _) _, rev_start (by omega)⟩
  case round =>
    obtain ⟨u, ds, rfl, hun, hown, hb, hrev⟩ := hrel
    have hlen := rev_len hrev (by omega)
    have HR := Lib.hid hrev
    have HO := Lib.hid hown
    have HB := Lib.hid hb
    have hsz := hb.size
    clear hrev hown hb
    by_cases hu : u = 0
    · subst hu
      go_wp2_with (at_builtin; refine wpList_append_own _ rfl (.tmp 30) (.tmp 31) 55 rfl w.heap.size 5 i0 (.int .u8 0) 1 1 Tryd.underlying55 hi hz0 hz1 hz2 rfl (by decide) _ ds.length _ rfl (HO.out.alloc _) ⟨wr.heap.size, 0, none⟩ 1 1 [.int .u8 45] rfl rfl ?c1 ?c2 ?c3 ?c4 ?c5 ?_)
      case c1 => first | exact cells_one | exact fun _ _ h => h
      case c2 => first | exact one_cell | rfl
      case c3 => unfold maxLen; omega
      case c4 => omega
      case c5 => first | omega | (simp; omega)
      intro v' w1 hown' hgrow _
      obtain ⟨l, hl⟩ : ∃ l, l = ds ++ [45] := ⟨_, rfl⟩
      have hd : Lib.byteCells ds ++ [Value.int .u8 45] = Lib.byteCells l := by rw [hl]; simp [Lib.byteCells]
      have hll : ds.length + 1 = l.length := by rw [hl]; simp
      rw [hd, hll] at hown'
      have hll' : l.length ≤ 21 ∧ 0 < l.length := by omega
      have HL := Lib.hid hl
      have hb1 := ((HB.out.alloc hsz _).grown hgrow (by simp; omega) (fun k hk => (HO.out.lt k hk).1))
      have hszw := hb1.size
      have HB1 := Lib.hid hb1
      obtain ⟨g, cap, hv, hg1, hg2, hcell⟩ := row_shape hown' hll'.2
      obtain ⟨hll1, hll2⟩ := hll'
      have HC := Lib.hid hcell
      clear hcell hown' hgrow hd hl hll hb1
      rw [hv]
      have HV := Lib.hid hv
      clear hv
      go_wp2
      go_loopw [6, 7] (fun v j w2 => ∃ s : Nat, s ≤ l.length ∧ j = .int .i64 ((s : Int) - 1) ∧ w2.ownsRow w1.heap.size 5 1 v (l.length - s) (Lib.byteCells (l.reverse.take (l.length - s))) ∧ Below w1.heap.size w1 w2) (fun _ j _ => (intOf j + 1).toNat)
      case atStart =>
        refine ⟨l.length, Nat.le_refl _, rfl, ?_, (Below.refl _ _).alloc (Nat.le_refl _) _⟩
        rw [Nat.sub_self, List.take_zero]
        exact World.ownsRow_lit _ #[] 0 (Nat.le_refl _) (by unfold maxLen; omega) rfl
      case round =>
        obtain ⟨s, hs, hj, hown, hb2⟩ := hrel
        have HO2 := Lib.hid hown
        have HB2 := Lib.hid hb2
        have hsz2 := hb2.size
        clear hown hb2
        cases s with
        | zero =>
          rw [show (((0 : Nat) : Int) - 1) = -1 from rfl] at hj
          subst hj
          have ho := HO2.out
          rw [Nat.sub_zero, List.take_of_length_le (by simp), ← List.length_reverse] at ho
          obtain ⟨g6, cap6, hv6, _, _, hc6⟩ := row_shape ho (by simp; omega)
          rw [List.length_reverse] at hv6
          rw [hv6]
          clear hv6 ho
          have kc := run_convert_bytes_back (P := Tryd.prog) wr 55 9 5 ⟨g6, 0, none⟩ cap6 l.reverse Tryd.underlying55 Tryd.underlying5 Tryd.underlying9 (fun j hj => by rw [add_off]; exact hc6 j hj)
          rw [List.length_reverse] at kc
          clear hc6
          go_wp2
          go_ret
          exact ⟨by rw [HL.out, List.reverse_append, rev_end HR.out, itoa_neg n h0]; rfl, HB1.out.trans (HB2.out.mono hszw)⟩
        | succ q =>
          rw [show (((q + 1 : Nat) : Int) - 1) = (q : Int) from by omega] at hj
          subst hj
          have hcq : wr.cell? ⟨g, q, none⟩ = some (.int .u8 (l[q].toNat : Int)) := (HB2.out.cell (by exact hg2)).trans (HC.out q (by omega))
          have bq := (l[q]).toNat_lt
          obtain ⟨bv, hbv⟩ : ∃ bv : Nat, bv = (l[q]).toNat := ⟨_, rfl⟩
          rw [← hbv] at hcq bq
          have HBV := Lib.hid hbv
          clear hbv
          go_wp2_with (at_builtin; refine wpList_append_own _ rfl (.tmp 41) (.tmp 46) 55 rfl w1.heap.size 5 i0 (.int .u8 0) 1 1 Tryd.underlying55 hi hz0 hz1 hz2 rfl (by decide) _ (l.length - (q + 1)) _ rfl (HO2.out.alloc _) ⟨wr.heap.size, 0, none⟩ 1 1 [.int .u8 (bv : Int)] rfl rfl ?d1 ?d2 ?d3 ?d4 ?d5 ?_)
          case d1 => exact cells_one
          case d2 => exact one_cell
          case d3 => unfold maxLen; omega
          case d4 => omega
          case d5 => simp; omega
          intro v' w3 hown' hgrow _
          have hd : Lib.byteCells (l.reverse.take (l.length - (q + 1))) ++ [Value.int .u8 (bv : Int)] = Lib.byteCells (l.reverse.take (l.length - q)) := by
            rw [rev_take _ q (by omega), HBV.out]; simp [Lib.byteCells]
          have hl : l.length - (q + 1) + 1 = l.length - q := by omega
          rw [hd, hl] at hown'
          have HO3 := Lib.hid hown'
          have HB3 := Lib.hid ((HB2.out.alloc hsz2 _).grown hgrow (by simp; omega) (fun k hk => (HO2.out.lt k hk).1))
          clear hown' hgrow hd hl
          go_wp2
          go_roundw
          case rel => first | exact ⟨q, by omega, rfl, HO3.out, HB3.out⟩ | ((repeat apply Exists.intro); exact ⟨⟨q, by omega, rfl, HO3.out, HB3.out⟩, rfl⟩)
          case measure => simp [intOf] <;> omega
    · have hu1 : 0 < u := by omega
      have hune : (-(u : Int) == 0) = false := by simp; omega
      have e1 : (-(u : Int)).tmod 10 = -((u : Int) % 10) := by rw [Int.neg_tmod, Int.tmod_eq_emod_of_nonneg (by omega)]
      have e2 : (-(u : Int)).tdiv 10 = -((u : Int) / 10) := by rw [Int.neg_tdiv, Int.tdiv_eq_ediv_of_nonneg (by omega)]
      clear hu
      by_cases hd0 : (u : Int) % 10 = 0
      · have HD := Lib.hid hd0
        have hd1 : ¬ -((u : Int) % 10) < 0 := by omega
        clear hd0
        go_wp2_with (at_builtin; refine wpList_append_own _ rfl (.tmp 22) (.tmp 26) 55 rfl w.heap.size 5 i0 (.int .u8 0) 1 1 Tryd.underlying55 hi hz0 hz1 hz2 rfl (by decide) _ ds.length _ rfl (HO.out.alloc _) ⟨wr.heap.size, 0, none⟩ 1 1 [.int .u8 (48 + -((u : Int) % 10))] rfl rfl ?e1 ?e2 ?e3 ?e4 ?e5 ?_)
        case e2 => first | exact one_cell | rfl
        case e3 => unfold maxLen; omega
        case e4 => omega
        case e5 => first | omega | (simp; omega)
        intro v' w1 hown' hgrow _
        have hd : Lib.byteCells ds ++ [Value.int .u8 (48 + -((u : Int) % 10))] = Lib.byteCells (ds ++ [dig u]) := by have := HD.out; simp only [Lib.byteCells, List.map_append, List.map_cons, List.map_nil, dig_toNat]; congr 3; omega
        have hl : ds.length + 1 = (ds ++ [dig u]).length := by simp
        rw [hd, hl] at hown'
        have HO2 := Lib.hid hown'
        have HB2 := Lib.hid ((HB.out.alloc hsz _).grown hgrow (by simp; omega) (fun k hk => (HO.out.lt k hk).1))
        clear hown' hgrow hd hl
        go_wp2
        go_roundw
        case rel => exact ⟨u / 10, ds ++ [dig u], by go_num, by omega, HO2.out, HB2.out, rev_step HR.out (by omega)⟩
        case measure => simp [intOf]; omega
      · have hd1 : -((u : Int) % 10) < 0 := by omega
        clear hd0
        go_wp2_with (at_builtin; refine wpList_append_own _ rfl (.tmp 22) (.tmp 26) 55 rfl w.heap.size 5 i0 (.int .u8 0) 1 1 Tryd.underlying55 hi hz0 hz1 hz2 rfl (by decide) _ ds.length _ rfl (HO.out.alloc _) ⟨wr.heap.size, 0, none⟩ 1 1 [.int .u8 (48 + (u : Int) % 10)] rfl rfl ?f1 ?f2 ?f3 ?f4 ?f5 ?_)
        case f1 => first | exact cells_one | exact fun _ _ h => h
        case f2 => first | exact one_cell | rfl
        case f3 => unfold maxLen; omega
        case f4 => omega
        case f5 => first | omega | (simp; omega)
        intro v' w1 hown' hgrow _
        have hd : Lib.byteCells ds ++ [Value.int .u8 (48 + (u : Int) % 10)] = Lib.byteCells (ds ++ [dig u]) := by simp [Lib.byteCells, dig_toNat]
        have hl : ds.length + 1 = (ds ++ [dig u]).length := by simp
        rw [hd, hl] at hown'
        have HO2 := Lib.hid hown'
        have HB2 := Lib.hid ((HB.out.alloc hsz _).grown hgrow (by simp; omega) (fun k hk => (HO.out.lt k hk).1))
        clear hown' hgrow hd hl
        go_wp2
        go_roundw
        case rel => exact ⟨u / 10, ds ++ [dig u], by go_num, by omega, HO2.out, HB2.out, rev_step HR.out (by omega)⟩
        case measure => simp [intOf]; omega

theorem spec_dec_zero (w : World) :
    Calls Tryd.prog 28 #[.int .i64 0] w fun e w' => e = .returned (.string ⟨(Lib.itoa 0).toArray⟩) ∧ Below w.heap.size w w' := by
  go_enter Tryd.func28, Tryd.ntmps28
  go_wp2
  go_ret
  exact ⟨by have : Lib.itoa 0 = [48] := by (show Lib.itoa ((0 : Nat) : Int) = [48]); rw [itoa_nat]; decide +kernel
            rw [this]; rfl, Below.refl _ _⟩
theorem spec_dec (n : Int) (w : World) (h0 : -9223372036854775808 ≤ n) (h1 : n ≤ 9223372036854775807) :
    Calls Tryd.prog 28 #[.int .i64 n] w fun e w' => e = .returned (.string ⟨(Lib.itoa n).toArray⟩) ∧ Below w.heap.size w w' := by
  by_cases h : n = 0
  · subst h; exact spec_dec_zero w
  · by_cases hp : 0 < n
    · obtain ⟨k, rfl⟩ := Int.eq_ofNat_of_zero_le (Int.le_of_lt hp)
      exact spec_dec_pos k w (by omega) (by omega)
    · obtain ⟨k, hk⟩ := Int.eq_ofNat_of_zero_le (a := -n) (by omega)
      have : n = -(k : Int) := by omega
      subst this
      exact spec_dec_neg k w (by omega) (by omega)
end Go.Proofs.YtggiilbdlbhpgaaDoor.Dec
