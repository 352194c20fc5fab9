
/-
  The text of a point, read, in the model and in the program. Conditions: a text of at most 1048576 bytes; for the program's, what the library's variables hold.
-/
import Derived.Test.YtbmhhhhodlfcbaaDoorReadPtPlain
import Derived.Test.YtbmhhhhodlfcbaaDoorSplit
import Derived.Test.YtbmhhhhodlfcbaaDoorNum
import Derived.Test.YtbmhhhhodlfcbaaDoorOn
import Derived.Test.YtbmhhhhodlfcbaaDoorOnH
import Derived.Test.YtbmhhhhodlfcbaaDoorTabs
import Derived.Test.YtbmhhhhodlfcbaaDoorReadDec
import Derived.Test.YtbmhhhhodlfcbaaDoorShelfCut
namespace Go.Proofs.YtbmhhhhodlfcbaaDoor.ReadPt
open Go.RowKit
open Plain
open Split (strV strCells)
open Point (okB)

theorem row_strs {w : World} {B e : Nat} {v : Value} {ps : List (List UInt8)} (h : w.ownsRow B e 1 v ps.length (strCells ps)) (h0 : 0 < ps.length) :
    ∃ g cap, v = .slice (some ⟨g, 0, none⟩) ps.length cap ∧ B ≤ g ∧ g < w.heap.size ∧ ∀ j (hj : j < ps.length), w.cell? ⟨g, j, none⟩ = some (strV ps[j]) := by
  have hlt := h.lt
  have hc := fun g (hg : v.ownBlock = some g) => h.cells hg
  obtain ⟨_, ⟨_, h2⟩ | ⟨g, cap, cur, rfl, hB, _⟩⟩ := h
  · omega
  · refine ⟨g, cap, rfl, hB, (hlt g rfl).2, fun j hj => ?_⟩
    have := hc g rfl j (strV ps[j]) (by simp [strCells, List.getElem?_eq_getElem hj])
    have e : (⟨g, 0, none⟩ : Addr).add j = ⟨g, j, none⟩ := by cases j <;> simp [Addr.add]
    rw [e] at this
    exact this
def rpR (l : List UInt8) : Ending := .returned (.tuple #[.agg #[.int .i64 (rX l), .int .i64 (rY l)], .bool (rB l)])
theorem rpR_no {l : List UInt8} (h : rX l = 0 ∧ rY l = 0 ∧ rB l = false) : rpR l = .returned (.tuple #[.agg #[.int .i64 0, .int .i64 0], .bool false]) := by unfold rpR; rw [h.1, h.2.1, h.2.2]
theorem rpR_yes {l : List UInt8} {x y : Int} (h : rX l = x ∧ rY l = y ∧ rB l = true) : rpR l = .returned (.tuple #[.agg #[.int .i64 x, .int .i64 y], .bool true]) := by unfold rpR; rw [h.1, h.2.1, h.2.2]

theorem len_le_of_piece {c : UInt8} : ∀ {l p : List UInt8} {n : Nat}, p ∈ pieces c l → l.length ≤ n → p.length ≤ n
  | [], p, n, h, hn => by
    have : p = [] := by simpa [pieces] using h
    rw [this]; exact Nat.zero_le _
  | b :: r, p, n, h, hn => by
    rw [List.length_cons] at hn
    unfold pieces at h
    split at h
    · rcases List.mem_cons.1 h with rfl | h'
      · exact Nat.zero_le _
      · have := len_le_of_piece (n := n - 1) h' (by omega); omega
    · split at h
      · rename_i hp
        exact absurd hp (pieces_ne c r)
      · rename_i q qs hp
        rcases List.mem_cons.1 h with rfl | h'
        · have := len_le_of_piece (p := q) (n := n - 1) (by rw [hp]; exact List.mem_cons_self) (by omega)
          rw [List.length_cons]; omega
        · have := len_le_of_piece (p := p) (n := n - 1) (by rw [hp]; exact List.mem_cons_of_mem _ h') (by omega); omega

set_option maxHeartbeats 4000000 in
theorem spec_read (s : ByteArray) (w : World) (hs : s.size ≤ 1048576) :
    Calls Tryd.prog 59 #[.string s] w fun e w' => e = rpR s.data.toList ∧ On w w' := by
  have hsp := fun w => Split.spec_split s 44 44 rfl w hs
  have hne : 0 < (pieces 44 s.data.toList).length := List.length_pos_iff.2 (pieces_ne _ _)
  obtain ⟨ps, hps⟩ : ∃ ps, ps = pieces 44 s.data.toList := ⟨_, rfl⟩
  rw [← hps] at hsp hne
  have HS := Lib.hid hsp
  clear hsp
  by_cases h2 : ps.length = 2
  · obtain ⟨a, b, hab⟩ := two_of h2
    obtain ⟨a', b', f, -, la, lb, hcut⟩ := cut_comma s.data.toList
    have hp : pieces 44 s.data.toList = [a, b] := hps ▸ hab
    have hla : a.length ≤ 1048576 ∧ b.length ≤ 1048576 := by
      rcases hcut with h | ⟨-, h⟩
      · rw [hp] at h
        obtain ⟨rfl, rfl⟩ : a = a' ∧ b = b' := by simpa using h
        have := Num.len_data s
        omega
      · exact ⟨len_le_of_piece (c := 44) (l := s.data.toList) (by rw [hp]; simp) (by rw [Num.len_data]; exact hs), len_le_of_piece (c := 44) (l := s.data.toList) (by rw [hp]; simp) (by rw [Num.len_data]; exact hs)⟩
    have HA := Lib.hid (fun w => show Calls Tryd.prog 51 #[.string ⟨a.toArray⟩] w (fun e w' => e = .returned (.tuple #[.int .i64 (numV a), .bool (numB a)]) ∧ w = w') from Num.spec_l01Number ⟨a.toArray⟩ w (by show a.toArray.size ≤ _; rw [List.size_toArray]; exact hla.1))
    have HB := Lib.hid (fun w => show Calls Tryd.prog 51 #[.string ⟨b.toArray⟩] w (fun e w' => e = .returned (.tuple #[.int .i64 (numV b), .bool (numB b)]) ∧ w = w') from Num.spec_l01Number ⟨b.toArray⟩ w (by show b.toArray.size ≤ _; rw [List.size_toArray]; exact hla.2))
    have HP := Lib.hid (fun w => Point.spec_ok (numV a) (numV b) w)
    subst hab
    clear hps hcut la lb hla h2 hne
    cases ka : numB a with
    | false =>
      have H := Lib.hid (rpR_no (rpt_bad hp (by rw [ka]; simp)))
      have HA := Lib.hid (fun w => by have := HA.out w; rw [ka] at this; exact this)
      go_enter Tryd.func59, Tryd.ntmps59
      go_wp2_with fail
      refine (HS.out _).mono ?_
      rintro e w1 ⟨v, rfl, hown, hb⟩
      obtain ⟨g, cap, rfl, -, hg, hc⟩ := row_strs hown (by simp)
      have c0 : w1.cell? ⟨g, 0, none⟩ = some (.string ⟨a.toArray⟩) := hc 0 (by simp)
      have c1 : w1.cell? ⟨g, 1, none⟩ = some (.string ⟨b.toArray⟩) := hc 1 (by simp)
      have hb' : On _ w1 := hb
      obtain ⟨hc1, hf1⟩ := bcell hb'
      obtain z1 : w.heap.size < w1.heap.size := by have := hb'.size; simp at this; omega
      have hO1 : On w w1 := by repeat (first | with_reducible exact On.refl _ | apply On.alloc | refine On.trans ?_ hb')
      have l2 : ([a, b] : List (List UInt8)).length = 2 := rfl
      have d0 : w1.cell? ⟨w.heap.size, 0, none⟩ = some (.int .i64 0) := (hb'.cell (by simp)).trans (by simp [go_sem])
      have d1 : w1.cell? ⟨w.heap.size, 1, none⟩ = some (.int .i64 0) := (hb'.cell (by simp)).trans (by simp [go_sem])
      clear hown hc hb hb'
      rw [l2]
      go_wp2_with fail
      refine (HA.out _).mono ?_
      rintro e w2 ⟨rfl, rfl⟩
      go_wp2_with fail
      refine (HB.out _).mono ?_
      rintro e w2 ⟨rfl, rfl⟩
      go_wp2_with fail
      refine bodyPost_ret (v := .tuple #[.agg #[.int .i64 0, .int .i64 0], .bool false]) (by simp [results, Tryd.results59, go_sem, d0, d1, z1]) rfl ⟨H.out.symm, ?_⟩
      repeat (first | with_reducible exact On.refl _ | apply On.alloc | apply On.drewN | with_reducible exact hO1 | refine On.trans ?_ (by assumption) | refine On.setCell ?_ (by (try simp) <;> omega) _)
    | true =>
      have HA := Lib.hid (fun w => by have := HA.out w; rw [ka] at this; exact this)
      cases kb : numB b with
      | false =>
        have H := Lib.hid (rpR_no (rpt_bad hp (by rw [ka, kb]; simp)))
        have HB := Lib.hid (fun w => by have := HB.out w; rw [kb] at this; exact this)
        go_enter Tryd.func59, Tryd.ntmps59
        go_wp2_with fail
        refine (HS.out _).mono ?_
        rintro e w1 ⟨v, rfl, hown, hb⟩
        obtain ⟨g, cap, rfl, -, hg, hc⟩ := row_strs hown (by simp)
        have c0 : w1.cell? ⟨g, 0, none⟩ = some (.string ⟨a.toArray⟩) := hc 0 (by simp)
        have c1 : w1.cell? ⟨g, 1, none⟩ = some (.string ⟨b.toArray⟩) := hc 1 (by simp)
        have hb' : On _ w1 := hb
        obtain ⟨hc1, hf1⟩ := bcell hb'
        obtain z1 : w.heap.size < w1.heap.size := by have := hb'.size; simp at this; omega
        have hO1 : On w w1 := by repeat (first | with_reducible exact On.refl _ | apply On.alloc | refine On.trans ?_ hb')
        have l2 : ([a, b] : List (List UInt8)).length = 2 := rfl
        have d0 : w1.cell? ⟨w.heap.size, 0, none⟩ = some (.int .i64 0) := (hb'.cell (by simp)).trans (by simp [go_sem])
        have d1 : w1.cell? ⟨w.heap.size, 1, none⟩ = some (.int .i64 0) := (hb'.cell (by simp)).trans (by simp [go_sem])
        clear hown hc hb hb'
        rw [l2]
        go_wp2_with fail
        refine (HA.out _).mono ?_
        rintro e w2 ⟨rfl, rfl⟩
        go_wp2_with fail
        refine (HB.out _).mono ?_
        rintro e w2 ⟨rfl, rfl⟩
        go_wp2_with fail
        refine bodyPost_ret (v := .tuple #[.agg #[.int .i64 0, .int .i64 0], .bool false]) (by simp [results, Tryd.results59, go_sem, d0, d1, z1]) rfl ⟨H.out.symm, ?_⟩
        repeat (first | with_reducible exact On.refl _ | apply On.alloc | apply On.drewN | with_reducible exact hO1 | refine On.trans ?_ (by assumption) | refine On.setCell ?_ (by (try simp) <;> omega) _)
      | true =>
        have HB := Lib.hid (fun w => by have := HB.out w; rw [kb] at this; exact this)
        cases kp : okB (numV a) (numV b) with
        | false =>
          have H := Lib.hid (rpR_no (rpt_bad hp (by rw [ka, kb, kp]; simp)))
          have HP2 := Lib.hid (fun w => by have := HP.out w; rw [kp] at this; exact this)
          go_enter Tryd.func59, Tryd.ntmps59
          go_wp2_with fail
          refine (HS.out _).mono ?_
          rintro e w1 ⟨v, rfl, hown, hb⟩
          obtain ⟨g, cap, rfl, -, hg, hc⟩ := row_strs hown (by simp)
          have c0 : w1.cell? ⟨g, 0, none⟩ = some (.string ⟨a.toArray⟩) := hc 0 (by simp)
          have c1 : w1.cell? ⟨g, 1, none⟩ = some (.string ⟨b.toArray⟩) := hc 1 (by simp)
          have hb' : On _ w1 := hb
          obtain ⟨hc1, hf1⟩ := bcell hb'
          obtain z1 : w.heap.size < w1.heap.size := by have := hb'.size; simp at this; omega
          have hO1 : On w w1 := by repeat (first | with_reducible exact On.refl _ | apply On.alloc | refine On.trans ?_ hb')
          have l2 : ([a, b] : List (List UInt8)).length = 2 := rfl
          have d0 : w1.cell? ⟨w.heap.size, 0, none⟩ = some (.int .i64 0) := (hb'.cell (by simp)).trans (by simp [go_sem])
          have d1 : w1.cell? ⟨w.heap.size, 1, none⟩ = some (.int .i64 0) := (hb'.cell (by simp)).trans (by simp [go_sem])
          clear hown hc hb hb'
          rw [l2]
          go_wp2_with fail
          refine (HA.out _).mono ?_
          rintro e w2 ⟨rfl, rfl⟩
          go_wp2_with fail
          refine (HB.out _).mono ?_
          rintro e w2 ⟨rfl, rfl⟩
          go_wp2_with fail
          refine (HP2.out _).mono ?_
          rintro e w3 ⟨rfl, h3⟩
          have d2 : w3.cell? ⟨w.heap.size, 0, none⟩ = some (.int .i64 0) := ((On.trans (On.alloc (On.refl w1) _) h3).cell (by exact z1)).trans d0
          have d3 : w3.cell? ⟨w.heap.size, 1, none⟩ = some (.int .i64 0) := ((On.trans (On.alloc (On.refl w1) _) h3).cell (by exact z1)).trans d1
          obtain ⟨hc3, hf3⟩ := bcell h3
          obtain ⟨z3, z3'⟩ : w.heap.size < w3.heap.size ∧ w1.heap.size < w3.heap.size := by have := h3.size; simp at this; omega
          go_wp2_with fail
          refine bodyPost_ret (v := .tuple #[.agg #[.int .i64 0, .int .i64 0], .bool false]) (by simp [results, Tryd.results59, go_sem, d2, d3]) rfl ⟨H.out.symm, ?_⟩
          repeat (first | with_reducible exact On.refl _ | apply On.alloc | apply On.drewN | with_reducible exact hO1 | refine On.trans ?_ (by assumption) | refine On.setCell ?_ (by (try simp) <;> omega) _)
        | true =>
          have H := Lib.hid (rpR_yes (rpt_good hp ⟨ka, kb, kp⟩))
          have HP2 := Lib.hid (fun w => by have := HP.out w; rw [kp] at this; exact this)
          go_enter Tryd.func59, Tryd.ntmps59
          go_wp2_with fail
          refine (HS.out _).mono ?_
          rintro e w1 ⟨v, rfl, hown, hb⟩
          obtain ⟨g, cap, rfl, -, hg, hc⟩ := row_strs hown (by simp)
          have c0 : w1.cell? ⟨g, 0, none⟩ = some (.string ⟨a.toArray⟩) := hc 0 (by simp)
          have c1 : w1.cell? ⟨g, 1, none⟩ = some (.string ⟨b.toArray⟩) := hc 1 (by simp)
          have hb' : On _ w1 := hb
          obtain ⟨hc1, hf1⟩ := bcell hb'
          obtain z1 : w.heap.size < w1.heap.size := by have := hb'.size; simp at this; omega
          have hO1 : On w w1 := by repeat (first | with_reducible exact On.refl _ | apply On.alloc | refine On.trans ?_ hb')
          have l2 : ([a, b] : List (List UInt8)).length = 2 := rfl
          have d0 : w1.cell? ⟨w.heap.size, 0, none⟩ = some (.int .i64 0) := (hb'.cell (by simp)).trans (by simp [go_sem])
          have d1 : w1.cell? ⟨w.heap.size, 1, none⟩ = some (.int .i64 0) := (hb'.cell (by simp)).trans (by simp [go_sem])
          clear hown hc hb hb'
          rw [l2]
          go_wp2_with fail
          refine (HA.out _).mono ?_
          rintro e w2 ⟨rfl, rfl⟩
          go_wp2_with fail
          refine (HB.out _).mono ?_
          rintro e w2 ⟨rfl, rfl⟩
          go_wp2_with fail
          refine (HP2.out _).mono ?_
          rintro e w3 ⟨rfl, h3⟩
          have d2 : w3.cell? ⟨w.heap.size, 0, none⟩ = some (.int .i64 0) := ((On.trans (On.alloc (On.refl w1) _) h3).cell (by exact z1)).trans d0
          have d3 : w3.cell? ⟨w.heap.size, 1, none⟩ = some (.int .i64 0) := ((On.trans (On.alloc (On.refl w1) _) h3).cell (by exact z1)).trans d1
          obtain ⟨hc3, hf3⟩ := bcell h3
          obtain ⟨z3, z3'⟩ : w.heap.size < w3.heap.size ∧ w1.heap.size < w3.heap.size := by have := h3.size; simp at this; omega
          go_wp2_with fail
          refine bodyPost_ret (v := .tuple #[.agg #[.int .i64 (numV a), .int .i64 (numV b)], .bool true]) (by simp [results, Tryd.results59, go_sem, d2, d3]) rfl ⟨H.out.symm, ?_⟩
          repeat (first | with_reducible exact On.refl _ | apply On.alloc | apply On.drewN | with_reducible exact hO1 | refine On.trans ?_ (by assumption) | refine On.setCell ?_ (by (try simp) <;> omega) _)
  · have H := Lib.hid (rpR_no (r_none (rpt_len (hps ▸ h2))))
    obtain ⟨n, hn⟩ : ∃ n, n = ps.length := ⟨_, rfl⟩
    have b1 : ((n : Int) == 2) = false := beq_eq_false_iff_ne.2 (by omega)
    have b2 : ((n : Int) != 2) = true := by rw [bne, b1]; rfl
    go_enter Tryd.func59, Tryd.ntmps59
    go_wp2_with fail
    refine (HS.out _).mono ?_
    rintro e w1 ⟨v, rfl, hown, hb⟩
    obtain ⟨g, cap, rfl, -, hg, -⟩ := row_strs hown hne
    rw [← hn]
    have hb' : On _ w1 := hb
    obtain ⟨hc1, hf1⟩ := bcell hb'
    obtain z1 : w.heap.size < w1.heap.size := by have := hb'.size; simp at this; omega
    have hO1 : On w w1 := by repeat (first | with_reducible exact On.refl _ | apply On.alloc | refine On.trans ?_ hb')
    have d0 : w1.cell? ⟨w.heap.size, 0, none⟩ = some (.int .i64 0) := (hb'.cell (by simp)).trans (by simp [go_sem])
    have d1 : w1.cell? ⟨w.heap.size, 1, none⟩ = some (.int .i64 0) := (hb'.cell (by simp)).trans (by simp [go_sem])
    clear hown hb hb' hn h2 hne hps
    go_wp2_with fail
    refine bodyPost_ret (v := .tuple #[.agg #[.int .i64 0, .int .i64 0], .bool false]) (by simp [results, Tryd.results59, go_sem, d0, d1]) rfl ⟨H.out.symm, ?_⟩
    repeat (first | with_reducible exact On.refl _ | apply On.alloc | apply On.drewN | with_reducible exact hO1 | refine On.trans ?_ (by assumption) | refine On.setCell ?_ (by (try simp) <;> omega) _)
set_option maxHeartbeats 4000000 in
theorem impl_readPoint (s : ByteArray) (m : Int) (w : World) (hs : s.size ≤ 1048576) (hm : w.cell? ⟨1, 0, none⟩ = some (.int .i64 m)) (hw : Tabs.Sent w) (ht : Lib.TabBelow Tryd.prog w.heap.size w "internal/strconv.uint64pow10" .u64 Lib.pow10Tab) :
    Calls Tryd.prog 60 #[.string s] w fun e w' => e = rpR s.data.toList ∧ On w w' := by
  obtain ⟨a, b, f, hc, la, lb, hcut⟩ := cut_comma s.data.toList
  rw [Num.len_data] at la lb
  have hlt := World.block_lt_of_cell? w _ hm
  have hCut := fun w' (hb : On w w') => Tryd.strings_Cut s ⟨#[44]⟩ m w' (by omega) ((hb.cell (by exact hlt)).trans hm)
  rw [show (⟨#[44]⟩ : ByteArray).data.toList = [44] from rfl, hc] at hCut
  have HC := Lib.hid hCut
  have hRA := fun w' (hb : On w w') => ReadDec.impl_readDecimal ⟨a.toArray⟩ w' (by show a.toArray.size ≤ _; rw [List.size_toArray]; omega) (hw.below hb) (fun w'' hb2 => ht w'' (On.trans hb hb2))
  have hRB := fun w' (hb : On w w') => ReadDec.impl_readDecimal ⟨b.toArray⟩ w' (by show b.toArray.size ≤ _; rw [List.size_toArray]; omega) (hw.below hb) (fun w'' hb2 => ht w'' (On.trans hb hb2))
  rw [show (⟨a.toArray⟩ : ByteArray).data.toList = a from rfl] at hRA
  rw [show (⟨b.toArray⟩ : ByteArray).data.toList = b from rfl] at hRB
  have HA := Lib.hid hRA
  have HB := Lib.hid hRB
  have HP := Lib.hid (fun w => Point.impl_ok (numV a) (numV b) w)
  clear hCut hRA hRB hw ht hm hc la lb
  have hno : ¬ (numB a = true ∧ numB b = true ∧ okB (numV a) (numV b) = true) → rX s.data.toList = 0 ∧ rY s.data.toList = 0 ∧ rB s.data.toList = false := fun h => by
    rcases hcut with hp | ⟨-, hp⟩
    · exact rpt_bad hp h
    · exact r_none hp
  cases ka : numB a with
  | false =>
    have H := Lib.hid (rpR_no (hno (by rw [ka]; simp)))
    have HA := Lib.hid (fun w hb => by have := HA.out w hb; rw [ka] at this; exact this)
    clear hno hcut hs
    go_enter Tryd.func60, Tryd.ntmps60
    go_wp2_with fail
    refine (HC.out _ (by repeat (first | with_reducible exact On.refl _ | apply On.alloc))).mono ?_
    rintro e w1 ⟨rfl, n, rfl⟩
    go_wp2_with fail
    refine (HA.out _ (by repeat (first | with_reducible exact On.refl _ | apply On.drewN | apply On.alloc))).mono ?_
    rintro e w2 ⟨rfl, h2⟩
    have h2' : On _ w2 := h2
    have hO2 : On w w2 := by refine On.trans ?_ h2'; repeat (first | with_reducible exact On.refl _ | apply On.drewN | apply On.alloc)
    obtain ⟨hc2, hf2⟩ := bcell h2'
    obtain z2 : w.heap.size < w2.heap.size := by have := h2'.size; simp at this; omega
    have d0 : w2.cell? ⟨w.heap.size, 0, none⟩ = some (.int .i64 0) := (h2'.cell (by simp)).trans (by simp [go_sem])
    have d1 : w2.cell? ⟨w.heap.size, 1, none⟩ = some (.int .i64 0) := (h2'.cell (by simp)).trans (by simp [go_sem])
    go_wp2_with fail
    refine (HB.out _ hO2).mono ?_
    rintro e w3 ⟨rfl, h3⟩
    have h3' : On _ w3 := h3
    have hO1 : On w w3 := On.trans hO2 h3'
    obtain ⟨hc3, hf3⟩ := bcell h3'
    obtain ⟨z3, z3'⟩ : w.heap.size < w3.heap.size ∧ w2.heap.size ≤ w3.heap.size := by have := h3'.size; omega
    have d2 : w3.cell? ⟨w.heap.size, 0, none⟩ = some (.int .i64 0) := (h3'.cell (by exact z2)).trans d0
    have d3 : w3.cell? ⟨w.heap.size, 1, none⟩ = some (.int .i64 0) := (h3'.cell (by exact z2)).trans d1
    clear h2 h2' h3 h3'
    go_wp2_with fail
    refine bodyPost_ret (v := .tuple #[.agg #[.int .i64 0, .int .i64 0], .bool false]) (by simp [results, Tryd.results60, go_sem, d2, d3, z3]) rfl ⟨H.out.symm, ?_⟩
    repeat (first | with_reducible exact On.refl _ | apply On.alloc | apply On.drewN | with_reducible exact hO1 | refine On.trans ?_ (by assumption) | refine On.setCell ?_ (by (try simp) <;> omega) _)
  | true =>
    have HA := Lib.hid (fun w hb => by have := HA.out w hb; rw [ka] at this; exact this)
    cases kb : numB b with
    | false =>
      have H := Lib.hid (rpR_no (hno (by rw [ka, kb]; simp)))
      have HB := Lib.hid (fun w hb => by have := HB.out w hb; rw [kb] at this; exact this)
      clear hno hcut hs
      go_enter Tryd.func60, Tryd.ntmps60
      go_wp2_with fail
      refine (HC.out _ (by repeat (first | with_reducible exact On.refl _ | apply On.alloc))).mono ?_
      rintro e w1 ⟨rfl, n, rfl⟩
      go_wp2_with fail
      refine (HA.out _ (by repeat (first | with_reducible exact On.refl _ | apply On.drewN | apply On.alloc))).mono ?_
      rintro e w2 ⟨rfl, h2⟩
      have h2' : On _ w2 := h2
      have hO2 : On w w2 := by refine On.trans ?_ h2'; repeat (first | with_reducible exact On.refl _ | apply On.drewN | apply On.alloc)
      obtain ⟨hc2, hf2⟩ := bcell h2'
      obtain z2 : w.heap.size < w2.heap.size := by have := h2'.size; simp at this; omega
      have d0 : w2.cell? ⟨w.heap.size, 0, none⟩ = some (.int .i64 0) := (h2'.cell (by simp)).trans (by simp [go_sem])
      have d1 : w2.cell? ⟨w.heap.size, 1, none⟩ = some (.int .i64 0) := (h2'.cell (by simp)).trans (by simp [go_sem])
      go_wp2_with fail
      refine (HB.out _ hO2).mono ?_
      rintro e w3 ⟨rfl, h3⟩
      have h3' : On _ w3 := h3
      have hO1 : On w w3 := On.trans hO2 h3'
      obtain ⟨hc3, hf3⟩ := bcell h3'
      obtain ⟨z3, z3'⟩ : w.heap.size < w3.heap.size ∧ w2.heap.size ≤ w3.heap.size := by have := h3'.size; omega
      have d2 : w3.cell? ⟨w.heap.size, 0, none⟩ = some (.int .i64 0) := (h3'.cell (by exact z2)).trans d0
      have d3 : w3.cell? ⟨w.heap.size, 1, none⟩ = some (.int .i64 0) := (h3'.cell (by exact z2)).trans d1
      clear h2 h2' h3 h3'
      go_wp2_with fail
      refine bodyPost_ret (v := .tuple #[.agg #[.int .i64 0, .int .i64 0], .bool false]) (by simp [results, Tryd.results60, go_sem, d2, d3, z3]) rfl ⟨H.out.symm, ?_⟩
      repeat (first | with_reducible exact On.refl _ | apply On.alloc | apply On.drewN | with_reducible exact hO1 | refine On.trans ?_ (by assumption) | refine On.setCell ?_ (by (try simp) <;> omega) _)
    | true =>
      have HB := Lib.hid (fun w hb => by have := HB.out w hb; rw [kb] at this; exact this)
      cases kp : okB (numV a) (numV b) with
      | false =>
        have H := Lib.hid (rpR_no (hno (by rw [ka, kb, kp]; simp)))
        have HP2 := Lib.hid (fun w => by have := HP.out w; rw [kp] at this; exact this)
        clear hno hcut hs
        go_enter Tryd.func60, Tryd.ntmps60
        go_wp2_with fail
        refine (HC.out _ (by repeat (first | with_reducible exact On.refl _ | apply On.alloc))).mono ?_
        rintro e w1 ⟨rfl, n, rfl⟩
        go_wp2_with fail
        refine (HA.out _ (by repeat (first | with_reducible exact On.refl _ | apply On.drewN | apply On.alloc))).mono ?_
        rintro e w2 ⟨rfl, h2⟩
        have h2' : On _ w2 := h2
        have hO2 : On w w2 := by refine On.trans ?_ h2'; repeat (first | with_reducible exact On.refl _ | apply On.drewN | apply On.alloc)
        obtain ⟨hc2, hf2⟩ := bcell h2'
        obtain z2 : w.heap.size < w2.heap.size := by have := h2'.size; simp at this; omega
        have d0 : w2.cell? ⟨w.heap.size, 0, none⟩ = some (.int .i64 0) := (h2'.cell (by simp)).trans (by simp [go_sem])
        have d1 : w2.cell? ⟨w.heap.size, 1, none⟩ = some (.int .i64 0) := (h2'.cell (by simp)).trans (by simp [go_sem])
        go_wp2_with fail
        refine (HB.out _ hO2).mono ?_
        rintro e w3 ⟨rfl, h3⟩
        have h3' : On _ w3 := h3
        have hO1 : On w w3 := On.trans hO2 h3'
        obtain ⟨hc3, hf3⟩ := bcell h3'
        obtain ⟨z3, z3'⟩ : w.heap.size < w3.heap.size ∧ w2.heap.size ≤ w3.heap.size := by have := h3'.size; omega
        have d2 : w3.cell? ⟨w.heap.size, 0, none⟩ = some (.int .i64 0) := (h3'.cell (by exact z2)).trans d0
        have d3 : w3.cell? ⟨w.heap.size, 1, none⟩ = some (.int .i64 0) := (h3'.cell (by exact z2)).trans d1
        clear h2 h2' h3 h3'
        go_wp2_with fail
        refine (HP2.out _).mono ?_
        rintro e w4 ⟨rfl, h4⟩
        have d4 : w4.cell? ⟨w.heap.size, 0, none⟩ = some (.int .i64 0) := ((On.trans (On.alloc (On.refl w3) _) h4).cell (by exact z3)).trans d2
        have d5 : w4.cell? ⟨w.heap.size, 1, none⟩ = some (.int .i64 0) := ((On.trans (On.alloc (On.refl w3) _) h4).cell (by exact z3)).trans d3
        obtain ⟨hc4, hf4⟩ := bcell h4
        obtain ⟨z4, z4'⟩ : w.heap.size < w4.heap.size ∧ w3.heap.size < w4.heap.size := by have := h4.size; simp at this; omega
        go_wp2_with fail
        refine bodyPost_ret (v := .tuple #[.agg #[.int .i64 0, .int .i64 0], .bool false]) (by simp [results, Tryd.results60, go_sem, d4, d5]) rfl ⟨H.out.symm, ?_⟩
        repeat (first | with_reducible exact On.refl _ | apply On.alloc | apply On.drewN | with_reducible exact hO1 | refine On.trans ?_ (by assumption) | refine On.setCell ?_ (by (try simp) <;> omega) _)
      | true =>
        have hp : pieces 44 s.data.toList = [a, b] := by
          rcases hcut with hp | ⟨hp, -⟩
          · exact hp
          · rw [kb] at hp; cases hp
        have H := Lib.hid (rpR_yes (rpt_good hp ⟨ka, kb, kp⟩))
        have HP2 := Lib.hid (fun w => by have := HP.out w; rw [kp] at this; exact this)
        clear hno hcut hs hp
        go_enter Tryd.func60, Tryd.ntmps60
        go_wp2_with fail
        refine (HC.out _ (by repeat (first | with_reducible exact On.refl _ | apply On.alloc))).mono ?_
        rintro e w1 ⟨rfl, n, rfl⟩
        go_wp2_with fail
        refine (HA.out _ (by repeat (first | with_reducible exact On.refl _ | apply On.drewN | apply On.alloc))).mono ?_
        rintro e w2 ⟨rfl, h2⟩
        have h2' : On _ w2 := h2
        have hO2 : On w w2 := by refine On.trans ?_ h2'; repeat (first | with_reducible exact On.refl _ | apply On.drewN | apply On.alloc)
        obtain ⟨hc2, hf2⟩ := bcell h2'
        obtain z2 : w.heap.size < w2.heap.size := by have := h2'.size; simp at this; omega
        have d0 : w2.cell? ⟨w.heap.size, 0, none⟩ = some (.int .i64 0) := (h2'.cell (by simp)).trans (by simp [go_sem])
        have d1 : w2.cell? ⟨w.heap.size, 1, none⟩ = some (.int .i64 0) := (h2'.cell (by simp)).trans (by simp [go_sem])
        go_wp2_with fail
        refine (HB.out _ hO2).mono ?_
        rintro e w3 ⟨rfl, h3⟩
        have h3' : On _ w3 := h3
        have hO1 : On w w3 := On.trans hO2 h3'
        obtain ⟨hc3, hf3⟩ := bcell h3'
        obtain ⟨z3, z3'⟩ : w.heap.size < w3.heap.size ∧ w2.heap.size ≤ w3.heap.size := by have := h3'.size; omega
        have d2 : w3.cell? ⟨w.heap.size, 0, none⟩ = some (.int .i64 0) := (h3'.cell (by exact z2)).trans d0
        have d3 : w3.cell? ⟨w.heap.size, 1, none⟩ = some (.int .i64 0) := (h3'.cell (by exact z2)).trans d1
        clear h2 h2' h3 h3'
        go_wp2_with fail
        refine (HP2.out _).mono ?_
        rintro e w4 ⟨rfl, h4⟩
        have d4 : w4.cell? ⟨w.heap.size, 0, none⟩ = some (.int .i64 0) := ((On.trans (On.alloc (On.refl w3) _) h4).cell (by exact z3)).trans d2
        have d5 : w4.cell? ⟨w.heap.size, 1, none⟩ = some (.int .i64 0) := ((On.trans (On.alloc (On.refl w3) _) h4).cell (by exact z3)).trans d3
        obtain ⟨hc4, hf4⟩ := bcell h4
        obtain ⟨z4, z4'⟩ : w.heap.size < w4.heap.size ∧ w3.heap.size < w4.heap.size := by have := h4.size; simp at this; omega
        go_wp2_with fail
        refine bodyPost_ret (v := .tuple #[.agg #[.int .i64 (numV a), .int .i64 (numV b)], .bool true]) (by simp [results, Tryd.results60, go_sem, d4, d5]) rfl ⟨H.out.symm, ?_⟩
        repeat (first | with_reducible exact On.refl _ | apply On.alloc | apply On.drewN | with_reducible exact hO1 | refine On.trans ?_ (by assumption) | refine On.setCell ?_ (by (try simp) <;> omega) _)
theorem laws_eqPoint (x y : Int) (w : World) :
    Calls Tryd.prog 61 #[.agg #[.int .i64 x, .int .i64 y], .agg #[.int .i64 x, .int .i64 y]] w fun e w' => e = .returned (.bool true) ∧ On w w' := by
  go_enter Tryd.func61, Tryd.ntmps61
  go_wp2
  go_ret
  exact ⟨rfl, by repeat (first | exact On.refl _ | apply On.alloc)⟩
end Go.Proofs.YtbmhhhhodlfcbaaDoor.ReadPt
