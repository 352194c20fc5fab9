
/-
  The bands that texts stand for, in plain words. No condition.
-/
import Derived.Test.YtbmhhhhodlfcbaaDoorRdSPlain
import Derived.Test.YtbmhhhhodlfcbaaDoorBndT
import Derived.Test.YtbmhhhhodlfcbaaDoorReadListImpl
import Derived.Test.YtbmhhhhodlfcbaaDoorWordsImpl
import Derived.Test.YtbmhhhhodlfcbaaDoorRdS
import Derived.Test.YtbmhhhhodlfcbaaDoorReadListSpec
namespace Go.Proofs.YtbmhhhhodlfcbaaDoor.RdB
open Go.RowKit
open Plain
open PointText (dec)
open Bnd (okB bandT bandT_yes bandT_no)
open Msk (pieces_mem join_two join_back words_mem word_len)
open RdS (nil_bytes words_all)

/-- The numbers of some words, all of which are numbers. -/
def rnV (ps : List (List UInt8)) : List Int := if ps.all numB = true then ps.map numV else []
theorem rn_bad {ps : List (List UInt8)} {k : Nat} (hk : k < ps.length) (h : numB ps[k] = false) : ps.all numB = false := by
  rw [List.all_eq_false]
  exact ⟨ps[k], List.getElem_mem hk, by rw [h]; simp⟩
theorem rn_good {ps : List (List UInt8)} (h : ∀ j (hj : j < ps.length), numB ps[j] = true) : ps.all numB = true := by
  rw [List.all_eq_true]
  intro p hp
  obtain ⟨i, hi, rfl⟩ := List.getElem_of_mem hp
  exact h i hi
theorem rnV_no {ps : List (List UInt8)} (h : ps.all numB = false) : rnV ps = [] := if_neg (by rw [h]; simp)
theorem rnV_yes {ps : List (List UInt8)} (h : ps.all numB = true) : rnV ps = ps.map numV := if_pos h
theorem num_back {p : List UInt8} (h : numB p = true) : (dec (numV p)).data.toList = p := by
  unfold numB at h
  obtain ⟨v, hv⟩ := Option.isSome_iff_exists.1 h
  have hn : numV p = v := (num_yes hv).1
  have hi : Lib.itoa (numV p) = p := by rw [hn]; exact (itoa_of_num hv).1
  show (Lib.itoa (numV p)).toArray.toList = p
  simpa using hi
theorem num_nil {p : List UInt8} (h : numB p = true) : p ≠ [] := by
  rintro rfl
  have : num [] = none := num_empty (by decide)
  have := (num_no this).2
  rw [this] at h; cases h
/-- The band of a text: its name and its four numbers. -/
def rb (l : List UInt8) : Option (List UInt8 × Int × Int × Int × Int) :=
  match pieces 32 l with
  | [x, p, q, r, t] => if ([p, q, r, t].all numB && okB ⟨x.toArray⟩ (numV p) (numV q) (numV r) (numV t)) = true then some (x, numV p, numV q, numV r, numV t) else none
  | _ => none
theorem five_of {α : Type} {ps : List α} (h : ps.length = 5) : ∃ a b c d e, ps = [a, b, c, d, e] := by
  match ps, h with
  | [a, b, c, d, e], _ => exact ⟨a, b, c, d, e, rfl⟩
theorem rb_len {l : List UInt8} (h : (pieces 32 l).length ≠ 5) : rb l = none := by
  unfold rb
  split
  · rename_i e; rw [e] at h; exact absurd rfl h
  · rfl
theorem rb_bad {l x p q r t : List UInt8} (h : pieces 32 l = [x, p, q, r, t]) (g : ([p, q, r, t].all numB && okB ⟨x.toArray⟩ (numV p) (numV q) (numV r) (numV t)) = false) : rb l = none := by unfold rb; rw [h]; simp only [g]; rfl
theorem rb_good {l x p q r t : List UInt8} (h : pieces 32 l = [x, p, q, r, t]) (g : ([p, q, r, t].all numB && okB ⟨x.toArray⟩ (numV p) (numV q) (numV r) (numV t)) = true) : rb l = some (x, numV p, numV q, numV r, numV t) := by unfold rb; rw [h]; simp only [g]; rfl
theorem of_rb {l : List UInt8} (h : rb l ≠ none) : ∃ x p q r t, pieces 32 l = [x, p, q, r, t] ∧ [p, q, r, t].all numB = true ∧ okB ⟨x.toArray⟩ (numV p) (numV q) (numV r) (numV t) = true := by
  by_cases h5 : (pieces 32 l).length = 5
  · obtain ⟨x, p, q, r, t, hp⟩ := five_of h5
    cases g : ([p, q, r, t].all numB && okB ⟨x.toArray⟩ (numV p) (numV q) (numV r) (numV t)) with
    | false => exact absurd (rb_bad hp g) h
    | true =>
      rw [Bool.and_eq_true] at g
      exact ⟨x, p, q, r, t, hp, g.1, g.2⟩
  · exact absurd (rb_len h5) h
theorem four_num {p q r t : List UInt8} (h : [p, q, r, t].all numB = true) : numB p = true ∧ numB q = true ∧ numB r = true ∧ numB t = true := by
  simp only [List.all_cons, List.all_nil, Bool.and_true, Bool.and_eq_true] at h
  exact ⟨h.1, h.2.1, h.2.2.1, h.2.2.2⟩
theorem ok_name {x : List UInt8} {l h r d : Int} (k : okB ⟨x.toArray⟩ l h r d = true) : nameB x = true := by
  unfold okB Bnd.okN at k
  rw [Bool.and_eq_true] at k
  simpa using k.1
theorem rb_words {l x p q r t : List UInt8} (h : pieces 32 l = [x, p, q, r, t]) (g : [p, q, r, t].all numB = true) (g2 : okB ⟨x.toArray⟩ (numV p) (numV q) (numV r) (numV t) = true) : words l = [x, p, q, r, t] := by
  obtain ⟨n1, n2, n3, n4⟩ := four_num g
  rw [words_all, h]
  rw [h]
  intro y hy
  simp at hy
  rcases hy with rfl | rfl | rfl | rfl | rfl
  · exact nil_bytes (ok_name g2)
  · exact num_nil n1
  · exact num_nil n2
  · exact num_nil n3
  · exact num_nil n4
theorem rb_words_len {l : List UInt8} (h : (words l).length ≠ 5) : rb l = none := by
  refine Classical.byContradiction fun hn => ?_
  obtain ⟨x, p, q, r, t, hp, g, g2⟩ := of_rb hn
  rw [rb_words hp g g2] at h
  exact h rfl
theorem join5 (c : UInt8) (x y z u v : List UInt8) : Lib.join [x, y, z, u, v] [c] = x ++ c :: (y ++ c :: (z ++ c :: (u ++ c :: v))) := by
  rw [join_two, join_two, join_two, join_two, Lib.join_one]
theorem bandT_list {x p q r t : List UInt8} (g : [p, q, r, t].all numB = true) (g2 : okB ⟨x.toArray⟩ (numV p) (numV q) (numV r) (numV t) = true) : (bandT ⟨x.toArray⟩ (numV p) (numV q) (numV r) (numV t)).data.toList = x ++ 32 :: (p ++ 32 :: (q ++ 32 :: (r ++ 32 :: t))) := by
  obtain ⟨n1, n2, n3, n4⟩ := four_num g
  rw [bandT_yes g2]
  simp [num_back n1, num_back n2, num_back n3, num_back n4]
theorem rb_words_bad {l x p q r t : List UInt8} (h : words l = [x, p, q, r, t]) (g : [p, q, r, t].all numB = false ∨ ¬ (bandT ⟨x.toArray⟩ (numV p) (numV q) (numV r) (numV t)).data.toList = l) : rb l = none := by
  refine Classical.byContradiction fun hn => ?_
  obtain ⟨x', p', q', r', t', hp, k, k2⟩ := of_rb hn
  have hw := rb_words hp k k2
  rw [h] at hw
  simp only [List.cons.injEq, and_true] at hw
  obtain ⟨rfl, rfl, rfl, rfl, rfl⟩ := hw
  rcases g with g | g
  · rw [g] at k; cases k
  · refine g ?_
    rw [bandT_list k k2, ← join5 32 x p q r t, ← hp]
    exact join_back 32 l
theorem rb_words_good {l x p q r t : List UInt8} (h : words l = [x, p, q, r, t]) (g : [p, q, r, t].all numB = true) (g2 : (bandT ⟨x.toArray⟩ (numV p) (numV q) (numV r) (numV t)).data.toList = l) : rb l = some (x, numV p, numV q, numV r, numV t) := by
  have m : ∀ y ∈ [x, p, q, r, t], (32 : UInt8) ∉ y := fun y hy => pieces_mem (words_mem (by rw [h]; exact hy))
  cases k : okB ⟨x.toArray⟩ (numV p) (numV q) (numV r) (numV t) with
  | false =>
    rw [bandT_no k] at g2
    have hl : l = [] := g2.symm
    rw [hl] at h
    have e0 : words ([] : List UInt8) = [] := by decide
    rw [e0] at h
    cases h
  | true =>
    rw [bandT_list g k] at g2
    have hp : pieces 32 l = [x, p, q, r, t] := by
      rw [← g2, pieces_hit _ (m x (by simp)), pieces_hit _ (m p (by simp)), pieces_hit _ (m q (by simp)), pieces_hit _ (m r (by simp)), pieces_none (m t (by simp))]
    exact rb_good hp (by rw [g, k]; rfl)
end Go.Proofs.YtbmhhhhodlfcbaaDoor.RdB

namespace Go.Proofs.YtbmhhhhodlfcbaaDoor.RdB
open Go.RowKit
open Plain
open Ints (Ints Own)
open ReadList (row_below ret_sb)

theorem size_le0 {p : List UInt8} {n : Nat} (h : p.length ≤ n) : (⟨p.toArray⟩ : ByteArray).size ≤ n := by simpa [ByteArray.size] using h
set_option maxHeartbeats 4000000 in
set_option maxRecDepth 1000000 in
theorem impl_numbers (g off cap : Nat) (ps : List (List UInt8)) (w : World) (hg : g < w.heap.size) (hn64 : ps.length ≤ 64) (hsz : ∀ p ∈ ps, p.length ≤ 1048576) (hcell : ∀ j (hj : j < ps.length), w.cell? ⟨g, off + j, none⟩ = some (.string ⟨(ps[j]'hj).toArray⟩)) (hw : Tabs.Sent w) (ht : Lib.TabBelow Tryd.prog w.heap.size w "internal/strconv.uint64pow10" .u64 Lib.pow10Tab) :
    Calls Tryd.prog 53 #[.slice (some ⟨g, off, none⟩) ps.length cap] w fun e w' => ∃ v, e = .returned (.tuple #[v, .bool (ps.all numB)]) ∧ Own w.heap.size w' v (rnV ps) ∧ On w w' := by
  obtain ⟨n, hn⟩ : ∃ n, n = ps.length := ⟨_, rfl⟩
  have HNP := Lib.hid hn
  have HB := Lib.hid (fun (k : Nat) (hk : k < ps.length) (hb : numB ps[k] = false) => rn_bad hk hb)
  have HR := Lib.hid (fun (b : ByteArray) (hb1 : b.size ≤ 1048576) w' (hb : On w w') => ReadDec.impl_readDecimal b w' hb1 (hw.below hb) (fun w'' hb2 => ht w'' (On.trans hb hb2)))
  have HP := Lib.hid (fun j (hj : j < ps.length) => show ∃ b : ByteArray, w.cell? ⟨g, off + j, none⟩ = some (.string b) ∧ b.size ≤ 1048576 ∧ b.data.toList = ps[j] from ⟨_, hcell j hj, size_le0 (hsz _ (List.getElem_mem hj)), RdS.str_data _⟩)
  rw [← hn] at hn64
  have hmk := fun w => run_make_row' (P := Tryd.prog) 84 2 (.int .i64 0) 8 Tryd.underlying84 Ints.info rfl .i64 .i64 n (by omega) (by omega) w
  have hne : g ≠ w.heap.size := Nat.ne_of_lt hg
  rw [← hn]
  clear hn hcell hsz hw ht
  go_enter Tryd.func53, Tryd.ntmps53
  go_wp2_with fail
  clear hmk
  go_loopw [14] (fun i wr => ∃ k : Nat, k ≤ n ∧ i = .int .i64 k ∧ wr.rowIs w.heap.size 2 n (fun j => if j < k then .int .i64 ((ps.map numV).getD j 0) else .int .i64 0) ∧ Below w.heap.size w wr ∧ ∀ j (hj : j < ps.length), j < k → numB ps[j] = true) (fun i _ => n - (intOf i).toNat)
  case atStart =>
    refine ⟨0, Nat.zero_le _, rfl, ?_, (Below.refl _ _).alloc (Nat.le_refl _) _, fun j _ h => by omega⟩
    exact (World.rowIs_made w (.int .i64 0) n _).congr fun i _ => by simp
  case round =>
    obtain ⟨k, hk, rfl, hrow, hb, hall⟩ := hrel
    have HR2 := Lib.hid hrow
    have HB2 := Lib.hid hb
    have HA := Lib.hid hall
    have hsz2 : w.heap.size < wr.heap.size := by
      obtain ⟨c, h1, -⟩ := hrow
      exact (Array.getElem?_eq_some_iff.1 h1).1
    have hO1 : On w wr := hb
    clear hrow hb hall
    by_cases hlt : k < n
    · have hltp : k < ps.length := by have := HNP.out; omega
      have hlti : (k : Int) < (n : Int) := by omega
      obtain ⟨b, hc0, hbs, hbd⟩ := HP.out k hltp
      have c1 : wr.cell? ⟨g, off + k, none⟩ = some (.string b) := (HB2.out.cell (by exact hg)).trans hc0
      have hgr : g < wr.heap.size := Nat.lt_trans hg hsz2
      have hR := HR.out b hbs
      cases kb : numB b.data.toList with
      | false =>
        rw [kb] at hR
        have HRD := Lib.hid hR
        have H := Lib.hid (HB.out k hltp (by rw [← hbd]; exact kb))
        clear hR hbd hc0
        go_wp2_with fail
        refine (HRD.out _ hO1).mono ?_
        rintro e w2 ⟨rfl, h2⟩
        go_wp2_with fail
        go_ret2
        exact ⟨_, ret_sb H.out.symm, by rw [rnV_no H.out]; exact Own.empty _ _ _ _, hO1.trans h2⟩
      | true =>
        rw [kb] at hR
        have HA2 := Lib.hid (fun j (hj : j < ps.length) (h : j < k + 1) => show numB ps[j] = true by
          by_cases g : j = k
          · subst g; rw [← hbd]; exact kb
          · exact HA.out j hj (by omega))
        have HV := Lib.hid (show (ps.map numV).getD k 0 = numV b.data.toList by rw [hbd]; simp [hltp])
        obtain ⟨z, hz⟩ : ∃ z, z = numV b.data.toList := ⟨_, rfl⟩
        rw [← hz] at hR HV
        have HRD := Lib.hid hR
        clear hR hbd hc0 hz kb
        go_wp2_with fail
        refine (HRD.out _ hO1).mono ?_
        rintro e w2 ⟨rfl, h2⟩
        have h2' : Below wr.heap.size wr w2 := h2
        have HR3 := Lib.hid (row_below HR2.out h2' hsz2)
        have HB3 := Lib.hid (HB2.out.trans (h2'.mono (Nat.le_of_lt hsz2)))
        have hc2 : w2.cell? ⟨w.heap.size, k, none⟩ = some (.int .i64 0) := by have := HR3.out.cell hlt; rw [if_neg (by omega)] at this; exact this
        have hf2 : w2.frozen? ⟨w.heap.size, k, none⟩ = false := HR3.out.frozen k
        clear h2 h2'
        go_wp2_with fail
        go_roundw
        case rel =>
          refine ⟨k + 1, by omega, by go_num, (HR3.out.set k _).congr fun i _ => ?_, HB3.out.setCell (by exact Nat.le_refl _) _, HA2.out⟩
          by_cases h1 : i = k
          · subst h1; rw [if_pos rfl, if_pos (by omega), HV.out]
          · rw [if_neg h1]
            by_cases h2 : i < k
            · rw [if_pos h2, if_pos (by omega)]
            · rw [if_neg h2, if_neg (by omega)]
        case measure => simp [intOf]; omega
    · have hnp := HNP.out
      obtain rfl : k = n := by omega
      have H := Lib.hid (rn_good (ps := ps) (fun j hj => HA.out j hj (by omega)))
      have HLN := Lib.hid (show (ps.map numV).length = k by rw [List.length_map]; omega)
      clear hnp
      have hfin := Lib.hid ((HR2.out.congr fun i hi => by rw [if_pos (by omega)]) : wr.rowIs w.heap.size _ k (fun j => .int .i64 ((ps.map numV).getD j 0)))
      go_wp2
      go_ret2
      refine ⟨_, ret_sb H.out.symm, ?_, hO1⟩
      rw [rnV_yes H.out]
      have hf := hfin.out
      have hlen := HLN.out
      obtain ⟨zs, hzs⟩ : ∃ zs, zs = ps.map numV := ⟨_, rfl⟩
      rw [← hzs] at hf hlen ⊢
      subst hlen
      exact Own.of_row hf (by omega)
end Go.Proofs.YtbmhhhhodlfcbaaDoor.RdB


namespace Go.Proofs.YtbmhhhhodlfcbaaDoor.Words
open Go.RowKit
open Plain
open Split (strV strCells)
open Strs (Strs Own noText)

theorem row_fit {w : World} {B e n : Nat} {v : Value} {xs : List Value} (h : w.ownsRow B e 1 v n xs) : ∀ a k c, v = .slice a k c → k ≤ c := by
  intro a k c hv
  obtain ⟨hl, ⟨rfl, h2⟩ | ⟨g, cap, cur, rfl, hB, hh, hrest⟩⟩ := h
  · cases hv; exact Nat.le_refl _
  · cases hv
    first | omega | (simp at hrest; omega) | exact hrest.1 | exact hrest
set_option maxHeartbeats 1600000 in
set_option maxRecDepth 1000000 in
theorem impl_wordsF (s : ByteArray) (m : Int) (w : World) (hs : s.size ≤ 1048576) (hm : w.cell? ⟨1, 0, none⟩ = some (.int .i64 m)) :
    Calls Tryd.prog 52 #[.string s] w fun e w' => ∃ v, e = .returned v ∧ Own w.heap.size w' v (texts (words s.data.toList)) ∧ On w w' ∧ ∀ a k c, v = .slice a k c → k ≤ c := by
  obtain ⟨i0, hi, hz0, hz1, hz2⟩ := info_parts Split.infoS
  have hSp := Tryd.strings_Split s ⟨#[32]⟩ m w (by omega) hm (by decide)
  have hnl := pieces_len_le 32 s.data.toList
  rw [Num.len_data] at hnl
  have hd := split_data s
  obtain ⟨bs, hbs⟩ : ∃ bs, bs = Lib.splitB ⟨#[32]⟩ 0 (Lib.countB s ⟨#[32]⟩) s := ⟨_, rfl⟩
  rw [← hbs] at hSp hd
  rw [split_len s] at hSp
  obtain ⟨ps, hps⟩ : ∃ ps, ps = pieces 32 s.data.toList := ⟨_, rfl⟩
  have HWD := Lib.hid (show words s.data.toList = wordsTo ps ps.length by rw [hps]; rfl)
  rw [← hps] at hSp hnl hd
  have hn : ps.length ≤ 1048577 := by omega
  have hcells : ∀ j (hj : j < ps.length), ∃ b : ByteArray, ((bs.map Value.string).toArray)[j]? = some (.string b) ∧ b.data.toList = ps[j] := fun j hj => by
    have hj2 : j < bs.length := by rw [← hd, List.length_map] at hj; exact hj
    exact ⟨bs[j], by simp [hj2], ReadList.parts_get hd hj2 hj⟩
  obtain ⟨A, hA⟩ : ∃ A, A = (bs.map Value.string).toArray := ⟨_, rfl⟩
  rw [← hA] at hSp hcells
  have HS := Lib.hid hSp
  have HD := Lib.hid hcells
  clear hSp hbs hd hs hm hnl hps hcells hA
  obtain ⟨W0, hW0⟩ : ∃ W0 : World, W0 = w.alloc (.cells A 9) := ⟨_, rfl⟩
  go_enter Tryd.func52, Tryd.ntmps52
  go_wp2_with fail
  refine HS.out.mono ?_
  rintro e w1 ⟨rfl, hw1⟩
  rw [← hW0] at hw1
  subst hw1
  have HSZ := Lib.hid (show w1.heap.size = w.heap.size + 1 by rw [hW0]; simp)
  have hO0 : On w w1 := by rw [hW0]; exact On.alloc (On.refl w) _
  have HP := Lib.hid (fun j (hj : j < ps.length) => show ∃ b : ByteArray, w1.cell? ⟨w.heap.size, j, none⟩ = some (.string b) ∧ b.data.toList = ps[j] by
    obtain ⟨b, h1, h3⟩ := HD.out j hj
    exact ⟨b, by rw [hW0]; exact ReadList.cell_row h1, h3⟩)
  clear hW0
  go_wp2_with fail
  go_loopw [3, 9] (fun v i wr => ∃ k : Nat, i = .int .i64 k ∧ k ≤ ps.length ∧ wr.ownsRow w1.heap.size 9 1 v (wordsTo ps k).length (strCells (wordsTo ps k)) ∧ Below w1.heap.size w1 wr) (fun _ i _ => ps.length - (intOf i).toNat)
  case atStart => exact ⟨0, rfl, Nat.zero_le _, ⟨rfl, .inl ⟨rfl, rfl⟩⟩, Below.refl _ _⟩
  case round =>
    obtain ⟨k, rfl, hk, hown, hb⟩ := hrel
    have HO := Lib.hid hown
    have HW := Lib.hid hb
    have hsz := hb.size
    clear hown hb
    by_cases hlt : k < ps.length
    · obtain ⟨b, hc0, hbd⟩ := HP.out k hlt
      have c1 : wr.cell? ⟨w.heap.size, k, none⟩ = some (.string b) := (HW.out.cell (by show w.heap.size < w1.heap.size; have := HSZ.out; omega)).trans hc0
      have hbb : b = ⟨ps[k].toArray⟩ := by rw [← hbd]
      clear hc0
      by_cases he : ps[k] = []
      · obtain rfl := str_empty (hbd.trans he)
        have HT := Lib.hid (wordsTo_skip hlt he)
        clear hbb hbd he
        go_wp2_with fail
        go_roundw
        case rel =>
          refine ⟨k + 1, by go_num, by omega, ?_, HW.out⟩
          rw [HT.out]; exact HO.out
        case measure => simp [intOf]; omega
      · have q1 : (b.toList == []) = false := str_some (by rw [hbd]; exact he)
        have q2 : (b.toList != []) = true := by rw [bne, q1]; rfl
        have q3 : b.toList.isEmpty = false := by cases hh : b.toList with | nil => rw [hh] at q1; cases q1 | cons => rfl
        have HT := Lib.hid (wordsTo_add hlt he)
        have HE := Lib.hid (show strCells (wordsTo ps k ++ [ps[k]]) = strCells (wordsTo ps k) ++ [.string b] by unfold strCells; rw [List.map_append, hbb]; rfl)
        have hlen : (wordsTo ps k).length ≤ 1048577 := Nat.le_trans wordsTo_len (by omega)
        clear hbb hbd he
        go_wp2_with (at_builtin; refine wpList_append_own _ rfl (.tmp 15) (.tmp 17) 82 rfl w1.heap.size 9 i0 (.string ⟨#[]⟩) 1 16 Tryd.underlying82 hi hz0 hz1 hz2 rfl (by decide) _ (wordsTo ps k).length _ rfl (HO.out.alloc _) ⟨wr.heap.size, 0, none⟩ 1 1 [.string b] rfl rfl ?c1 ?c2 ?c3 ?c4 ?c5 ?_)
        case c1 => exact Split.cells_one
        case c2 => exact Split.one_cell
        case c3 => unfold maxLen; omega
        case c4 => omega
        case c5 => simp; omega
        intro v' w3 hown' hgrow _
        have hd : strCells (wordsTo ps k) ++ [Value.string b] = strCells (wordsTo ps (k + 1)) := by rw [HT.out, HE.out]
        have hl : (wordsTo ps k).length + 1 = (wordsTo ps (k + 1)).length := by rw [HT.out, List.length_append]; rfl
        rw [hd, hl] at hown'
        have HO2 := Lib.hid hown'
        have HB2 := Lib.hid ((HW.out.alloc hsz _).grown hgrow (by simp; omega) (fun k hk => (HO.out.lt k hk).1))
        clear hown' hgrow hd hl
        go_wp2
        go_roundw
        case rel => first | exact ⟨k + 1, by go_num, by omega, HO2.out, HB2.out⟩ | ((repeat apply Exists.intro); exact ⟨⟨k + 1, by go_num, by omega, HO2.out, HB2.out⟩, rfl⟩)
        case measure => simp [intOf]; omega
    · obtain rfl : k = ps.length := by omega
      have hO2 := own_row HO.out
      have HF := Lib.hid (row_fit HO.out)
      have HO2 := Lib.hid hO2
      clear hO2
      go_wp2
      go_ret
      refine ⟨_, rfl, ?_, hO0.trans HW.out, HF.out⟩
      rw [HWD.out]
      obtain ⟨a, cap, hv, hc⟩ := HO2.out
      exact ⟨a, cap, hv, fun h0 => by
        obtain ⟨b, off, ha, hB, hr⟩ := hc h0
        exact ⟨b, off, ha, by have := HSZ.out; omega, hr⟩⟩
end Go.Proofs.YtbmhhhhodlfcbaaDoor.Words

namespace Go.Proofs.YtbmhhhhodlfcbaaDoor.RdB
open Go.RowKit
open Plain
open RdS (str_data three_of row_texts str_ne str_eq size_le)
open Bnd (okB bandT)
open ReadPt (row_strs)
open ReadList (vals vals_length vals_all vals_succ intCells own_row)
open Words (texts texts_length)
open Msk (word_len)
open Ints (Ints Own)

def bA (l : List UInt8) : ByteArray := match rb l with | some (x, _) => ⟨x.toArray⟩ | none => ⟨#[]⟩
def bV0 (l : List UInt8) : Int := match rb l with | some (_, x, _) => x | none => 0
def bV1 (l : List UInt8) : Int := match rb l with | some (_, _, x, _) => x | none => 0
def bV2 (l : List UInt8) : Int := match rb l with | some (_, _, _, x, _) => x | none => 0
def bV3 (l : List UInt8) : Int := match rb l with | some (_, _, _, _, x) => x | none => 0
def bO (l : List UInt8) : Bool := (rb l).isSome
theorem b_no {l : List UInt8} (h : rb l = none) : bA l = ⟨#[]⟩ ∧ bV0 l = 0 ∧ bV1 l = 0 ∧ bV2 l = 0 ∧ bV3 l = 0 ∧ bO l = false := by unfold bA bV0 bV1 bV2 bV3 bO; rw [h]; exact ⟨rfl, rfl, rfl, rfl, rfl, rfl⟩
theorem b_yes {l x : List UInt8} {v0 v1 v2 v3 : Int} (h : rb l = some (x, v0, v1, v2, v3)) : bA l = ⟨x.toArray⟩ ∧ bV0 l = v0 ∧ bV1 l = v1 ∧ bV2 l = v2 ∧ bV3 l = v3 ∧ bO l = true := by unfold bA bV0 bV1 bV2 bV3 bO; rw [h]; exact ⟨rfl, rfl, rfl, rfl, rfl, rfl⟩
/-- The block g holds an empty band that may be written. -/
def Res (w : World) (g : Nat) : Prop := Bnd.In w g ⟨#[]⟩ 0 0 0 0 ∧ ∀ i, w.frozen? ⟨g, i, none⟩ = false
theorem Res.on {w w' : World} {g : Nat} (h : Res w g) (ho : On w w') : Res w' g := ⟨h.1.on ho, fun i => (ho.frozen (by exact h.1.lt)).trans (h.2 i)⟩
theorem held5 {W w' : World} {g o G z : Nat} {x p q r t : List UInt8}
    (h0 : W.cell? ⟨g, o, none⟩ = some (.string ⟨x.toArray⟩)) (k0 : W.cell? ⟨G, z + 0, none⟩ = some (.int .i64 (numV p))) (k1 : W.cell? ⟨G, z + 1, none⟩ = some (.int .i64 (numV q))) (k2 : W.cell? ⟨G, z + 2, none⟩ = some (.int .i64 (numV r))) (k3 : W.cell? ⟨G, z + 3, none⟩ = some (.int .i64 (numV t))) (h : On W w') :
    On W w' ∧ w'.cell? ⟨g, o, none⟩ = some (.string ⟨x.toArray⟩) ∧ w'.cell? ⟨G, z + 0, none⟩ = some (.int .i64 (numV p)) ∧ w'.cell? ⟨G, z + 1, none⟩ = some (.int .i64 (numV q)) ∧ w'.cell? ⟨G, z + 2, none⟩ = some (.int .i64 (numV r)) ∧ w'.cell? ⟨G, z + 3, none⟩ = some (.int .i64 (numV t)) :=
  ⟨h, (h.cell (World.block_lt_of_cell? W _ h0)).trans h0, (h.cell (World.block_lt_of_cell? W _ k0)).trans k0, (h.cell (World.block_lt_of_cell? W _ k1)).trans k1, (h.cell (World.block_lt_of_cell? W _ k2)).trans k2, (h.cell (World.block_lt_of_cell? W _ k3)).trans k3⟩
set_option maxRecDepth 1000000 in
set_option maxHeartbeats 8000000 in
theorem spec_ReadBand (s : ByteArray) (w : World) (hs : s.size ≤ 1048576) :
    Calls Tryd.prog 16 #[.string s] w fun e w' => e = .returned (.tuple #[.agg #[.string (bA s.data.toList), .int .i64 (bV0 s.data.toList), .int .i64 (bV1 s.data.toList), .int .i64 (bV2 s.data.toList), .int .i64 (bV3 s.data.toList)], .bool (bO s.data.toList)]) ∧ On w w' := by
  obtain ⟨i0, hi0, hz0, hz1, hz2⟩ := info_parts Ints.info
  have HSP := Lib.hid (fun w => Split.spec_split s 32 32 rfl w hs)
  have hplen : ∀ p ∈ pieces 32 s.data.toList, p.length ≤ 1048576 := fun p hp => Nat.le_trans (ReadPt.len_le_of_piece hp (Nat.le_refl _)) (by rw [Num.len_data]; exact hs)
  obtain ⟨ps, hps⟩ : ∃ ps, pieces 32 s.data.toList = ps := ⟨_, rfl⟩
  by_cases h5 : ps.length = 5
  · obtain ⟨x, p, q, r, t, rfl⟩ := five_of h5
    clear h5
    have qx : (⟨x.toArray⟩ : ByteArray).size ≤ 1048576 := size_le (hplen x (by rw [hps]; simp))
    have hbad := fun (k : Nat) (hk : k < [p, q, r, t].length) (hb : numB ([p, q, r, t][k]) = false) => b_no (rb_bad hps (by rw [rn_bad (ps := [p, q, r, t]) hk hb]; rfl))
    have hnn := fun (y : List UInt8) (hy : y ∈ [p, q, r, t]) w => show Calls Tryd.prog 51 #[.string ⟨y.toArray⟩] w (fun e w' => e = .returned (.tuple #[.int .i64 (numV y), .bool (numB y)]) ∧ w = w') from by
      have hl : y.length ≤ 1048576 := hplen y (by rw [hps]; exact List.mem_cons_of_mem _ hy)
      have := Num.spec_l01Number ⟨y.toArray⟩ w (size_le hl)
      rw [str_data] at this
      exact this
    have hok := fun g w' hi => Bnd.spec_ok g ⟨x.toArray⟩ (numV p) (numV q) (numV r) (numV t) w' qx hi
    obtain ⟨qs, hqs⟩ : ∃ qs, qs = [p, q, r, t] := ⟨_, rfl⟩
    have HQ := Lib.hid (show qs.length = 4 by rw [hqs]; rfl)
    have hen : qs.all numB = true → [p, q, r, t].all numB = true := fun h => by rw [← hqs]; exact h
    have HBAD := Lib.hid (fun (k : Nat) (hk : k < qs.length) (hb : numB (qs[k]'hk) = false) => show bA s.data.toList = ⟨#[]⟩ ∧ bV0 s.data.toList = 0 ∧ bV1 s.data.toList = 0 ∧ bV2 s.data.toList = 0 ∧ bV3 s.data.toList = 0 ∧ bO s.data.toList = false by subst hqs; exact hbad k hk hb)
    have HN := Lib.hid (fun (y : List UInt8) (hy : y ∈ qs) w => hnn y (by rw [← hqs]; exact hy) w)
    have HQS := Lib.hid hqs
    clear hbad hnn hplen qx
    cases g2 : okB ⟨x.toArray⟩ (numV p) (numV q) (numV r) (numV t) with
    | false =>
      have EN := Lib.hid (fun (h : qs.all numB = true) => b_no (rb_bad hps (by rw [hen h, g2]; rfl)))
      rw [g2] at hok
      have HOK := Lib.hid hok
      clear hok hen g2 hqs
      go_enter Tryd.func16, Tryd.ntmps16
      go_wp2_with fail
      refine (HSP.out _).mono ?_
      rintro e w1 ⟨v, rfl, hown, h1⟩
      rw [hps] at hown
      obtain ⟨g, cap, rfl, -, hg, hc⟩ := row_strs hown (by simp)
      have c0 : w1.cell? ⟨g, 0, none⟩ = some (.string ⟨x.toArray⟩) := hc 0 (by simp)
      have HC := Lib.hid (fun k (hk : k < qs.length) => show w1.cell? ⟨g, k + 1, none⟩ = some (.string ⟨(qs[k]'hk).toArray⟩) by
        have := hc (k + 1) (by rw [HQS.out] at hk; simp at hk ⊢; omega)
        rw [this]
        have e := HQS.out
        subst e
        rfl)
      have HR1 := Lib.hid (show Res w1 w.heap.size from Res.on ⟨⟨by simp [go_sem], by simp [go_sem], by simp [go_sem], by simp [go_sem], by simp [go_sem]⟩, fun i => by simp [go_sem]⟩ h1)
      have z1 : w.heap.size < w1.heap.size := HR1.out.1.lt
      obtain ⟨r0, r1, r2, r3, r4⟩ := HR1.out.1
      have f0 := HR1.out.2 0
      have f1 := HR1.out.2 1
      have f2 := HR1.out.2 2
      have f3 := HR1.out.2 3
      have f4 := HR1.out.2 4
      have hlen : [x, p, q, r, t].length = 5 := rfl
      rw [hlen]
      have HO1 := Lib.hid (show On w w1 by repeat (first | with_reducible exact On.refl _ | with_reducible apply On.alloc | with_reducible apply On.drewN | with_reducible apply On.drew | with_reducible refine On.setCell ?_ (by (try simp) <;> omega) _ | refine On.trans ?_ h1))
      have HC0 := Lib.hid c0
      clear hc hown hlen h1 c0 r0 r1 r2 r3 r4 f0 f1 f2 f3 f4
      go_wp2_with fail
      go_loopw [5, 6] (fun v i wr => ∃ k : Nat, i = .int .i64 ((k : Int) + 1) ∧ k ≤ 4 ∧ wr.ownsRow w1.heap.size 2 1 v (vals qs k).length (intCells (vals qs k)) ∧ Below w1.heap.size w1 wr ∧ ∀ j (hj : j < qs.length), j < k → numB qs[j] = true) (fun _ i _ => 5 - (intOf i).toNat)
      case atStart => exact ⟨0, rfl, Nat.zero_le _, World.ownsRow_lit w1 #[] 0 (Nat.le_refl _) (by unfold maxLen; omega) rfl, (Below.refl _ _).alloc (Nat.le_refl _) _, fun j _ h => by omega⟩
      case round =>
        obtain ⟨k, rfl, hk, hown, hb, hall⟩ := hrel
        have HO := Lib.hid hown
        have HW := Lib.hid hb
        have HA := Lib.hid hall
        have hsz := hb.size
        have HRr := Lib.hid (HR1.out.on hb)
        have zr : w.heap.size < wr.heap.size := HRr.out.1.lt
        obtain ⟨r0, r1, r2, r3, r4⟩ := HRr.out.1
        have f0 := HRr.out.2 0
        have f1 := HRr.out.2 1
        have f2 := HRr.out.2 2
        have f3 := HRr.out.2 3
        have f4 := HRr.out.2 4
        clear hown hb hall
        by_cases hlt : k < 4
        · have hki : (k : Int) + 1 < 5 := by omega
          have hlq : k < qs.length := by rw [HQ.out]; exact hlt
          obtain ⟨pk, hpk⟩ : ∃ pk, pk = qs[k] := ⟨_, rfl⟩
          have c1 : wr.cell? ⟨g, k + 1, none⟩ = some (.string ⟨pk.toArray⟩) := by rw [hpk]; exact (HW.out.cell (by exact hg)).trans (HC.out k hlq)
          have hNp := HN.out pk (by rw [hpk]; exact List.getElem_mem hlq)
          cases kb : numB pk with
          | false =>
            rw [kb] at hNp
            have HP := Lib.hid hNp
            have EB := Lib.hid (HBAD.out k hlq (by rw [← hpk]; exact kb))
            clear hNp hpk
            go_wp2_with fail
            refine (HP.out _).mono ?_
            rintro e w2 ⟨rfl, rfl⟩
            go_wp2_with fail
            refine bodyPost_ret (v := .tuple #[.agg #[.string ⟨#[]⟩, .int .i64 0, .int .i64 0, .int .i64 0, .int .i64 0], .bool false]) (by simp [results, Tryd.results16, go_sem, r0, r1, r2, r3, r4]) rfl ⟨by obtain ⟨x0, x1, x2, x3, x4, x5⟩ := EB.out; rw [x0, x1, x2, x3, x4, x5], ?_⟩
            repeat (first | with_reducible exact On.refl _ | with_reducible apply On.alloc | with_reducible apply On.drewN | with_reducible apply On.drew | with_reducible refine On.setCell ?_ (by (try simp) <;> omega) _ | refine On.trans ?_ (HO1.out.trans HW.out))
          | true =>
            rw [kb] at hNp
            have HP := Lib.hid hNp
            have HA2 := Lib.hid (fun j (hj : j < qs.length) (h : j < k + 1) => show numB qs[j] = true by
              by_cases g : j = k
              · subst g; rw [← hpk]; exact kb
              · exact HA.out j hj (by omega))
            have HT := Lib.hid (show vals qs (k + 1) = vals qs k ++ [numV pk] by rw [vals_succ hlq, ← hpk])
            have hlen : (vals qs k).length ≤ 64 := by rw [vals_length (by rw [HQ.out]; omega)]; omega
            clear hNp hpk
            obtain ⟨y, hy⟩ : ∃ y, y = numV pk := ⟨_, rfl⟩
            rw [← hy] at HP HT
            clear hy
            go_wp2_with fail
            refine (HP.out _).mono ?_
            rintro e w2 ⟨rfl, rfl⟩
            go_wp2_with (at_builtin; refine wpList_append_own _ rfl (.tmp 32) (.tmp 34) 84 rfl w1.heap.size 2 i0 (.int .i64 0) 1 8 Tryd.underlying84 hi0 hz0 hz1 hz2 rfl (by decide) _ (vals qs k).length _ rfl (HO.out.alloc _) ⟨wr.heap.size, 0, none⟩ 1 1 [.int .i64 y] rfl rfl ?c1 ?c2 ?c3 ?c4 ?c5 ?_)
            case c1 => exact Dec.cells_one
            case c2 => exact Dec.one_cell
            case c3 => unfold maxLen; omega
            case c4 => omega
            case c5 => simp; omega
            intro v' w3 hown' hgrow _
            have hd : intCells (vals qs k) ++ [Value.int .i64 y] = intCells (vals qs (k + 1)) := by rw [HT.out]; unfold intCells; rw [List.map_append]; rfl
            have hl : (vals qs k).length + 1 = (vals qs (k + 1)).length := by rw [HT.out, List.length_append]; rfl
            rw [hd, hl] at hown'
            have HO2 := Lib.hid hown'
            have HB2 := Lib.hid ((HW.out.alloc hsz _).grown hgrow (by simp; omega) (fun k hk => (HO.out.lt k hk).1))
            clear hown' hgrow hd hl
            go_wp2
            go_roundw
            case rel => first | exact ⟨k + 1, by go_num, by omega, HO2.out, HB2.out, HA2.out⟩ | ((repeat apply Exists.intro); exact ⟨⟨k + 1, by go_num, by omega, HO2.out, HB2.out, HA2.out⟩, rfl⟩)
            case measure => simp [intOf]; omega
        · obtain rfl : k = 4 := by omega
          have HG := Lib.hid (rn_good (ps := qs) (fun j hj => HA.out j hj (by rw [HQ.out] at hj; exact hj)))
          have HO2 := Lib.hid (own_row HO.out)
          have hin0 := HO2.out
          rw [show vals qs 4 = [numV p, numV q, numV r, numV t] by rw [show (4 : Nat) = qs.length from HQ.out.symm, vals_all, HQS.out]; rfl] at hin0
          obtain ⟨xa, xc, hv, hcell⟩ := hin0
          have hq4 : (vals qs 4).length = 4 := by rw [vals_length (by rw [HQ.out]; omega)]
          subst hv
          obtain ⟨bk, z, rfl, hbk, hcell⟩ := hcell (by simp)
          have k0 : wr.cell? ⟨bk, z, none⟩ = some (.int .i64 (numV p)) := hcell 0 (by simp)
          have k1 : wr.cell? ⟨bk, z + 1, none⟩ = some (.int .i64 (numV q)) := hcell 1 (by simp)
          have k2 : wr.cell? ⟨bk, z + 2, none⟩ = some (.int .i64 (numV r)) := hcell 2 (by simp)
          have k3 : wr.cell? ⟨bk, z + 3, none⟩ = some (.int .i64 (numV t)) := hcell 3 (by simp)
          have e0 : wr.cell? ⟨g, 0, none⟩ = some (.string ⟨x.toArray⟩) := (HW.out.cell (by exact hg)).trans HC0.out
          have hgr : g < wr.heap.size := World.block_lt_of_cell? _ _ e0
          have HD := Lib.hid (fun w' (ho : On wr w') => held5 (z := z) e0 k0 k1 k2 k3 ho)
          have HRW := HRr
          have HOW := HO1.out.trans HW.out
          have hl4 : [numV p, numV q, numV r, numV t].length = 4 := rfl
          rw [hl4]
          clear hcell r0 r1 r2 r3 r4 f0 f1 f2 f3 f4 hl4 hq4 HO HO2 HA
          go_upto_region 12 with fail
          clear e0 k0 k1 k2 k3
          go_cut [9] (fun sa wx => ∃ G : Nat, sa = .pointer (some ⟨G, 0, none⟩) ∧ wr.heap.size ≤ G ∧ Bnd.In wx G ⟨x.toArray⟩ (numV p) (numV q) (numV r) (numV t) ∧ On wr wx)
          case first =>
            go_region_held3 (fun w' => On wr w' ∧ w'.cell? ⟨g, 0, none⟩ = some (.string ⟨x.toArray⟩) ∧ w'.cell? ⟨bk, z, none⟩ = some (.int .i64 (numV p)) ∧ w'.cell? ⟨bk, z + 1, none⟩ = some (.int .i64 (numV q)) ∧ w'.cell? ⟨bk, z + 2, none⟩ = some (.int .i64 (numV r)) ∧ w'.cell? ⟨bk, z + 3, none⟩ = some (.int .i64 (numV t)))
              ((refine HD.out _ ?_; repeat (first | with_reducible exact On.refl _ | with_reducible assumption | with_reducible apply On.alloc | with_reducible apply On.drew | (obtain ⟨hOW, _⟩ := ‹On wr _ ∧ _›; exact hOW) | (refine On.trans ?_ (by assumption)))))
              (first | fail | fail)
            all_goals
              go_wp2_with fail
              go_meet
              refine ⟨_, rfl, by (try simp), ⟨by simp [go_sem], by simp [go_sem], by simp [go_sem], by simp [go_sem], by simp [go_sem]⟩, ?_⟩
              repeat (first | with_reducible exact On.refl _ | with_reducible assumption | with_reducible apply On.alloc | with_reducible apply On.drew | (obtain ⟨hOW, _⟩ := ‹On wr _ ∧ _›; exact hOW) | (refine On.trans ?_ (by assumption)))
          case rest =>
            obtain ⟨G, rfl, hG, hin, hO⟩ := hcut
            have h3 : On w wc := HOW.trans hO
            have HR3 := Lib.hid (HRW.out.on hO)
            have z3 : w.heap.size < wc.heap.size := HR3.out.1.lt
            obtain ⟨r0, r1, r2, r3, r4⟩ := HR3.out.1
            have f0 := HR3.out.2 0
            have f1 := HR3.out.2 1
            have f2 := HR3.out.2 2
            have f3 := HR3.out.2 3
            have f4 := HR3.out.2 4
            have hne : w.heap.size ≠ G := Nat.ne_of_lt (Nat.lt_of_lt_of_le HRW.out.1.lt hG)
            have HIN := Lib.hid hin
            have hlt := hin.lt
            go_wp2_with fail
            refine (HOK.out G _ hin).mono ?_
            rintro e w4 ⟨rfl, h4⟩
            have z4 : w.heap.size < w4.heap.size := h4.lts _ z3
            clear r0 r1 r2 r3 r4 f0 f1 f2 f3 f4 hlt hin
            have HR4 := Lib.hid (HR3.out.on h4)
            obtain ⟨r0, r1, r2, r3, r4⟩ := HR4.out.1
            have f0 := HR4.out.2 0
            have f1 := HR4.out.2 1
            have f2 := HR4.out.2 2
            have f3 := HR4.out.2 3
            have f4 := HR4.out.2 4
            obtain ⟨y0, y1, y2, y3, y4⟩ := HIN.out.on h4
            have hlt := World.block_lt_of_cell? _ _ y0
            go_wp2_with fail
            refine bodyPost_ret (v := .tuple #[.agg #[.string ⟨#[]⟩, .int .i64 0, .int .i64 0, .int .i64 0, .int .i64 0], .bool false]) (by simp [results, Tryd.results16, go_sem, r0, r1, r2, r3, r4]) rfl ⟨by obtain ⟨x0, x1, x2, x3, x4, x5⟩ := EN.out HG.out; rw [x0, x1, x2, x3, x4, x5], ?_⟩
            repeat (first | with_reducible exact On.refl _ | with_reducible apply On.alloc | with_reducible apply On.drewN | with_reducible apply On.drew | with_reducible refine On.setCell ?_ (by (try simp) <;> omega) _ | refine On.trans ?_ h4 | refine On.trans ?_ h3)
    | true =>
      have EN := Lib.hid (fun (h : qs.all numB = true) => b_yes (rb_good hps (by rw [hen h, g2]; rfl)))
      rw [g2] at hok
      have HOK := Lib.hid hok
      clear hok hen g2 hqs
      go_enter Tryd.func16, Tryd.ntmps16
      go_wp2_with fail
      refine (HSP.out _).mono ?_
      rintro e w1 ⟨v, rfl, hown, h1⟩
      rw [hps] at hown
      obtain ⟨g, cap, rfl, -, hg, hc⟩ := row_strs hown (by simp)
      have c0 : w1.cell? ⟨g, 0, none⟩ = some (.string ⟨x.toArray⟩) := hc 0 (by simp)
      have HC := Lib.hid (fun k (hk : k < qs.length) => show w1.cell? ⟨g, k + 1, none⟩ = some (.string ⟨(qs[k]'hk).toArray⟩) by
        have := hc (k + 1) (by rw [HQS.out] at hk; simp at hk ⊢; omega)
        rw [this]
        have e := HQS.out
        subst e
        rfl)
      have HR1 := Lib.hid (show Res w1 w.heap.size from Res.on ⟨⟨by simp [go_sem], by simp [go_sem], by simp [go_sem], by simp [go_sem], by simp [go_sem]⟩, fun i => by simp [go_sem]⟩ h1)
      have z1 : w.heap.size < w1.heap.size := HR1.out.1.lt
      obtain ⟨r0, r1, r2, r3, r4⟩ := HR1.out.1
      have f0 := HR1.out.2 0
      have f1 := HR1.out.2 1
      have f2 := HR1.out.2 2
      have f3 := HR1.out.2 3
      have f4 := HR1.out.2 4
      have hlen : [x, p, q, r, t].length = 5 := rfl
      rw [hlen]
      have HO1 := Lib.hid (show On w w1 by repeat (first | with_reducible exact On.refl _ | with_reducible apply On.alloc | with_reducible apply On.drewN | with_reducible apply On.drew | with_reducible refine On.setCell ?_ (by (try simp) <;> omega) _ | refine On.trans ?_ h1))
      have HC0 := Lib.hid c0
      clear hc hown hlen h1 c0 r0 r1 r2 r3 r4 f0 f1 f2 f3 f4
      go_wp2_with fail
      go_loopw [5, 6] (fun v i wr => ∃ k : Nat, i = .int .i64 ((k : Int) + 1) ∧ k ≤ 4 ∧ wr.ownsRow w1.heap.size 2 1 v (vals qs k).length (intCells (vals qs k)) ∧ Below w1.heap.size w1 wr ∧ ∀ j (hj : j < qs.length), j < k → numB qs[j] = true) (fun _ i _ => 5 - (intOf i).toNat)
      case atStart => exact ⟨0, rfl, Nat.zero_le _, World.ownsRow_lit w1 #[] 0 (Nat.le_refl _) (by unfold maxLen; omega) rfl, (Below.refl _ _).alloc (Nat.le_refl _) _, fun j _ h => by omega⟩
      case round =>
        obtain ⟨k, rfl, hk, hown, hb, hall⟩ := hrel
        have HO := Lib.hid hown
        have HW := Lib.hid hb
        have HA := Lib.hid hall
        have hsz := hb.size
        have HRr := Lib.hid (HR1.out.on hb)
        have zr : w.heap.size < wr.heap.size := HRr.out.1.lt
        obtain ⟨r0, r1, r2, r3, r4⟩ := HRr.out.1
        have f0 := HRr.out.2 0
        have f1 := HRr.out.2 1
        have f2 := HRr.out.2 2
        have f3 := HRr.out.2 3
        have f4 := HRr.out.2 4
        clear hown hb hall
        by_cases hlt : k < 4
        · have hki : (k : Int) + 1 < 5 := by omega
          have hlq : k < qs.length := by rw [HQ.out]; exact hlt
          obtain ⟨pk, hpk⟩ : ∃ pk, pk = qs[k] := ⟨_, rfl⟩
          have c1 : wr.cell? ⟨g, k + 1, none⟩ = some (.string ⟨pk.toArray⟩) := by rw [hpk]; exact (HW.out.cell (by exact hg)).trans (HC.out k hlq)
          have hNp := HN.out pk (by rw [hpk]; exact List.getElem_mem hlq)
          cases kb : numB pk with
          | false =>
            rw [kb] at hNp
            have HP := Lib.hid hNp
            have EB := Lib.hid (HBAD.out k hlq (by rw [← hpk]; exact kb))
            clear hNp hpk
            go_wp2_with fail
            refine (HP.out _).mono ?_
            rintro e w2 ⟨rfl, rfl⟩
            go_wp2_with fail
            refine bodyPost_ret (v := .tuple #[.agg #[.string ⟨#[]⟩, .int .i64 0, .int .i64 0, .int .i64 0, .int .i64 0], .bool false]) (by simp [results, Tryd.results16, go_sem, r0, r1, r2, r3, r4]) rfl ⟨by obtain ⟨x0, x1, x2, x3, x4, x5⟩ := EB.out; rw [x0, x1, x2, x3, x4, x5], ?_⟩
            repeat (first | with_reducible exact On.refl _ | with_reducible apply On.alloc | with_reducible apply On.drewN | with_reducible apply On.drew | with_reducible refine On.setCell ?_ (by (try simp) <;> omega) _ | refine On.trans ?_ (HO1.out.trans HW.out))
          | true =>
            rw [kb] at hNp
            have HP := Lib.hid hNp
            have HA2 := Lib.hid (fun j (hj : j < qs.length) (h : j < k + 1) => show numB qs[j] = true by
              by_cases g : j = k
              · subst g; rw [← hpk]; exact kb
              · exact HA.out j hj (by omega))
            have HT := Lib.hid (show vals qs (k + 1) = vals qs k ++ [numV pk] by rw [vals_succ hlq, ← hpk])
            have hlen : (vals qs k).length ≤ 64 := by rw [vals_length (by rw [HQ.out]; omega)]; omega
            clear hNp hpk
            obtain ⟨y, hy⟩ : ∃ y, y = numV pk := ⟨_, rfl⟩
            rw [← hy] at HP HT
            clear hy
            go_wp2_with fail
            refine (HP.out _).mono ?_
            rintro e w2 ⟨rfl, rfl⟩
            go_wp2_with (at_builtin; refine wpList_append_own _ rfl (.tmp 32) (.tmp 34) 84 rfl w1.heap.size 2 i0 (.int .i64 0) 1 8 Tryd.underlying84 hi0 hz0 hz1 hz2 rfl (by decide) _ (vals qs k).length _ rfl (HO.out.alloc _) ⟨wr.heap.size, 0, none⟩ 1 1 [.int .i64 y] rfl rfl ?c1 ?c2 ?c3 ?c4 ?c5 ?_)
            case c1 => exact Dec.cells_one
            case c2 => exact Dec.one_cell
            case c3 => unfold maxLen; omega
            case c4 => omega
            case c5 => simp; omega
            intro v' w3 hown' hgrow _
            have hd : intCells (vals qs k) ++ [Value.int .i64 y] = intCells (vals qs (k + 1)) := by rw [HT.out]; unfold intCells; rw [List.map_append]; rfl
            have hl : (vals qs k).length + 1 = (vals qs (k + 1)).length := by rw [HT.out, List.length_append]; rfl
            rw [hd, hl] at hown'
            have HO2 := Lib.hid hown'
            have HB2 := Lib.hid ((HW.out.alloc hsz _).grown hgrow (by simp; omega) (fun k hk => (HO.out.lt k hk).1))
            clear hown' hgrow hd hl
            go_wp2
            go_roundw
            case rel => first | exact ⟨k + 1, by go_num, by omega, HO2.out, HB2.out, HA2.out⟩ | ((repeat apply Exists.intro); exact ⟨⟨k + 1, by go_num, by omega, HO2.out, HB2.out, HA2.out⟩, rfl⟩)
            case measure => simp [intOf]; omega
        · obtain rfl : k = 4 := by omega
          have HG := Lib.hid (rn_good (ps := qs) (fun j hj => HA.out j hj (by rw [HQ.out] at hj; exact hj)))
          have HO2 := Lib.hid (own_row HO.out)
          have hin0 := HO2.out
          rw [show vals qs 4 = [numV p, numV q, numV r, numV t] by rw [show (4 : Nat) = qs.length from HQ.out.symm, vals_all, HQS.out]; rfl] at hin0
          obtain ⟨xa, xc, hv, hcell⟩ := hin0
          have hq4 : (vals qs 4).length = 4 := by rw [vals_length (by rw [HQ.out]; omega)]
          subst hv
          obtain ⟨bk, z, rfl, hbk, hcell⟩ := hcell (by simp)
          have k0 : wr.cell? ⟨bk, z, none⟩ = some (.int .i64 (numV p)) := hcell 0 (by simp)
          have k1 : wr.cell? ⟨bk, z + 1, none⟩ = some (.int .i64 (numV q)) := hcell 1 (by simp)
          have k2 : wr.cell? ⟨bk, z + 2, none⟩ = some (.int .i64 (numV r)) := hcell 2 (by simp)
          have k3 : wr.cell? ⟨bk, z + 3, none⟩ = some (.int .i64 (numV t)) := hcell 3 (by simp)
          have e0 : wr.cell? ⟨g, 0, none⟩ = some (.string ⟨x.toArray⟩) := (HW.out.cell (by exact hg)).trans HC0.out
          have hgr : g < wr.heap.size := World.block_lt_of_cell? _ _ e0
          have HD := Lib.hid (fun w' (ho : On wr w') => held5 (z := z) e0 k0 k1 k2 k3 ho)
          have HRW := HRr
          have HOW := HO1.out.trans HW.out
          have hl4 : [numV p, numV q, numV r, numV t].length = 4 := rfl
          rw [hl4]
          clear hcell r0 r1 r2 r3 r4 f0 f1 f2 f3 f4 hl4 hq4 HO HO2 HA
          go_upto_region 12 with fail
          clear e0 k0 k1 k2 k3
          go_cut [9] (fun sa wx => ∃ G : Nat, sa = .pointer (some ⟨G, 0, none⟩) ∧ wr.heap.size ≤ G ∧ Bnd.In wx G ⟨x.toArray⟩ (numV p) (numV q) (numV r) (numV t) ∧ On wr wx)
          case first =>
            go_region_held3 (fun w' => On wr w' ∧ w'.cell? ⟨g, 0, none⟩ = some (.string ⟨x.toArray⟩) ∧ w'.cell? ⟨bk, z, none⟩ = some (.int .i64 (numV p)) ∧ w'.cell? ⟨bk, z + 1, none⟩ = some (.int .i64 (numV q)) ∧ w'.cell? ⟨bk, z + 2, none⟩ = some (.int .i64 (numV r)) ∧ w'.cell? ⟨bk, z + 3, none⟩ = some (.int .i64 (numV t)))
              ((refine HD.out _ ?_; repeat (first | with_reducible exact On.refl _ | with_reducible assumption | with_reducible apply On.alloc | with_reducible apply On.drew | (obtain ⟨hOW, _⟩ := ‹On wr _ ∧ _›; exact hOW) | (refine On.trans ?_ (by assumption)))))
              (first | fail | fail)
            all_goals
              go_wp2_with fail
              go_meet
              refine ⟨_, rfl, by (try simp), ⟨by simp [go_sem], by simp [go_sem], by simp [go_sem], by simp [go_sem], by simp [go_sem]⟩, ?_⟩
              repeat (first | with_reducible exact On.refl _ | with_reducible assumption | with_reducible apply On.alloc | with_reducible apply On.drew | (obtain ⟨hOW, _⟩ := ‹On wr _ ∧ _›; exact hOW) | (refine On.trans ?_ (by assumption)))
          case rest =>
            obtain ⟨G, rfl, hG, hin, hO⟩ := hcut
            have h3 : On w wc := HOW.trans hO
            have HR3 := Lib.hid (HRW.out.on hO)
            have z3 : w.heap.size < wc.heap.size := HR3.out.1.lt
            obtain ⟨r0, r1, r2, r3, r4⟩ := HR3.out.1
            have f0 := HR3.out.2 0
            have f1 := HR3.out.2 1
            have f2 := HR3.out.2 2
            have f3 := HR3.out.2 3
            have f4 := HR3.out.2 4
            have hne : w.heap.size ≠ G := Nat.ne_of_lt (Nat.lt_of_lt_of_le HRW.out.1.lt hG)
            have HIN := Lib.hid hin
            have hlt := hin.lt
            go_wp2_with fail
            refine (HOK.out G _ hin).mono ?_
            rintro e w4 ⟨rfl, h4⟩
            have z4 : w.heap.size < w4.heap.size := h4.lts _ z3
            clear r0 r1 r2 r3 r4 f0 f1 f2 f3 f4 hlt hin
            have HR4 := Lib.hid (HR3.out.on h4)
            obtain ⟨r0, r1, r2, r3, r4⟩ := HR4.out.1
            have f0 := HR4.out.2 0
            have f1 := HR4.out.2 1
            have f2 := HR4.out.2 2
            have f3 := HR4.out.2 3
            have f4 := HR4.out.2 4
            obtain ⟨y0, y1, y2, y3, y4⟩ := HIN.out.on h4
            have hlt := World.block_lt_of_cell? _ _ y0
            go_wp2_with fail
            refine bodyPost_ret (v := .tuple #[.agg #[.string ⟨x.toArray⟩, .int .i64 (numV p), .int .i64 (numV q), .int .i64 (numV r), .int .i64 (numV t)], .bool true]) (by simp [results, Tryd.results16, go_sem, r0, r1, r2, r3, r4]) rfl ⟨by obtain ⟨x0, x1, x2, x3, x4, x5⟩ := EN.out HG.out; rw [x0, x1, x2, x3, x4, x5], ?_⟩
            repeat (first | with_reducible exact On.refl _ | with_reducible apply On.alloc | with_reducible apply On.drewN | with_reducible apply On.drew | with_reducible refine On.setCell ?_ (by (try simp) <;> omega) _ | refine On.trans ?_ h4 | refine On.trans ?_ h3)
  · have en := Lib.hid (b_no (rb_len (l := s.data.toList) (by rw [hps]; exact h5)))
    obtain ⟨x0, x1, x2, x3, x4, x5⟩ := en.out
    rw [x0, x1, x2, x3, x4, x5]
    clear x0 x1 x2 x3 x4 x5 en hplen
    have hn : ((ps.length : Int) == 5) = false := beq_eq_false_iff_ne.2 (by omega)
    have hn2 : ((ps.length : Int) != 5) = true := by rw [bne, hn]; rfl
    go_enter Tryd.func16, Tryd.ntmps16
    go_wp2_with fail
    refine (HSP.out _).mono ?_
    rintro e w1 ⟨v, rfl, hown, h1⟩
    rw [hps] at hown
    have h0 : 0 < ps.length := by rw [← hps]; exact List.length_pos_iff.2 (pieces_ne _ _)
    obtain ⟨g, cap, rfl, -, hg, -⟩ := row_strs hown h0
    have HR1 := Lib.hid (show Res w1 w.heap.size from Res.on ⟨⟨by simp [go_sem], by simp [go_sem], by simp [go_sem], by simp [go_sem], by simp [go_sem]⟩, fun i => by simp [go_sem]⟩ h1)
    have z1 : w.heap.size < w1.heap.size := HR1.out.1.lt
    obtain ⟨r0, r1, r2, r3, r4⟩ := HR1.out.1
    have f0 := HR1.out.2 0
    have f1 := HR1.out.2 1
    have f2 := HR1.out.2 2
    have f3 := HR1.out.2 3
    have f4 := HR1.out.2 4
    clear hown hps HSP h5
    go_wp2_with fail
    refine bodyPost_ret (v := .tuple #[.agg #[.string ⟨#[]⟩, .int .i64 0, .int .i64 0, .int .i64 0, .int .i64 0], .bool false]) (by simp [results, Tryd.results16, go_sem, r0, r1, r2, r3, r4]) rfl ⟨rfl, ?_⟩
    repeat (first | with_reducible exact On.refl _ | with_reducible apply On.alloc | with_reducible apply On.drewN | with_reducible apply On.drew | with_reducible refine On.setCell ?_ (by (try simp) <;> omega) _ | refine On.trans ?_ h1)

set_option maxRecDepth 1000000 in
set_option maxHeartbeats 8000000 in
theorem impl_ReadBand (s : ByteArray) (m : Int) (w : World) (hs : s.size ≤ 1048576) (hg0 : Span.SpanG w) (hm : w.cell? ⟨1, 0, none⟩ = some (.int .i64 m)) (hw : Tabs.Sent w) (ht : Lib.TabBelow Tryd.prog w.heap.size w "internal/strconv.uint64pow10" .u64 Lib.pow10Tab) :
    Calls Tryd.prog 17 #[.string s] w fun e w' => e = .returned (.tuple #[.agg #[.string (bA s.data.toList), .int .i64 (bV0 s.data.toList), .int .i64 (bV1 s.data.toList), .int .i64 (bV2 s.data.toList), .int .i64 (bV3 s.data.toList)], .bool (bO s.data.toList)]) ∧ On w w' := by
  have hml := World.block_lt_of_cell? w _ hm
  have HSP := Lib.hid (fun w' (ho : On w w') => Words.impl_wordsF s m w' hs ((ho.cell (by exact hml)).trans hm))
  have hplen : ∀ p ∈ words s.data.toList, p.length ≤ 1048576 := fun p hp => Nat.le_trans (word_len hp) (by rw [Num.len_data]; exact hs)
  have hRN := fun (ps : List (List UInt8)) (hn : ps.length ≤ 64) (hsz : ∀ p ∈ ps, p.length ≤ 1048576) (g off cap : Nat) w' (ho : On w w') hg hc => impl_numbers g off cap ps w' hg hn hsz hc (hw.below ho) (fun w'' hb => ht w'' (On.trans ho hb))
  have hTX := fun (x : ByteArray) (v0 v1 v2 v3 : Int) (q0 : x.size ≤ 1048576) w' (ho : On w w') => Bnd.impl_BandText x v0 v1 v2 v3 w' q0 (hg0.on ho) (fun w'' hb => ht w'' (On.trans ho hb))
  clear hm hw ht hml hg0
  obtain ⟨ps, hps⟩ : ∃ ps, words s.data.toList = ps := ⟨_, rfl⟩
  by_cases h5 : ps.length = 5
  · obtain ⟨x, p, q, r, t, rfl⟩ := five_of h5
    clear h5
    have qx : (⟨x.toArray⟩ : ByteArray).size ≤ 1048576 := size_le (hplen x (by rw [hps]; simp))
    have hrn := fun (g off cap : Nat) w' (ho : On w w') hg hc => show Calls Tryd.prog 53 #[.slice (some ⟨g, off, none⟩) 4 cap] w' (fun e w'' => ∃ v, e = .returned (.tuple #[v, .bool ([p, q, r, t].all numB)]) ∧ Own w'.heap.size w'' v (rnV [p, q, r, t]) ∧ On w' w'') from hRN [p, q, r, t] (by simp) (fun y hy => hplen y (by rw [hps]; exact List.mem_cons_of_mem _ hy)) g off cap w' ho hg hc
    have hst := fun w' (ho : On w w') => hTX ⟨x.toArray⟩ (numV p) (numV q) (numV r) (numV t) qx w' ho
    clear hplen qx hRN hTX
    cases g3 : [p, q, r, t].all numB with
    | false =>
      have EN := Lib.hid (b_no (rb_words_bad hps (.inl g3)))
      rw [g3] at hrn
      have HRN := Lib.hid hrn
      clear hrn hst
      go_enter Tryd.func17, Tryd.ntmps17
      go_wp2_with fail
      refine (HSP.out _ (by repeat (first | with_reducible exact On.refl _ | with_reducible apply On.alloc | with_reducible apply On.drewN | with_reducible apply On.drew | with_reducible refine On.setCell ?_ (by (try simp) <;> omega) _))).mono ?_
      rintro e w1 ⟨v, rfl, hown, h1, hfit⟩
      rw [hps] at hown
      obtain ⟨g, off, cap, rfl, hg, hc⟩ := row_texts hown (by simp)
      have hcap : 5 ≤ cap := hfit _ _ _ rfl
      have c0 : w1.cell? ⟨g, off, none⟩ = some (.string ⟨x.toArray⟩) := hc 0 (by simp)
      have hcs : ∀ j (hj : j < [p, q, r, t].length), w1.cell? ⟨g, off + 1 + j, none⟩ = some (.string ⟨([p, q, r, t][j]'hj).toArray⟩) := fun j hj => by
        have := hc (j + 1) (by simp at hj ⊢; omega)
        rw [show off + 1 + j = off + (j + 1) by omega, this]
        rfl
      have HR1 := Lib.hid (show Res w1 w.heap.size from Res.on ⟨⟨by simp [go_sem], by simp [go_sem], by simp [go_sem], by simp [go_sem], by simp [go_sem]⟩, fun i => by simp [go_sem]⟩ h1)
      have z1 : w.heap.size < w1.heap.size := HR1.out.1.lt
      obtain ⟨r0, r1, r2, r3, r4⟩ := HR1.out.1
      have f0 := HR1.out.2 0
      have f1 := HR1.out.2 1
      have f2 := HR1.out.2 2
      have f3 := HR1.out.2 3
      have f4 := HR1.out.2 4
      have hlen : [x, p, q, r, t].length = 5 := rfl
      rw [hlen]
      have HO1 := Lib.hid (show On w w1 by repeat (first | with_reducible exact On.refl _ | with_reducible apply On.alloc | with_reducible apply On.drewN | with_reducible apply On.drew | with_reducible refine On.setCell ?_ (by (try simp) <;> omega) _ | refine On.trans ?_ h1))
      have HC0 := Lib.hid c0
      have HP := Lib.hid (fun cp => HRN.out g (off + 1) cp w1 HO1.out hg hcs)
      clear hc hown hlen h1 c0 hcs hfit
      go_wp2_with fail
      refine (HP.out _).mono ?_
      rintro e w2 ⟨v, rfl, hi, h2⟩
      have HR2 := Lib.hid (HR1.out.on h2)
      have z2 : w.heap.size < w2.heap.size := HR2.out.1.lt
      have HO2 := Lib.hid (HO1.out.trans h2)
      clear r0 r1 r2 r3 r4 f0 f1 f2 f3 f4
      obtain ⟨x1, x2, rfl, -⟩ := hi
      clear h2
      obtain ⟨r0, r1, r2, r3, r4⟩ := HR2.out.1
      have f0 := HR2.out.2 0
      have f1 := HR2.out.2 1
      have f2 := HR2.out.2 2
      have f3 := HR2.out.2 3
      have f4 := HR2.out.2 4
      go_wp2_with fail
      refine bodyPost_ret (v := .tuple #[.agg #[.string ⟨#[]⟩, .int .i64 0, .int .i64 0, .int .i64 0, .int .i64 0], .bool false]) (by simp [results, Tryd.results17, go_sem, r0, r1, r2, r3, r4]) rfl ⟨by obtain ⟨x0, x1, x2, x3, x4, x5⟩ := EN.out; rw [x0, x1, x2, x3, x4, x5], ?_⟩
      repeat (first | with_reducible exact On.refl _ | with_reducible apply On.alloc | with_reducible apply On.drewN | with_reducible apply On.drew | with_reducible refine On.setCell ?_ (by (try simp) <;> omega) _ | refine On.trans ?_ HO2.out)
    | true =>
      rw [g3] at hrn
      have HVS := Lib.hid (show rnV [p, q, r, t] = [numV p, numV q, numV r, numV t] by rw [rnV_yes g3]; rfl)
      have HRN := Lib.hid hrn
      clear hrn
      by_cases g : (bandT ⟨x.toArray⟩ (numV p) (numV q) (numV r) (numV t)).data.toList = s.data.toList
      · have g1 := str_eq g
        have EN := Lib.hid (b_yes (rb_words_good hps g3 g))
        generalize bandT ⟨x.toArray⟩ (numV p) (numV q) (numV r) (numV t) = u at *
        have HST := Lib.hid hst
        clear hst g
        go_enter Tryd.func17, Tryd.ntmps17
        go_wp2_with fail
        refine (HSP.out _ (by repeat (first | with_reducible exact On.refl _ | with_reducible apply On.alloc | with_reducible apply On.drewN | with_reducible apply On.drew | with_reducible refine On.setCell ?_ (by (try simp) <;> omega) _))).mono ?_
        rintro e w1 ⟨v, rfl, hown, h1, hfit⟩
        rw [hps] at hown
        obtain ⟨g, off, cap, rfl, hg, hc⟩ := row_texts hown (by simp)
        have hcap : 5 ≤ cap := hfit _ _ _ rfl
        have c0 : w1.cell? ⟨g, off, none⟩ = some (.string ⟨x.toArray⟩) := hc 0 (by simp)
        have hcs : ∀ j (hj : j < [p, q, r, t].length), w1.cell? ⟨g, off + 1 + j, none⟩ = some (.string ⟨([p, q, r, t][j]'hj).toArray⟩) := fun j hj => by
          have := hc (j + 1) (by simp at hj ⊢; omega)
          rw [show off + 1 + j = off + (j + 1) by omega, this]
          rfl
        have HR1 := Lib.hid (show Res w1 w.heap.size from Res.on ⟨⟨by simp [go_sem], by simp [go_sem], by simp [go_sem], by simp [go_sem], by simp [go_sem]⟩, fun i => by simp [go_sem]⟩ h1)
        have z1 : w.heap.size < w1.heap.size := HR1.out.1.lt
        obtain ⟨r0, r1, r2, r3, r4⟩ := HR1.out.1
        have f0 := HR1.out.2 0
        have f1 := HR1.out.2 1
        have f2 := HR1.out.2 2
        have f3 := HR1.out.2 3
        have f4 := HR1.out.2 4
        have hlen : [x, p, q, r, t].length = 5 := rfl
        rw [hlen]
        have HO1 := Lib.hid (show On w w1 by repeat (first | with_reducible exact On.refl _ | with_reducible apply On.alloc | with_reducible apply On.drewN | with_reducible apply On.drew | with_reducible refine On.setCell ?_ (by (try simp) <;> omega) _ | refine On.trans ?_ h1))
        have HC0 := Lib.hid c0
        have HP := Lib.hid (fun cp => HRN.out g (off + 1) cp w1 HO1.out hg hcs)
        clear hc hown hlen h1 c0 hcs hfit
        go_wp2_with fail
        refine (HP.out _).mono ?_
        rintro e w2 ⟨v, rfl, hi, h2⟩
        have HR2 := Lib.hid (HR1.out.on h2)
        have z2 : w.heap.size < w2.heap.size := HR2.out.1.lt
        have HO2 := Lib.hid (HO1.out.trans h2)
        clear r0 r1 r2 r3 r4 f0 f1 f2 f3 f4
        rw [HVS.out] at hi
        obtain ⟨xa, xc, rfl, hcell⟩ := hi
        obtain ⟨bk, z, rfl, -, hbk, -, hcell⟩ := hcell (by simp)
        have k0 : w2.cell? ⟨bk, z, none⟩ = some (.int .i64 (numV p)) := hcell 0 (by simp)
        have k1 : w2.cell? ⟨bk, z + 1, none⟩ = some (.int .i64 (numV q)) := hcell 1 (by simp)
        have k2 : w2.cell? ⟨bk, z + 2, none⟩ = some (.int .i64 (numV r)) := hcell 2 (by simp)
        have k3 : w2.cell? ⟨bk, z + 3, none⟩ = some (.int .i64 (numV t)) := hcell 3 (by simp)
        have e0 : w2.cell? ⟨g, off, none⟩ = some (.string ⟨x.toArray⟩) := (h2.cell (by exact hg)).trans HC0.out
        have hgr : g < w2.heap.size := World.block_lt_of_cell? _ _ e0
        have HD := Lib.hid (fun w' (ho : On w2 w') => held5 (z := z) e0 k0 k1 k2 k3 ho)
        have HRW := HR2
        have HOW := HO2.out
        have hl4 : [numV p, numV q, numV r, numV t].length = 4 := rfl
        rw [hl4]
        clear hcell h2 hl4
        go_upto_region 7 with fail
        clear e0 k0 k1 k2 k3
        go_cut [7] (fun sa wx => ∃ G : Nat, sa = .pointer (some ⟨G, 0, none⟩) ∧ w2.heap.size ≤ G ∧ Bnd.In wx G ⟨x.toArray⟩ (numV p) (numV q) (numV r) (numV t) ∧ On w2 wx)
        case first =>
          go_region_held3 (fun w' => On w2 w' ∧ w'.cell? ⟨g, off, none⟩ = some (.string ⟨x.toArray⟩) ∧ w'.cell? ⟨bk, z, none⟩ = some (.int .i64 (numV p)) ∧ w'.cell? ⟨bk, z + 1, none⟩ = some (.int .i64 (numV q)) ∧ w'.cell? ⟨bk, z + 2, none⟩ = some (.int .i64 (numV r)) ∧ w'.cell? ⟨bk, z + 3, none⟩ = some (.int .i64 (numV t)))
            ((refine HD.out _ ?_; repeat (first | with_reducible exact On.refl _ | with_reducible assumption | with_reducible apply On.alloc | with_reducible apply On.drew | (obtain ⟨hOW, _⟩ := ‹On w2 _ ∧ _›; exact hOW) | (refine On.trans ?_ (by assumption)))))
            (first | fail | fail)
          all_goals
            go_wp2_with fail
            go_meet
            refine ⟨_, rfl, by (try simp), ⟨by simp [go_sem], by simp [go_sem], by simp [go_sem], by simp [go_sem], by simp [go_sem]⟩, ?_⟩
            repeat (first | with_reducible exact On.refl _ | with_reducible assumption | with_reducible apply On.alloc | with_reducible apply On.drew | (obtain ⟨hOW, _⟩ := ‹On w2 _ ∧ _›; exact hOW) | (refine On.trans ?_ (by assumption)))
        case rest =>
          obtain ⟨G, rfl, hG, hin, hO⟩ := hcut
          have h3 : On w wc := HOW.trans hO
          have HR3 := Lib.hid (HRW.out.on hO)
          have z3 : w.heap.size < wc.heap.size := HR3.out.1.lt
          obtain ⟨r0, r1, r2, r3, r4⟩ := HR3.out.1
          have f0 := HR3.out.2 0
          have f1 := HR3.out.2 1
          have f2 := HR3.out.2 2
          have f3 := HR3.out.2 3
          have f4 := HR3.out.2 4
          have hne : w.heap.size ≠ G := Nat.ne_of_lt (Nat.lt_of_lt_of_le HRW.out.1.lt hG)
          have HIN := Lib.hid hin
          have hlt := hin.lt
          obtain ⟨y0, y1, y2, y3, y4⟩ := hin
          go_wp2_with fail
          refine (HST.out _ h3).mono ?_
          rintro e w4 ⟨rfl, h4⟩
          have z4 : w.heap.size < w4.heap.size := h4.lts _ z3
          clear r0 r1 r2 r3 r4 f0 f1 f2 f3 f4 y0 y1 y2 y3 y4 hlt
          have HR4 := Lib.hid (HR3.out.on h4)
          obtain ⟨r0, r1, r2, r3, r4⟩ := HR4.out.1
          have f0 := HR4.out.2 0
          have f1 := HR4.out.2 1
          have f2 := HR4.out.2 2
          have f3 := HR4.out.2 3
          have f4 := HR4.out.2 4
          obtain ⟨y0, y1, y2, y3, y4⟩ := HIN.out.on h4
          have hlt := World.block_lt_of_cell? _ _ y0
          go_wp2_with fail
          refine bodyPost_ret (v := .tuple #[.agg #[.string ⟨x.toArray⟩, .int .i64 (numV p), .int .i64 (numV q), .int .i64 (numV r), .int .i64 (numV t)], .bool true]) (by simp [results, Tryd.results17, go_sem, r0, r1, r2, r3, r4]) rfl ⟨by obtain ⟨x0, x1, x2, x3, x4, x5⟩ := EN.out; rw [x0, x1, x2, x3, x4, x5], ?_⟩
          repeat (first | with_reducible exact On.refl _ | with_reducible apply On.alloc | with_reducible apply On.drewN | with_reducible apply On.drew | with_reducible refine On.setCell ?_ (by (try simp) <;> omega) _ | refine On.trans ?_ h4 | refine On.trans ?_ h3)
      · have g1 := str_ne g
        have g2 : ¬ (bandT ⟨x.toArray⟩ (numV p) (numV q) (numV r) (numV t)).toList = s.toList := ne_of_beq_false g1
        have EN := Lib.hid (b_no (rb_words_bad hps (.inr g)))
        generalize bandT ⟨x.toArray⟩ (numV p) (numV q) (numV r) (numV t) = u at *
        have HST := Lib.hid hst
        clear hst g
        go_enter Tryd.func17, Tryd.ntmps17
        go_wp2_with fail
        refine (HSP.out _ (by repeat (first | with_reducible exact On.refl _ | with_reducible apply On.alloc | with_reducible apply On.drewN | with_reducible apply On.drew | with_reducible refine On.setCell ?_ (by (try simp) <;> omega) _))).mono ?_
        rintro e w1 ⟨v, rfl, hown, h1, hfit⟩
        rw [hps] at hown
        obtain ⟨g, off, cap, rfl, hg, hc⟩ := row_texts hown (by simp)
        have hcap : 5 ≤ cap := hfit _ _ _ rfl
        have c0 : w1.cell? ⟨g, off, none⟩ = some (.string ⟨x.toArray⟩) := hc 0 (by simp)
        have hcs : ∀ j (hj : j < [p, q, r, t].length), w1.cell? ⟨g, off + 1 + j, none⟩ = some (.string ⟨([p, q, r, t][j]'hj).toArray⟩) := fun j hj => by
          have := hc (j + 1) (by simp at hj ⊢; omega)
          rw [show off + 1 + j = off + (j + 1) by omega, this]
          rfl
        have HR1 := Lib.hid (show Res w1 w.heap.size from Res.on ⟨⟨by simp [go_sem], by simp [go_sem], by simp [go_sem], by simp [go_sem], by simp [go_sem]⟩, fun i => by simp [go_sem]⟩ h1)
        have z1 : w.heap.size < w1.heap.size := HR1.out.1.lt
        obtain ⟨r0, r1, r2, r3, r4⟩ := HR1.out.1
        have f0 := HR1.out.2 0
        have f1 := HR1.out.2 1
        have f2 := HR1.out.2 2
        have f3 := HR1.out.2 3
        have f4 := HR1.out.2 4
        have hlen : [x, p, q, r, t].length = 5 := rfl
        rw [hlen]
        have HO1 := Lib.hid (show On w w1 by repeat (first | with_reducible exact On.refl _ | with_reducible apply On.alloc | with_reducible apply On.drewN | with_reducible apply On.drew | with_reducible refine On.setCell ?_ (by (try simp) <;> omega) _ | refine On.trans ?_ h1))
        have HC0 := Lib.hid c0
        have HP := Lib.hid (fun cp => HRN.out g (off + 1) cp w1 HO1.out hg hcs)
        clear hc hown hlen h1 c0 hcs hfit
        go_wp2_with fail
        refine (HP.out _).mono ?_
        rintro e w2 ⟨v, rfl, hi, h2⟩
        have HR2 := Lib.hid (HR1.out.on h2)
        have z2 : w.heap.size < w2.heap.size := HR2.out.1.lt
        have HO2 := Lib.hid (HO1.out.trans h2)
        clear r0 r1 r2 r3 r4 f0 f1 f2 f3 f4
        rw [HVS.out] at hi
        obtain ⟨xa, xc, rfl, hcell⟩ := hi
        obtain ⟨bk, z, rfl, -, hbk, -, hcell⟩ := hcell (by simp)
        have k0 : w2.cell? ⟨bk, z, none⟩ = some (.int .i64 (numV p)) := hcell 0 (by simp)
        have k1 : w2.cell? ⟨bk, z + 1, none⟩ = some (.int .i64 (numV q)) := hcell 1 (by simp)
        have k2 : w2.cell? ⟨bk, z + 2, none⟩ = some (.int .i64 (numV r)) := hcell 2 (by simp)
        have k3 : w2.cell? ⟨bk, z + 3, none⟩ = some (.int .i64 (numV t)) := hcell 3 (by simp)
        have e0 : w2.cell? ⟨g, off, none⟩ = some (.string ⟨x.toArray⟩) := (h2.cell (by exact hg)).trans HC0.out
        have hgr : g < w2.heap.size := World.block_lt_of_cell? _ _ e0
        have HD := Lib.hid (fun w' (ho : On w2 w') => held5 (z := z) e0 k0 k1 k2 k3 ho)
        have HRW := HR2
        have HOW := HO2.out
        have hl4 : [numV p, numV q, numV r, numV t].length = 4 := rfl
        rw [hl4]
        clear hcell h2 hl4
        go_upto_region 7 with fail
        clear e0 k0 k1 k2 k3
        go_cut [7] (fun sa wx => ∃ G : Nat, sa = .pointer (some ⟨G, 0, none⟩) ∧ w2.heap.size ≤ G ∧ Bnd.In wx G ⟨x.toArray⟩ (numV p) (numV q) (numV r) (numV t) ∧ On w2 wx)
        case first =>
          go_region_held3 (fun w' => On w2 w' ∧ w'.cell? ⟨g, off, none⟩ = some (.string ⟨x.toArray⟩) ∧ w'.cell? ⟨bk, z, none⟩ = some (.int .i64 (numV p)) ∧ w'.cell? ⟨bk, z + 1, none⟩ = some (.int .i64 (numV q)) ∧ w'.cell? ⟨bk, z + 2, none⟩ = some (.int .i64 (numV r)) ∧ w'.cell? ⟨bk, z + 3, none⟩ = some (.int .i64 (numV t)))
            ((refine HD.out _ ?_; repeat (first | with_reducible exact On.refl _ | with_reducible assumption | with_reducible apply On.alloc | with_reducible apply On.drew | (obtain ⟨hOW, _⟩ := ‹On w2 _ ∧ _›; exact hOW) | (refine On.trans ?_ (by assumption)))))
            (first | fail | fail)
          all_goals
            go_wp2_with fail
            go_meet
            refine ⟨_, rfl, by (try simp), ⟨by simp [go_sem], by simp [go_sem], by simp [go_sem], by simp [go_sem], by simp [go_sem]⟩, ?_⟩
            repeat (first | with_reducible exact On.refl _ | with_reducible assumption | with_reducible apply On.alloc | with_reducible apply On.drew | (obtain ⟨hOW, _⟩ := ‹On w2 _ ∧ _›; exact hOW) | (refine On.trans ?_ (by assumption)))
        case rest =>
          obtain ⟨G, rfl, hG, hin, hO⟩ := hcut
          have h3 : On w wc := HOW.trans hO
          have HR3 := Lib.hid (HRW.out.on hO)
          have z3 : w.heap.size < wc.heap.size := HR3.out.1.lt
          obtain ⟨r0, r1, r2, r3, r4⟩ := HR3.out.1
          have f0 := HR3.out.2 0
          have f1 := HR3.out.2 1
          have f2 := HR3.out.2 2
          have f3 := HR3.out.2 3
          have f4 := HR3.out.2 4
          have hne : w.heap.size ≠ G := Nat.ne_of_lt (Nat.lt_of_lt_of_le HRW.out.1.lt hG)
          have HIN := Lib.hid hin
          have hlt := hin.lt
          obtain ⟨y0, y1, y2, y3, y4⟩ := hin
          go_wp2_with fail
          refine (HST.out _ h3).mono ?_
          rintro e w4 ⟨rfl, h4⟩
          have z4 : w.heap.size < w4.heap.size := h4.lts _ z3
          clear r0 r1 r2 r3 r4 f0 f1 f2 f3 f4 y0 y1 y2 y3 y4 hlt
          have HR4 := Lib.hid (HR3.out.on h4)
          obtain ⟨r0, r1, r2, r3, r4⟩ := HR4.out.1
          have f0 := HR4.out.2 0
          have f1 := HR4.out.2 1
          have f2 := HR4.out.2 2
          have f3 := HR4.out.2 3
          have f4 := HR4.out.2 4
          obtain ⟨y0, y1, y2, y3, y4⟩ := HIN.out.on h4
          have hlt := World.block_lt_of_cell? _ _ y0
          go_wp2_with fail
          refine bodyPost_ret (v := .tuple #[.agg #[.string ⟨#[]⟩, .int .i64 0, .int .i64 0, .int .i64 0, .int .i64 0], .bool false]) (by simp [results, Tryd.results17, go_sem, r0, r1, r2, r3, r4]) rfl ⟨by obtain ⟨x0, x1, x2, x3, x4, x5⟩ := EN.out; rw [x0, x1, x2, x3, x4, x5], ?_⟩
          repeat (first | with_reducible exact On.refl _ | with_reducible apply On.alloc | with_reducible apply On.drewN | with_reducible apply On.drew | with_reducible refine On.setCell ?_ (by (try simp) <;> omega) _ | refine On.trans ?_ h4 | refine On.trans ?_ h3)
  · have en := Lib.hid (b_no (rb_words_len (l := s.data.toList) (by rw [hps]; exact h5)))
    obtain ⟨x0, x1, x2, x3, x4, x5⟩ := en.out
    rw [x0, x1, x2, x3, x4, x5]
    clear x0 x1 x2 x3 x4 x5 en hplen hRN hTX
    have hn : ((ps.length : Int) == 5) = false := beq_eq_false_iff_ne.2 (by omega)
    have hn2 : ((ps.length : Int) != 5) = true := by rw [bne, hn]; rfl
    go_enter Tryd.func17, Tryd.ntmps17
    go_wp2_with fail
    refine (HSP.out _ (by repeat (first | with_reducible exact On.refl _ | with_reducible apply On.alloc | with_reducible apply On.drewN | with_reducible apply On.drew | with_reducible refine On.setCell ?_ (by (try simp) <;> omega) _))).mono ?_
    rintro e w1 ⟨v, rfl, hown, h1, -⟩
    rw [hps] at hown
    obtain ⟨x1, x2, hv, -⟩ := hown
    rw [texts_length] at hv
    subst hv
    have HR1 := Lib.hid (show Res w1 w.heap.size from Res.on ⟨⟨by simp [go_sem], by simp [go_sem], by simp [go_sem], by simp [go_sem], by simp [go_sem]⟩, fun i => by simp [go_sem]⟩ h1)
    have z1 : w.heap.size < w1.heap.size := HR1.out.1.lt
    obtain ⟨r0, r1, r2, r3, r4⟩ := HR1.out.1
    have f0 := HR1.out.2 0
    have f1 := HR1.out.2 1
    have f2 := HR1.out.2 2
    have f3 := HR1.out.2 3
    have f4 := HR1.out.2 4
    clear hps HSP h5
    go_wp2_with fail
    refine bodyPost_ret (v := .tuple #[.agg #[.string ⟨#[]⟩, .int .i64 0, .int .i64 0, .int .i64 0, .int .i64 0], .bool false]) (by simp [results, Tryd.results17, go_sem, r0, r1, r2, r3, r4]) rfl ⟨rfl, ?_⟩
    repeat (first | with_reducible exact On.refl _ | with_reducible apply On.alloc | with_reducible apply On.drewN | with_reducible apply On.drew | with_reducible refine On.setCell ?_ (by (try simp) <;> omega) _ | refine On.trans ?_ h1)

set_option maxHeartbeats 2000000 in
theorem eqBand (x : ByteArray) (v0 v1 v2 v3 : Int) (w : World) :
    Calls Tryd.prog 18 #[.agg #[.string x, .int .i64 v0, .int .i64 v1, .int .i64 v2, .int .i64 v3], .agg #[.string x, .int .i64 v0, .int .i64 v1, .int .i64 v2, .int .i64 v3]] w fun e w' => e = .returned (.bool true) ∧ On w w' := by
  go_enter Tryd.func18, Tryd.ntmps18
  go_wp2_with fail
  go_ret
  exact ⟨rfl, by repeat (first | with_reducible exact On.refl _ | with_reducible apply On.alloc | with_reducible apply On.drewN | with_reducible apply On.drew | with_reducible refine On.setCell ?_ (by (try simp) <;> omega) _)⟩
end Go.Proofs.YtbmhhhhodlfcbaaDoor.RdB
