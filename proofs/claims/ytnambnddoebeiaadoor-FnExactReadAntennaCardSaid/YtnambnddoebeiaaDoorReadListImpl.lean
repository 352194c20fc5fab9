
/-
  The text of a list, read by the program. Conditions: a text of at most 1048576 bytes; what the library's variables hold.
-/
import Derived.Test.YtnambnddoebeiaaDoorReadListSpec
import Derived.Test.YtnambnddoebeiaaDoorShelfSplitN
import Derived.Test.YtnambnddoebeiaaDoorReadDec
namespace Go.Proofs.YtnambnddoebeiaaDoor.ReadList
open Go.RowKit
open Plain
open Ints (Ints Own)

theorem cell_row {w : World} {A : Array Value} {t j : Nat} {u : Value} (h : A[j]? = some u) : (w.alloc (.cells A t)).cell? ⟨w.heap.size, j, none⟩ = some u := by
  simp [h]
theorem cellsOf_get {bs : List ByteArray} {N j : Nat} (hj : j < bs.length) : (Lib.cellsOf bs N)[j]? = some (.string bs[j]) := by
  simp [Lib.cellsOf, List.getElem?_append, hj]
theorem row_below {w w' : World} {b t n : Nat} {f : Nat → Value} {B : Nat} (h : w.rowIs b t n f) (hb : Below B w w') (hlt : b < B) : w'.rowIs b t n f := by
  obtain ⟨c, h1, h2, h3⟩ := h
  exact ⟨c, (hb.block b hlt).trans h1, h2, h3⟩
/-- What the library's division gives. -/
theorem parts_of (s : ByteArray) : ∃ bs : List ByteArray, bs = Lib.splitB ⟨#[44]⟩ 0 (min 65 (s.size + 1) - 1) s ∧ bs.map (·.data.toList) = Lib.splitK [44] 0 (min 65 (s.data.toList.length + 1) - 1) s.data.toList := by
  refine ⟨_, rfl, ?_⟩
  rw [Lib.splitB_data, Num.len_data]
theorem parts_get {bs : List ByteArray} {ps : List (List UInt8)} (h : bs.map (·.data.toList) = ps) {k : Nat} (hk : k < bs.length) (hk2 : k < ps.length) : bs[k].data.toList = ps[k] := by
  subst h; rw [List.getElem_map]
theorem impl_dash (s : ByteArray) (w : World) (h0 : s.data.toList = [45]) :
    Calls Tryd.prog 21 #[.string s] w fun e w' => ∃ v, e = .returned (.tuple #[v, .bool (rlB s.data.toList)]) ∧ Own w.heap.size w' v (rlV s.data.toList) ∧ On w w' := by
  have H := Lib.hid (rl_some (rl_dash h0))
  obtain rfl := dash_data.1 h0
  go_enter Tryd.func21, Tryd.ntmps21
  go_wp2_with fail
  go_ret2
  exact ⟨_, ret_sb H.out.2.symm, by rw [H.out.1]; exact Own.empty _ _ _ _, by repeat (first | with_reducible exact On.refl _ | apply On.alloc)⟩
set_option maxHeartbeats 1600000 in
theorem impl_long (s : ByteArray) (m : Int) (w : World) (hs : s.size ≤ 1048576) (h0 : s.data.toList ≠ [45]) (hlong : 64 < (pieces 44 s.data.toList).length) (hm : w.cell? ⟨2, 0, none⟩ = some (.int .i64 m)) :
    Calls Tryd.prog 21 #[.string s] w fun e w' => ∃ v, e = .returned (.tuple #[v, .bool (rlB s.data.toList)]) ∧ Own w.heap.size w' v (rlV s.data.toList) ∧ On w w' := by
  have H := Lib.hid (rl_none (rl_long h0 hlong))
  have hq : (s.toList == [45]) = false := beq_eq_false_iff_ne.2 (fun h => h0 (by rw [← h]; exact (ByteArray.toList_eq s).symm))
  obtain ⟨bs, hbs, hd⟩ := parts_of s
  have hSp := show Calls Tryd.prog 41 #[.string s, .string ⟨#[44]⟩, .int .i64 65] w (fun e w' => _) from Tryd.strings_SplitN s ⟨#[44]⟩ 65 m w (by omega) hm (by decide) (by decide) (by decide)
  rw [← hbs] at hSp
  have hn : 64 < bs.length := by
    have := (splitN_pieces 44 s.data.toList 64 (by decide)).2 hlong
    rw [← hd, List.length_map] at this
    exact this
  have hn2 : bs.length ≤ 65 := by rw [hbs]; have := Lib.splitB_length_le ⟨#[44]⟩ 0 (min 65 (s.size + 1) - 1) s; omega
  obtain ⟨n, hnn⟩ : ∃ n, n = bs.length := ⟨_, rfl⟩
  rw [← hnn] at hSp hn hn2
  have HS := Lib.hid hSp
  clear hSp hbs hd h0 hlong hnn hm hs
  go_enter Tryd.func21, Tryd.ntmps21
  go_wp2_with fail
  refine HS.out.mono ?_
  rintro e w1 ⟨rfl, rfl⟩
  go_wp2_with fail
  go_ret2
  exact ⟨_, ret_sb H.out.2.symm, by rw [H.out.1]; exact Own.empty _ _ _ _, by repeat (first | with_reducible exact On.refl _ | apply On.alloc)⟩
set_option maxHeartbeats 1600000 in
set_option maxRecDepth 1000000 in
theorem impl_short (s : ByteArray) (m : Int) (w : World) (hs : s.size ≤ 1048576) (h0 : s.data.toList ≠ [45]) (hshort : (pieces 44 s.data.toList).length ≤ 64) (hm : w.cell? ⟨2, 0, none⟩ = some (.int .i64 m)) (hw : Tabs.Sent w) (ht : Lib.TabBelow Tryd.prog w.heap.size w "internal/strconv.uint64pow10" .u64 Lib.pow10Tab) :
    Calls Tryd.prog 21 #[.string s] w fun e w' => ∃ v, e = .returned (.tuple #[v, .bool (rlB s.data.toList)]) ∧ Own w.heap.size w' v (rlV s.data.toList) ∧ On w w' := by
  have hq : (s.toList == [45]) = false := beq_eq_false_iff_ne.2 (fun h => h0 (by rw [← h]; exact (ByteArray.toList_eq s).symm))
  obtain ⟨bs, hbs, hd⟩ := parts_of s
  have hSp := show Calls Tryd.prog 41 #[.string s, .string ⟨#[44]⟩, .int .i64 65] w (fun e w' => _) from Tryd.strings_SplitN s ⟨#[44]⟩ 65 m w (by omega) hm (by decide) (by decide) (by decide)
  rw [← hbs] at hSp
  rw [show (min 65 (s.data.toList.length + 1) - 1) = min (64 + 1) (s.data.toList.length + 1) - 1 from rfl, (splitN_pieces 44 s.data.toList 64 (by decide)).1 hshort] at hd
  obtain ⟨ps, hps⟩ : ∃ ps, ps = pieces 44 s.data.toList := ⟨_, rfl⟩
  have hpl : ∀ p ∈ ps, p.length ≤ 1048576 := fun p hp => ReadPt.len_le_of_piece (hps ▸ hp) (by rw [Num.len_data]; exact hs)
  rw [← hps] at hd hshort
  have HB := Lib.hid (fun (k : Nat) (hk : k < ps.length) (hb : numIn ps[k] = false) => rl_none (rl_bad h0 hps hk hb))
  have HG := Lib.hid (fun (ha : ∀ k (hk : k < ps.length), numIn ps[k] = true) => rl_some (rl_good h0 hps hshort ha))
  have hnn : bs.length = ps.length := by rw [← hd, List.length_map]
  obtain ⟨n, hn⟩ : ∃ n, n = bs.length := ⟨_, rfl⟩
  have hn64 : n ≤ 64 := by omega
  have hcells : ∀ j (hj : j < ps.length), ∃ b : ByteArray, (Lib.cellsOf bs (min 65 (s.size + 1)))[j]? = some (.string b) ∧ b.size ≤ 1048576 ∧ b.data.toList = ps[j] := fun j hj => by
    have hj2 : j < bs.length := by omega
    refine ⟨bs[j], cellsOf_get hj2, ?_, parts_get hd hj2 hj⟩
    have := hpl ps[j] (List.getElem_mem hj)
    rw [← parts_get hd hj2 hj, Num.len_data] at this
    exact this
  rw [← hn] at hSp
  have hnp : n = ps.length := hn.trans hnn
  obtain ⟨A, hA⟩ : ∃ A, A = Lib.cellsOf bs (min 65 (s.size + 1)) := ⟨_, rfl⟩
  rw [← hA] at hSp hcells
  obtain ⟨C, hC⟩ : ∃ C, C = min 65 (s.size + 1) := ⟨_, rfl⟩
  rw [← hC] at hSp
  have HS := Lib.hid hSp
  have HD := Lib.hid hcells
  have HR := Lib.hid (fun (b : ByteArray) (hb1 : b.size ≤ 1048576) w' (hb : On w w') => ReadDec.impl_readDecimal b w' hb1 (hw.below hb) (fun w'' hb2 => ht w'' (On.trans hb hb2)))
  have hmk := fun w => run_make_row' (P := Tryd.prog) 22 2 (.int .i64 0) 8 Tryd.underlying22 Ints.info rfl .i64 .i64 n (by omega) (by omega) w
  clear hSp hbs hd h0 hm hs hshort hps hpl hnn hn hcells hA hC hw ht
  obtain ⟨W0, hW0⟩ : ∃ W0 : World, W0 = w.alloc (.cells A 9) := ⟨_, rfl⟩
  have HW := Lib.hid hW0
  go_enter Tryd.func21, Tryd.ntmps21
  go_wp2_with fail
  refine HS.out.mono ?_
  rintro e w1 ⟨rfl, hw1⟩
  rw [← hW0] at hw1
  subst hw1
  have hsz : w1.heap.size = w.heap.size + 1 := by rw [hW0]; simp
  have hO0 : On w w1 := by rw [hW0]; exact On.alloc (On.refl w) _
  have HP := Lib.hid (fun j (hj : j < ps.length) => show ∃ b : ByteArray, w1.cell? ⟨w.heap.size, j, none⟩ = some (.string b) ∧ b.size ≤ 1048576 ∧ b.data.toList = ps[j] by
    obtain ⟨b, h1, h2, h3⟩ := HD.out j hj
    exact ⟨b, by rw [hW0]; exact cell_row h1, h2, h3⟩)
  have HSZ := Lib.hid hsz
  have HNP := Lib.hid hnp
  clear hW0 hsz hnp
  go_wp2_with fail
  clear hmk
  go_loopw [22] (fun i wr => ∃ k : Nat, k ≤ n ∧ i = .int .i64 k ∧ wr.rowIs w1.heap.size 2 n (fun j => if j < k then .int .i64 ((ps.map numV).getD j 0) else .int .i64 0) ∧ Below w1.heap.size w1 wr ∧ ∀ j (hj : j < ps.length), j < k → numIn ps[j] = true) (fun i _ => n - (intOf i).toNat)
  case atStart =>
    refine ⟨0, Nat.zero_le _, rfl, ?_, (Below.refl _ _).alloc (Nat.le_refl _) _, fun j _ h => by omega⟩
    exact (World.rowIs_made w1 (.int .i64 0) n _).congr fun i _ => by simp
  case round =>
    obtain ⟨k, hk, rfl, hrow, hb, hall⟩ := hrel
    have HR2 := Lib.hid hrow
    have HB2 := Lib.hid hb
    have HA := Lib.hid hall
    have hsz2 : w1.heap.size < wr.heap.size := by
      obtain ⟨c, h1, -⟩ := hrow
      exact (Array.getElem?_eq_some_iff.1 h1).1
    have hO1 : On w wr := hO0.trans hb
    clear hrow hb hall
    by_cases hlt : k < n
    · have hltp : k < ps.length := by have := HNP.out; omega
      obtain ⟨b, hc0, hbs, hbd⟩ := HP.out k hltp
      have c1 : wr.cell? ⟨w.heap.size, k, none⟩ = some (.string b) := (HB2.out.cell (by show w.heap.size < w1.heap.size; have := HSZ.out; omega)).trans hc0
      have hR := HR.out b hbs
      cases kb : numB b.data.toList with
      | false =>
        rw [kb] at hR
        have HRD := Lib.hid hR
        have H := Lib.hid (HB.out k hltp (by rw [← hbd]; exact numIn_1 kb))
        clear hR hbd hc0
        go_wp2_with fail
        refine (HRD.out _ hO1).mono ?_
        rintro e w2 ⟨rfl, h2⟩
        go_wp2_with fail
        go_ret2
        exact ⟨_, ret_sb H.out.2.symm, by rw [H.out.1]; exact Own.empty _ _ _ _, hO1.trans h2⟩
      | true =>
        rw [kb] at hR
        cases ki : inB (numV b.data.toList) (-1000000000000) 1000000000000 with
        | false =>
          have HRD := Lib.hid hR
          have H := Lib.hid (HB.out k hltp (by rw [← hbd]; exact numIn_2 kb ki))
          clear hR hbd hc0
          go_wp2_with fail
          refine (HRD.out _ hO1).mono ?_
          rintro e w2 ⟨rfl, h2⟩
          go_wp2_with (go_at_call 42; refine (Arith.within _ _ _ _).mono ?_; rintro e w' ⟨rfl, rfl⟩)
          go_ret2
          exact ⟨_, ret_sb H.out.2.symm, by rw [H.out.1]; exact Own.empty _ _ _ _, hO1.trans h2⟩
        | true =>
          have HA2 := Lib.hid (fun j (hj : j < ps.length) (h : j < k + 1) => show numIn ps[j] = true by
            by_cases g : j = k
            · subst g; rw [← hbd]; exact numIn_2 kb ki
            · exact HA.out j hj (by omega))
          have HV := Lib.hid (show (ps.map numV).getD k 0 = numV b.data.toList by rw [hbd]; simp [hltp])
          obtain ⟨z, hz⟩ : ∃ z, z = numV b.data.toList := ⟨_, rfl⟩
          rw [← hz] at hR ki HV
          have HRD := Lib.hid hR
          clear hR hbd hc0 hz kb
          go_wp2_with fail
          refine (HRD.out _ hO1).mono ?_
          rintro e w2 ⟨rfl, h2⟩
          have h2' : Below wr.heap.size wr w2 := h2
          have HR3 := Lib.hid (row_below HR2.out h2' hsz2)
          have HB3 := Lib.hid (HB2.out.trans (h2'.mono (Nat.le_of_lt hsz2)))
          have hc2 : w2.cell? ⟨w1.heap.size, k, none⟩ = some (.int .i64 0) := by have := HR3.out.cell hlt; rw [if_neg (by omega)] at this; exact this
          have hf2 : w2.frozen? ⟨w1.heap.size, k, none⟩ = false := HR3.out.frozen k
          clear h2 h2'
          go_wp2_with (go_at_call 42; refine (Arith.within _ _ _ _).mono ?_; rintro e w' ⟨rfl, rfl⟩)
          go_roundw
          case rel =>
            refine ⟨k + 1, by omega, by go_num, (HR3.out.set k _).congr fun i _ => ?_, HB3.out.setCell (by exact Nat.le_refl _) _, HA2.out⟩
            by_cases h1 : i = k
            · subst h1; rw [if_pos rfl, if_pos (by omega), HV.out]
            · rw [if_neg h1]
              by_cases h2 : i < k
              · rw [if_pos h2, if_pos (by omega)]
              · rw [if_neg h2, if_neg (by omega)]
          case measure => simp [intOf]; omega
    · have hsz := HSZ.out
      have hnp := HNP.out
      obtain rfl : k = n := by omega
      have H := Lib.hid (HG.out (fun j hj => HA.out j hj (by omega)))
      have HLN := Lib.hid (show (ps.map numV).length = k by rw [List.length_map]; omega)
      clear hsz hnp
      have hfin := Lib.hid ((HR2.out.congr fun i hi => by rw [if_pos (by omega)]) : wr.rowIs w1.heap.size _ k (fun j => .int .i64 ((ps.map numV).getD j 0)))
      go_wp2
      go_ret2
      refine ⟨_, ret_sb H.out.2.symm, ?_, hO1⟩
      rw [H.out.1]
      have hf := hfin.out
      have hlen := HLN.out
      have hsz := HSZ.out
      obtain ⟨zs, hzs⟩ : ∃ zs, zs = ps.map numV := ⟨_, rfl⟩
      rw [← hzs] at hf hlen ⊢
      subst hlen
      exact Own.of_row hf (by omega)
theorem impl_readList (s : ByteArray) (m : Int) (w : World) (hs : s.size ≤ 1048576) (hm : w.cell? ⟨2, 0, none⟩ = some (.int .i64 m)) (hw : Tabs.Sent w) (ht : Lib.TabBelow Tryd.prog w.heap.size w "internal/strconv.uint64pow10" .u64 Lib.pow10Tab) :
    Calls Tryd.prog 21 #[.string s] w fun e w' => ∃ v, e = .returned (.tuple #[v, .bool (rlB s.data.toList)]) ∧ Own w.heap.size w' v (rlV s.data.toList) ∧ On w w' := by
  by_cases h0 : s.data.toList = [45]
  · exact impl_dash s w h0
  · by_cases hl : 64 < (pieces 44 s.data.toList).length
    · exact impl_long s m w hs h0 hl hm
    · exact impl_short s m w hs h0 (by omega) hm hw ht
end Go.Proofs.YtnambnddoebeiaaDoor.ReadList
