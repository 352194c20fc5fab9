
/-
  The mask with a text, in the model and in the program: a mask of its own memory. Condition: at most 1048576 bytes; the library's tables and errors hold what its text lays.
-/
import Derived.Test.YtjnkfpgglhgkaaaDoorRdMPlain
import Derived.Test.YtjnkfpgglhgkaaaDoorMskOwn
import Derived.Test.YtjnkfpgglhgkaaaDoorMskText
import Derived.Test.YtjnkfpgglhgkaaaDoorReadListImpl
import Derived.Test.YtjnkfpgglhgkaaaDoorWordsImpl
namespace Go.Proofs.YtjnkfpgglhgkaaaDoor.Msk
open Go.RowKit
open Plain
open Ints (Ints Own)
open Words (texts texts_length)

/-- The block g holds an empty mask that may be written. -/
def Res (w : World) (g : Nat) : Prop := w.cell? ⟨g, 0, none⟩ = some (.slice none 0 0) ∧ w.cell? ⟨g, 1, none⟩ = some (.slice none 0 0) ∧ w.frozen? ⟨g, 0, none⟩ = false ∧ w.frozen? ⟨g, 1, none⟩ = false
theorem Res.on {w w' : World} {g : Nat} (h : Res w g) (ho : On w w') : Res w' g := by
  have hg := World.block_lt_of_cell? w _ h.1
  exact ⟨(ho.cell (by exact hg)).trans h.1, (ho.cell (by exact hg)).trans h.2.1, (ho.frozen (by exact hg)).trans h.2.2.1, (ho.frozen (by exact hg)).trans h.2.2.2⟩
theorem Res.blk {w : World} {g : Nat} (h : Res w g) : g < w.heap.size := World.block_lt_of_cell? w _ h.1
theorem ints_set {w : World} {v : Value} {zs : List Int} {g : Nat} (h : Ints w v zs) (h0 : w.cell? ⟨g, 0, none⟩ = some (.slice none 0 0)) (h1 : w.cell? ⟨g, 1, none⟩ = some (.slice none 0 0)) (u0 u1 : Value) : Ints ((w.setCell ⟨g, 0, none⟩ u0).setCell ⟨g, 1, none⟩ u1) v zs := by
  obtain ⟨a, cap, hv, hc⟩ := h
  refine ⟨a, cap, hv, fun hn => ?_⟩
  obtain ⟨b, off, ha, hlt, hcell⟩ := hc hn
  refine ⟨b, off, ha, by simpa using hlt, fun i hi => ?_⟩
  have e := hcell i hi
  have n0 : (⟨g, 0, none⟩ : Addr) ≠ ⟨b, off + i, none⟩ := fun q => by rw [← q, h0] at e; cases e
  have n1 : (⟨g, 1, none⟩ : Addr) ≠ ⟨b, off + i, none⟩ := fun q => by rw [← q, h1] at e; cases e
  rw [World.cell?_setCell_other (h := n1), World.cell?_setCell_other (h := n0)]
  exact e
theorem nil1 (B : Nat) (w : World) : Own B w (.slice none 0 0) [] := Own.empty B w none 0
theorem two_of {α : Type} {ps : List α} (h : ps.length = 2) : ∃ p q, ps = [p, q] := by
  match ps, h with
  | [p, q], _ => exact ⟨p, q, rfl⟩
theorem ret_mb {v : Value} {a b : Bool} (h : a = b) : Ending.returned (.tuple #[v, .bool a]) = .returned (.tuple #[v, .bool b]) := by rw [h]
theorem own_ge' {B : Nat} {w : World} {a : Option Addr} {n cap : Nat} {zs : List Int} (hz : zs.length = n) (h : Own B w (.slice a n cap) zs) (h0 : 0 < n) : ∃ q, a = some q ∧ B ≤ q.block ∧ q.block < w.heap.size := by
  subst hz
  obtain ⟨a', cap', hv, hc⟩ := h
  cases hv
  obtain ⟨b, off, ha, hB, hlt, _⟩ := hc h0
  exact ⟨_, ha, hB, hlt⟩
theorem str_size {p : List UInt8} {n : Nat} (h : p.length ≤ n) : (⟨p.toArray⟩ : ByteArray).size ≤ n := by simpa [ByteArray.size] using h
theorem str_back (s : ByteArray) {l : List UInt8} (h : l = s.data.toList) : (⟨l.toArray⟩ : ByteArray) = s := by rw [h]
theorem str_ext {a b : ByteArray} (h : a.toList = b.toList) : a = b := by
  rw [ByteArray.toList_eq, ByteArray.toList_eq] at h
  exact ByteArray.ext (Array.toList_inj.1 h)
theorem mskT_list (os ls : List Int) : (mskT os ls).toList = commas os ++ 32 :: commas ls := by
  rw [ByteArray.toList_eq]
  unfold mskT com
  simp
set_option maxRecDepth 100000 in
set_option maxHeartbeats 4000000 in
theorem spec_ReadMask (s : ByteArray) (w : World) (hs : s.size ≤ 1048576) :
    Calls Tryd.prog 10 #[.string s] w fun e w' => ∃ a0 c0 a1 c1, e = .returned (.tuple #[.agg #[.slice a0 (rmO s.data.toList).length c0, .slice a1 (rmL s.data.toList).length c1], .bool (rmB s.data.toList)]) ∧ Ints w' (.slice a0 (rmO s.data.toList).length c0) (rmO s.data.toList) ∧ Ints w' (.slice a1 (rmL s.data.toList).length c1) (rmL s.data.toList) ∧ On w w' := by
  have HSP := Lib.hid (fun w => Split.spec_split s 32 32 rfl w hs)
  have hplen : ∀ p ∈ pieces 32 s.data.toList, p.length ≤ 1048576 := fun p hp => Nat.le_trans (ReadPt.len_le_of_piece hp (Nat.le_refl _)) (by rw [Num.len_data]; exact hs)
  have HRL := Lib.hid (fun (p : List UInt8) (hp : p.length ≤ 1048576) w => show Calls Tryd.prog 22 #[.string ⟨p.toArray⟩] w fun e w' => ∃ v, e = .returned (.tuple #[v, .bool (rlB p)]) ∧ Ints w' v (rlV p) ∧ On w w' from ReadList.spec_readList ⟨p.toArray⟩ w (str_size hp))
  obtain ⟨ps, hps⟩ : ∃ ps, pieces 32 s.data.toList = ps := ⟨_, rfl⟩
  by_cases h2 : ps.length = 2
  · obtain ⟨p, q, rfl⟩ := two_of h2
    clear h2
    have hpl := hplen p (by rw [hps]; simp)
    have hql := hplen q (by rw [hps]; simp)
    have HP1 := Lib.hid (HRL.out p hpl)
    have HP2 := Lib.hid (HRL.out q hql)
    have lp := rlV_len p
    have lq := rlV_len q
    clear HRL hplen hpl hql
    have HOK := Lib.hid (fun g v0 v1 w' (h0 : Ints w' v0 (rlV p)) (h1 : Ints w' v1 (rlV q)) hp => spec_ok g v0 v1 (rlV p) (rlV q) w' (by omega) (by omega) hp h0 h1)
    cases g1 : rlB p with
    | false =>
      have en := Lib.hid (rm_none (rm_bad hps (by rw [g1]; simp)))
      obtain ⟨e1, e2, e3⟩ := en.out
      rw [e1, e2, e3]
      clear e1 e2 e3 en
      rw [g1] at HP1
      go_enter Tryd.func10, Tryd.ntmps10
      go_wp2_with fail
      refine (HSP.out _).mono ?_
      rintro e w1 ⟨v, rfl, hown, h1⟩
      rw [hps] at hown
      obtain ⟨g, cap, rfl, -, hg, hc⟩ := ReadPt.row_strs hown (by simp)
      have R1 : Res w1 w.heap.size := Res.on ⟨by simp [go_sem], by simp [go_sem], by simp [go_sem], by simp [go_sem]⟩ h1
      have HO1 := Lib.hid (On.trans (On.alloc (On.refl w) _) h1)
      have HR1 := Lib.hid R1
      obtain ⟨r0, r1, f0, f1⟩ := R1
      have z1 := HR1.out.blk
      clear h1
      have c0 : w1.cell? ⟨g, 0, none⟩ = some (.string ⟨p.toArray⟩) := hc 0 (by simp)
      have c1 : w1.cell? ⟨g, 1, none⟩ = some (.string ⟨q.toArray⟩) := hc 1 (by simp)
      have hlen : [p, q].length = 2 := rfl
      rw [hlen]
      clear hc hown hlen
      go_wp2_with fail
      refine (HP1.out _).mono ?_
      rintro e w2 ⟨v1, rfl, hi1, h2⟩
      have HI1 := Lib.hid hi1
      have HO2 := Lib.hid (HO1.out.trans h2)
      have HR2 := Lib.hid (HR1.out.on h2)
      have d1 := (h2.cell (by exact hg)).trans c1
      have hg2 := h2.lts _ hg
      have s12 := Lib.hid (h2.size)
      clear h2 hi1 r0 r1 f0 f1 z1 c0 c1
      obtain ⟨r0, r1, f0, f1⟩ := HR2.out
      have z2 := HR2.out.blk
      go_wp2_with fail
      refine (HP2.out _).mono ?_
      rintro e w3 ⟨v2, rfl, hi2, h3⟩
      have HJ1 := Lib.hid (HI1.out.below h3)
      have HJ2 := Lib.hid hi2
      have HO3 := Lib.hid (HO2.out.trans h3)
      have HR3 := Lib.hid (HR2.out.on h3)
      have s23 := Lib.hid (h3.size)
      clear h3 hi2 r0 r1 f0 f1 z2 d1 hg hg2 HI1
      obtain ⟨r0, r1, f0, f1⟩ := HR3.out
      have z3 := HR3.out.blk
      obtain ⟨x1, k1, rfl, -⟩ := id HJ1.out
      obtain ⟨x2, k2, rfl, -⟩ := id HJ2.out
      go_wp2_with fail
      refine bodyPost_ret (v := .tuple #[.agg #[.slice none 0 0, .slice none 0 0], .bool false]) (by simp [results, Tryd.results10, go_sem, z3, r0, r1]) rfl ⟨_, _, _, _, rfl, (nil1 0 _).ints, (nil1 0 _).ints, ?_⟩
      repeat (first | with_reducible exact HO3.out | apply On.alloc | refine On.setCell ?_ (by (try simp) <;> omega) _)
    | true =>
      cases g2 : rlB q with
      | false =>
        have en := Lib.hid (rm_none (rm_bad hps (by rw [g1, g2]; simp)))
        obtain ⟨e1, e2, e3⟩ := en.out
        rw [e1, e2, e3]
        clear e1 e2 e3 en
        rw [g1] at HP1
        rw [g2] at HP2
        go_enter Tryd.func10, Tryd.ntmps10
        go_wp2_with fail
        refine (HSP.out _).mono ?_
        rintro e w1 ⟨v, rfl, hown, h1⟩
        rw [hps] at hown
        obtain ⟨g, cap, rfl, -, hg, hc⟩ := ReadPt.row_strs hown (by simp)
        have R1 : Res w1 w.heap.size := Res.on ⟨by simp [go_sem], by simp [go_sem], by simp [go_sem], by simp [go_sem]⟩ h1
        have HO1 := Lib.hid (On.trans (On.alloc (On.refl w) _) h1)
        have HR1 := Lib.hid R1
        obtain ⟨r0, r1, f0, f1⟩ := R1
        have z1 := HR1.out.blk
        clear h1
        have c0 : w1.cell? ⟨g, 0, none⟩ = some (.string ⟨p.toArray⟩) := hc 0 (by simp)
        have c1 : w1.cell? ⟨g, 1, none⟩ = some (.string ⟨q.toArray⟩) := hc 1 (by simp)
        have hlen : [p, q].length = 2 := rfl
        rw [hlen]
        clear hc hown hlen
        go_wp2_with fail
        refine (HP1.out _).mono ?_
        rintro e w2 ⟨v1, rfl, hi1, h2⟩
        have HI1 := Lib.hid hi1
        have HO2 := Lib.hid (HO1.out.trans h2)
        have HR2 := Lib.hid (HR1.out.on h2)
        have d1 := (h2.cell (by exact hg)).trans c1
        have hg2 := h2.lts _ hg
        have s12 := Lib.hid (h2.size)
        clear h2 hi1 r0 r1 f0 f1 z1 c0 c1
        obtain ⟨r0, r1, f0, f1⟩ := HR2.out
        have z2 := HR2.out.blk
        go_wp2_with fail
        refine (HP2.out _).mono ?_
        rintro e w3 ⟨v2, rfl, hi2, h3⟩
        have HJ1 := Lib.hid (HI1.out.below h3)
        have HJ2 := Lib.hid hi2
        have HO3 := Lib.hid (HO2.out.trans h3)
        have HR3 := Lib.hid (HR2.out.on h3)
        have s23 := Lib.hid (h3.size)
        clear h3 hi2 r0 r1 f0 f1 z2 d1 hg hg2 HI1
        obtain ⟨r0, r1, f0, f1⟩ := HR3.out
        have z3 := HR3.out.blk
        obtain ⟨x1, k1, rfl, -⟩ := id HJ1.out
        obtain ⟨x2, k2, rfl, -⟩ := id HJ2.out
        go_wp2_with fail
        refine bodyPost_ret (v := .tuple #[.agg #[.slice none 0 0, .slice none 0 0], .bool false]) (by simp [results, Tryd.results10, go_sem, z3, r0, r1]) rfl ⟨_, _, _, _, rfl, (nil1 0 _).ints, (nil1 0 _).ints, ?_⟩
        repeat (first | with_reducible exact HO3.out | apply On.alloc | refine On.setCell ?_ (by (try simp) <;> omega) _)
      | true =>
        cases g3 : okM (rlV p) (rlV q) with
        | false =>
          have en := Lib.hid (rm_none (rm_bad hps (by rw [g1, g2, g3]; simp)))
          obtain ⟨e1, e2, e3⟩ := en.out
          rw [e1, e2, e3]
          clear e1 e2 e3 en
          rw [g1] at HP1
          rw [g2] at HP2
          rw [g3] at HOK
          go_enter Tryd.func10, Tryd.ntmps10
          go_wp2_with fail
          refine (HSP.out _).mono ?_
          rintro e w1 ⟨v, rfl, hown, h1⟩
          rw [hps] at hown
          obtain ⟨g, cap, rfl, -, hg, hc⟩ := ReadPt.row_strs hown (by simp)
          have R1 : Res w1 w.heap.size := Res.on ⟨by simp [go_sem], by simp [go_sem], by simp [go_sem], by simp [go_sem]⟩ h1
          have HO1 := Lib.hid (On.trans (On.alloc (On.refl w) _) h1)
          have HR1 := Lib.hid R1
          obtain ⟨r0, r1, f0, f1⟩ := R1
          have z1 := HR1.out.blk
          clear h1
          have c0 : w1.cell? ⟨g, 0, none⟩ = some (.string ⟨p.toArray⟩) := hc 0 (by simp)
          have c1 : w1.cell? ⟨g, 1, none⟩ = some (.string ⟨q.toArray⟩) := hc 1 (by simp)
          have hlen : [p, q].length = 2 := rfl
          rw [hlen]
          clear hc hown hlen
          go_wp2_with fail
          refine (HP1.out _).mono ?_
          rintro e w2 ⟨v1, rfl, hi1, h2⟩
          have HI1 := Lib.hid hi1
          have HO2 := Lib.hid (HO1.out.trans h2)
          have HR2 := Lib.hid (HR1.out.on h2)
          have d1 := (h2.cell (by exact hg)).trans c1
          have hg2 := h2.lts _ hg
          have s12 := Lib.hid (h2.size)
          clear h2 hi1 r0 r1 f0 f1 z1 c0 c1
          obtain ⟨r0, r1, f0, f1⟩ := HR2.out
          have z2 := HR2.out.blk
          go_wp2_with fail
          refine (HP2.out _).mono ?_
          rintro e w3 ⟨v2, rfl, hi2, h3⟩
          have HJ1 := Lib.hid (HI1.out.below h3)
          have HJ2 := Lib.hid hi2
          have HO3 := Lib.hid (HO2.out.trans h3)
          have HR3 := Lib.hid (HR2.out.on h3)
          have s23 := Lib.hid (h3.size)
          clear h3 hi2 r0 r1 f0 f1 z2 d1 hg hg2 HI1
          obtain ⟨r0, r1, f0, f1⟩ := HR3.out
          have z3 := HR3.out.blk
          obtain ⟨x1, k1, rfl, -⟩ := id HJ1.out
          obtain ⟨x2, k2, rfl, -⟩ := id HJ2.out
          go_wp2_with (go_at_call 15; refine (HOK.out _ _ _ _ (HJ1.out.below (by repeat (first | with_reducible exact On.refl _ | apply On.alloc | refine On.setCell ?_ (by (try simp) <;> omega) _))) (HJ2.out.below (by repeat (first | with_reducible exact On.refl _ | apply On.alloc | refine On.setCell ?_ (by (try simp) <;> omega) _))) ⟨by simp [go_sem], by simp [go_sem]⟩).mono ?_; rintro e w4 ⟨rfl, h4⟩; have R4 : Res w4 w.heap.size := Res.on ⟨by simp [go_sem, z3, r0], by simp [go_sem, z3, r1], by simp [go_sem, z3, f0], by simp [go_sem, z3, f1]⟩ h4; have P4 : In w4 w3.heap.size (.slice x1 (rlV p).length k1) (.slice x2 (rlV q).length k2) := In.on ⟨by simp [go_sem], by simp [go_sem]⟩ h4; have h34 : On w3 w4 := On.trans (by repeat (first | with_reducible exact On.refl _ | apply On.alloc | refine On.setCell ?_ (by (try simp) <;> omega) _)) h4; have HO4 := Lib.hid (HO3.out.trans h34); have HK1 := Lib.hid (HJ1.out.below h34); have HK2 := Lib.hid (HJ2.out.below h34); have z4 := R4.blk; have y4 := World.block_lt_of_cell? w4 _ P4.1; clear h4 h34 r0 r1 f0 f1; obtain ⟨r0, r1, f0, f1⟩ := R4; obtain ⟨t0, t1⟩ := P4)
          refine bodyPost_ret (v := .tuple #[.agg #[.slice none 0 0, .slice none 0 0], .bool false]) (by simp [results, Tryd.results10, go_sem, r0, r1]) rfl ⟨_, _, _, _, rfl, (nil1 0 _).ints, (nil1 0 _).ints, ?_⟩
          repeat (first | with_reducible exact HO4.out | apply On.alloc | refine On.setCell ?_ (by (try simp) <;> omega) _)
        | true =>
          have en := Lib.hid (rm_some (rm_good hps g1 g2 g3))
          obtain ⟨e1, e2, e3⟩ := en.out
          rw [e1, e2, e3]
          clear e1 e2 e3 en
          rw [g1] at HP1
          rw [g2] at HP2
          rw [g3] at HOK
          go_enter Tryd.func10, Tryd.ntmps10
          go_wp2_with fail
          refine (HSP.out _).mono ?_
          rintro e w1 ⟨v, rfl, hown, h1⟩
          rw [hps] at hown
          obtain ⟨g, cap, rfl, -, hg, hc⟩ := ReadPt.row_strs hown (by simp)
          have R1 : Res w1 w.heap.size := Res.on ⟨by simp [go_sem], by simp [go_sem], by simp [go_sem], by simp [go_sem]⟩ h1
          have HO1 := Lib.hid (On.trans (On.alloc (On.refl w) _) h1)
          have HR1 := Lib.hid R1
          obtain ⟨r0, r1, f0, f1⟩ := R1
          have z1 := HR1.out.blk
          clear h1
          have c0 : w1.cell? ⟨g, 0, none⟩ = some (.string ⟨p.toArray⟩) := hc 0 (by simp)
          have c1 : w1.cell? ⟨g, 1, none⟩ = some (.string ⟨q.toArray⟩) := hc 1 (by simp)
          have hlen : [p, q].length = 2 := rfl
          rw [hlen]
          clear hc hown hlen
          go_wp2_with fail
          refine (HP1.out _).mono ?_
          rintro e w2 ⟨v1, rfl, hi1, h2⟩
          have HI1 := Lib.hid hi1
          have HO2 := Lib.hid (HO1.out.trans h2)
          have HR2 := Lib.hid (HR1.out.on h2)
          have d1 := (h2.cell (by exact hg)).trans c1
          have hg2 := h2.lts _ hg
          have s12 := Lib.hid (h2.size)
          clear h2 hi1 r0 r1 f0 f1 z1 c0 c1
          obtain ⟨r0, r1, f0, f1⟩ := HR2.out
          have z2 := HR2.out.blk
          go_wp2_with fail
          refine (HP2.out _).mono ?_
          rintro e w3 ⟨v2, rfl, hi2, h3⟩
          have HJ1 := Lib.hid (HI1.out.below h3)
          have HJ2 := Lib.hid hi2
          have HO3 := Lib.hid (HO2.out.trans h3)
          have HR3 := Lib.hid (HR2.out.on h3)
          have s23 := Lib.hid (h3.size)
          clear h3 hi2 r0 r1 f0 f1 z2 d1 hg hg2 HI1
          obtain ⟨r0, r1, f0, f1⟩ := HR3.out
          have z3 := HR3.out.blk
          obtain ⟨x1, k1, rfl, -⟩ := id HJ1.out
          obtain ⟨x2, k2, rfl, -⟩ := id HJ2.out
          go_wp2_with (go_at_call 15; refine (HOK.out _ _ _ _ (HJ1.out.below (by repeat (first | with_reducible exact On.refl _ | apply On.alloc | refine On.setCell ?_ (by (try simp) <;> omega) _))) (HJ2.out.below (by repeat (first | with_reducible exact On.refl _ | apply On.alloc | refine On.setCell ?_ (by (try simp) <;> omega) _))) ⟨by simp [go_sem], by simp [go_sem]⟩).mono ?_; rintro e w4 ⟨rfl, h4⟩; have R4 : Res w4 w.heap.size := Res.on ⟨by simp [go_sem, z3, r0], by simp [go_sem, z3, r1], by simp [go_sem, z3, f0], by simp [go_sem, z3, f1]⟩ h4; have P4 : In w4 w3.heap.size (.slice x1 (rlV p).length k1) (.slice x2 (rlV q).length k2) := In.on ⟨by simp [go_sem], by simp [go_sem]⟩ h4; have h34 : On w3 w4 := On.trans (by repeat (first | with_reducible exact On.refl _ | apply On.alloc | refine On.setCell ?_ (by (try simp) <;> omega) _)) h4; have HO4 := Lib.hid (HO3.out.trans h34); have HK1 := Lib.hid (HJ1.out.below h34); have HK2 := Lib.hid (HJ2.out.below h34); have z4 := R4.blk; have y4 := World.block_lt_of_cell? w4 _ P4.1; clear h4 h34 r0 r1 f0 f1; obtain ⟨r0, r1, f0, f1⟩ := R4; obtain ⟨t0, t1⟩ := P4)
          refine bodyPost_ret (v := .tuple #[.agg #[.slice x1 (rlV p).length k1, .slice x2 (rlV q).length k2], .bool true]) (by simp [results, Tryd.results10, go_sem, r0, r1]) rfl ⟨_, _, _, _, rfl, ?_, ?_, ?_⟩
          · exact ints_set HK1.out r0 r1 _ _
          · exact ints_set HK2.out r0 r1 _ _
          · repeat (first | with_reducible exact HO4.out | refine On.setCell ?_ (by (try simp) <;> omega) _)
  · have en := Lib.hid (rm_none (rm_len (l := s.data.toList) (by rw [hps]; exact h2)))
    obtain ⟨e1, e2, e3⟩ := en.out
    rw [e1, e2, e3]
    clear e1 e2 e3 HRL hplen
    have b1 : (((ps.length : Nat) : Int) == 2) = false := beq_eq_false_iff_ne.2 (by omega)
    have b2 : (((ps.length : Nat) : Int) != 2) = true := by rw [bne, b1]; rfl
    go_enter Tryd.func10, Tryd.ntmps10
    go_wp2_with fail
    refine (HSP.out _).mono ?_
    rintro e w1 ⟨v, rfl, hown, h1⟩
    rw [hps] at hown
    obtain ⟨g, cap, rfl, -, hg, hc⟩ := ReadPt.row_strs hown (by have := List.length_pos_iff.2 (pieces_ne 32 s.data.toList); rw [hps] at this; exact this)
    have R1 : Res w1 w.heap.size := Res.on ⟨by simp [go_sem], by simp [go_sem], by simp [go_sem], by simp [go_sem]⟩ h1
    have HO1 := Lib.hid (On.trans (On.alloc (On.refl w) _) h1)
    have HR1 := Lib.hid R1
    obtain ⟨r0, r1, f0, f1⟩ := R1
    have z1 := HR1.out.blk
    clear h1
    clear hown hc hg
    go_wp2_with fail
    refine bodyPost_ret (v := .tuple #[.agg #[.slice none 0 0, .slice none 0 0], .bool false]) (by simp [results, Tryd.results10, go_sem, r0, r1]) rfl ⟨_, _, _, _, rfl, (nil1 0 _).ints, (nil1 0 _).ints, ?_⟩
    repeat (first | with_reducible exact HO1.out | apply On.alloc | refine On.setCell ?_ (by (try simp) <;> omega) _)
set_option maxRecDepth 100000 in
set_option maxHeartbeats 4000000 in
theorem impl_ReadMask (s : ByteArray) (m : Int) (w : World) (hs : s.size ≤ 1048576) (hm : w.cell? ⟨1, 0, none⟩ = some (.int .i64 m)) (hw : Tabs.Sent w) (ht : Lib.TabBelow Tryd.prog w.heap.size w "internal/strconv.uint64pow10" .u64 Lib.pow10Tab) :
    Calls Tryd.prog 11 #[.string s] w fun e w' => ∃ a0 c0 a1 c1, e = .returned (.tuple #[.agg #[.slice a0 (rmO s.data.toList).length c0, .slice a1 (rmL s.data.toList).length c1], .bool (rmB s.data.toList)]) ∧ OwnR w.heap.size w' a0 (rmO s.data.toList).length c0 a1 (rmL s.data.toList).length c1 (rmO s.data.toList) (rmL s.data.toList) ∧ On w w' := by
  have hmb := World.block_lt_of_cell? w _ hm
  have HSP := Lib.hid (fun w' (hb : On w w') => Words.impl_words s m w' hs ((hb.cell (by exact hmb)).trans hm))
  have hplen : ∀ p ∈ words s.data.toList, p.length ≤ 1048576 := fun p hp => Nat.le_trans (word_len hp) (by rw [Num.len_data]; exact hs)
  have HRL := Lib.hid (fun (p : List UInt8) (hp : p.length ≤ 1048576) w' (hb : On w w') => show Calls Tryd.prog 24 #[.string ⟨p.toArray⟩] w' fun e w'' => ∃ v, e = .returned (.tuple #[v, .bool (rlB p)]) ∧ Own w'.heap.size w'' v (rlV p) ∧ On w' w'' from
    ReadList.impl_readList ⟨p.toArray⟩ m w' (str_size hp) ((hb.cell (by exact hmb)).trans hm) (hw.below hb) (fun w'' hb2 => ht w'' (On.trans hb hb2)))
  have HMT := Lib.hid (fun (a b : List Int) (v0 v1 : Value) (qa : a.length ≤ 1048576) (qb : b.length ≤ 1048576) w' (hb : On w w') (ha : Ints w' v0 a) (hb' : Ints w' v1 b) => impl_MaskText v0 v1 a b w' qa qb ha hb' (fun w'' hb2 => ht w'' (On.trans hb hb2)))
  obtain ⟨ps, hps⟩ : ∃ ps, words s.data.toList = ps := ⟨_, rfl⟩
  by_cases h2 : ps.length = 2
  · obtain ⟨p, q, rfl⟩ := two_of h2
    clear h2
    have hpl := hplen p (by rw [hps]; simp)
    have hql := hplen q (by rw [hps]; simp)
    have HP1 := Lib.hid (HRL.out p hpl)
    have HP2 := Lib.hid (HRL.out q hql)
    have lp := rlV_len p
    have lq := rlV_len q
    clear HRL hplen hpl hql
    cases g1 : rlB p with
    | false =>
      have en := Lib.hid (rm_none (rm_words_bad hps (fun h => by rw [g1] at h; cases h.1)))
      obtain ⟨e1, e2, e3⟩ := en.out
      rw [e1, e2, e3]
      clear e1 e2 e3 en
      rw [g1] at HP1
      go_enter Tryd.func11, Tryd.ntmps11
      go_wp2_with fail
      refine (HSP.out _ (by repeat (first | with_reducible exact On.refl _ | apply On.alloc))).mono ?_
      rintro e w1 ⟨v, rfl, hown, h1⟩
      rw [hps] at hown
      obtain ⟨av, capv, rfl, hcv⟩ := hown
      have R1 : Res w1 w.heap.size := Res.on ⟨by simp [go_sem], by simp [go_sem], by simp [go_sem], by simp [go_sem]⟩ h1
      have HO1 := Lib.hid (On.trans (On.alloc (On.refl w) _) h1)
      have HR1 := Lib.hid R1
      obtain ⟨r0, r1, f0, f1⟩ := R1
      have z1 := HR1.out.blk
      clear h1
      obtain ⟨g, off, rfl, -, hg, -, hc⟩ := hcv (by simp [texts])
      have c0 : w1.cell? ⟨g, off, none⟩ = some (.string ⟨p.toArray⟩) := hc 0 (by simp [texts])
      have c1 : w1.cell? ⟨g, off + 1, none⟩ = some (.string ⟨q.toArray⟩) := hc 1 (by simp [texts])
      have hlen : (texts [p, q]).length = 2 := rfl
      rw [hlen]
      clear hc hcv hlen
      go_wp2_with fail
      refine (HP1.out _ HO1.out).mono ?_
      rintro e w2 ⟨v1, rfl, hi1, h2⟩
      have HI1 := Lib.hid hi1
      have HO2 := Lib.hid (HO1.out.trans h2)
      have HR2 := Lib.hid (HR1.out.on h2)
      have d1 := (h2.cell (by exact hg)).trans c1
      have hg2 := h2.lts _ hg
      have s12 := Lib.hid (h2.size)
      clear h2 hi1 r0 r1 f0 f1 z1 c0 c1
      obtain ⟨r0, r1, f0, f1⟩ := HR2.out
      have z2 := HR2.out.blk
      go_wp2_with fail
      refine (HP2.out _ HO2.out).mono ?_
      rintro e w3 ⟨v2, rfl, hi2, h3⟩
      have HJ1 := Lib.hid (HI1.out.below h3)
      have HJ2 := Lib.hid hi2
      have HO3 := Lib.hid (HO2.out.trans h3)
      have HR3 := Lib.hid (HR2.out.on h3)
      have s23 := Lib.hid (h3.size)
      clear h3 hi2 r0 r1 f0 f1 z2 d1 hg hg2 HI1
      obtain ⟨r0, r1, f0, f1⟩ := HR3.out
      have z3 := HR3.out.blk
      obtain ⟨x1, k1, rfl, -⟩ := id HJ1.out
      obtain ⟨x2, k2, rfl, -⟩ := id HJ2.out
      go_wp2_with fail
      refine bodyPost_ret (v := .tuple #[.agg #[.slice none 0 0, .slice none 0 0], .bool false]) (by simp [results, Tryd.results11, go_sem, z3, r0, r1]) rfl ⟨_, _, _, _, rfl, ⟨rfl, rfl, nil1 _ _, nil1 _ _, fun h _ => absurd h (by decide)⟩, ?_⟩
      repeat (first | with_reducible exact HO3.out | apply On.alloc | refine On.setCell ?_ (by (try simp) <;> omega) _)
    | true =>
      cases g2 : rlB q with
      | false =>
        have en := Lib.hid (rm_none (rm_words_bad hps (fun h => by rw [g2] at h; cases h.2.1)))
        obtain ⟨e1, e2, e3⟩ := en.out
        rw [e1, e2, e3]
        clear e1 e2 e3 en
        rw [g1] at HP1
        rw [g2] at HP2
        go_enter Tryd.func11, Tryd.ntmps11
        go_wp2_with fail
        refine (HSP.out _ (by repeat (first | with_reducible exact On.refl _ | apply On.alloc))).mono ?_
        rintro e w1 ⟨v, rfl, hown, h1⟩
        rw [hps] at hown
        obtain ⟨av, capv, rfl, hcv⟩ := hown
        have R1 : Res w1 w.heap.size := Res.on ⟨by simp [go_sem], by simp [go_sem], by simp [go_sem], by simp [go_sem]⟩ h1
        have HO1 := Lib.hid (On.trans (On.alloc (On.refl w) _) h1)
        have HR1 := Lib.hid R1
        obtain ⟨r0, r1, f0, f1⟩ := R1
        have z1 := HR1.out.blk
        clear h1
        obtain ⟨g, off, rfl, -, hg, -, hc⟩ := hcv (by simp [texts])
        have c0 : w1.cell? ⟨g, off, none⟩ = some (.string ⟨p.toArray⟩) := hc 0 (by simp [texts])
        have c1 : w1.cell? ⟨g, off + 1, none⟩ = some (.string ⟨q.toArray⟩) := hc 1 (by simp [texts])
        have hlen : (texts [p, q]).length = 2 := rfl
        rw [hlen]
        clear hc hcv hlen
        go_wp2_with fail
        refine (HP1.out _ HO1.out).mono ?_
        rintro e w2 ⟨v1, rfl, hi1, h2⟩
        have HI1 := Lib.hid hi1
        have HO2 := Lib.hid (HO1.out.trans h2)
        have HR2 := Lib.hid (HR1.out.on h2)
        have d1 := (h2.cell (by exact hg)).trans c1
        have hg2 := h2.lts _ hg
        have s12 := Lib.hid (h2.size)
        clear h2 hi1 r0 r1 f0 f1 z1 c0 c1
        obtain ⟨r0, r1, f0, f1⟩ := HR2.out
        have z2 := HR2.out.blk
        go_wp2_with fail
        refine (HP2.out _ HO2.out).mono ?_
        rintro e w3 ⟨v2, rfl, hi2, h3⟩
        have HJ1 := Lib.hid (HI1.out.below h3)
        have HJ2 := Lib.hid hi2
        have HO3 := Lib.hid (HO2.out.trans h3)
        have HR3 := Lib.hid (HR2.out.on h3)
        have s23 := Lib.hid (h3.size)
        clear h3 hi2 r0 r1 f0 f1 z2 d1 hg hg2 HI1
        obtain ⟨r0, r1, f0, f1⟩ := HR3.out
        have z3 := HR3.out.blk
        obtain ⟨x1, k1, rfl, -⟩ := id HJ1.out
        obtain ⟨x2, k2, rfl, -⟩ := id HJ2.out
        go_wp2_with fail
        refine bodyPost_ret (v := .tuple #[.agg #[.slice none 0 0, .slice none 0 0], .bool false]) (by simp [results, Tryd.results11, go_sem, z3, r0, r1]) rfl ⟨_, _, _, _, rfl, ⟨rfl, rfl, nil1 _ _, nil1 _ _, fun h _ => absurd h (by decide)⟩, ?_⟩
        repeat (first | with_reducible exact HO3.out | apply On.alloc | refine On.setCell ?_ (by (try simp) <;> omega) _)
      | true =>
        have hsn := words_some hps
        by_cases g3 : okM (rlV p) (rlV q) = true ∧ commas (rlV p) ++ 32 :: commas (rlV q) = s.data.toList
        · have HT := Lib.hid (show (textV (okM (rlV p) (rlV q)) (rlV p) (rlV q)) = s by rw [g3.1]; unfold textV; rw [if_pos rfl]; exact str_ext (by rw [mskT_list, ByteArray.toList_eq]; exact g3.2))
          have en := Lib.hid (rm_some (rm_words_good hps g1 g2 g3.1 g3.2))
          obtain ⟨e1, e2, e3⟩ := en.out
          rw [e1, e2, e3]
          clear e1 e2 e3 en
          rw [g1] at HP1
          rw [g2] at HP2
          clear g3
          go_enter Tryd.func11, Tryd.ntmps11
          go_wp2_with fail
          refine (HSP.out _ (by repeat (first | with_reducible exact On.refl _ | apply On.alloc))).mono ?_
          rintro e w1 ⟨v, rfl, hown, h1⟩
          rw [hps] at hown
          obtain ⟨av, capv, rfl, hcv⟩ := hown
          have R1 : Res w1 w.heap.size := Res.on ⟨by simp [go_sem], by simp [go_sem], by simp [go_sem], by simp [go_sem]⟩ h1
          have HO1 := Lib.hid (On.trans (On.alloc (On.refl w) _) h1)
          have HR1 := Lib.hid R1
          obtain ⟨r0, r1, f0, f1⟩ := R1
          have z1 := HR1.out.blk
          clear h1
          obtain ⟨g, off, rfl, -, hg, -, hc⟩ := hcv (by simp [texts])
          have c0 : w1.cell? ⟨g, off, none⟩ = some (.string ⟨p.toArray⟩) := hc 0 (by simp [texts])
          have c1 : w1.cell? ⟨g, off + 1, none⟩ = some (.string ⟨q.toArray⟩) := hc 1 (by simp [texts])
          have hlen : (texts [p, q]).length = 2 := rfl
          rw [hlen]
          clear hc hcv hlen
          go_wp2_with fail
          refine (HP1.out _ HO1.out).mono ?_
          rintro e w2 ⟨v1, rfl, hi1, h2⟩
          have HI1 := Lib.hid hi1
          have HO2 := Lib.hid (HO1.out.trans h2)
          have HR2 := Lib.hid (HR1.out.on h2)
          have d1 := (h2.cell (by exact hg)).trans c1
          have hg2 := h2.lts _ hg
          have s12 := Lib.hid (h2.size)
          clear h2 hi1 r0 r1 f0 f1 z1 c0 c1
          obtain ⟨r0, r1, f0, f1⟩ := HR2.out
          have z2 := HR2.out.blk
          go_wp2_with fail
          refine (HP2.out _ HO2.out).mono ?_
          rintro e w3 ⟨v2, rfl, hi2, h3⟩
          have HJ1 := Lib.hid (HI1.out.below h3)
          have HJ2 := Lib.hid hi2
          have HO3 := Lib.hid (HO2.out.trans h3)
          have HR3 := Lib.hid (HR2.out.on h3)
          have s23 := Lib.hid (h3.size)
          have HI1' := HI1
          clear h3 hi2 r0 r1 f0 f1 z2 d1 hg hg2 HI1
          obtain ⟨r0, r1, f0, f1⟩ := HR3.out
          have z3 := HR3.out.blk
          obtain ⟨x1, k1, rfl, -⟩ := id HJ1.out
          obtain ⟨x2, k2, rfl, -⟩ := id HJ2.out
          go_wp2_with (go_at_call 8; refine (HMT.out (rlV p) (rlV q) _ _ (by omega) (by omega) _ (HO3.out.trans (by repeat (first | with_reducible exact On.refl _ | apply On.alloc | refine On.setCell ?_ (by (try simp) <;> omega) _))) (HJ1.out.ints.below (by repeat (first | with_reducible exact On.refl _ | apply On.alloc | refine On.setCell ?_ (by (try simp) <;> omega) _))) (HJ2.out.ints.below (by repeat (first | with_reducible exact On.refl _ | apply On.alloc | refine On.setCell ?_ (by (try simp) <;> omega) _)))).mono ?_; rw [HT.out]; rintro e w4 ⟨rfl, h4⟩; have R4 : Res w4 w.heap.size := Res.on ⟨by simp [go_sem, z3, r0], by simp [go_sem, z3, r1], by simp [go_sem, z3, f0], by simp [go_sem, z3, f1]⟩ h4; have P4 : In w4 w3.heap.size (.slice x1 (rlV p).length k1) (.slice x2 (rlV q).length k2) := In.on ⟨by simp [go_sem], by simp [go_sem]⟩ h4; have h34 : On w3 w4 := On.trans (by repeat (first | with_reducible exact On.refl _ | apply On.alloc | refine On.setCell ?_ (by (try simp) <;> omega) _)) h4; have HO4 := Lib.hid (HO3.out.trans h34); have HK1 := Lib.hid (HJ1.out.below h34); have HK2 := Lib.hid (HJ2.out.below h34); have z4 := R4.blk; have y4 := World.block_lt_of_cell? w4 _ P4.1; clear h4 h34 r0 r1 f0 f1; obtain ⟨r0, r1, f0, f1⟩ := R4; obtain ⟨t0, t1⟩ := P4)
          have HB1 := Lib.hid (HK1.out.mono (B' := w.heap.size + 1) (by have := HR1.out.blk; omega))
          have HB2 := Lib.hid (HK2.out.mono (B' := w.heap.size + 1) (by have := HR2.out.blk; omega))
          have HDD := Lib.hid (show 0 < (rlV p).length → 0 < (rlV q).length → ∀ a b, x1 = some a → x2 = some b → a.block ≠ b.block from fun h1 h2 a b ha hb => by
            obtain ⟨a', e1, -, l1⟩ := own_ge' rfl HI1'.out h1
            obtain ⟨b', e2, l2, -⟩ := own_ge' rfl HJ2.out h2
            rw [ha] at e1
            rw [hb] at e2
            cases e1
            cases e2
            omega)
          refine bodyPost_ret (v := .tuple #[.agg #[.slice x1 (rlV p).length k1, .slice x2 (rlV q).length k2], .bool true]) (by simp [results, Tryd.results11, go_sem, r0, r1]) rfl ⟨_, _, _, _, rfl, ⟨rfl, rfl, ?_, ?_, ?_⟩, ?_⟩
          · refine Own.mono (B := w.heap.size + 1) ?_ (by omega)
            repeat (first | with_reducible exact HB1.out | refine Own.setCell ?_ (by (try simp) <;> omega) _)
          · refine Own.mono (B := w.heap.size + 1) ?_ (by omega)
            repeat (first | with_reducible exact HB2.out | refine Own.setCell ?_ (by (try simp) <;> omega) _)
          · exact HDD.out
          · repeat (first | with_reducible exact HO4.out | refine On.setCell ?_ (by (try simp) <;> omega) _)
        · have HT := Lib.hid (show (textV (okM (rlV p) (rlV q)) (rlV p) (rlV q)).toList ≠ s.toList by
            rw [ByteArray.toList_eq s]
            cases g4 : okM (rlV p) (rlV q) with
            | false => intro h; exact hsn (by rw [← h]; unfold textV; rw [if_neg (by decide), ByteArray.toList_eq])
            | true => intro h; unfold textV at h; rw [if_pos rfl, mskT_list] at h; exact g3 ⟨g4, h⟩)
          have en := Lib.hid (rm_none (rm_words_bad hps (fun h => g3 ⟨h.2.2.1, h.2.2.2⟩)))
          obtain ⟨e1, e2, e3⟩ := en.out
          rw [e1, e2, e3]
          clear e1 e2 e3 en
          rw [g1] at HP1
          rw [g2] at HP2
          obtain ⟨tx, htx⟩ : ∃ tx, tx = textV (okM (rlV p) (rlV q)) (rlV p) (rlV q) := ⟨_, rfl⟩
          have hne : ¬ tx.toList = s.toList := by rw [htx]; exact HT.out
          have hne2 : (tx.toList == s.toList) = false := beq_eq_false_iff_ne.2 hne
          have HTX := Lib.hid htx
          clear g3 htx HT
          go_enter Tryd.func11, Tryd.ntmps11
          go_wp2_with fail
          refine (HSP.out _ (by repeat (first | with_reducible exact On.refl _ | apply On.alloc))).mono ?_
          rintro e w1 ⟨v, rfl, hown, h1⟩
          rw [hps] at hown
          obtain ⟨av, capv, rfl, hcv⟩ := hown
          have R1 : Res w1 w.heap.size := Res.on ⟨by simp [go_sem], by simp [go_sem], by simp [go_sem], by simp [go_sem]⟩ h1
          have HO1 := Lib.hid (On.trans (On.alloc (On.refl w) _) h1)
          have HR1 := Lib.hid R1
          obtain ⟨r0, r1, f0, f1⟩ := R1
          have z1 := HR1.out.blk
          clear h1
          obtain ⟨g, off, rfl, -, hg, -, hc⟩ := hcv (by simp [texts])
          have c0 : w1.cell? ⟨g, off, none⟩ = some (.string ⟨p.toArray⟩) := hc 0 (by simp [texts])
          have c1 : w1.cell? ⟨g, off + 1, none⟩ = some (.string ⟨q.toArray⟩) := hc 1 (by simp [texts])
          have hlen : (texts [p, q]).length = 2 := rfl
          rw [hlen]
          clear hc hcv hlen
          go_wp2_with fail
          refine (HP1.out _ HO1.out).mono ?_
          rintro e w2 ⟨v1, rfl, hi1, h2⟩
          have HI1 := Lib.hid hi1
          have HO2 := Lib.hid (HO1.out.trans h2)
          have HR2 := Lib.hid (HR1.out.on h2)
          have d1 := (h2.cell (by exact hg)).trans c1
          have hg2 := h2.lts _ hg
          have s12 := Lib.hid (h2.size)
          clear h2 hi1 r0 r1 f0 f1 z1 c0 c1
          obtain ⟨r0, r1, f0, f1⟩ := HR2.out
          have z2 := HR2.out.blk
          go_wp2_with fail
          refine (HP2.out _ HO2.out).mono ?_
          rintro e w3 ⟨v2, rfl, hi2, h3⟩
          have HJ1 := Lib.hid (HI1.out.below h3)
          have HJ2 := Lib.hid hi2
          have HO3 := Lib.hid (HO2.out.trans h3)
          have HR3 := Lib.hid (HR2.out.on h3)
          have s23 := Lib.hid (h3.size)
          clear h3 hi2 r0 r1 f0 f1 z2 d1 hg hg2 HI1
          obtain ⟨r0, r1, f0, f1⟩ := HR3.out
          have z3 := HR3.out.blk
          obtain ⟨x1, k1, rfl, -⟩ := id HJ1.out
          obtain ⟨x2, k2, rfl, -⟩ := id HJ2.out
          go_wp2_with (go_at_call 8; refine (HMT.out (rlV p) (rlV q) _ _ (by omega) (by omega) _ (HO3.out.trans (by repeat (first | with_reducible exact On.refl _ | apply On.alloc | refine On.setCell ?_ (by (try simp) <;> omega) _))) (HJ1.out.ints.below (by repeat (first | with_reducible exact On.refl _ | apply On.alloc | refine On.setCell ?_ (by (try simp) <;> omega) _))) (HJ2.out.ints.below (by repeat (first | with_reducible exact On.refl _ | apply On.alloc | refine On.setCell ?_ (by (try simp) <;> omega) _)))).mono ?_; rw [← HTX.out]; rintro e w4 ⟨rfl, h4⟩; have R4 : Res w4 w.heap.size := Res.on ⟨by simp [go_sem, z3, r0], by simp [go_sem, z3, r1], by simp [go_sem, z3, f0], by simp [go_sem, z3, f1]⟩ h4; have P4 : In w4 w3.heap.size (.slice x1 (rlV p).length k1) (.slice x2 (rlV q).length k2) := In.on ⟨by simp [go_sem], by simp [go_sem]⟩ h4; have h34 : On w3 w4 := On.trans (by repeat (first | with_reducible exact On.refl _ | apply On.alloc | refine On.setCell ?_ (by (try simp) <;> omega) _)) h4; have HO4 := Lib.hid (HO3.out.trans h34); have HK1 := Lib.hid (HJ1.out.below h34); have HK2 := Lib.hid (HJ2.out.below h34); have z4 := R4.blk; have y4 := World.block_lt_of_cell? w4 _ P4.1; clear h4 h34 r0 r1 f0 f1; obtain ⟨r0, r1, f0, f1⟩ := R4; obtain ⟨t0, t1⟩ := P4)
          refine bodyPost_ret (v := .tuple #[.agg #[.slice none 0 0, .slice none 0 0], .bool false]) (by simp [results, Tryd.results11, go_sem, r0, r1]) rfl ⟨_, _, _, _, rfl, ⟨rfl, rfl, nil1 _ _, nil1 _ _, fun h _ => absurd h (by decide)⟩, ?_⟩
          repeat (first | with_reducible exact HO4.out | apply On.alloc | refine On.setCell ?_ (by (try simp) <;> omega) _)
  · have en := Lib.hid (rm_none (rm_words_len (l := s.data.toList) (by rw [hps]; exact h2)))
    obtain ⟨e1, e2, e3⟩ := en.out
    rw [e1, e2, e3]
    clear e1 e2 e3 HRL hplen
    have b1 : (((ps.length : Nat) : Int) == 2) = false := beq_eq_false_iff_ne.2 (by omega)
    have b2 : (((ps.length : Nat) : Int) != 2) = true := by rw [bne, b1]; rfl
    go_enter Tryd.func11, Tryd.ntmps11
    go_wp2_with fail
    refine (HSP.out _ (by repeat (first | with_reducible exact On.refl _ | apply On.alloc))).mono ?_
    rintro e w1 ⟨v, rfl, hown, h1⟩
    rw [hps] at hown
    obtain ⟨av, capv, rfl, hcv⟩ := hown
    have R1 : Res w1 w.heap.size := Res.on ⟨by simp [go_sem], by simp [go_sem], by simp [go_sem], by simp [go_sem]⟩ h1
    have HO1 := Lib.hid (On.trans (On.alloc (On.refl w) _) h1)
    have HR1 := Lib.hid R1
    obtain ⟨r0, r1, f0, f1⟩ := R1
    have z1 := HR1.out.blk
    clear h1
    rw [texts_length]
    clear hcv
    go_wp2_with fail
    refine bodyPost_ret (v := .tuple #[.agg #[.slice none 0 0, .slice none 0 0], .bool false]) (by simp [results, Tryd.results11, go_sem, r0, r1]) rfl ⟨_, _, _, _, rfl, ⟨rfl, rfl, nil1 _ _, nil1 _ _, fun h _ => absurd h (by decide)⟩, ?_⟩
    repeat (first | with_reducible exact HO1.out | apply On.alloc | refine On.setCell ?_ (by (try simp) <;> omega) _)
end Go.Proofs.YtjnkfpgglhgkaaaDoor.Msk
