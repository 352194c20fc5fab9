
/-
  The antenna with a text, in the model and in the program: an antenna of its own memory. Condition: at most 1048576 bytes; the library's tables and errors hold what its text lays.
-/
import Derived.Test.YtnambnddoebeiaaDoorRdAPlain
import Derived.Test.YtnambnddoebeiaaDoorAntOwn
import Derived.Test.YtnambnddoebeiaaDoorAntText
import Derived.Test.YtnambnddoebeiaaDoorReadListImpl
import Derived.Test.YtnambnddoebeiaaDoorReadDec
import Derived.Test.YtnambnddoebeiaaDoorWordsImpl
namespace Go.Proofs.YtnambnddoebeiaaDoor.RdA
open Go.RowKit
open Plain
open Ints (Ints Own)
open Words (texts texts_length)
open Ant (In OwnR okA textV)

/-- The block g holds an empty antenna that may be written. -/
def Res (w : World) (g : Nat) : Prop := In w g ⟨#[]⟩ 0 (.slice none 0 0) (.slice none 0 0) ∧ (w.frozen? ⟨g, 0, none⟩ = false ∧ w.frozen? ⟨g, 1, none⟩ = false ∧ w.frozen? ⟨g, 2, none⟩ = false ∧ w.frozen? ⟨g, 3, none⟩ = false)
theorem Res.blk {w : World} {g : Nat} (h : Res w g) : g < w.heap.size := World.block_lt_of_cell? w _ h.1.1
theorem Res.on {w w' : World} {g : Nat} (h : Res w g) (ho : On w w') : Res w' g := by
  have hg := h.blk
  exact ⟨h.1.on ho, (ho.frozen (by exact hg)).trans h.2.1, (ho.frozen (by exact hg)).trans h.2.2.1, (ho.frozen (by exact hg)).trans h.2.2.2.1, (ho.frozen (by exact hg)).trans h.2.2.2.2⟩
theorem ints_far {w : World} {v : Value} {zs : List Int} {g : Nat} (h : Ints w v zs) (hne : ∀ a c b off, v = .slice a zs.length c → 0 < zs.length → a = some ⟨b, off, none⟩ → b ≠ g) (u0 u1 u2 u3 : Value) :
    Ints ((((w.setCell ⟨g, 0, none⟩ u0).setCell ⟨g, 1, none⟩ u1).setCell ⟨g, 2, none⟩ u2).setCell ⟨g, 3, none⟩ u3) v zs := by
  obtain ⟨a, cap, hv, hc⟩ := h
  refine ⟨a, cap, hv, fun hn => ?_⟩
  obtain ⟨b, off, ha, hlt, hcell⟩ := hc hn
  have hb := hne a cap b off hv hn ha
  refine ⟨b, off, ha, by simpa using hlt, fun i hi => ?_⟩
  have e := hcell i hi
  have nq : ∀ q, (⟨g, q, none⟩ : Addr) ≠ ⟨b, off + i, none⟩ := fun q h => by injection h with h1 h2 h3; exact hb h1.symm
  rw [World.cell?_setCell_other (h := nq 3), World.cell?_setCell_other (h := nq 2), World.cell?_setCell_other (h := nq 1), World.cell?_setCell_other (h := nq 0)]
  exact e
theorem far_of {w w5 : World} {t : TypeId} {c0 c1 c2 c3 : Value} {v : Value} {zs : List Int} (ho : On (w.alloc (.cells #[c0, c1, c2, c3] t)) w5) (h : Ints w5 v zs) (hl : 4 < zs.length) : ∀ a c b off, v = .slice a zs.length c → 0 < zs.length → a = some ⟨b, off, none⟩ → b ≠ w.heap.size := by
  intro a c b off hv h0 ha hb
  obtain ⟨a', cap, hv', hc⟩ := h
  rw [hv] at hv'
  injection hv' with e1 e2 e3
  subst e1
  obtain ⟨b', off', ha', hlt, hcell⟩ := hc h0
  rw [ha] at ha'
  cases ha'
  subst hb
  have e := hcell 4 hl
  rw [ho.cell (by simp)] at e
  rw [World.cell?_alloc_mark] at e
  simp at e
theorem own_set4 {B : Nat} {w : World} {v : Value} {zs : List Int} {g : Nat} (h : Own B w v zs) (hg : g < B) (u0 u1 u2 u3 : Value) : Own B ((((w.setCell ⟨g, 0, none⟩ u0).setCell ⟨g, 1, none⟩ u1).setCell ⟨g, 2, none⟩ u2).setCell ⟨g, 3, none⟩ u3) v zs :=
  (((h.setCell (by exact hg) _).setCell (by exact hg) _).setCell (by exact hg) _).setCell (by exact hg) _
theorem nil1 (B : Nat) (w : World) : Own B w (.slice none 0 0) [] := Own.empty B w none 0
theorem ret_mb {v : Value} {a b : Bool} (h : a = b) : Ending.returned (.tuple #[v, .bool a]) = .returned (.tuple #[v, .bool b]) := by rw [h]
theorem own_ge' {B : Nat} {w : World} {a : Option Addr} {n cap : Nat} {zs : List Int} (hz : zs.length = n) (h : Own B w (.slice a n cap) zs) (h0 : 0 < n) : ∃ q, a = some q ∧ B ≤ q.block ∧ q.block < w.heap.size := by
  subst hz
  obtain ⟨a', cap', hv, hc⟩ := h
  cases hv
  obtain ⟨b, off, ha, hB, hlt, _⟩ := hc h0
  exact ⟨_, ha, hB, hlt⟩
theorem str_size {p : List UInt8} {n : Nat} (h : p.length ≤ n) : (⟨p.toArray⟩ : ByteArray).size ≤ n := by simpa [ByteArray.size] using h
theorem str_eq {s t : ByteArray} (h : t.data.toList = s.data.toList) : t = s := ByteArray.ext (Array.toList_inj.1 h)
theorem words_some {l a p q r : List UInt8} (h : words l = [a, p, q, r]) : l ≠ [] := by
  intro e
  subst e
  unfold words wordsTo at h
  simp [pieces] at h
set_option maxRecDepth 100000 in
set_option maxHeartbeats 8000000 in
theorem spec_ReadAntenna (s : ByteArray) (w : World) (hs : s.size ≤ 1048576) :
    Calls Tryd.prog 5 #[.string s] w fun e w' => ∃ a2 c2 a3 c3, e = .returned (.tuple #[.agg #[.string (raN s.data.toList), .int .i64 (raG s.data.toList), .slice a2 (raH s.data.toList).length c2, .slice a3 (raV s.data.toList).length c3], .bool (raB s.data.toList)]) ∧ Ints w' (.slice a2 (raH s.data.toList).length c2) (raH s.data.toList) ∧ Ints w' (.slice a3 (raV s.data.toList).length c3) (raV s.data.toList) ∧ On w w' := by
  have HSP := Lib.hid (fun w => Split.spec_split s 32 32 rfl w hs)
  have hplen : ∀ p ∈ pieces 32 s.data.toList, p.length ≤ 1048576 := fun p hp => Nat.le_trans (ReadPt.len_le_of_piece hp (Nat.le_refl _)) (by rw [Num.len_data]; exact hs)
  have HRL := Lib.hid (fun (p : List UInt8) (hp : p.length ≤ 1048576) w => show Calls Tryd.prog 17 #[.string ⟨p.toArray⟩] w fun e w' => ∃ v, e = .returned (.tuple #[v, .bool (rlB p)]) ∧ Ints w' v (rlV p) ∧ On w w' from ReadList.spec_readList ⟨p.toArray⟩ w (str_size hp))
  have HRN := Lib.hid (fun (p : List UInt8) (hp : p.length ≤ 1048576) w => show Calls Tryd.prog 16 #[.string ⟨p.toArray⟩] w (fun e w' => e = .returned (.tuple #[.int .i64 (numV p), .bool (numB p)]) ∧ w = w') from Num.spec_l01Number ⟨p.toArray⟩ w (str_size hp))
  obtain ⟨ps, hps⟩ : ∃ ps, pieces 32 s.data.toList = ps := ⟨_, rfl⟩
  by_cases h4 : ps.length = 4
  · obtain ⟨a, p, q, r, rfl⟩ := four_of h4
    clear h4
    have hal := hplen a (by rw [hps]; simp)
    have hpl := hplen p (by rw [hps]; simp)
    have hql := hplen q (by rw [hps]; simp)
    have hrl := hplen r (by rw [hps]; simp)
    have HPN := Lib.hid (HRN.out p hpl)
    have HP1 := Lib.hid (HRL.out q hql)
    have HP2 := Lib.hid (HRL.out r hrl)
    have lq := rlV_len q
    have lr := rlV_len r
    have ha1 : (⟨a.toArray⟩ : ByteArray).size ≤ 1048576 := str_size hal
    clear HRL HRN hplen hpl hql hrl hal
    have HOK := Lib.hid (fun g v0 v1 w' (h0 : Ints w' v0 (rlV q)) (h1 : Ints w' v1 (rlV r)) hp => (Ant.spec_ok g ⟨a.toArray⟩ (numV p) v0 v1 (rlV q) (rlV r) w' ha1 (by omega) (by omega) hp h0 h1).mono (fun _ w2 (hx : _ ∧ w' = w2) => And.intro hx.1 (show On w' w2 from hx.2 ▸ On.refl _)))
    cases g1 : numB p with
    | false =>
      have en := Lib.hid (ra_none (ra_bad hps (ok_no (fun h => by rw [g1] at h; cases h.1))))
      obtain ⟨e1, e2, e3, e4, e5⟩ := en.out
      rw [e1, e2, e3, e4, e5]
      clear e1 e2 e3 e4 e5 en
      rw [g1] at HPN
      go_enter Tryd.func5, Tryd.ntmps5
      go_wp2_with fail
      refine (HSP.out _).mono ?_
      rintro e w1 ⟨v, rfl, hown, h1⟩
      rw [hps] at hown
      obtain ⟨g, cap, rfl, -, hg, hc⟩ := ReadPt.row_strs hown (by simp)
      have R1 : Res w1 w.heap.size := Res.on ⟨⟨by simp [go_sem], by simp [go_sem], by simp [go_sem], by simp [go_sem]⟩, by simp [go_sem], by simp [go_sem], by simp [go_sem], by simp [go_sem]⟩ h1
      have HO1 := Lib.hid (On.trans (On.alloc (On.refl w) _) h1)
      have HG1 := Lib.hid h1
      have HR1 := Lib.hid R1
      obtain ⟨⟨r0, r1, r2, r3⟩, f0, f1, f2, f3⟩ := R1
      have z1 := HR1.out.blk
      clear h1
      have c0 : w1.cell? ⟨g, 0, none⟩ = some (.string ⟨a.toArray⟩) := hc 0 (by simp)
      have c1 : w1.cell? ⟨g, 1, none⟩ = some (.string ⟨p.toArray⟩) := hc 1 (by simp)
      have c2 : w1.cell? ⟨g, 2, none⟩ = some (.string ⟨q.toArray⟩) := hc 2 (by simp)
      have c3 : w1.cell? ⟨g, 3, none⟩ = some (.string ⟨r.toArray⟩) := hc 3 (by simp)
      have hlen : [a, p, q, r].length = 4 := rfl
      rw [hlen]
      clear hc hown hlen
      go_wp2_with fail
      refine (HPN.out _).mono ?_
      rintro e w2 ⟨rfl, rfl⟩
      go_wp2_with fail
      refine (HP1.out _).mono ?_
      rintro e w3 ⟨v1, rfl, hi1, h3⟩
      have HI1 := Lib.hid hi1
      have HO3 := Lib.hid (HO1.out.trans h3)
      have HG3 := Lib.hid (On.trans HG1.out h3)
      have HR3 := Lib.hid (HR1.out.on h3)
      have c03 := (h3.cell (by exact hg)).trans c0
      have c33 := (h3.cell (by exact hg)).trans c3
      have hg3 := h3.lts _ hg
      have s23 := Lib.hid h3.size
      clear h3 hi1 r0 r1 r2 r3 f0 f1 f2 f3 z1 c0 c2 c3 c1
      obtain ⟨⟨r0, r1, r2, r3⟩, f0, f1, f2, f3⟩ := HR3.out
      have z3 := HR3.out.blk
      go_wp2_with fail
      refine (HP2.out _).mono ?_
      rintro e w4 ⟨v2, rfl, hi2, h4⟩
      have HI1' := HI1
      have HJ1 := Lib.hid (HI1.out.below h4)
      have HJ2 := Lib.hid hi2
      have HO4 := Lib.hid (HO3.out.trans h4)
      have HG4 := Lib.hid (On.trans HG3.out h4)
      have HR4 := Lib.hid (HR3.out.on h4)
      have c04 := (h4.cell (by exact hg3)).trans c03
      have hg4 := h4.lts _ hg3
      clear h4 hi2 r0 r1 r2 r3 f0 f1 f2 f3 z3 c03 c33 HI1
      obtain ⟨⟨r0, r1, r2, r3⟩, f0, f1, f2, f3⟩ := HR4.out
      have z4 := HR4.out.blk
      obtain ⟨x1, k1, rfl, -⟩ := id HJ1.out
      obtain ⟨x2, k2, rfl, -⟩ := id HJ2.out
      go_wp2_with fail
      refine bodyPost_ret (v := .tuple #[.agg #[.string ⟨#[]⟩, .int .i64 0, .slice none 0 0, .slice none 0 0], .bool false]) (by simp [results, Tryd.results5, go_sem, z4, r0, r1, r2, r3]) rfl ⟨_, _, _, _, rfl, (nil1 0 _).ints, (nil1 0 _).ints, ?_⟩
      repeat (first | with_reducible exact HO4.out | apply On.alloc | refine On.setCell ?_ (by (try simp) <;> omega) _)
    | true =>
      cases g2 : rlB q with
      | false =>
        have en := Lib.hid (ra_none (ra_bad hps (ok_no (fun h => by rw [g2] at h; cases h.2.1))))
        obtain ⟨e1, e2, e3, e4, e5⟩ := en.out
        rw [e1, e2, e3, e4, e5]
        clear e1 e2 e3 e4 e5 en
        rw [g1] at HPN
        rw [g2] at HP1
        go_enter Tryd.func5, Tryd.ntmps5
        go_wp2_with fail
        refine (HSP.out _).mono ?_
        rintro e w1 ⟨v, rfl, hown, h1⟩
        rw [hps] at hown
        obtain ⟨g, cap, rfl, -, hg, hc⟩ := ReadPt.row_strs hown (by simp)
        have R1 : Res w1 w.heap.size := Res.on ⟨⟨by simp [go_sem], by simp [go_sem], by simp [go_sem], by simp [go_sem]⟩, by simp [go_sem], by simp [go_sem], by simp [go_sem], by simp [go_sem]⟩ h1
        have HO1 := Lib.hid (On.trans (On.alloc (On.refl w) _) h1)
        have HG1 := Lib.hid h1
        have HR1 := Lib.hid R1
        obtain ⟨⟨r0, r1, r2, r3⟩, f0, f1, f2, f3⟩ := R1
        have z1 := HR1.out.blk
        clear h1
        have c0 : w1.cell? ⟨g, 0, none⟩ = some (.string ⟨a.toArray⟩) := hc 0 (by simp)
        have c1 : w1.cell? ⟨g, 1, none⟩ = some (.string ⟨p.toArray⟩) := hc 1 (by simp)
        have c2 : w1.cell? ⟨g, 2, none⟩ = some (.string ⟨q.toArray⟩) := hc 2 (by simp)
        have c3 : w1.cell? ⟨g, 3, none⟩ = some (.string ⟨r.toArray⟩) := hc 3 (by simp)
        have hlen : [a, p, q, r].length = 4 := rfl
        rw [hlen]
        clear hc hown hlen
        go_wp2_with fail
        refine (HPN.out _).mono ?_
        rintro e w2 ⟨rfl, rfl⟩
        go_wp2_with fail
        refine (HP1.out _).mono ?_
        rintro e w3 ⟨v1, rfl, hi1, h3⟩
        have HI1 := Lib.hid hi1
        have HO3 := Lib.hid (HO1.out.trans h3)
        have HG3 := Lib.hid (On.trans HG1.out h3)
        have HR3 := Lib.hid (HR1.out.on h3)
        have c03 := (h3.cell (by exact hg)).trans c0
        have c33 := (h3.cell (by exact hg)).trans c3
        have hg3 := h3.lts _ hg
        have s23 := Lib.hid h3.size
        clear h3 hi1 r0 r1 r2 r3 f0 f1 f2 f3 z1 c0 c2 c3 c1
        obtain ⟨⟨r0, r1, r2, r3⟩, f0, f1, f2, f3⟩ := HR3.out
        have z3 := HR3.out.blk
        go_wp2_with fail
        refine (HP2.out _).mono ?_
        rintro e w4 ⟨v2, rfl, hi2, h4⟩
        have HI1' := HI1
        have HJ1 := Lib.hid (HI1.out.below h4)
        have HJ2 := Lib.hid hi2
        have HO4 := Lib.hid (HO3.out.trans h4)
        have HG4 := Lib.hid (On.trans HG3.out h4)
        have HR4 := Lib.hid (HR3.out.on h4)
        have c04 := (h4.cell (by exact hg3)).trans c03
        have hg4 := h4.lts _ hg3
        clear h4 hi2 r0 r1 r2 r3 f0 f1 f2 f3 z3 c03 c33 HI1
        obtain ⟨⟨r0, r1, r2, r3⟩, f0, f1, f2, f3⟩ := HR4.out
        have z4 := HR4.out.blk
        obtain ⟨x1, k1, rfl, -⟩ := id HJ1.out
        obtain ⟨x2, k2, rfl, -⟩ := id HJ2.out
        go_wp2_with fail
        refine bodyPost_ret (v := .tuple #[.agg #[.string ⟨#[]⟩, .int .i64 0, .slice none 0 0, .slice none 0 0], .bool false]) (by simp [results, Tryd.results5, go_sem, z4, r0, r1, r2, r3]) rfl ⟨_, _, _, _, rfl, (nil1 0 _).ints, (nil1 0 _).ints, ?_⟩
        repeat (first | with_reducible exact HO4.out | apply On.alloc | refine On.setCell ?_ (by (try simp) <;> omega) _)
      | true =>
        cases g3 : rlB r with
        | false =>
          have en := Lib.hid (ra_none (ra_bad hps (ok_no (fun h => by rw [g3] at h; cases h.2.2.1))))
          obtain ⟨e1, e2, e3, e4, e5⟩ := en.out
          rw [e1, e2, e3, e4, e5]
          clear e1 e2 e3 e4 e5 en
          rw [g1] at HPN
          rw [g2] at HP1
          rw [g3] at HP2
          go_enter Tryd.func5, Tryd.ntmps5
          go_wp2_with fail
          refine (HSP.out _).mono ?_
          rintro e w1 ⟨v, rfl, hown, h1⟩
          rw [hps] at hown
          obtain ⟨g, cap, rfl, -, hg, hc⟩ := ReadPt.row_strs hown (by simp)
          have R1 : Res w1 w.heap.size := Res.on ⟨⟨by simp [go_sem], by simp [go_sem], by simp [go_sem], by simp [go_sem]⟩, by simp [go_sem], by simp [go_sem], by simp [go_sem], by simp [go_sem]⟩ h1
          have HO1 := Lib.hid (On.trans (On.alloc (On.refl w) _) h1)
          have HG1 := Lib.hid h1
          have HR1 := Lib.hid R1
          obtain ⟨⟨r0, r1, r2, r3⟩, f0, f1, f2, f3⟩ := R1
          have z1 := HR1.out.blk
          clear h1
          have c0 : w1.cell? ⟨g, 0, none⟩ = some (.string ⟨a.toArray⟩) := hc 0 (by simp)
          have c1 : w1.cell? ⟨g, 1, none⟩ = some (.string ⟨p.toArray⟩) := hc 1 (by simp)
          have c2 : w1.cell? ⟨g, 2, none⟩ = some (.string ⟨q.toArray⟩) := hc 2 (by simp)
          have c3 : w1.cell? ⟨g, 3, none⟩ = some (.string ⟨r.toArray⟩) := hc 3 (by simp)
          have hlen : [a, p, q, r].length = 4 := rfl
          rw [hlen]
          clear hc hown hlen
          go_wp2_with fail
          refine (HPN.out _).mono ?_
          rintro e w2 ⟨rfl, rfl⟩
          go_wp2_with fail
          refine (HP1.out _).mono ?_
          rintro e w3 ⟨v1, rfl, hi1, h3⟩
          have HI1 := Lib.hid hi1
          have HO3 := Lib.hid (HO1.out.trans h3)
          have HG3 := Lib.hid (On.trans HG1.out h3)
          have HR3 := Lib.hid (HR1.out.on h3)
          have c03 := (h3.cell (by exact hg)).trans c0
          have c33 := (h3.cell (by exact hg)).trans c3
          have hg3 := h3.lts _ hg
          have s23 := Lib.hid h3.size
          clear h3 hi1 r0 r1 r2 r3 f0 f1 f2 f3 z1 c0 c2 c3 c1
          obtain ⟨⟨r0, r1, r2, r3⟩, f0, f1, f2, f3⟩ := HR3.out
          have z3 := HR3.out.blk
          go_wp2_with fail
          refine (HP2.out _).mono ?_
          rintro e w4 ⟨v2, rfl, hi2, h4⟩
          have HI1' := HI1
          have HJ1 := Lib.hid (HI1.out.below h4)
          have HJ2 := Lib.hid hi2
          have HO4 := Lib.hid (HO3.out.trans h4)
          have HG4 := Lib.hid (On.trans HG3.out h4)
          have HR4 := Lib.hid (HR3.out.on h4)
          have c04 := (h4.cell (by exact hg3)).trans c03
          have hg4 := h4.lts _ hg3
          clear h4 hi2 r0 r1 r2 r3 f0 f1 f2 f3 z3 c03 c33 HI1
          obtain ⟨⟨r0, r1, r2, r3⟩, f0, f1, f2, f3⟩ := HR4.out
          have z4 := HR4.out.blk
          obtain ⟨x1, k1, rfl, -⟩ := id HJ1.out
          obtain ⟨x2, k2, rfl, -⟩ := id HJ2.out
          go_wp2_with fail
          refine bodyPost_ret (v := .tuple #[.agg #[.string ⟨#[]⟩, .int .i64 0, .slice none 0 0, .slice none 0 0], .bool false]) (by simp [results, Tryd.results5, go_sem, z4, r0, r1, r2, r3]) rfl ⟨_, _, _, _, rfl, (nil1 0 _).ints, (nil1 0 _).ints, ?_⟩
          repeat (first | with_reducible exact HO4.out | apply On.alloc | refine On.setCell ?_ (by (try simp) <;> omega) _)
        | true =>
          cases g4 : okA ⟨a.toArray⟩ (numV p) (rlV q) (rlV r) with
          | false =>
            have en := Lib.hid (ra_none (ra_bad hps (ok_no (fun h => by rw [g4] at h; cases h.2.2.2))))
            obtain ⟨e1, e2, e3, e4, e5⟩ := en.out
            rw [e1, e2, e3, e4, e5]
            clear e1 e2 e3 e4 e5 en
            rw [g1] at HPN
            rw [g2] at HP1
            rw [g3] at HP2
            rw [g4] at HOK
            go_enter Tryd.func5, Tryd.ntmps5
            go_wp2_with fail
            refine (HSP.out _).mono ?_
            rintro e w1 ⟨v, rfl, hown, h1⟩
            rw [hps] at hown
            obtain ⟨g, cap, rfl, -, hg, hc⟩ := ReadPt.row_strs hown (by simp)
            have R1 : Res w1 w.heap.size := Res.on ⟨⟨by simp [go_sem], by simp [go_sem], by simp [go_sem], by simp [go_sem]⟩, by simp [go_sem], by simp [go_sem], by simp [go_sem], by simp [go_sem]⟩ h1
            have HO1 := Lib.hid (On.trans (On.alloc (On.refl w) _) h1)
            have HG1 := Lib.hid h1
            have HR1 := Lib.hid R1
            obtain ⟨⟨r0, r1, r2, r3⟩, f0, f1, f2, f3⟩ := R1
            have z1 := HR1.out.blk
            clear h1
            have c0 : w1.cell? ⟨g, 0, none⟩ = some (.string ⟨a.toArray⟩) := hc 0 (by simp)
            have c1 : w1.cell? ⟨g, 1, none⟩ = some (.string ⟨p.toArray⟩) := hc 1 (by simp)
            have c2 : w1.cell? ⟨g, 2, none⟩ = some (.string ⟨q.toArray⟩) := hc 2 (by simp)
            have c3 : w1.cell? ⟨g, 3, none⟩ = some (.string ⟨r.toArray⟩) := hc 3 (by simp)
            have hlen : [a, p, q, r].length = 4 := rfl
            rw [hlen]
            clear hc hown hlen
            go_wp2_with fail
            refine (HPN.out _).mono ?_
            rintro e w2 ⟨rfl, rfl⟩
            go_wp2_with fail
            refine (HP1.out _).mono ?_
            rintro e w3 ⟨v1, rfl, hi1, h3⟩
            have HI1 := Lib.hid hi1
            have HO3 := Lib.hid (HO1.out.trans h3)
            have HG3 := Lib.hid (On.trans HG1.out h3)
            have HR3 := Lib.hid (HR1.out.on h3)
            have c03 := (h3.cell (by exact hg)).trans c0
            have c33 := (h3.cell (by exact hg)).trans c3
            have hg3 := h3.lts _ hg
            have s23 := Lib.hid h3.size
            clear h3 hi1 r0 r1 r2 r3 f0 f1 f2 f3 z1 c0 c2 c3 c1
            obtain ⟨⟨r0, r1, r2, r3⟩, f0, f1, f2, f3⟩ := HR3.out
            have z3 := HR3.out.blk
            go_wp2_with fail
            refine (HP2.out _).mono ?_
            rintro e w4 ⟨v2, rfl, hi2, h4⟩
            have HI1' := HI1
            have HJ1 := Lib.hid (HI1.out.below h4)
            have HJ2 := Lib.hid hi2
            have HO4 := Lib.hid (HO3.out.trans h4)
            have HG4 := Lib.hid (On.trans HG3.out h4)
            have HR4 := Lib.hid (HR3.out.on h4)
            have c04 := (h4.cell (by exact hg3)).trans c03
            have hg4 := h4.lts _ hg3
            clear h4 hi2 r0 r1 r2 r3 f0 f1 f2 f3 z3 c03 c33 HI1
            obtain ⟨⟨r0, r1, r2, r3⟩, f0, f1, f2, f3⟩ := HR4.out
            have z4 := HR4.out.blk
            obtain ⟨x1, k1, rfl, -⟩ := id HJ1.out
            obtain ⟨x2, k2, rfl, -⟩ := id HJ2.out
            go_wp2_with (go_at_call 18; refine (HOK.out _ _ _ _ (HJ1.out.below (by repeat (first | with_reducible exact On.refl _ | apply On.alloc | refine On.setCell ?_ (by (try simp) <;> omega) _))) (HJ2.out.below (by repeat (first | with_reducible exact On.refl _ | apply On.alloc | refine On.setCell ?_ (by (try simp) <;> omega) _))) ⟨by simp [go_sem], by simp [go_sem], by simp [go_sem], by simp [go_sem]⟩).mono ?_; rintro e w5 ⟨rfl, h5⟩; have R5 : Res w5 w.heap.size := Res.on ⟨⟨by simp [go_sem, z4, r0], by simp [go_sem, z4, r1], by simp [go_sem, z4, r2], by simp [go_sem, z4, r3]⟩, by simp [go_sem, z4, f0], by simp [go_sem, z4, f1], by simp [go_sem, z4, f2], by simp [go_sem, z4, f3]⟩ h5; have P5 : In w5 w4.heap.size ⟨a.toArray⟩ (numV p) (.slice x1 (rlV q).length k1) (.slice x2 (rlV r).length k2) := In.on ⟨by simp [go_sem], by simp [go_sem], by simp [go_sem], by simp [go_sem]⟩ h5; have h45 : On w4 w5 := On.trans (by repeat (first | with_reducible exact On.refl _ | apply On.alloc | refine On.setCell ?_ (by (try simp) <;> omega) _)) h5; have HO5 := Lib.hid (HO4.out.trans h45); have HG5 := Lib.hid (On.trans HG4.out h45); have HK1 := Lib.hid (HJ1.out.below h45); have HK2 := Lib.hid (HJ2.out.below h45); have z5 := R5.blk; have y5 := World.block_lt_of_cell? w5 _ P5.1; clear h5 h45 r0 r1 r2 r3 f0 f1 f2 f3; obtain ⟨⟨r0, r1, r2, r3⟩, f0, f1, f2, f3⟩ := R5; obtain ⟨t0, t1, t2, t3⟩ := P5)
            refine bodyPost_ret (v := .tuple #[.agg #[.string ⟨#[]⟩, .int .i64 0, .slice none 0 0, .slice none 0 0], .bool false]) (by simp [results, Tryd.results5, go_sem, r0, r1, r2, r3]) rfl ⟨_, _, _, _, rfl, (nil1 0 _).ints, (nil1 0 _).ints, ?_⟩
            repeat (first | with_reducible exact HO5.out | apply On.alloc | refine On.setCell ?_ (by (try simp) <;> omega) _)
          | true =>
            obtain ⟨-, -, k1, k2⟩ := Ant.of_okA g4
            have l1 : 4 < (rlV q).length := by rw [(Ant.of_loss k1).1]; decide
            have l2 : 4 < (rlV r).length := by rw [(Ant.of_loss k2).1]; decide
            clear k1 k2
            have en := Lib.hid (ra_some (ra_good hps (ok_yes g1 g2 g3 g4)))
            obtain ⟨e1, e2, e3, e4, e5⟩ := en.out
            rw [e1, e2, e3, e4, e5]
            clear e1 e2 e3 e4 e5 en
            rw [g1] at HPN
            rw [g2] at HP1
            rw [g3] at HP2
            rw [g4] at HOK
            go_enter Tryd.func5, Tryd.ntmps5
            go_wp2_with fail
            refine (HSP.out _).mono ?_
            rintro e w1 ⟨v, rfl, hown, h1⟩
            rw [hps] at hown
            obtain ⟨g, cap, rfl, -, hg, hc⟩ := ReadPt.row_strs hown (by simp)
            have R1 : Res w1 w.heap.size := Res.on ⟨⟨by simp [go_sem], by simp [go_sem], by simp [go_sem], by simp [go_sem]⟩, by simp [go_sem], by simp [go_sem], by simp [go_sem], by simp [go_sem]⟩ h1
            have HO1 := Lib.hid (On.trans (On.alloc (On.refl w) _) h1)
            have HG1 := Lib.hid h1
            have HR1 := Lib.hid R1
            obtain ⟨⟨r0, r1, r2, r3⟩, f0, f1, f2, f3⟩ := R1
            have z1 := HR1.out.blk
            clear h1
            have c0 : w1.cell? ⟨g, 0, none⟩ = some (.string ⟨a.toArray⟩) := hc 0 (by simp)
            have c1 : w1.cell? ⟨g, 1, none⟩ = some (.string ⟨p.toArray⟩) := hc 1 (by simp)
            have c2 : w1.cell? ⟨g, 2, none⟩ = some (.string ⟨q.toArray⟩) := hc 2 (by simp)
            have c3 : w1.cell? ⟨g, 3, none⟩ = some (.string ⟨r.toArray⟩) := hc 3 (by simp)
            have hlen : [a, p, q, r].length = 4 := rfl
            rw [hlen]
            clear hc hown hlen
            go_wp2_with fail
            refine (HPN.out _).mono ?_
            rintro e w2 ⟨rfl, rfl⟩
            go_wp2_with fail
            refine (HP1.out _).mono ?_
            rintro e w3 ⟨v1, rfl, hi1, h3⟩
            have HI1 := Lib.hid hi1
            have HO3 := Lib.hid (HO1.out.trans h3)
            have HG3 := Lib.hid (On.trans HG1.out h3)
            have HR3 := Lib.hid (HR1.out.on h3)
            have c03 := (h3.cell (by exact hg)).trans c0
            have c33 := (h3.cell (by exact hg)).trans c3
            have hg3 := h3.lts _ hg
            have s23 := Lib.hid h3.size
            clear h3 hi1 r0 r1 r2 r3 f0 f1 f2 f3 z1 c0 c2 c3 c1
            obtain ⟨⟨r0, r1, r2, r3⟩, f0, f1, f2, f3⟩ := HR3.out
            have z3 := HR3.out.blk
            go_wp2_with fail
            refine (HP2.out _).mono ?_
            rintro e w4 ⟨v2, rfl, hi2, h4⟩
            have HI1' := HI1
            have HJ1 := Lib.hid (HI1.out.below h4)
            have HJ2 := Lib.hid hi2
            have HO4 := Lib.hid (HO3.out.trans h4)
            have HG4 := Lib.hid (On.trans HG3.out h4)
            have HR4 := Lib.hid (HR3.out.on h4)
            have c04 := (h4.cell (by exact hg3)).trans c03
            have hg4 := h4.lts _ hg3
            clear h4 hi2 r0 r1 r2 r3 f0 f1 f2 f3 z3 c03 c33 HI1
            obtain ⟨⟨r0, r1, r2, r3⟩, f0, f1, f2, f3⟩ := HR4.out
            have z4 := HR4.out.blk
            obtain ⟨x1, k1, rfl, -⟩ := id HJ1.out
            obtain ⟨x2, k2, rfl, -⟩ := id HJ2.out
            go_wp2_with (go_at_call 18; refine (HOK.out _ _ _ _ (HJ1.out.below (by repeat (first | with_reducible exact On.refl _ | apply On.alloc | refine On.setCell ?_ (by (try simp) <;> omega) _))) (HJ2.out.below (by repeat (first | with_reducible exact On.refl _ | apply On.alloc | refine On.setCell ?_ (by (try simp) <;> omega) _))) ⟨by simp [go_sem], by simp [go_sem], by simp [go_sem], by simp [go_sem]⟩).mono ?_; rintro e w5 ⟨rfl, h5⟩; have R5 : Res w5 w.heap.size := Res.on ⟨⟨by simp [go_sem, z4, r0], by simp [go_sem, z4, r1], by simp [go_sem, z4, r2], by simp [go_sem, z4, r3]⟩, by simp [go_sem, z4, f0], by simp [go_sem, z4, f1], by simp [go_sem, z4, f2], by simp [go_sem, z4, f3]⟩ h5; have P5 : In w5 w4.heap.size ⟨a.toArray⟩ (numV p) (.slice x1 (rlV q).length k1) (.slice x2 (rlV r).length k2) := In.on ⟨by simp [go_sem], by simp [go_sem], by simp [go_sem], by simp [go_sem]⟩ h5; have h45 : On w4 w5 := On.trans (by repeat (first | with_reducible exact On.refl _ | apply On.alloc | refine On.setCell ?_ (by (try simp) <;> omega) _)) h5; have HO5 := Lib.hid (HO4.out.trans h45); have HG5 := Lib.hid (On.trans HG4.out h45); have HK1 := Lib.hid (HJ1.out.below h45); have HK2 := Lib.hid (HJ2.out.below h45); have z5 := R5.blk; have y5 := World.block_lt_of_cell? w5 _ P5.1; clear h5 h45 r0 r1 r2 r3 f0 f1 f2 f3; obtain ⟨⟨r0, r1, r2, r3⟩, f0, f1, f2, f3⟩ := R5; obtain ⟨t0, t1, t2, t3⟩ := P5)
            have HBK1 := Lib.hid (far_of HG5.out HK1.out l1)
            have HBK2 := Lib.hid (far_of HG5.out HK2.out l2)
            refine bodyPost_ret (v := .tuple #[.agg #[.string ⟨a.toArray⟩, .int .i64 (numV p), .slice x1 (rlV q).length k1, .slice x2 (rlV r).length k2], .bool true]) (by simp [results, Tryd.results5, go_sem, r0, r1, r2, r3]) rfl ⟨_, _, _, _, rfl, ?_, ?_, ?_⟩
            · exact ints_far HK1.out (HBK1.out) _ _ _ _
            · exact ints_far HK2.out (HBK2.out) _ _ _ _
            · repeat (first | with_reducible exact HO5.out | refine On.setCell ?_ (by (try simp) <;> omega) _)
  · have en := Lib.hid (ra_none (ra_len (l := s.data.toList) (by rw [hps]; exact h4)))
    obtain ⟨e1, e2, e3, e4, e5⟩ := en.out
    rw [e1, e2, e3, e4, e5]
    clear e1 e2 e3 e4 e5 HRL HRN hplen
    have b1 : (((ps.length : Nat) : Int) == 4) = false := beq_eq_false_iff_ne.2 (by omega)
    have b2 : (((ps.length : Nat) : Int) != 4) = true := by rw [bne, b1]; rfl
    go_enter Tryd.func5, Tryd.ntmps5
    go_wp2_with fail
    refine (HSP.out _).mono ?_
    rintro e w1 ⟨v, rfl, hown, h1⟩
    rw [hps] at hown
    obtain ⟨g, cap, rfl, -, hg, hc⟩ := ReadPt.row_strs hown (by have := List.length_pos_iff.2 (pieces_ne 32 s.data.toList); rw [hps] at this; exact this)
    have R1 : Res w1 w.heap.size := Res.on ⟨⟨by simp [go_sem], by simp [go_sem], by simp [go_sem], by simp [go_sem]⟩, by simp [go_sem], by simp [go_sem], by simp [go_sem], by simp [go_sem]⟩ h1
    have HO1 := Lib.hid (On.trans (On.alloc (On.refl w) _) h1)
    have HG1 := Lib.hid h1
    have HR1 := Lib.hid R1
    obtain ⟨⟨r0, r1, r2, r3⟩, f0, f1, f2, f3⟩ := R1
    have z1 := HR1.out.blk
    clear h1
    clear hown hc hg
    go_wp2_with fail
    refine bodyPost_ret (v := .tuple #[.agg #[.string ⟨#[]⟩, .int .i64 0, .slice none 0 0, .slice none 0 0], .bool false]) (by simp [results, Tryd.results5, go_sem, r0, r1, r2, r3]) rfl ⟨_, _, _, _, rfl, (nil1 0 _).ints, (nil1 0 _).ints, ?_⟩
    repeat (first | with_reducible exact HO1.out | apply On.alloc | refine On.setCell ?_ (by (try simp) <;> omega) _)
set_option maxRecDepth 100000 in
set_option maxHeartbeats 8000000 in
theorem impl_ReadAntenna (s : ByteArray) (m : Int) (w : World) (hs : s.size ≤ 1048576) (hm : w.cell? ⟨2, 0, none⟩ = some (.int .i64 m)) (hw : Tabs.Sent w) (ht : Lib.TabBelow Tryd.prog w.heap.size w "internal/strconv.uint64pow10" .u64 Lib.pow10Tab) :
    Calls Tryd.prog 6 #[.string s] w fun e w' => ∃ a2 c2 a3 c3, e = .returned (.tuple #[.agg #[.string (raN s.data.toList), .int .i64 (raG s.data.toList), .slice a2 (raH s.data.toList).length c2, .slice a3 (raV s.data.toList).length c3], .bool (raB s.data.toList)]) ∧ OwnR w.heap.size w' a2 (raH s.data.toList).length c2 a3 (raV s.data.toList).length c3 (raH s.data.toList) (raV s.data.toList) ∧ On w w' := by
  have hmb := World.block_lt_of_cell? w _ hm
  have HSP := Lib.hid (fun w' (hb : On w w') => Words.impl_words s m w' hs ((hb.cell (by exact hmb)).trans hm))
  have hplen : ∀ p ∈ words s.data.toList, p.length ≤ 1048576 := fun p hp => Nat.le_trans (Msk.word_len hp) (by rw [Num.len_data]; exact hs)
  have HRL := Lib.hid (fun (p : List UInt8) (hp : p.length ≤ 1048576) w' (hb : On w w') => show Calls Tryd.prog 21 #[.string ⟨p.toArray⟩] w' fun e w'' => ∃ v, e = .returned (.tuple #[v, .bool (rlB p)]) ∧ Own w'.heap.size w'' v (rlV p) ∧ On w' w'' from
    ReadList.impl_readList ⟨p.toArray⟩ m w' (str_size hp) ((hb.cell (by exact hmb)).trans hm) (hw.below hb) (fun w'' hb2 => ht w'' (On.trans hb hb2)))
  have HRN := Lib.hid (fun (p : List UInt8) (hp : p.length ≤ 1048576) w' (hb : On w w') => show Calls Tryd.prog 20 #[.string ⟨p.toArray⟩] w' (fun e w'' => e = .returned (.tuple #[.int .i64 (numV p), .bool (numB p)]) ∧ On w' w'') from
    ReadDec.impl_readDecimal ⟨p.toArray⟩ w' (str_size hp) (hw.below hb) (fun w'' hb2 => ht w'' (On.trans hb hb2)))
  have HMT := Lib.hid (fun (x0 : ByteArray) (x1 : Int) (a b : List Int) (v0 v1 : Value) (q0 : x0.size ≤ 1048576) (qa : a.length ≤ 1048576) (qb : b.length ≤ 1048576) w' (hb : On w w') (ha : Ints w' v0 a) (hb' : Ints w' v1 b) => Ant.impl_AntennaText x0 x1 v0 v1 a b w' q0 qa qb ha hb' (fun w'' hb2 => ht w'' (On.trans hb hb2)))
  obtain ⟨ps, hps⟩ : ∃ ps, words s.data.toList = ps := ⟨_, rfl⟩
  by_cases h4 : ps.length = 4
  · obtain ⟨a, p, q, r, rfl⟩ := four_of h4
    clear h4
    have hal := hplen a (by rw [hps]; simp)
    have hpl := hplen p (by rw [hps]; simp)
    have hql := hplen q (by rw [hps]; simp)
    have hrl := hplen r (by rw [hps]; simp)
    have HPN := Lib.hid (HRN.out p hpl)
    have HP1 := Lib.hid (HRL.out q hql)
    have HP2 := Lib.hid (HRL.out r hrl)
    have lq := rlV_len q
    have lr := rlV_len r
    have ha1 : (⟨a.toArray⟩ : ByteArray).size ≤ 1048576 := str_size hal
    clear HRL HRN hplen hpl hql hrl hal
    cases g1 : numB p with
    | false =>
      have en := Lib.hid (ra_none (ra_words_bad hps (fun h => by rw [g1] at h; cases h.1)))
      obtain ⟨e1, e2, e3, e4, e5⟩ := en.out
      rw [e1, e2, e3, e4, e5]
      clear e1 e2 e3 e4 e5 en
      rw [g1] at HPN
      go_enter Tryd.func6, Tryd.ntmps6
      go_wp2_with fail
      refine (HSP.out _ (by repeat (first | with_reducible exact On.refl _ | apply On.alloc))).mono ?_
      rintro e w1 ⟨v, rfl, hown, h1⟩
      rw [hps] at hown
      obtain ⟨av, capv, rfl, hcv⟩ := hown
      have R1 : Res w1 w.heap.size := Res.on ⟨⟨by simp [go_sem], by simp [go_sem], by simp [go_sem], by simp [go_sem]⟩, by simp [go_sem], by simp [go_sem], by simp [go_sem], by simp [go_sem]⟩ h1
      have HO1 := Lib.hid (On.trans (On.alloc (On.refl w) _) h1)
      have HR1 := Lib.hid R1
      obtain ⟨⟨r0, r1, r2, r3⟩, f0, f1, f2, f3⟩ := R1
      have z1 := HR1.out.blk
      clear h1
      obtain ⟨g, off, rfl, -, hg, -, hc⟩ := hcv (by simp [texts])
      have c0 : w1.cell? ⟨g, off, none⟩ = some (.string ⟨a.toArray⟩) := hc 0 (by simp [texts])
      have c1 : w1.cell? ⟨g, off + 1, none⟩ = some (.string ⟨p.toArray⟩) := hc 1 (by simp [texts])
      have c2 : w1.cell? ⟨g, off + 2, none⟩ = some (.string ⟨q.toArray⟩) := hc 2 (by simp [texts])
      have c3 : w1.cell? ⟨g, off + 3, none⟩ = some (.string ⟨r.toArray⟩) := hc 3 (by simp [texts])
      have hlen : (texts [a, p, q, r]).length = 4 := rfl
      rw [hlen]
      clear hc hcv hlen
      go_wp2_with fail
      refine (HPN.out _ HO1.out).mono ?_
      rintro e w2 ⟨rfl, h2⟩
      have HO2 := Lib.hid (HO1.out.trans h2)
      have HR2 := Lib.hid (HR1.out.on h2)
      have c02 := (h2.cell (by exact hg)).trans c0
      have c22 := (h2.cell (by exact hg)).trans c2
      have c32 := (h2.cell (by exact hg)).trans c3
      have hg2 := h2.lts _ hg
      clear h2 r0 r1 r2 r3 f0 f1 f2 f3 z1 c0 c1 c2 c3
      obtain ⟨⟨r0, r1, r2, r3⟩, f0, f1, f2, f3⟩ := HR2.out
      have z2 := HR2.out.blk
      go_wp2_with fail
      refine (HP1.out _ HO2.out).mono ?_
      rintro e w3 ⟨v1, rfl, hi1, h3⟩
      have HI1 := Lib.hid hi1
      have HO3 := Lib.hid (HO2.out.trans h3)

      have HR3 := Lib.hid (HR2.out.on h3)
      have c03 := (h3.cell (by exact hg2)).trans c02
      have c33 := (h3.cell (by exact hg2)).trans c32
      have hg3 := h3.lts _ hg2
      have s23 := Lib.hid h3.size
      clear h3 hi1 r0 r1 r2 r3 f0 f1 f2 f3 z2 c02 c22 c32
      obtain ⟨⟨r0, r1, r2, r3⟩, f0, f1, f2, f3⟩ := HR3.out
      have z3 := HR3.out.blk
      go_wp2_with fail
      refine (HP2.out _ HO3.out).mono ?_
      rintro e w4 ⟨v2, rfl, hi2, h4⟩
      have HI1' := HI1
      have HJ1 := Lib.hid (HI1.out.below h4)
      have HJ2 := Lib.hid hi2
      have HO4 := Lib.hid (HO3.out.trans h4)

      have HR4 := Lib.hid (HR3.out.on h4)
      have c04 := (h4.cell (by exact hg3)).trans c03
      have hg4 := h4.lts _ hg3
      clear h4 hi2 r0 r1 r2 r3 f0 f1 f2 f3 z3 c03 c33 HI1
      obtain ⟨⟨r0, r1, r2, r3⟩, f0, f1, f2, f3⟩ := HR4.out
      have z4 := HR4.out.blk
      obtain ⟨x1, k1, rfl, -⟩ := id HJ1.out
      obtain ⟨x2, k2, rfl, -⟩ := id HJ2.out
      go_wp2_with fail
      refine bodyPost_ret (v := .tuple #[.agg #[.string ⟨#[]⟩, .int .i64 0, .slice none 0 0, .slice none 0 0], .bool false]) (by simp [results, Tryd.results6, go_sem, z4, r0, r1, r2, r3]) rfl ⟨_, _, _, _, rfl, ⟨rfl, rfl, nil1 _ _, nil1 _ _, fun h => absurd h (by decide)⟩, ?_⟩
      repeat (first | with_reducible exact HO4.out | apply On.alloc | refine On.setCell ?_ (by (try simp) <;> omega) _)
    | true =>
      cases g2 : rlB q with
      | false =>
        have en := Lib.hid (ra_none (ra_words_bad hps (fun h => by rw [g2] at h; cases h.2.1)))
        obtain ⟨e1, e2, e3, e4, e5⟩ := en.out
        rw [e1, e2, e3, e4, e5]
        clear e1 e2 e3 e4 e5 en
        rw [g1] at HPN
        rw [g2] at HP1
        go_enter Tryd.func6, Tryd.ntmps6
        go_wp2_with fail
        refine (HSP.out _ (by repeat (first | with_reducible exact On.refl _ | apply On.alloc))).mono ?_
        rintro e w1 ⟨v, rfl, hown, h1⟩
        rw [hps] at hown
        obtain ⟨av, capv, rfl, hcv⟩ := hown
        have R1 : Res w1 w.heap.size := Res.on ⟨⟨by simp [go_sem], by simp [go_sem], by simp [go_sem], by simp [go_sem]⟩, by simp [go_sem], by simp [go_sem], by simp [go_sem], by simp [go_sem]⟩ h1
        have HO1 := Lib.hid (On.trans (On.alloc (On.refl w) _) h1)
        have HR1 := Lib.hid R1
        obtain ⟨⟨r0, r1, r2, r3⟩, f0, f1, f2, f3⟩ := R1
        have z1 := HR1.out.blk
        clear h1
        obtain ⟨g, off, rfl, -, hg, -, hc⟩ := hcv (by simp [texts])
        have c0 : w1.cell? ⟨g, off, none⟩ = some (.string ⟨a.toArray⟩) := hc 0 (by simp [texts])
        have c1 : w1.cell? ⟨g, off + 1, none⟩ = some (.string ⟨p.toArray⟩) := hc 1 (by simp [texts])
        have c2 : w1.cell? ⟨g, off + 2, none⟩ = some (.string ⟨q.toArray⟩) := hc 2 (by simp [texts])
        have c3 : w1.cell? ⟨g, off + 3, none⟩ = some (.string ⟨r.toArray⟩) := hc 3 (by simp [texts])
        have hlen : (texts [a, p, q, r]).length = 4 := rfl
        rw [hlen]
        clear hc hcv hlen
        go_wp2_with fail
        refine (HPN.out _ HO1.out).mono ?_
        rintro e w2 ⟨rfl, h2⟩
        have HO2 := Lib.hid (HO1.out.trans h2)
        have HR2 := Lib.hid (HR1.out.on h2)
        have c02 := (h2.cell (by exact hg)).trans c0
        have c22 := (h2.cell (by exact hg)).trans c2
        have c32 := (h2.cell (by exact hg)).trans c3
        have hg2 := h2.lts _ hg
        clear h2 r0 r1 r2 r3 f0 f1 f2 f3 z1 c0 c1 c2 c3
        obtain ⟨⟨r0, r1, r2, r3⟩, f0, f1, f2, f3⟩ := HR2.out
        have z2 := HR2.out.blk
        go_wp2_with fail
        refine (HP1.out _ HO2.out).mono ?_
        rintro e w3 ⟨v1, rfl, hi1, h3⟩
        have HI1 := Lib.hid hi1
        have HO3 := Lib.hid (HO2.out.trans h3)

        have HR3 := Lib.hid (HR2.out.on h3)
        have c03 := (h3.cell (by exact hg2)).trans c02
        have c33 := (h3.cell (by exact hg2)).trans c32
        have hg3 := h3.lts _ hg2
        have s23 := Lib.hid h3.size
        clear h3 hi1 r0 r1 r2 r3 f0 f1 f2 f3 z2 c02 c22 c32
        obtain ⟨⟨r0, r1, r2, r3⟩, f0, f1, f2, f3⟩ := HR3.out
        have z3 := HR3.out.blk
        go_wp2_with fail
        refine (HP2.out _ HO3.out).mono ?_
        rintro e w4 ⟨v2, rfl, hi2, h4⟩
        have HI1' := HI1
        have HJ1 := Lib.hid (HI1.out.below h4)
        have HJ2 := Lib.hid hi2
        have HO4 := Lib.hid (HO3.out.trans h4)

        have HR4 := Lib.hid (HR3.out.on h4)
        have c04 := (h4.cell (by exact hg3)).trans c03
        have hg4 := h4.lts _ hg3
        clear h4 hi2 r0 r1 r2 r3 f0 f1 f2 f3 z3 c03 c33 HI1
        obtain ⟨⟨r0, r1, r2, r3⟩, f0, f1, f2, f3⟩ := HR4.out
        have z4 := HR4.out.blk
        obtain ⟨x1, k1, rfl, -⟩ := id HJ1.out
        obtain ⟨x2, k2, rfl, -⟩ := id HJ2.out
        go_wp2_with fail
        refine bodyPost_ret (v := .tuple #[.agg #[.string ⟨#[]⟩, .int .i64 0, .slice none 0 0, .slice none 0 0], .bool false]) (by simp [results, Tryd.results6, go_sem, z4, r0, r1, r2, r3]) rfl ⟨_, _, _, _, rfl, ⟨rfl, rfl, nil1 _ _, nil1 _ _, fun h => absurd h (by decide)⟩, ?_⟩
        repeat (first | with_reducible exact HO4.out | apply On.alloc | refine On.setCell ?_ (by (try simp) <;> omega) _)
      | true =>
        cases g3 : rlB r with
        | false =>
          have en := Lib.hid (ra_none (ra_words_bad hps (fun h => by rw [g3] at h; cases h.2.2.1)))
          obtain ⟨e1, e2, e3, e4, e5⟩ := en.out
          rw [e1, e2, e3, e4, e5]
          clear e1 e2 e3 e4 e5 en
          rw [g1] at HPN
          rw [g2] at HP1
          rw [g3] at HP2
          go_enter Tryd.func6, Tryd.ntmps6
          go_wp2_with fail
          refine (HSP.out _ (by repeat (first | with_reducible exact On.refl _ | apply On.alloc))).mono ?_
          rintro e w1 ⟨v, rfl, hown, h1⟩
          rw [hps] at hown
          obtain ⟨av, capv, rfl, hcv⟩ := hown
          have R1 : Res w1 w.heap.size := Res.on ⟨⟨by simp [go_sem], by simp [go_sem], by simp [go_sem], by simp [go_sem]⟩, by simp [go_sem], by simp [go_sem], by simp [go_sem], by simp [go_sem]⟩ h1
          have HO1 := Lib.hid (On.trans (On.alloc (On.refl w) _) h1)
          have HR1 := Lib.hid R1
          obtain ⟨⟨r0, r1, r2, r3⟩, f0, f1, f2, f3⟩ := R1
          have z1 := HR1.out.blk
          clear h1
          obtain ⟨g, off, rfl, -, hg, -, hc⟩ := hcv (by simp [texts])
          have c0 : w1.cell? ⟨g, off, none⟩ = some (.string ⟨a.toArray⟩) := hc 0 (by simp [texts])
          have c1 : w1.cell? ⟨g, off + 1, none⟩ = some (.string ⟨p.toArray⟩) := hc 1 (by simp [texts])
          have c2 : w1.cell? ⟨g, off + 2, none⟩ = some (.string ⟨q.toArray⟩) := hc 2 (by simp [texts])
          have c3 : w1.cell? ⟨g, off + 3, none⟩ = some (.string ⟨r.toArray⟩) := hc 3 (by simp [texts])
          have hlen : (texts [a, p, q, r]).length = 4 := rfl
          rw [hlen]
          clear hc hcv hlen
          go_wp2_with fail
          refine (HPN.out _ HO1.out).mono ?_
          rintro e w2 ⟨rfl, h2⟩
          have HO2 := Lib.hid (HO1.out.trans h2)
          have HR2 := Lib.hid (HR1.out.on h2)
          have c02 := (h2.cell (by exact hg)).trans c0
          have c22 := (h2.cell (by exact hg)).trans c2
          have c32 := (h2.cell (by exact hg)).trans c3
          have hg2 := h2.lts _ hg
          clear h2 r0 r1 r2 r3 f0 f1 f2 f3 z1 c0 c1 c2 c3
          obtain ⟨⟨r0, r1, r2, r3⟩, f0, f1, f2, f3⟩ := HR2.out
          have z2 := HR2.out.blk
          go_wp2_with fail
          refine (HP1.out _ HO2.out).mono ?_
          rintro e w3 ⟨v1, rfl, hi1, h3⟩
          have HI1 := Lib.hid hi1
          have HO3 := Lib.hid (HO2.out.trans h3)

          have HR3 := Lib.hid (HR2.out.on h3)
          have c03 := (h3.cell (by exact hg2)).trans c02
          have c33 := (h3.cell (by exact hg2)).trans c32
          have hg3 := h3.lts _ hg2
          have s23 := Lib.hid h3.size
          clear h3 hi1 r0 r1 r2 r3 f0 f1 f2 f3 z2 c02 c22 c32
          obtain ⟨⟨r0, r1, r2, r3⟩, f0, f1, f2, f3⟩ := HR3.out
          have z3 := HR3.out.blk
          go_wp2_with fail
          refine (HP2.out _ HO3.out).mono ?_
          rintro e w4 ⟨v2, rfl, hi2, h4⟩
          have HI1' := HI1
          have HJ1 := Lib.hid (HI1.out.below h4)
          have HJ2 := Lib.hid hi2
          have HO4 := Lib.hid (HO3.out.trans h4)

          have HR4 := Lib.hid (HR3.out.on h4)
          have c04 := (h4.cell (by exact hg3)).trans c03
          have hg4 := h4.lts _ hg3
          clear h4 hi2 r0 r1 r2 r3 f0 f1 f2 f3 z3 c03 c33 HI1
          obtain ⟨⟨r0, r1, r2, r3⟩, f0, f1, f2, f3⟩ := HR4.out
          have z4 := HR4.out.blk
          obtain ⟨x1, k1, rfl, -⟩ := id HJ1.out
          obtain ⟨x2, k2, rfl, -⟩ := id HJ2.out
          go_wp2_with fail
          refine bodyPost_ret (v := .tuple #[.agg #[.string ⟨#[]⟩, .int .i64 0, .slice none 0 0, .slice none 0 0], .bool false]) (by simp [results, Tryd.results6, go_sem, z4, r0, r1, r2, r3]) rfl ⟨_, _, _, _, rfl, ⟨rfl, rfl, nil1 _ _, nil1 _ _, fun h => absurd h (by decide)⟩, ?_⟩
          repeat (first | with_reducible exact HO4.out | apply On.alloc | refine On.setCell ?_ (by (try simp) <;> omega) _)
        | true =>
          by_cases g4 : (textV (okA ⟨a.toArray⟩ (numV p) (rlV q) (rlV r)) ⟨a.toArray⟩ (numV p) (rlV q) (rlV r)).data.toList = s.data.toList
          · have HT := Lib.hid (show textV (okA ⟨a.toArray⟩ (numV p) (rlV q) (rlV r)) ⟨a.toArray⟩ (numV p) (rlV q) (rlV r) = s from str_eq g4)
            have en := Lib.hid (ra_some (ra_words_good hps g1 g2 g3 g4))
            obtain ⟨e1, e2, e3, e4, e5⟩ := en.out
            rw [e1, e2, e3, e4, e5]
            clear e1 e2 e3 e4 e5 en
            rw [g1] at HPN
            rw [g2] at HP1
            rw [g3] at HP2
            clear g4
            go_enter Tryd.func6, Tryd.ntmps6
            go_wp2_with fail
            refine (HSP.out _ (by repeat (first | with_reducible exact On.refl _ | apply On.alloc))).mono ?_
            rintro e w1 ⟨v, rfl, hown, h1⟩
            rw [hps] at hown
            obtain ⟨av, capv, rfl, hcv⟩ := hown
            have R1 : Res w1 w.heap.size := Res.on ⟨⟨by simp [go_sem], by simp [go_sem], by simp [go_sem], by simp [go_sem]⟩, by simp [go_sem], by simp [go_sem], by simp [go_sem], by simp [go_sem]⟩ h1
            have HO1 := Lib.hid (On.trans (On.alloc (On.refl w) _) h1)
            have HR1 := Lib.hid R1
            obtain ⟨⟨r0, r1, r2, r3⟩, f0, f1, f2, f3⟩ := R1
            have z1 := HR1.out.blk
            clear h1
            obtain ⟨g, off, rfl, -, hg, -, hc⟩ := hcv (by simp [texts])
            have c0 : w1.cell? ⟨g, off, none⟩ = some (.string ⟨a.toArray⟩) := hc 0 (by simp [texts])
            have c1 : w1.cell? ⟨g, off + 1, none⟩ = some (.string ⟨p.toArray⟩) := hc 1 (by simp [texts])
            have c2 : w1.cell? ⟨g, off + 2, none⟩ = some (.string ⟨q.toArray⟩) := hc 2 (by simp [texts])
            have c3 : w1.cell? ⟨g, off + 3, none⟩ = some (.string ⟨r.toArray⟩) := hc 3 (by simp [texts])
            have hlen : (texts [a, p, q, r]).length = 4 := rfl
            rw [hlen]
            clear hc hcv hlen
            go_wp2_with fail
            refine (HPN.out _ HO1.out).mono ?_
            rintro e w2 ⟨rfl, h2⟩
            have HO2 := Lib.hid (HO1.out.trans h2)
            have HR2 := Lib.hid (HR1.out.on h2)
            have c02 := (h2.cell (by exact hg)).trans c0
            have c22 := (h2.cell (by exact hg)).trans c2
            have c32 := (h2.cell (by exact hg)).trans c3
            have hg2 := h2.lts _ hg
            clear h2 r0 r1 r2 r3 f0 f1 f2 f3 z1 c0 c1 c2 c3
            obtain ⟨⟨r0, r1, r2, r3⟩, f0, f1, f2, f3⟩ := HR2.out
            have z2 := HR2.out.blk
            go_wp2_with fail
            refine (HP1.out _ HO2.out).mono ?_
            rintro e w3 ⟨v1, rfl, hi1, h3⟩
            have HI1 := Lib.hid hi1
            have HO3 := Lib.hid (HO2.out.trans h3)

            have HR3 := Lib.hid (HR2.out.on h3)
            have c03 := (h3.cell (by exact hg2)).trans c02
            have c33 := (h3.cell (by exact hg2)).trans c32
            have hg3 := h3.lts _ hg2
            have s23 := Lib.hid h3.size
            clear h3 hi1 r0 r1 r2 r3 f0 f1 f2 f3 z2 c02 c22 c32
            obtain ⟨⟨r0, r1, r2, r3⟩, f0, f1, f2, f3⟩ := HR3.out
            have z3 := HR3.out.blk
            go_wp2_with fail
            refine (HP2.out _ HO3.out).mono ?_
            rintro e w4 ⟨v2, rfl, hi2, h4⟩
            have HI1' := HI1
            have HJ1 := Lib.hid (HI1.out.below h4)
            have HJ2 := Lib.hid hi2
            have HO4 := Lib.hid (HO3.out.trans h4)

            have HR4 := Lib.hid (HR3.out.on h4)
            have c04 := (h4.cell (by exact hg3)).trans c03
            have hg4 := h4.lts _ hg3
            clear h4 hi2 r0 r1 r2 r3 f0 f1 f2 f3 z3 c03 c33 HI1
            obtain ⟨⟨r0, r1, r2, r3⟩, f0, f1, f2, f3⟩ := HR4.out
            have z4 := HR4.out.blk
            obtain ⟨x1, k1, rfl, -⟩ := id HJ1.out
            obtain ⟨x2, k2, rfl, -⟩ := id HJ2.out
            go_wp2_with (go_at_call 22; refine (HMT.out _ (numV p) (rlV q) (rlV r) _ _ ha1 (by omega) (by omega) _ (HO4.out.trans (by repeat (first | with_reducible exact On.refl _ | apply On.alloc | refine On.setCell ?_ (by (try simp) <;> omega) _))) (HJ1.out.ints.below (by repeat (first | with_reducible exact On.refl _ | apply On.alloc | refine On.setCell ?_ (by (try simp) <;> omega) _))) (HJ2.out.ints.below (by repeat (first | with_reducible exact On.refl _ | apply On.alloc | refine On.setCell ?_ (by (try simp) <;> omega) _)))).mono ?_; rw [HT.out]; rintro e w5 ⟨rfl, h5⟩; have R5 : Res w5 w.heap.size := Res.on ⟨⟨by simp [go_sem, z4, r0], by simp [go_sem, z4, r1], by simp [go_sem, z4, r2], by simp [go_sem, z4, r3]⟩, by simp [go_sem, z4, f0], by simp [go_sem, z4, f1], by simp [go_sem, z4, f2], by simp [go_sem, z4, f3]⟩ h5; have P5 : In w5 w4.heap.size ⟨a.toArray⟩ (numV p) (.slice x1 (rlV q).length k1) (.slice x2 (rlV r).length k2) := In.on ⟨by simp [go_sem], by simp [go_sem], by simp [go_sem], by simp [go_sem]⟩ h5; have h45 : On w4 w5 := On.trans (by repeat (first | with_reducible exact On.refl _ | apply On.alloc | refine On.setCell ?_ (by (try simp) <;> omega) _)) h5; have HO5 := Lib.hid (HO4.out.trans h45); have HK1 := Lib.hid (HJ1.out.below h45); have HK2 := Lib.hid (HJ2.out.below h45); have z5 := R5.blk; have y5 := World.block_lt_of_cell? w5 _ P5.1; clear h5 h45 r0 r1 r2 r3 f0 f1 f2 f3; obtain ⟨⟨r0, r1, r2, r3⟩, f0, f1, f2, f3⟩ := R5; obtain ⟨t0, t1, t2, t3⟩ := P5)
            have HB1 := Lib.hid (HK1.out.mono (B' := w.heap.size + 1) (by have := HR2.out.blk; omega))
            have HB2 := Lib.hid (HK2.out.mono (B' := w.heap.size + 1) (by have := HR3.out.blk; omega))
            have HDD := Lib.hid (show 0 < (rlV q).length → 0 < (rlV r).length → ∀ a b, x1 = some a → x2 = some b → a.block ≠ b.block from fun h1 h2 a b ha hb => by
              obtain ⟨a', e1, -, l1⟩ := own_ge' rfl HI1'.out h1
              obtain ⟨b', e2, l2, -⟩ := own_ge' rfl HJ2.out h2
              rw [ha] at e1
              rw [hb] at e2
              cases e1
              cases e2
              omega)
            refine bodyPost_ret (v := .tuple #[.agg #[.string ⟨a.toArray⟩, .int .i64 (numV p), .slice x1 (rlV q).length k1, .slice x2 (rlV r).length k2], .bool true]) (by simp [results, Tryd.results6, go_sem, r0, r1, r2, r3]) rfl ⟨_, _, _, _, rfl, ⟨rfl, rfl, ?_, ?_, ?_⟩, ?_⟩
            · refine Own.mono (B := w.heap.size + 1) ?_ (by omega)
              repeat (first | with_reducible exact HB1.out | refine Own.setCell ?_ (by (try simp) <;> omega) _)
            · refine Own.mono (B := w.heap.size + 1) ?_ (by omega)
              repeat (first | with_reducible exact HB2.out | refine Own.setCell ?_ (by (try simp) <;> omega) _)
            · exact HDD.out
            · repeat (first | with_reducible exact HO5.out | refine On.setCell ?_ (by (try simp) <;> omega) _)
          · have HT := Lib.hid (show (textV (okA ⟨a.toArray⟩ (numV p) (rlV q) (rlV r)) ⟨a.toArray⟩ (numV p) (rlV q) (rlV r)).toList ≠ s.toList from fun h => g4 (by rw [ByteArray.toList_eq, ByteArray.toList_eq] at h; exact h))
            have en := Lib.hid (ra_none (ra_words_bad hps (fun h => g4 h.2.2.2)))
            obtain ⟨e1, e2, e3, e4, e5⟩ := en.out
            rw [e1, e2, e3, e4, e5]
            clear e1 e2 e3 e4 e5 en
            rw [g1] at HPN
            rw [g2] at HP1
            rw [g3] at HP2
            obtain ⟨tx, htx⟩ : ∃ tx, tx = textV (okA ⟨a.toArray⟩ (numV p) (rlV q) (rlV r)) ⟨a.toArray⟩ (numV p) (rlV q) (rlV r) := ⟨_, rfl⟩
            have hne : ¬ tx.toList = s.toList := by rw [htx]; exact HT.out
            have hne2 : (tx.toList == s.toList) = false := beq_eq_false_iff_ne.2 hne
            have HTX := Lib.hid htx
            clear g4 htx HT
            go_enter Tryd.func6, Tryd.ntmps6
            go_wp2_with fail
            refine (HSP.out _ (by repeat (first | with_reducible exact On.refl _ | apply On.alloc))).mono ?_
            rintro e w1 ⟨v, rfl, hown, h1⟩
            rw [hps] at hown
            obtain ⟨av, capv, rfl, hcv⟩ := hown
            have R1 : Res w1 w.heap.size := Res.on ⟨⟨by simp [go_sem], by simp [go_sem], by simp [go_sem], by simp [go_sem]⟩, by simp [go_sem], by simp [go_sem], by simp [go_sem], by simp [go_sem]⟩ h1
            have HO1 := Lib.hid (On.trans (On.alloc (On.refl w) _) h1)
            have HR1 := Lib.hid R1
            obtain ⟨⟨r0, r1, r2, r3⟩, f0, f1, f2, f3⟩ := R1
            have z1 := HR1.out.blk
            clear h1
            obtain ⟨g, off, rfl, -, hg, -, hc⟩ := hcv (by simp [texts])
            have c0 : w1.cell? ⟨g, off, none⟩ = some (.string ⟨a.toArray⟩) := hc 0 (by simp [texts])
            have c1 : w1.cell? ⟨g, off + 1, none⟩ = some (.string ⟨p.toArray⟩) := hc 1 (by simp [texts])
            have c2 : w1.cell? ⟨g, off + 2, none⟩ = some (.string ⟨q.toArray⟩) := hc 2 (by simp [texts])
            have c3 : w1.cell? ⟨g, off + 3, none⟩ = some (.string ⟨r.toArray⟩) := hc 3 (by simp [texts])
            have hlen : (texts [a, p, q, r]).length = 4 := rfl
            rw [hlen]
            clear hc hcv hlen
            go_wp2_with fail
            refine (HPN.out _ HO1.out).mono ?_
            rintro e w2 ⟨rfl, h2⟩
            have HO2 := Lib.hid (HO1.out.trans h2)
            have HR2 := Lib.hid (HR1.out.on h2)
            have c02 := (h2.cell (by exact hg)).trans c0
            have c22 := (h2.cell (by exact hg)).trans c2
            have c32 := (h2.cell (by exact hg)).trans c3
            have hg2 := h2.lts _ hg
            clear h2 r0 r1 r2 r3 f0 f1 f2 f3 z1 c0 c1 c2 c3
            obtain ⟨⟨r0, r1, r2, r3⟩, f0, f1, f2, f3⟩ := HR2.out
            have z2 := HR2.out.blk
            go_wp2_with fail
            refine (HP1.out _ HO2.out).mono ?_
            rintro e w3 ⟨v1, rfl, hi1, h3⟩
            have HI1 := Lib.hid hi1
            have HO3 := Lib.hid (HO2.out.trans h3)

            have HR3 := Lib.hid (HR2.out.on h3)
            have c03 := (h3.cell (by exact hg2)).trans c02
            have c33 := (h3.cell (by exact hg2)).trans c32
            have hg3 := h3.lts _ hg2
            have s23 := Lib.hid h3.size
            clear h3 hi1 r0 r1 r2 r3 f0 f1 f2 f3 z2 c02 c22 c32
            obtain ⟨⟨r0, r1, r2, r3⟩, f0, f1, f2, f3⟩ := HR3.out
            have z3 := HR3.out.blk
            go_wp2_with fail
            refine (HP2.out _ HO3.out).mono ?_
            rintro e w4 ⟨v2, rfl, hi2, h4⟩
            have HI1' := HI1
            have HJ1 := Lib.hid (HI1.out.below h4)
            have HJ2 := Lib.hid hi2
            have HO4 := Lib.hid (HO3.out.trans h4)

            have HR4 := Lib.hid (HR3.out.on h4)
            have c04 := (h4.cell (by exact hg3)).trans c03
            have hg4 := h4.lts _ hg3
            clear h4 hi2 r0 r1 r2 r3 f0 f1 f2 f3 z3 c03 c33 HI1
            obtain ⟨⟨r0, r1, r2, r3⟩, f0, f1, f2, f3⟩ := HR4.out
            have z4 := HR4.out.blk
            obtain ⟨x1, k1, rfl, -⟩ := id HJ1.out
            obtain ⟨x2, k2, rfl, -⟩ := id HJ2.out
            go_wp2_with (go_at_call 22; refine (HMT.out _ (numV p) (rlV q) (rlV r) _ _ ha1 (by omega) (by omega) _ (HO4.out.trans (by repeat (first | with_reducible exact On.refl _ | apply On.alloc | refine On.setCell ?_ (by (try simp) <;> omega) _))) (HJ1.out.ints.below (by repeat (first | with_reducible exact On.refl _ | apply On.alloc | refine On.setCell ?_ (by (try simp) <;> omega) _))) (HJ2.out.ints.below (by repeat (first | with_reducible exact On.refl _ | apply On.alloc | refine On.setCell ?_ (by (try simp) <;> omega) _)))).mono ?_; rw [← HTX.out]; rintro e w5 ⟨rfl, h5⟩; have R5 : Res w5 w.heap.size := Res.on ⟨⟨by simp [go_sem, z4, r0], by simp [go_sem, z4, r1], by simp [go_sem, z4, r2], by simp [go_sem, z4, r3]⟩, by simp [go_sem, z4, f0], by simp [go_sem, z4, f1], by simp [go_sem, z4, f2], by simp [go_sem, z4, f3]⟩ h5; have P5 : In w5 w4.heap.size ⟨a.toArray⟩ (numV p) (.slice x1 (rlV q).length k1) (.slice x2 (rlV r).length k2) := In.on ⟨by simp [go_sem], by simp [go_sem], by simp [go_sem], by simp [go_sem]⟩ h5; have h45 : On w4 w5 := On.trans (by repeat (first | with_reducible exact On.refl _ | apply On.alloc | refine On.setCell ?_ (by (try simp) <;> omega) _)) h5; have HO5 := Lib.hid (HO4.out.trans h45); have HK1 := Lib.hid (HJ1.out.below h45); have HK2 := Lib.hid (HJ2.out.below h45); have z5 := R5.blk; have y5 := World.block_lt_of_cell? w5 _ P5.1; clear h5 h45 r0 r1 r2 r3 f0 f1 f2 f3; obtain ⟨⟨r0, r1, r2, r3⟩, f0, f1, f2, f3⟩ := R5; obtain ⟨t0, t1, t2, t3⟩ := P5)
            refine bodyPost_ret (v := .tuple #[.agg #[.string ⟨#[]⟩, .int .i64 0, .slice none 0 0, .slice none 0 0], .bool false]) (by simp [results, Tryd.results6, go_sem, r0, r1, r2, r3]) rfl ⟨_, _, _, _, rfl, ⟨rfl, rfl, nil1 _ _, nil1 _ _, fun h => absurd h (by decide)⟩, ?_⟩
            repeat (first | with_reducible exact HO5.out | apply On.alloc | refine On.setCell ?_ (by (try simp) <;> omega) _)
  · have en := Lib.hid (ra_none (ra_words_len (l := s.data.toList) (by rw [hps]; exact h4)))
    obtain ⟨e1, e2, e3, e4, e5⟩ := en.out
    rw [e1, e2, e3, e4, e5]
    clear e1 e2 e3 e4 e5 HRL HRN hplen
    have b1 : (((ps.length : Nat) : Int) == 4) = false := beq_eq_false_iff_ne.2 (by omega)
    have b2 : (((ps.length : Nat) : Int) != 4) = true := by rw [bne, b1]; rfl
    go_enter Tryd.func6, Tryd.ntmps6
    go_wp2_with fail
    refine (HSP.out _ (by repeat (first | with_reducible exact On.refl _ | apply On.alloc))).mono ?_
    rintro e w1 ⟨v, rfl, hown, h1⟩
    rw [hps] at hown
    obtain ⟨av, capv, rfl, hcv⟩ := hown
    have R1 : Res w1 w.heap.size := Res.on ⟨⟨by simp [go_sem], by simp [go_sem], by simp [go_sem], by simp [go_sem]⟩, by simp [go_sem], by simp [go_sem], by simp [go_sem], by simp [go_sem]⟩ h1
    have HO1 := Lib.hid (On.trans (On.alloc (On.refl w) _) h1)
    have HR1 := Lib.hid R1
    obtain ⟨⟨r0, r1, r2, r3⟩, f0, f1, f2, f3⟩ := R1
    have z1 := HR1.out.blk
    clear h1
    rw [texts_length]
    clear hcv
    go_wp2_with fail
    refine bodyPost_ret (v := .tuple #[.agg #[.string ⟨#[]⟩, .int .i64 0, .slice none 0 0, .slice none 0 0], .bool false]) (by simp [results, Tryd.results6, go_sem, r0, r1, r2, r3]) rfl ⟨_, _, _, _, rfl, ⟨rfl, rfl, nil1 _ _, nil1 _ _, fun h => absurd h (by decide)⟩, ?_⟩
    repeat (first | with_reducible exact HO1.out | apply On.alloc | refine On.setCell ?_ (by (try simp) <;> omega) _)
end Go.Proofs.YtnambnddoebeiaaDoor.RdA
