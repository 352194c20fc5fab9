
/-
  The sector with a text, in the model and in the program. Conditions: a text of at most 1048576 bytes; for the program's, what the library's variables hold.
-/
import Derived.Test.YtbmhhhhodlfcbaaDoorRdS
namespace Go.Proofs.YtbmhhhhodlfcbaaDoor.RdT
open Go.RowKit
open Plain
open RdS
open Sec (okT secT)
open ReadPt (row_strs)
open Words (texts texts_length)
open Msk (word_len rl_of)
open Ints (Ints Own)

def tS0 (l : List UInt8) : ByteArray := match rt l with | some (x, _) => ⟨x.toArray⟩ | none => ⟨#[]⟩
def tS1 (l : List UInt8) : ByteArray := match rt l with | some (_, x, _) => ⟨x.toArray⟩ | none => ⟨#[]⟩
def tS2 (l : List UInt8) : ByteArray := match rt l with | some (_, _, x, _) => ⟨x.toArray⟩ | none => ⟨#[]⟩
def tS3 (l : List UInt8) : ByteArray := match rt l with | some (_, _, _, x, _) => ⟨x.toArray⟩ | none => ⟨#[]⟩
def tS4 (l : List UInt8) : ByteArray := match rt l with | some (_, _, _, _, x, _) => ⟨x.toArray⟩ | none => ⟨#[]⟩
def tV0 (l : List UInt8) : Int := match rt l with | some (_, _, _, _, _, x, _) => x | none => 0
def tV1 (l : List UInt8) : Int := match rt l with | some (_, _, _, _, _, _, x, _) => x | none => 0
def tV2 (l : List UInt8) : Int := match rt l with | some (_, _, _, _, _, _, _, x, _) => x | none => 0
def tV3 (l : List UInt8) : Int := match rt l with | some (_, _, _, _, _, _, _, _, x) => x | none => 0
def tO (l : List UInt8) : Bool := (rt l).isSome
theorem t_no {l : List UInt8} (h : rt l = none) : tS0 l = ⟨#[]⟩ ∧ tS1 l = ⟨#[]⟩ ∧ tS2 l = ⟨#[]⟩ ∧ tS3 l = ⟨#[]⟩ ∧ tS4 l = ⟨#[]⟩ ∧ tV0 l = 0 ∧ tV1 l = 0 ∧ tV2 l = 0 ∧ tV3 l = 0 ∧ tO l = false := by unfold tS0 tS1 tS2 tS3 tS4 tV0 tV1 tV2 tV3 tO; rw [h]; exact ⟨rfl, rfl, rfl, rfl, rfl, rfl, rfl, rfl, rfl, rfl⟩
theorem t_yes {l a b c d e : List UInt8} {v0 v1 v2 v3 : Int} (h : rt l = some (a, b, c, d, e, v0, v1, v2, v3)) : tS0 l = ⟨a.toArray⟩ ∧ tS1 l = ⟨b.toArray⟩ ∧ tS2 l = ⟨c.toArray⟩ ∧ tS3 l = ⟨d.toArray⟩ ∧ tS4 l = ⟨e.toArray⟩ ∧ tV0 l = v0 ∧ tV1 l = v1 ∧ tV2 l = v2 ∧ tV3 l = v3 ∧ tO l = true := by unfold tS0 tS1 tS2 tS3 tS4 tV0 tV1 tV2 tV3 tO; rw [h]; exact ⟨rfl, rfl, rfl, rfl, rfl, rfl, rfl, rfl, rfl, rfl⟩
/-- The block g holds an empty sector that may be written. -/
def Res (w : World) (g : Nat) : Prop := Sec.In w g ⟨#[]⟩ ⟨#[]⟩ ⟨#[]⟩ ⟨#[]⟩ ⟨#[]⟩ 0 0 0 0 ∧ ∀ i, w.frozen? ⟨g, i, none⟩ = false
theorem Res.on {w w' : World} {g : Nat} (h : Res w g) (ho : On w w') : Res w' g := ⟨h.1.on ho, fun i => (ho.frozen (by exact h.1.lt)).trans (h.2 i)⟩
theorem held9 {W w' : World} {g o G q : Nat} {a b c d e : List UInt8} {v0 v1 v2 v3 : Int}
    (h0 : W.cell? ⟨g, o + 0, none⟩ = some (.string ⟨a.toArray⟩)) (h1 : W.cell? ⟨g, o + 1, none⟩ = some (.string ⟨b.toArray⟩)) (h2 : W.cell? ⟨g, o + 2, none⟩ = some (.string ⟨c.toArray⟩)) (h3 : W.cell? ⟨g, o + 3, none⟩ = some (.string ⟨d.toArray⟩)) (h4 : W.cell? ⟨g, o + 4, none⟩ = some (.string ⟨e.toArray⟩)) (k0 : W.cell? ⟨G, q + 0, none⟩ = some (.int .i64 v0)) (k1 : W.cell? ⟨G, q + 1, none⟩ = some (.int .i64 v1)) (k2 : W.cell? ⟨G, q + 2, none⟩ = some (.int .i64 v2)) (k3 : W.cell? ⟨G, q + 3, none⟩ = some (.int .i64 v3)) (h : On W w') :
    On W w' ∧ w'.cell? ⟨g, o + 0, none⟩ = some (.string ⟨a.toArray⟩) ∧ w'.cell? ⟨g, o + 1, none⟩ = some (.string ⟨b.toArray⟩) ∧ w'.cell? ⟨g, o + 2, none⟩ = some (.string ⟨c.toArray⟩) ∧ w'.cell? ⟨g, o + 3, none⟩ = some (.string ⟨d.toArray⟩) ∧ w'.cell? ⟨g, o + 4, none⟩ = some (.string ⟨e.toArray⟩) ∧ w'.cell? ⟨G, q + 0, none⟩ = some (.int .i64 v0) ∧ w'.cell? ⟨G, q + 1, none⟩ = some (.int .i64 v1) ∧ w'.cell? ⟨G, q + 2, none⟩ = some (.int .i64 v2) ∧ w'.cell? ⟨G, q + 3, none⟩ = some (.int .i64 v3) :=
  ⟨h, (h.cell (World.block_lt_of_cell? W _ h0)).trans h0, (h.cell (World.block_lt_of_cell? W _ h1)).trans h1, (h.cell (World.block_lt_of_cell? W _ h2)).trans h2, (h.cell (World.block_lt_of_cell? W _ h3)).trans h3, (h.cell (World.block_lt_of_cell? W _ h4)).trans h4, (h.cell (World.block_lt_of_cell? W _ k0)).trans k0, (h.cell (World.block_lt_of_cell? W _ k1)).trans k1, (h.cell (World.block_lt_of_cell? W _ k2)).trans k2, (h.cell (World.block_lt_of_cell? W _ k3)).trans k3⟩
theorem rl_cases (f : List UInt8) : rlB f = false ∨ rlB f = true := by cases rlB f <;> simp
theorem rl_no {f : List UInt8} (h : rlB f = false) : rl f = none := by
  unfold rlB at h
  cases e : rl f with
  | none => rfl
  | some _ => rw [e] at h; cases h

set_option maxRecDepth 100000 in
set_option maxHeartbeats 8000000 in
theorem spec_ReadSector (s : ByteArray) (w : World) (hs : s.size ≤ 1048576) :
    Calls Tryd.prog 30 #[.string s] w fun e w' => e = .returned (.tuple #[.agg #[.string (tS0 s.data.toList), .string (tS1 s.data.toList), .string (tS2 s.data.toList), .string (tS3 s.data.toList), .string (tS4 s.data.toList), .int .i64 (tV0 s.data.toList), .int .i64 (tV1 s.data.toList), .int .i64 (tV2 s.data.toList), .int .i64 (tV3 s.data.toList)], .bool (tO s.data.toList)]) ∧ On w w' := by
  have HSP := Lib.hid (fun w => Split.spec_split s 32 32 rfl w hs)
  have hplen : ∀ p ∈ pieces 32 s.data.toList, p.length ≤ 1048576 := fun p hp => Nat.le_trans (ReadPt.len_le_of_piece hp (Nat.le_refl _)) (by rw [Num.len_data]; exact hs)
  obtain ⟨ps, hps⟩ : ∃ ps, pieces 32 s.data.toList = ps := ⟨_, rfl⟩
  by_cases h6 : ps.length = 6
  · obtain ⟨a, b, c, d, e, f, rfl⟩ := six_of h6
    clear h6
    have qa : (⟨a.toArray⟩ : ByteArray).size ≤ 1048576 := size_le (hplen a (by rw [hps]; simp))
    have qb : (⟨b.toArray⟩ : ByteArray).size ≤ 1048576 := size_le (hplen b (by rw [hps]; simp))
    have qc : (⟨c.toArray⟩ : ByteArray).size ≤ 1048576 := size_le (hplen c (by rw [hps]; simp))
    have qd : (⟨d.toArray⟩ : ByteArray).size ≤ 1048576 := size_le (hplen d (by rw [hps]; simp))
    have qe : (⟨e.toArray⟩ : ByteArray).size ≤ 1048576 := size_le (hplen e (by rw [hps]; simp))
    have qf : (⟨f.toArray⟩ : ByteArray).size ≤ 1048576 := size_le (hplen f (by rw [hps]; simp))
    have hp := fun w => ReadList.spec_readList ⟨f.toArray⟩ w qf
    rw [str_data] at hp
    clear hplen
    cases g3 : rlB f with
    | false =>
      have en := Lib.hid (t_no (rt_list hps (rl_no g3)))
      obtain ⟨x0, x1, x2, x3, x4, x5, x6, x7, x8, x9⟩ := en.out
      rw [x0, x1, x2, x3, x4, x5, x6, x7, x8, x9]
      clear x0 x1 x2 x3 x4 x5 x6 x7 x8 x9 en
      rw [g3] at hp
      have HP := Lib.hid hp
      clear hp qa qb qc qd qe qf
      go_enter Tryd.func30, Tryd.ntmps30
      go_wp2_with fail
      refine (HSP.out _).mono ?_
      rintro e w1 ⟨v, rfl, hown, h1⟩
      rw [hps] at hown
      obtain ⟨g, cap, rfl, -, hg, hc⟩ := row_strs hown (by simp)
      have c0 : w1.cell? ⟨g, 0, none⟩ = some (.string ⟨a.toArray⟩) := hc 0 (by simp)
      have c1 : w1.cell? ⟨g, 1, none⟩ = some (.string ⟨b.toArray⟩) := hc 1 (by simp)
      have c2 : w1.cell? ⟨g, 2, none⟩ = some (.string ⟨c.toArray⟩) := hc 2 (by simp)
      have c3 : w1.cell? ⟨g, 3, none⟩ = some (.string ⟨d.toArray⟩) := hc 3 (by simp)
      have c4 : w1.cell? ⟨g, 4, none⟩ = some (.string ⟨e.toArray⟩) := hc 4 (by simp)
      have c5 : w1.cell? ⟨g, 5, none⟩ = some (.string ⟨f.toArray⟩) := hc 5 (by simp)
      have HR1 := Lib.hid (show Res w1 w.heap.size from Res.on ⟨⟨by simp [go_sem], by simp [go_sem], by simp [go_sem], by simp [go_sem], by simp [go_sem], by simp [go_sem], by simp [go_sem], by simp [go_sem], by simp [go_sem]⟩, fun i => by simp [go_sem]⟩ h1)
      have z1 : w.heap.size < w1.heap.size := HR1.out.1.lt
      obtain ⟨r0, r1, r2, r3, r4, r5, r6, r7, r8⟩ := HR1.out.1
      have f0 := HR1.out.2 0
      have f1 := HR1.out.2 1
      have f2 := HR1.out.2 2
      have f3 := HR1.out.2 3
      have f4 := HR1.out.2 4
      have f5 := HR1.out.2 5
      have f6 := HR1.out.2 6
      have f7 := HR1.out.2 7
      have f8 := HR1.out.2 8
      have hlen : [a, b, c, d, e, f].length = 6 := rfl
      rw [hlen]
      have HO1 := Lib.hid (show On w w1 by repeat (first | with_reducible exact On.refl _ | with_reducible apply On.alloc | with_reducible apply On.drewN | with_reducible apply On.drew | with_reducible refine On.setCell ?_ (by (try simp) <;> omega) _ | refine On.trans ?_ h1))
      clear hc hown hlen h1
      go_wp2_with fail
      refine (HP.out _).mono ?_
      rintro e w2 ⟨v, rfl, hi, h2⟩
      have HR2 := Lib.hid (HR1.out.on h2)
      have z2 : w.heap.size < w2.heap.size := HR2.out.1.lt
      clear r0 r1 r2 r3 r4 r5 r6 r7 r8 f0 f1 f2 f3 f4 f5 f6 f7 f8
      have HO2 := Lib.hid (HO1.out.trans h2)
      obtain ⟨x1, x2, rfl, -⟩ := hi
      clear h2 c0 c1 c2 c3 c4 c5
      obtain ⟨r0, r1, r2, r3, r4, r5, r6, r7, r8⟩ := HR2.out.1
      have f0 := HR2.out.2 0
      have f1 := HR2.out.2 1
      have f2 := HR2.out.2 2
      have f3 := HR2.out.2 3
      have f4 := HR2.out.2 4
      have f5 := HR2.out.2 5
      have f6 := HR2.out.2 6
      have f7 := HR2.out.2 7
      have f8 := HR2.out.2 8
      go_wp2_with fail
      refine bodyPost_ret (v := .tuple #[.agg #[.string ⟨#[]⟩, .string ⟨#[]⟩, .string ⟨#[]⟩, .string ⟨#[]⟩, .string ⟨#[]⟩, .int .i64 0, .int .i64 0, .int .i64 0, .int .i64 0], .bool false]) (by simp [results, Tryd.results30, go_sem, r0, r1, r2, r3, r4, r5, r6, r7, r8]) rfl ⟨rfl, ?_⟩
      repeat (first | with_reducible exact On.refl _ | with_reducible apply On.alloc | with_reducible apply On.drewN | with_reducible apply On.drew | with_reducible refine On.setCell ?_ (by (try simp) <;> omega) _ | refine On.trans ?_ HO2.out)
    | true =>
      have hrl := rl_of g3
      rw [g3] at hp
      obtain ⟨zs, hzs⟩ : ∃ zs, zs = rlV f := ⟨_, rfl⟩
      rw [← hzs] at hp hrl
      clear hzs
      by_cases g4 : zs.length = 4
      · obtain ⟨v0, v1, v2, v3, rfl⟩ := four_of g4
        have HP := Lib.hid hp
        clear hp g4
        have hok := fun g w' hi => Sec.spec_ok g ⟨a.toArray⟩ ⟨b.toArray⟩ ⟨c.toArray⟩ ⟨d.toArray⟩ ⟨e.toArray⟩ v0 v1 v2 v3 w' qa qb qc qd qe hi
        cases g : okT ⟨a.toArray⟩ ⟨b.toArray⟩ ⟨c.toArray⟩ ⟨d.toArray⟩ ⟨e.toArray⟩ v0 v1 v2 v3 with
        | false =>
          have en := Lib.hid (t_no (rt_bad hps hrl g))
          obtain ⟨x0, x1, x2, x3, x4, x5, x6, x7, x8, x9⟩ := en.out
          rw [x0, x1, x2, x3, x4, x5, x6, x7, x8, x9]
          clear x0 x1 x2 x3 x4 x5 x6 x7 x8 x9 en
          rw [g] at hok
          have HOK := Lib.hid hok
          clear hok qa qb qc qd qe qf hrl
          go_enter Tryd.func30, Tryd.ntmps30
          go_wp2_with fail
          refine (HSP.out _).mono ?_
          rintro e w1 ⟨v, rfl, hown, h1⟩
          rw [hps] at hown
          obtain ⟨g, cap, rfl, -, hg, hc⟩ := row_strs hown (by simp)
          have c0 : w1.cell? ⟨g, 0, none⟩ = some (.string ⟨a.toArray⟩) := hc 0 (by simp)
          have c1 : w1.cell? ⟨g, 1, none⟩ = some (.string ⟨b.toArray⟩) := hc 1 (by simp)
          have c2 : w1.cell? ⟨g, 2, none⟩ = some (.string ⟨c.toArray⟩) := hc 2 (by simp)
          have c3 : w1.cell? ⟨g, 3, none⟩ = some (.string ⟨d.toArray⟩) := hc 3 (by simp)
          have c4 : w1.cell? ⟨g, 4, none⟩ = some (.string ⟨e.toArray⟩) := hc 4 (by simp)
          have c5 : w1.cell? ⟨g, 5, none⟩ = some (.string ⟨f.toArray⟩) := hc 5 (by simp)
          have HR1 := Lib.hid (show Res w1 w.heap.size from Res.on ⟨⟨by simp [go_sem], by simp [go_sem], by simp [go_sem], by simp [go_sem], by simp [go_sem], by simp [go_sem], by simp [go_sem], by simp [go_sem], by simp [go_sem]⟩, fun i => by simp [go_sem]⟩ h1)
          have z1 : w.heap.size < w1.heap.size := HR1.out.1.lt
          obtain ⟨r0, r1, r2, r3, r4, r5, r6, r7, r8⟩ := HR1.out.1
          have f0 := HR1.out.2 0
          have f1 := HR1.out.2 1
          have f2 := HR1.out.2 2
          have f3 := HR1.out.2 3
          have f4 := HR1.out.2 4
          have f5 := HR1.out.2 5
          have f6 := HR1.out.2 6
          have f7 := HR1.out.2 7
          have f8 := HR1.out.2 8
          have hlen : [a, b, c, d, e, f].length = 6 := rfl
          rw [hlen]
          have HO1 := Lib.hid (show On w w1 by repeat (first | with_reducible exact On.refl _ | with_reducible apply On.alloc | with_reducible apply On.drewN | with_reducible apply On.drew | with_reducible refine On.setCell ?_ (by (try simp) <;> omega) _ | refine On.trans ?_ h1))
          clear hc hown hlen h1
          go_wp2_with fail
          refine (HP.out _).mono ?_
          rintro e w2 ⟨v, rfl, hi, h2⟩
          have HR2 := Lib.hid (HR1.out.on h2)
          have z2 : w.heap.size < w2.heap.size := HR2.out.1.lt
          clear r0 r1 r2 r3 r4 r5 r6 r7 r8 f0 f1 f2 f3 f4 f5 f6 f7 f8
          have HO2 := Lib.hid (HO1.out.trans h2)
          have e0 := (h2.cell (by exact hg)).trans c0
          have e1 := (h2.cell (by exact hg)).trans c1
          have e2 := (h2.cell (by exact hg)).trans c2
          have e3 := (h2.cell (by exact hg)).trans c3
          have e4 := (h2.cell (by exact hg)).trans c4
          have z2g : g < w2.heap.size := h2.lts _ hg
          obtain ⟨xa, xc, rfl, hcell⟩ := hi
          obtain ⟨bk, q, rfl, hbk, hcell⟩ := hcell (by simp)
          have k0 : w2.cell? ⟨bk, q, none⟩ = some (.int .i64 v0) := hcell 0 (by simp)
          have k1 : w2.cell? ⟨bk, q + 1, none⟩ = some (.int .i64 v1) := hcell 1 (by simp)
          have k2 : w2.cell? ⟨bk, q + 2, none⟩ = some (.int .i64 v2) := hcell 2 (by simp)
          have k3 : w2.cell? ⟨bk, q + 3, none⟩ = some (.int .i64 v3) := hcell 3 (by simp)
          have hl4 : [v0, v1, v2, v3].length = 4 := rfl
          rw [hl4]
          clear h2 c0 c1 c2 c3 c4 c5 hcell hl4
          have HD := Lib.hid (fun w' (ho : On w2 w') => held9 (o := 0) (q := q) (by simpa using e0) (by simpa using e1) (by simpa using e2) (by simpa using e3) (by simpa using e4) k0 k1 k2 k3 ho)
          simp only [Nat.zero_add] at HD
          go_upto_region 7 with fail
          clear e0 e1 e2 e3 e4 k0 k1 k2 k3
          go_cut [7] (fun sa wx => ∃ G : Nat, sa = .pointer (some ⟨G, 0, none⟩) ∧ w2.heap.size ≤ G ∧ Sec.In wx G ⟨a.toArray⟩ ⟨b.toArray⟩ ⟨c.toArray⟩ ⟨d.toArray⟩ ⟨e.toArray⟩ v0 v1 v2 v3 ∧ On w2 wx)
          case first =>
            go_region_held3 (fun w' => On w2 w' ∧ w'.cell? ⟨g, 0, none⟩ = some (.string ⟨a.toArray⟩) ∧ w'.cell? ⟨g, 1, none⟩ = some (.string ⟨b.toArray⟩) ∧ w'.cell? ⟨g, 2, none⟩ = some (.string ⟨c.toArray⟩) ∧ w'.cell? ⟨g, 3, none⟩ = some (.string ⟨d.toArray⟩) ∧ w'.cell? ⟨g, 4, none⟩ = some (.string ⟨e.toArray⟩) ∧ w'.cell? ⟨bk, q, none⟩ = some (.int .i64 v0) ∧ w'.cell? ⟨bk, q + 1, none⟩ = some (.int .i64 v1) ∧ w'.cell? ⟨bk, q + 2, none⟩ = some (.int .i64 v2) ∧ w'.cell? ⟨bk, q + 3, none⟩ = some (.int .i64 v3))
              ((refine HD.out _ ?_; repeat (first | with_reducible exact On.refl _ | with_reducible assumption | with_reducible apply On.alloc | with_reducible apply On.drew | (obtain ⟨hOW, _⟩ := ‹On w2 _ ∧ _›; exact hOW) | (refine On.trans ?_ (by assumption)))))
              (first | fail | fail)
            all_goals
              go_wp2_with fail
              go_meet
              refine ⟨_, rfl, by (try simp), ⟨by simp [go_sem], by simp [go_sem], by simp [go_sem], by simp [go_sem], by simp [go_sem], by simp [go_sem], by simp [go_sem], by simp [go_sem], by simp [go_sem]⟩, ?_⟩
              repeat (first | with_reducible exact On.refl _ | with_reducible assumption | with_reducible apply On.alloc | with_reducible apply On.drew | (obtain ⟨hOW, _⟩ := ‹On w2 _ ∧ _›; exact hOW) | (refine On.trans ?_ (by assumption)))
          case rest =>
            obtain ⟨G, rfl, hG, hin, hO⟩ := hcut
            have h3 : On w wc := HO2.out.trans hO
            have HR3 := Lib.hid (HR2.out.on hO)
            have z3 : w.heap.size < wc.heap.size := HR3.out.1.lt
            obtain ⟨r0, r1, r2, r3, r4, r5, r6, r7, r8⟩ := HR3.out.1
            have f0 := HR3.out.2 0
            have f1 := HR3.out.2 1
            have f2 := HR3.out.2 2
            have f3 := HR3.out.2 3
            have f4 := HR3.out.2 4
            have f5 := HR3.out.2 5
            have f6 := HR3.out.2 6
            have f7 := HR3.out.2 7
            have f8 := HR3.out.2 8
            have hne : w.heap.size ≠ G := Nat.ne_of_lt (Nat.lt_of_lt_of_le HR2.out.1.lt hG)
            have HIN := Lib.hid hin
            have hlt := hin.lt
            go_wp2_with fail
            refine (HOK.out G _ hin).mono ?_
            rintro e w4 ⟨rfl, h4⟩
            have z4 : w.heap.size < w4.heap.size := h4.lts _ z3
            clear r0 r1 r2 r3 r4 r5 r6 r7 r8 f0 f1 f2 f3 f4 f5 f6 f7 f8 hlt hin
            have HR4 := Lib.hid (HR3.out.on h4)
            obtain ⟨r0, r1, r2, r3, r4, r5, r6, r7, r8⟩ := HR4.out.1
            have f0 := HR4.out.2 0
            have f1 := HR4.out.2 1
            have f2 := HR4.out.2 2
            have f3 := HR4.out.2 3
            have f4 := HR4.out.2 4
            have f5 := HR4.out.2 5
            have f6 := HR4.out.2 6
            have f7 := HR4.out.2 7
            have f8 := HR4.out.2 8
            obtain ⟨y0, y1, y2, y3, y4, y5, y6, y7, y8⟩ := HIN.out.on h4
            have hlt := World.block_lt_of_cell? _ _ y0
            go_wp2_with fail
            refine bodyPost_ret (v := .tuple #[.agg #[.string ⟨#[]⟩, .string ⟨#[]⟩, .string ⟨#[]⟩, .string ⟨#[]⟩, .string ⟨#[]⟩, .int .i64 0, .int .i64 0, .int .i64 0, .int .i64 0], .bool false]) (by simp [results, Tryd.results30, go_sem, r0, r1, r2, r3, r4, r5, r6, r7, r8]) rfl ⟨rfl, ?_⟩
            repeat (first | with_reducible exact On.refl _ | with_reducible apply On.alloc | with_reducible apply On.drewN | with_reducible apply On.drew | with_reducible refine On.setCell ?_ (by (try simp) <;> omega) _ | refine On.trans ?_ h4 | refine On.trans ?_ h3)
        | true =>
          have en := Lib.hid (t_yes (rt_good hps hrl g))
          obtain ⟨x0, x1, x2, x3, x4, x5, x6, x7, x8, x9⟩ := en.out
          rw [x0, x1, x2, x3, x4, x5, x6, x7, x8, x9]
          clear x0 x1 x2 x3 x4 x5 x6 x7 x8 x9 en
          rw [g] at hok
          have HOK := Lib.hid hok
          clear hok qa qb qc qd qe qf hrl
          go_enter Tryd.func30, Tryd.ntmps30
          go_wp2_with fail
          refine (HSP.out _).mono ?_
          rintro e w1 ⟨v, rfl, hown, h1⟩
          rw [hps] at hown
          obtain ⟨g, cap, rfl, -, hg, hc⟩ := row_strs hown (by simp)
          have c0 : w1.cell? ⟨g, 0, none⟩ = some (.string ⟨a.toArray⟩) := hc 0 (by simp)
          have c1 : w1.cell? ⟨g, 1, none⟩ = some (.string ⟨b.toArray⟩) := hc 1 (by simp)
          have c2 : w1.cell? ⟨g, 2, none⟩ = some (.string ⟨c.toArray⟩) := hc 2 (by simp)
          have c3 : w1.cell? ⟨g, 3, none⟩ = some (.string ⟨d.toArray⟩) := hc 3 (by simp)
          have c4 : w1.cell? ⟨g, 4, none⟩ = some (.string ⟨e.toArray⟩) := hc 4 (by simp)
          have c5 : w1.cell? ⟨g, 5, none⟩ = some (.string ⟨f.toArray⟩) := hc 5 (by simp)
          have HR1 := Lib.hid (show Res w1 w.heap.size from Res.on ⟨⟨by simp [go_sem], by simp [go_sem], by simp [go_sem], by simp [go_sem], by simp [go_sem], by simp [go_sem], by simp [go_sem], by simp [go_sem], by simp [go_sem]⟩, fun i => by simp [go_sem]⟩ h1)
          have z1 : w.heap.size < w1.heap.size := HR1.out.1.lt
          obtain ⟨r0, r1, r2, r3, r4, r5, r6, r7, r8⟩ := HR1.out.1
          have f0 := HR1.out.2 0
          have f1 := HR1.out.2 1
          have f2 := HR1.out.2 2
          have f3 := HR1.out.2 3
          have f4 := HR1.out.2 4
          have f5 := HR1.out.2 5
          have f6 := HR1.out.2 6
          have f7 := HR1.out.2 7
          have f8 := HR1.out.2 8
          have hlen : [a, b, c, d, e, f].length = 6 := rfl
          rw [hlen]
          have HO1 := Lib.hid (show On w w1 by repeat (first | with_reducible exact On.refl _ | with_reducible apply On.alloc | with_reducible apply On.drewN | with_reducible apply On.drew | with_reducible refine On.setCell ?_ (by (try simp) <;> omega) _ | refine On.trans ?_ h1))
          clear hc hown hlen h1
          go_wp2_with fail
          refine (HP.out _).mono ?_
          rintro e w2 ⟨v, rfl, hi, h2⟩
          have HR2 := Lib.hid (HR1.out.on h2)
          have z2 : w.heap.size < w2.heap.size := HR2.out.1.lt
          clear r0 r1 r2 r3 r4 r5 r6 r7 r8 f0 f1 f2 f3 f4 f5 f6 f7 f8
          have HO2 := Lib.hid (HO1.out.trans h2)
          have e0 := (h2.cell (by exact hg)).trans c0
          have e1 := (h2.cell (by exact hg)).trans c1
          have e2 := (h2.cell (by exact hg)).trans c2
          have e3 := (h2.cell (by exact hg)).trans c3
          have e4 := (h2.cell (by exact hg)).trans c4
          have z2g : g < w2.heap.size := h2.lts _ hg
          obtain ⟨xa, xc, rfl, hcell⟩ := hi
          obtain ⟨bk, q, rfl, hbk, hcell⟩ := hcell (by simp)
          have k0 : w2.cell? ⟨bk, q, none⟩ = some (.int .i64 v0) := hcell 0 (by simp)
          have k1 : w2.cell? ⟨bk, q + 1, none⟩ = some (.int .i64 v1) := hcell 1 (by simp)
          have k2 : w2.cell? ⟨bk, q + 2, none⟩ = some (.int .i64 v2) := hcell 2 (by simp)
          have k3 : w2.cell? ⟨bk, q + 3, none⟩ = some (.int .i64 v3) := hcell 3 (by simp)
          have hl4 : [v0, v1, v2, v3].length = 4 := rfl
          rw [hl4]
          clear h2 c0 c1 c2 c3 c4 c5 hcell hl4
          have HD := Lib.hid (fun w' (ho : On w2 w') => held9 (o := 0) (q := q) (by simpa using e0) (by simpa using e1) (by simpa using e2) (by simpa using e3) (by simpa using e4) k0 k1 k2 k3 ho)
          simp only [Nat.zero_add] at HD
          go_upto_region 7 with fail
          clear e0 e1 e2 e3 e4 k0 k1 k2 k3
          go_cut [7] (fun sa wx => ∃ G : Nat, sa = .pointer (some ⟨G, 0, none⟩) ∧ w2.heap.size ≤ G ∧ Sec.In wx G ⟨a.toArray⟩ ⟨b.toArray⟩ ⟨c.toArray⟩ ⟨d.toArray⟩ ⟨e.toArray⟩ v0 v1 v2 v3 ∧ On w2 wx)
          case first =>
            go_region_held3 (fun w' => On w2 w' ∧ w'.cell? ⟨g, 0, none⟩ = some (.string ⟨a.toArray⟩) ∧ w'.cell? ⟨g, 1, none⟩ = some (.string ⟨b.toArray⟩) ∧ w'.cell? ⟨g, 2, none⟩ = some (.string ⟨c.toArray⟩) ∧ w'.cell? ⟨g, 3, none⟩ = some (.string ⟨d.toArray⟩) ∧ w'.cell? ⟨g, 4, none⟩ = some (.string ⟨e.toArray⟩) ∧ w'.cell? ⟨bk, q, none⟩ = some (.int .i64 v0) ∧ w'.cell? ⟨bk, q + 1, none⟩ = some (.int .i64 v1) ∧ w'.cell? ⟨bk, q + 2, none⟩ = some (.int .i64 v2) ∧ w'.cell? ⟨bk, q + 3, none⟩ = some (.int .i64 v3))
              ((refine HD.out _ ?_; repeat (first | with_reducible exact On.refl _ | with_reducible assumption | with_reducible apply On.alloc | with_reducible apply On.drew | (obtain ⟨hOW, _⟩ := ‹On w2 _ ∧ _›; exact hOW) | (refine On.trans ?_ (by assumption)))))
              (first | fail | fail)
            all_goals
              go_wp2_with fail
              go_meet
              refine ⟨_, rfl, by (try simp), ⟨by simp [go_sem], by simp [go_sem], by simp [go_sem], by simp [go_sem], by simp [go_sem], by simp [go_sem], by simp [go_sem], by simp [go_sem], by simp [go_sem]⟩, ?_⟩
              repeat (first | with_reducible exact On.refl _ | with_reducible assumption | with_reducible apply On.alloc | with_reducible apply On.drew | (obtain ⟨hOW, _⟩ := ‹On w2 _ ∧ _›; exact hOW) | (refine On.trans ?_ (by assumption)))
          case rest =>
            obtain ⟨G, rfl, hG, hin, hO⟩ := hcut
            have h3 : On w wc := HO2.out.trans hO
            have HR3 := Lib.hid (HR2.out.on hO)
            have z3 : w.heap.size < wc.heap.size := HR3.out.1.lt
            obtain ⟨r0, r1, r2, r3, r4, r5, r6, r7, r8⟩ := HR3.out.1
            have f0 := HR3.out.2 0
            have f1 := HR3.out.2 1
            have f2 := HR3.out.2 2
            have f3 := HR3.out.2 3
            have f4 := HR3.out.2 4
            have f5 := HR3.out.2 5
            have f6 := HR3.out.2 6
            have f7 := HR3.out.2 7
            have f8 := HR3.out.2 8
            have hne : w.heap.size ≠ G := Nat.ne_of_lt (Nat.lt_of_lt_of_le HR2.out.1.lt hG)
            have HIN := Lib.hid hin
            have hlt := hin.lt
            go_wp2_with fail
            refine (HOK.out G _ hin).mono ?_
            rintro e w4 ⟨rfl, h4⟩
            have z4 : w.heap.size < w4.heap.size := h4.lts _ z3
            clear r0 r1 r2 r3 r4 r5 r6 r7 r8 f0 f1 f2 f3 f4 f5 f6 f7 f8 hlt hin
            have HR4 := Lib.hid (HR3.out.on h4)
            obtain ⟨r0, r1, r2, r3, r4, r5, r6, r7, r8⟩ := HR4.out.1
            have f0 := HR4.out.2 0
            have f1 := HR4.out.2 1
            have f2 := HR4.out.2 2
            have f3 := HR4.out.2 3
            have f4 := HR4.out.2 4
            have f5 := HR4.out.2 5
            have f6 := HR4.out.2 6
            have f7 := HR4.out.2 7
            have f8 := HR4.out.2 8
            obtain ⟨y0, y1, y2, y3, y4, y5, y6, y7, y8⟩ := HIN.out.on h4
            have hlt := World.block_lt_of_cell? _ _ y0
            go_wp2_with fail
            refine bodyPost_ret (v := .tuple #[.agg #[.string ⟨a.toArray⟩, .string ⟨b.toArray⟩, .string ⟨c.toArray⟩, .string ⟨d.toArray⟩, .string ⟨e.toArray⟩, .int .i64 v0, .int .i64 v1, .int .i64 v2, .int .i64 v3], .bool true]) (by simp [results, Tryd.results30, go_sem, r0, r1, r2, r3, r4, r5, r6, r7, r8]) rfl ⟨rfl, ?_⟩
            repeat (first | with_reducible exact On.refl _ | with_reducible apply On.alloc | with_reducible apply On.drewN | with_reducible apply On.drew | with_reducible refine On.setCell ?_ (by (try simp) <;> omega) _ | refine On.trans ?_ h4 | refine On.trans ?_ h3)

      · have n4 : ((zs.length : Int) == 4) = false := beq_eq_false_iff_ne.2 (by omega)
        have n5 : ((zs.length : Int) != 4) = true := by rw [bne, n4]; rfl
        have en := Lib.hid (t_no (rt_four hps hrl g4))
        obtain ⟨x0, x1, x2, x3, x4, x5, x6, x7, x8, x9⟩ := en.out
        rw [x0, x1, x2, x3, x4, x5, x6, x7, x8, x9]
        clear x0 x1 x2 x3 x4 x5 x6 x7 x8 x9 en
        have HP := Lib.hid hp
        clear hp hrl qa qb qc qd qe qf g4
        go_enter Tryd.func30, Tryd.ntmps30
        go_wp2_with fail
        refine (HSP.out _).mono ?_
        rintro e w1 ⟨v, rfl, hown, h1⟩
        rw [hps] at hown
        obtain ⟨g, cap, rfl, -, hg, hc⟩ := row_strs hown (by simp)
        have c0 : w1.cell? ⟨g, 0, none⟩ = some (.string ⟨a.toArray⟩) := hc 0 (by simp)
        have c1 : w1.cell? ⟨g, 1, none⟩ = some (.string ⟨b.toArray⟩) := hc 1 (by simp)
        have c2 : w1.cell? ⟨g, 2, none⟩ = some (.string ⟨c.toArray⟩) := hc 2 (by simp)
        have c3 : w1.cell? ⟨g, 3, none⟩ = some (.string ⟨d.toArray⟩) := hc 3 (by simp)
        have c4 : w1.cell? ⟨g, 4, none⟩ = some (.string ⟨e.toArray⟩) := hc 4 (by simp)
        have c5 : w1.cell? ⟨g, 5, none⟩ = some (.string ⟨f.toArray⟩) := hc 5 (by simp)
        have HR1 := Lib.hid (show Res w1 w.heap.size from Res.on ⟨⟨by simp [go_sem], by simp [go_sem], by simp [go_sem], by simp [go_sem], by simp [go_sem], by simp [go_sem], by simp [go_sem], by simp [go_sem], by simp [go_sem]⟩, fun i => by simp [go_sem]⟩ h1)
        have z1 : w.heap.size < w1.heap.size := HR1.out.1.lt
        obtain ⟨r0, r1, r2, r3, r4, r5, r6, r7, r8⟩ := HR1.out.1
        have f0 := HR1.out.2 0
        have f1 := HR1.out.2 1
        have f2 := HR1.out.2 2
        have f3 := HR1.out.2 3
        have f4 := HR1.out.2 4
        have f5 := HR1.out.2 5
        have f6 := HR1.out.2 6
        have f7 := HR1.out.2 7
        have f8 := HR1.out.2 8
        have hlen : [a, b, c, d, e, f].length = 6 := rfl
        rw [hlen]
        have HO1 := Lib.hid (show On w w1 by repeat (first | with_reducible exact On.refl _ | with_reducible apply On.alloc | with_reducible apply On.drewN | with_reducible apply On.drew | with_reducible refine On.setCell ?_ (by (try simp) <;> omega) _ | refine On.trans ?_ h1))
        clear hc hown hlen h1
        go_wp2_with fail
        refine (HP.out _).mono ?_
        rintro e w2 ⟨v, rfl, hi, h2⟩
        have HR2 := Lib.hid (HR1.out.on h2)
        have z2 : w.heap.size < w2.heap.size := HR2.out.1.lt
        clear r0 r1 r2 r3 r4 r5 r6 r7 r8 f0 f1 f2 f3 f4 f5 f6 f7 f8
        have HO2 := Lib.hid (HO1.out.trans h2)
        obtain ⟨x1, x2, rfl, -⟩ := hi
        clear h2 c0 c1 c2 c3 c4 c5
        obtain ⟨r0, r1, r2, r3, r4, r5, r6, r7, r8⟩ := HR2.out.1
        have f0 := HR2.out.2 0
        have f1 := HR2.out.2 1
        have f2 := HR2.out.2 2
        have f3 := HR2.out.2 3
        have f4 := HR2.out.2 4
        have f5 := HR2.out.2 5
        have f6 := HR2.out.2 6
        have f7 := HR2.out.2 7
        have f8 := HR2.out.2 8
        go_wp2_with fail
        refine bodyPost_ret (v := .tuple #[.agg #[.string ⟨#[]⟩, .string ⟨#[]⟩, .string ⟨#[]⟩, .string ⟨#[]⟩, .string ⟨#[]⟩, .int .i64 0, .int .i64 0, .int .i64 0, .int .i64 0], .bool false]) (by simp [results, Tryd.results30, go_sem, r0, r1, r2, r3, r4, r5, r6, r7, r8]) rfl ⟨rfl, ?_⟩
        repeat (first | with_reducible exact On.refl _ | with_reducible apply On.alloc | with_reducible apply On.drewN | with_reducible apply On.drew | with_reducible refine On.setCell ?_ (by (try simp) <;> omega) _ | refine On.trans ?_ HO2.out)
  · have en := Lib.hid (t_no (rt_len (l := s.data.toList) (by rw [hps]; exact h6)))
    obtain ⟨x0, x1, x2, x3, x4, x5, x6, x7, x8, x9⟩ := en.out
    rw [x0, x1, x2, x3, x4, x5, x6, x7, x8, x9]
    clear x0 x1 x2 x3 x4 x5 x6 x7 x8 x9 en hplen
    have hn : ((ps.length : Int) == 6) = false := beq_eq_false_iff_ne.2 (by omega)
    have hn2 : ((ps.length : Int) != 6) = true := by rw [bne, hn]; rfl
    go_enter Tryd.func30, Tryd.ntmps30
    go_wp2_with fail
    refine (HSP.out _).mono ?_
    rintro e w1 ⟨v, rfl, hown, h1⟩
    rw [hps] at hown
    have h0 : 0 < ps.length := by rw [← hps]; exact List.length_pos_iff.2 (pieces_ne _ _)
    obtain ⟨g, cap, rfl, -, hg, -⟩ := row_strs hown h0
    have HR1 := Lib.hid (show Res w1 w.heap.size from Res.on ⟨⟨by simp [go_sem], by simp [go_sem], by simp [go_sem], by simp [go_sem], by simp [go_sem], by simp [go_sem], by simp [go_sem], by simp [go_sem], by simp [go_sem]⟩, fun i => by simp [go_sem]⟩ h1)
    have z1 : w.heap.size < w1.heap.size := HR1.out.1.lt
    obtain ⟨r0, r1, r2, r3, r4, r5, r6, r7, r8⟩ := HR1.out.1
    have f0 := HR1.out.2 0
    have f1 := HR1.out.2 1
    have f2 := HR1.out.2 2
    have f3 := HR1.out.2 3
    have f4 := HR1.out.2 4
    have f5 := HR1.out.2 5
    have f6 := HR1.out.2 6
    have f7 := HR1.out.2 7
    have f8 := HR1.out.2 8
    clear hown hps HSP h6
    go_wp2_with fail
    refine bodyPost_ret (v := .tuple #[.agg #[.string ⟨#[]⟩, .string ⟨#[]⟩, .string ⟨#[]⟩, .string ⟨#[]⟩, .string ⟨#[]⟩, .int .i64 0, .int .i64 0, .int .i64 0, .int .i64 0], .bool false]) (by simp [results, Tryd.results30, go_sem, r0, r1, r2, r3, r4, r5, r6, r7, r8]) rfl ⟨rfl, ?_⟩
    repeat (first | with_reducible exact On.refl _ | with_reducible apply On.alloc | with_reducible apply On.drewN | with_reducible apply On.drew | with_reducible refine On.setCell ?_ (by (try simp) <;> omega) _ | refine On.trans ?_ h1)

set_option maxRecDepth 100000 in
set_option maxHeartbeats 8000000 in
theorem impl_ReadSector (s : ByteArray) (m : Int) (w : World) (hs : s.size ≤ 1048576) (hm : w.cell? ⟨1, 0, none⟩ = some (.int .i64 m)) (hw : Tabs.Sent w) (ht : Lib.TabBelow Tryd.prog w.heap.size w "internal/strconv.uint64pow10" .u64 Lib.pow10Tab) :
    Calls Tryd.prog 31 #[.string s] w fun e w' => e = .returned (.tuple #[.agg #[.string (tS0 s.data.toList), .string (tS1 s.data.toList), .string (tS2 s.data.toList), .string (tS3 s.data.toList), .string (tS4 s.data.toList), .int .i64 (tV0 s.data.toList), .int .i64 (tV1 s.data.toList), .int .i64 (tV2 s.data.toList), .int .i64 (tV3 s.data.toList)], .bool (tO s.data.toList)]) ∧ On w w' := by
  have hml := World.block_lt_of_cell? w _ hm
  have HSP := Lib.hid (fun w' (ho : On w w') => Words.impl_words s m w' hs ((ho.cell (by exact hml)).trans hm))
  have hplen : ∀ p ∈ words s.data.toList, p.length ≤ 1048576 := fun p hp => Nat.le_trans (word_len hp) (by rw [Num.len_data]; exact hs)
  have hRP := fun (t : ByteArray) (ht2 : t.size ≤ 1048576) w' (ho : On w w') => ReadList.impl_readList t m w' ht2 ((ho.cell (by exact hml)).trans hm) (hw.below ho) (fun w'' hb => ht w'' (On.trans ho hb))
  have hTX := fun (s0 s1 s2 s3 s4 : ByteArray) (v0 v1 v2 v3 : Int) (q0 : s0.size ≤ 1048576) (q1 : s1.size ≤ 1048576) (q2 : s2.size ≤ 1048576) (q3 : s3.size ≤ 1048576) (q4 : s4.size ≤ 1048576) w' (ho : On w w') => Sec.impl_SectorText s0 s1 s2 s3 s4 v0 v1 v2 v3 w' q0 q1 q2 q3 q4 (fun w'' hb => ht w'' (On.trans ho hb))
  clear hm hw ht hml
  obtain ⟨ps, hps⟩ : ∃ ps, words s.data.toList = ps := ⟨_, rfl⟩
  by_cases h6 : ps.length = 6
  · obtain ⟨a, b, c, d, e, f, rfl⟩ := six_of h6
    clear h6
    have qa : (⟨a.toArray⟩ : ByteArray).size ≤ 1048576 := size_le (hplen a (by rw [hps]; simp))
    have qb : (⟨b.toArray⟩ : ByteArray).size ≤ 1048576 := size_le (hplen b (by rw [hps]; simp))
    have qc : (⟨c.toArray⟩ : ByteArray).size ≤ 1048576 := size_le (hplen c (by rw [hps]; simp))
    have qd : (⟨d.toArray⟩ : ByteArray).size ≤ 1048576 := size_le (hplen d (by rw [hps]; simp))
    have qe : (⟨e.toArray⟩ : ByteArray).size ≤ 1048576 := size_le (hplen e (by rw [hps]; simp))
    have qf : (⟨f.toArray⟩ : ByteArray).size ≤ 1048576 := size_le (hplen f (by rw [hps]; simp))
    have hp := fun w' (ho : On w w') => hRP ⟨f.toArray⟩ qf w' ho
    rw [str_data] at hp
    clear hplen hRP
    cases g3 : rlB f with
    | false =>
      have en := Lib.hid (t_no (rt_words_list hps (.inl (rl_no g3))))
      obtain ⟨x0, x1, x2, x3, x4, x5, x6, x7, x8, x9⟩ := en.out
      rw [x0, x1, x2, x3, x4, x5, x6, x7, x8, x9]
      clear x0 x1 x2 x3 x4 x5 x6 x7 x8 x9 en
      rw [g3] at hp
      have HP := Lib.hid hp
      clear hp qa qb qc qd qe qf hTX
      go_enter Tryd.func31, Tryd.ntmps31
      go_wp2_with fail
      refine (HSP.out _ (by repeat (first | with_reducible exact On.refl _ | with_reducible apply On.alloc | with_reducible apply On.drewN | with_reducible apply On.drew | with_reducible refine On.setCell ?_ (by (try simp) <;> omega) _))).mono ?_
      rintro e w1 ⟨v, rfl, hown, h1⟩
      rw [hps] at hown
      obtain ⟨g, off, cap, rfl, hg, hc⟩ := row_texts hown (by simp)
      have c0 : w1.cell? ⟨g, off, none⟩ = some (.string ⟨a.toArray⟩) := hc 0 (by simp)
      have c1 : w1.cell? ⟨g, off + 1, none⟩ = some (.string ⟨b.toArray⟩) := hc 1 (by simp)
      have c2 : w1.cell? ⟨g, off + 2, none⟩ = some (.string ⟨c.toArray⟩) := hc 2 (by simp)
      have c3 : w1.cell? ⟨g, off + 3, none⟩ = some (.string ⟨d.toArray⟩) := hc 3 (by simp)
      have c4 : w1.cell? ⟨g, off + 4, none⟩ = some (.string ⟨e.toArray⟩) := hc 4 (by simp)
      have c5 : w1.cell? ⟨g, off + 5, none⟩ = some (.string ⟨f.toArray⟩) := hc 5 (by simp)
      have HR1 := Lib.hid (show Res w1 w.heap.size from Res.on ⟨⟨by simp [go_sem], by simp [go_sem], by simp [go_sem], by simp [go_sem], by simp [go_sem], by simp [go_sem], by simp [go_sem], by simp [go_sem], by simp [go_sem]⟩, fun i => by simp [go_sem]⟩ h1)
      have z1 : w.heap.size < w1.heap.size := HR1.out.1.lt
      obtain ⟨r0, r1, r2, r3, r4, r5, r6, r7, r8⟩ := HR1.out.1
      have f0 := HR1.out.2 0
      have f1 := HR1.out.2 1
      have f2 := HR1.out.2 2
      have f3 := HR1.out.2 3
      have f4 := HR1.out.2 4
      have f5 := HR1.out.2 5
      have f6 := HR1.out.2 6
      have f7 := HR1.out.2 7
      have f8 := HR1.out.2 8
      have hlen : [a, b, c, d, e, f].length = 6 := rfl
      rw [hlen]
      have HO1 := Lib.hid (show On w w1 by repeat (first | with_reducible exact On.refl _ | with_reducible apply On.alloc | with_reducible apply On.drewN | with_reducible apply On.drew | with_reducible refine On.setCell ?_ (by (try simp) <;> omega) _ | refine On.trans ?_ h1))
      clear hc hown hlen h1
      go_wp2_with fail
      refine (HP.out _ HO1.out).mono ?_
      rintro e w2 ⟨v, rfl, hi, h2⟩
      have HR2 := Lib.hid (HR1.out.on h2)
      have z2 : w.heap.size < w2.heap.size := HR2.out.1.lt
      clear r0 r1 r2 r3 r4 r5 r6 r7 r8 f0 f1 f2 f3 f4 f5 f6 f7 f8
      have HO2 := Lib.hid (HO1.out.trans h2)
      obtain ⟨x1, x2, rfl, -⟩ := hi
      clear h2 c0 c1 c2 c3 c4 c5
      obtain ⟨r0, r1, r2, r3, r4, r5, r6, r7, r8⟩ := HR2.out.1
      have f0 := HR2.out.2 0
      have f1 := HR2.out.2 1
      have f2 := HR2.out.2 2
      have f3 := HR2.out.2 3
      have f4 := HR2.out.2 4
      have f5 := HR2.out.2 5
      have f6 := HR2.out.2 6
      have f7 := HR2.out.2 7
      have f8 := HR2.out.2 8
      go_wp2_with fail
      refine bodyPost_ret (v := .tuple #[.agg #[.string ⟨#[]⟩, .string ⟨#[]⟩, .string ⟨#[]⟩, .string ⟨#[]⟩, .string ⟨#[]⟩, .int .i64 0, .int .i64 0, .int .i64 0, .int .i64 0], .bool false]) (by simp [results, Tryd.results31, go_sem, r0, r1, r2, r3, r4, r5, r6, r7, r8]) rfl ⟨rfl, ?_⟩
      repeat (first | with_reducible exact On.refl _ | with_reducible apply On.alloc | with_reducible apply On.drewN | with_reducible apply On.drew | with_reducible refine On.setCell ?_ (by (try simp) <;> omega) _ | refine On.trans ?_ HO2.out)
    | true =>
      have hrl := rl_of g3
      rw [g3] at hp
      obtain ⟨zs, hzs⟩ : ∃ zs, zs = rlV f := ⟨_, rfl⟩
      rw [← hzs] at hp hrl
      clear hzs
      by_cases g4 : zs.length = 4
      · obtain ⟨v0, v1, v2, v3, rfl⟩ := four_of g4
        have HP := Lib.hid hp
        clear hp g4
        have hst := fun w' (ho : On w w') => hTX ⟨a.toArray⟩ ⟨b.toArray⟩ ⟨c.toArray⟩ ⟨d.toArray⟩ ⟨e.toArray⟩ v0 v1 v2 v3 qa qb qc qd qe w' ho
        clear hTX
        by_cases g : (secT ⟨a.toArray⟩ ⟨b.toArray⟩ ⟨c.toArray⟩ ⟨d.toArray⟩ ⟨e.toArray⟩ v0 v1 v2 v3).data.toList = s.data.toList
        · have g1 := str_eq g
          have en := Lib.hid (t_yes (rt_words_good hps hrl g))
          obtain ⟨x0, x1, x2, x3, x4, x5, x6, x7, x8, x9⟩ := en.out
          rw [x0, x1, x2, x3, x4, x5, x6, x7, x8, x9]
          clear x0 x1 x2 x3 x4 x5 x6 x7 x8 x9 en
          generalize secT ⟨a.toArray⟩ ⟨b.toArray⟩ ⟨c.toArray⟩ ⟨d.toArray⟩ ⟨e.toArray⟩ v0 v1 v2 v3 = u at *
          have HST := Lib.hid hst
          clear hst g qa qb qc qd qe qf hrl
          go_enter Tryd.func31, Tryd.ntmps31
          go_wp2_with fail
          refine (HSP.out _ (by repeat (first | with_reducible exact On.refl _ | with_reducible apply On.alloc | with_reducible apply On.drewN | with_reducible apply On.drew | with_reducible refine On.setCell ?_ (by (try simp) <;> omega) _))).mono ?_
          rintro e w1 ⟨v, rfl, hown, h1⟩
          rw [hps] at hown
          obtain ⟨g, off, cap, rfl, hg, hc⟩ := row_texts hown (by simp)
          have c0 : w1.cell? ⟨g, off, none⟩ = some (.string ⟨a.toArray⟩) := hc 0 (by simp)
          have c1 : w1.cell? ⟨g, off + 1, none⟩ = some (.string ⟨b.toArray⟩) := hc 1 (by simp)
          have c2 : w1.cell? ⟨g, off + 2, none⟩ = some (.string ⟨c.toArray⟩) := hc 2 (by simp)
          have c3 : w1.cell? ⟨g, off + 3, none⟩ = some (.string ⟨d.toArray⟩) := hc 3 (by simp)
          have c4 : w1.cell? ⟨g, off + 4, none⟩ = some (.string ⟨e.toArray⟩) := hc 4 (by simp)
          have c5 : w1.cell? ⟨g, off + 5, none⟩ = some (.string ⟨f.toArray⟩) := hc 5 (by simp)
          have HR1 := Lib.hid (show Res w1 w.heap.size from Res.on ⟨⟨by simp [go_sem], by simp [go_sem], by simp [go_sem], by simp [go_sem], by simp [go_sem], by simp [go_sem], by simp [go_sem], by simp [go_sem], by simp [go_sem]⟩, fun i => by simp [go_sem]⟩ h1)
          have z1 : w.heap.size < w1.heap.size := HR1.out.1.lt
          obtain ⟨r0, r1, r2, r3, r4, r5, r6, r7, r8⟩ := HR1.out.1
          have f0 := HR1.out.2 0
          have f1 := HR1.out.2 1
          have f2 := HR1.out.2 2
          have f3 := HR1.out.2 3
          have f4 := HR1.out.2 4
          have f5 := HR1.out.2 5
          have f6 := HR1.out.2 6
          have f7 := HR1.out.2 7
          have f8 := HR1.out.2 8
          have hlen : [a, b, c, d, e, f].length = 6 := rfl
          rw [hlen]
          have HO1 := Lib.hid (show On w w1 by repeat (first | with_reducible exact On.refl _ | with_reducible apply On.alloc | with_reducible apply On.drewN | with_reducible apply On.drew | with_reducible refine On.setCell ?_ (by (try simp) <;> omega) _ | refine On.trans ?_ h1))
          clear hc hown hlen h1
          go_wp2_with fail
          refine (HP.out _ HO1.out).mono ?_
          rintro e w2 ⟨v, rfl, hi, h2⟩
          have HR2 := Lib.hid (HR1.out.on h2)
          have z2 : w.heap.size < w2.heap.size := HR2.out.1.lt
          clear r0 r1 r2 r3 r4 r5 r6 r7 r8 f0 f1 f2 f3 f4 f5 f6 f7 f8
          have HO2 := Lib.hid (HO1.out.trans h2)
          have e0 := (h2.cell (by exact hg)).trans c0
          have e1 := (h2.cell (by exact hg)).trans c1
          have e2 := (h2.cell (by exact hg)).trans c2
          have e3 := (h2.cell (by exact hg)).trans c3
          have e4 := (h2.cell (by exact hg)).trans c4
          have z2g : g < w2.heap.size := h2.lts _ hg
          obtain ⟨xa, xc, rfl, hcell⟩ := hi
          obtain ⟨bk, q, rfl, -, hbk, -, hcell⟩ := hcell (by simp)
          have k0 : w2.cell? ⟨bk, q, none⟩ = some (.int .i64 v0) := hcell 0 (by simp)
          have k1 : w2.cell? ⟨bk, q + 1, none⟩ = some (.int .i64 v1) := hcell 1 (by simp)
          have k2 : w2.cell? ⟨bk, q + 2, none⟩ = some (.int .i64 v2) := hcell 2 (by simp)
          have k3 : w2.cell? ⟨bk, q + 3, none⟩ = some (.int .i64 v3) := hcell 3 (by simp)
          have hl4 : [v0, v1, v2, v3].length = 4 := rfl
          rw [hl4]
          clear h2 c0 c1 c2 c3 c4 c5 hcell hl4
          have HD := Lib.hid (fun w' (ho : On w2 w') => held9 (o := off) (q := q) e0 e1 e2 e3 e4 k0 k1 k2 k3 ho)
          go_upto_region 7 with fail
          clear e0 e1 e2 e3 e4 k0 k1 k2 k3
          go_cut [7] (fun sa wx => ∃ G : Nat, sa = .pointer (some ⟨G, 0, none⟩) ∧ w2.heap.size ≤ G ∧ Sec.In wx G ⟨a.toArray⟩ ⟨b.toArray⟩ ⟨c.toArray⟩ ⟨d.toArray⟩ ⟨e.toArray⟩ v0 v1 v2 v3 ∧ On w2 wx)
          case first =>
            go_region_held3 (fun w' => On w2 w' ∧ w'.cell? ⟨g, off, none⟩ = some (.string ⟨a.toArray⟩) ∧ w'.cell? ⟨g, off + 1, none⟩ = some (.string ⟨b.toArray⟩) ∧ w'.cell? ⟨g, off + 2, none⟩ = some (.string ⟨c.toArray⟩) ∧ w'.cell? ⟨g, off + 3, none⟩ = some (.string ⟨d.toArray⟩) ∧ w'.cell? ⟨g, off + 4, none⟩ = some (.string ⟨e.toArray⟩) ∧ w'.cell? ⟨bk, q, none⟩ = some (.int .i64 v0) ∧ w'.cell? ⟨bk, q + 1, none⟩ = some (.int .i64 v1) ∧ w'.cell? ⟨bk, q + 2, none⟩ = some (.int .i64 v2) ∧ w'.cell? ⟨bk, q + 3, none⟩ = some (.int .i64 v3))
              ((refine HD.out _ ?_; repeat (first | with_reducible exact On.refl _ | with_reducible assumption | with_reducible apply On.alloc | with_reducible apply On.drew | (obtain ⟨hOW, _⟩ := ‹On w2 _ ∧ _›; exact hOW) | (refine On.trans ?_ (by assumption)))))
              (first | fail | fail)
            all_goals
              go_wp2_with fail
              go_meet
              refine ⟨_, rfl, by (try simp), ⟨by simp [go_sem], by simp [go_sem], by simp [go_sem], by simp [go_sem], by simp [go_sem], by simp [go_sem], by simp [go_sem], by simp [go_sem], by simp [go_sem]⟩, ?_⟩
              repeat (first | with_reducible exact On.refl _ | with_reducible assumption | with_reducible apply On.alloc | with_reducible apply On.drew | (obtain ⟨hOW, _⟩ := ‹On w2 _ ∧ _›; exact hOW) | (refine On.trans ?_ (by assumption)))
          case rest =>
            obtain ⟨G, rfl, hG, hin, hO⟩ := hcut
            have h3 : On w wc := HO2.out.trans hO
            have HR3 := Lib.hid (HR2.out.on hO)
            have z3 : w.heap.size < wc.heap.size := HR3.out.1.lt
            obtain ⟨r0, r1, r2, r3, r4, r5, r6, r7, r8⟩ := HR3.out.1
            have f0 := HR3.out.2 0
            have f1 := HR3.out.2 1
            have f2 := HR3.out.2 2
            have f3 := HR3.out.2 3
            have f4 := HR3.out.2 4
            have f5 := HR3.out.2 5
            have f6 := HR3.out.2 6
            have f7 := HR3.out.2 7
            have f8 := HR3.out.2 8
            have hne : w.heap.size ≠ G := Nat.ne_of_lt (Nat.lt_of_lt_of_le HR2.out.1.lt hG)
            have HIN := Lib.hid hin
            have hlt := hin.lt
            obtain ⟨y0, y1, y2, y3, y4, y5, y6, y7, y8⟩ := hin
            go_wp2_with fail
            refine (HST.out _ h3).mono ?_
            rintro e w4 ⟨rfl, h4⟩
            have z4 : w.heap.size < w4.heap.size := h4.lts _ z3
            clear r0 r1 r2 r3 r4 r5 r6 r7 r8 f0 f1 f2 f3 f4 f5 f6 f7 f8 y0 y1 y2 y3 y4 y5 y6 y7 y8 hlt
            have HR4 := Lib.hid (HR3.out.on h4)
            obtain ⟨r0, r1, r2, r3, r4, r5, r6, r7, r8⟩ := HR4.out.1
            have f0 := HR4.out.2 0
            have f1 := HR4.out.2 1
            have f2 := HR4.out.2 2
            have f3 := HR4.out.2 3
            have f4 := HR4.out.2 4
            have f5 := HR4.out.2 5
            have f6 := HR4.out.2 6
            have f7 := HR4.out.2 7
            have f8 := HR4.out.2 8
            obtain ⟨y0, y1, y2, y3, y4, y5, y6, y7, y8⟩ := HIN.out.on h4
            have hlt := World.block_lt_of_cell? _ _ y0
            go_wp2_with fail
            refine bodyPost_ret (v := .tuple #[.agg #[.string ⟨a.toArray⟩, .string ⟨b.toArray⟩, .string ⟨c.toArray⟩, .string ⟨d.toArray⟩, .string ⟨e.toArray⟩, .int .i64 v0, .int .i64 v1, .int .i64 v2, .int .i64 v3], .bool true]) (by simp [results, Tryd.results31, go_sem, r0, r1, r2, r3, r4, r5, r6, r7, r8]) rfl ⟨rfl, ?_⟩
            repeat (first | with_reducible exact On.refl _ | with_reducible apply On.alloc | with_reducible apply On.drewN | with_reducible apply On.drew | with_reducible refine On.setCell ?_ (by (try simp) <;> omega) _ | refine On.trans ?_ h4 | refine On.trans ?_ h3)
        · have g1 := str_ne g
          have g2 : ¬ (secT ⟨a.toArray⟩ ⟨b.toArray⟩ ⟨c.toArray⟩ ⟨d.toArray⟩ ⟨e.toArray⟩ v0 v1 v2 v3).toList = s.toList := ne_of_beq_false g1
          have en := Lib.hid (t_no (rt_words_bad hps hrl g))
          obtain ⟨x0, x1, x2, x3, x4, x5, x6, x7, x8, x9⟩ := en.out
          rw [x0, x1, x2, x3, x4, x5, x6, x7, x8, x9]
          clear x0 x1 x2 x3 x4 x5 x6 x7 x8 x9 en
          generalize secT ⟨a.toArray⟩ ⟨b.toArray⟩ ⟨c.toArray⟩ ⟨d.toArray⟩ ⟨e.toArray⟩ v0 v1 v2 v3 = u at *
          have HST := Lib.hid hst
          clear hst g qa qb qc qd qe qf hrl
          go_enter Tryd.func31, Tryd.ntmps31
          go_wp2_with fail
          refine (HSP.out _ (by repeat (first | with_reducible exact On.refl _ | with_reducible apply On.alloc | with_reducible apply On.drewN | with_reducible apply On.drew | with_reducible refine On.setCell ?_ (by (try simp) <;> omega) _))).mono ?_
          rintro e w1 ⟨v, rfl, hown, h1⟩
          rw [hps] at hown
          obtain ⟨g, off, cap, rfl, hg, hc⟩ := row_texts hown (by simp)
          have c0 : w1.cell? ⟨g, off, none⟩ = some (.string ⟨a.toArray⟩) := hc 0 (by simp)
          have c1 : w1.cell? ⟨g, off + 1, none⟩ = some (.string ⟨b.toArray⟩) := hc 1 (by simp)
          have c2 : w1.cell? ⟨g, off + 2, none⟩ = some (.string ⟨c.toArray⟩) := hc 2 (by simp)
          have c3 : w1.cell? ⟨g, off + 3, none⟩ = some (.string ⟨d.toArray⟩) := hc 3 (by simp)
          have c4 : w1.cell? ⟨g, off + 4, none⟩ = some (.string ⟨e.toArray⟩) := hc 4 (by simp)
          have c5 : w1.cell? ⟨g, off + 5, none⟩ = some (.string ⟨f.toArray⟩) := hc 5 (by simp)
          have HR1 := Lib.hid (show Res w1 w.heap.size from Res.on ⟨⟨by simp [go_sem], by simp [go_sem], by simp [go_sem], by simp [go_sem], by simp [go_sem], by simp [go_sem], by simp [go_sem], by simp [go_sem], by simp [go_sem]⟩, fun i => by simp [go_sem]⟩ h1)
          have z1 : w.heap.size < w1.heap.size := HR1.out.1.lt
          obtain ⟨r0, r1, r2, r3, r4, r5, r6, r7, r8⟩ := HR1.out.1
          have f0 := HR1.out.2 0
          have f1 := HR1.out.2 1
          have f2 := HR1.out.2 2
          have f3 := HR1.out.2 3
          have f4 := HR1.out.2 4
          have f5 := HR1.out.2 5
          have f6 := HR1.out.2 6
          have f7 := HR1.out.2 7
          have f8 := HR1.out.2 8
          have hlen : [a, b, c, d, e, f].length = 6 := rfl
          rw [hlen]
          have HO1 := Lib.hid (show On w w1 by repeat (first | with_reducible exact On.refl _ | with_reducible apply On.alloc | with_reducible apply On.drewN | with_reducible apply On.drew | with_reducible refine On.setCell ?_ (by (try simp) <;> omega) _ | refine On.trans ?_ h1))
          clear hc hown hlen h1
          go_wp2_with fail
          refine (HP.out _ HO1.out).mono ?_
          rintro e w2 ⟨v, rfl, hi, h2⟩
          have HR2 := Lib.hid (HR1.out.on h2)
          have z2 : w.heap.size < w2.heap.size := HR2.out.1.lt
          clear r0 r1 r2 r3 r4 r5 r6 r7 r8 f0 f1 f2 f3 f4 f5 f6 f7 f8
          have HO2 := Lib.hid (HO1.out.trans h2)
          have e0 := (h2.cell (by exact hg)).trans c0
          have e1 := (h2.cell (by exact hg)).trans c1
          have e2 := (h2.cell (by exact hg)).trans c2
          have e3 := (h2.cell (by exact hg)).trans c3
          have e4 := (h2.cell (by exact hg)).trans c4
          have z2g : g < w2.heap.size := h2.lts _ hg
          obtain ⟨xa, xc, rfl, hcell⟩ := hi
          obtain ⟨bk, q, rfl, -, hbk, -, hcell⟩ := hcell (by simp)
          have k0 : w2.cell? ⟨bk, q, none⟩ = some (.int .i64 v0) := hcell 0 (by simp)
          have k1 : w2.cell? ⟨bk, q + 1, none⟩ = some (.int .i64 v1) := hcell 1 (by simp)
          have k2 : w2.cell? ⟨bk, q + 2, none⟩ = some (.int .i64 v2) := hcell 2 (by simp)
          have k3 : w2.cell? ⟨bk, q + 3, none⟩ = some (.int .i64 v3) := hcell 3 (by simp)
          have hl4 : [v0, v1, v2, v3].length = 4 := rfl
          rw [hl4]
          clear h2 c0 c1 c2 c3 c4 c5 hcell hl4
          have HD := Lib.hid (fun w' (ho : On w2 w') => held9 (o := off) (q := q) e0 e1 e2 e3 e4 k0 k1 k2 k3 ho)
          go_upto_region 7 with fail
          clear e0 e1 e2 e3 e4 k0 k1 k2 k3
          go_cut [7] (fun sa wx => ∃ G : Nat, sa = .pointer (some ⟨G, 0, none⟩) ∧ w2.heap.size ≤ G ∧ Sec.In wx G ⟨a.toArray⟩ ⟨b.toArray⟩ ⟨c.toArray⟩ ⟨d.toArray⟩ ⟨e.toArray⟩ v0 v1 v2 v3 ∧ On w2 wx)
          case first =>
            go_region_held3 (fun w' => On w2 w' ∧ w'.cell? ⟨g, off, none⟩ = some (.string ⟨a.toArray⟩) ∧ w'.cell? ⟨g, off + 1, none⟩ = some (.string ⟨b.toArray⟩) ∧ w'.cell? ⟨g, off + 2, none⟩ = some (.string ⟨c.toArray⟩) ∧ w'.cell? ⟨g, off + 3, none⟩ = some (.string ⟨d.toArray⟩) ∧ w'.cell? ⟨g, off + 4, none⟩ = some (.string ⟨e.toArray⟩) ∧ w'.cell? ⟨bk, q, none⟩ = some (.int .i64 v0) ∧ w'.cell? ⟨bk, q + 1, none⟩ = some (.int .i64 v1) ∧ w'.cell? ⟨bk, q + 2, none⟩ = some (.int .i64 v2) ∧ w'.cell? ⟨bk, q + 3, none⟩ = some (.int .i64 v3))
              ((refine HD.out _ ?_; repeat (first | with_reducible exact On.refl _ | with_reducible assumption | with_reducible apply On.alloc | with_reducible apply On.drew | (obtain ⟨hOW, _⟩ := ‹On w2 _ ∧ _›; exact hOW) | (refine On.trans ?_ (by assumption)))))
              (first | fail | fail)
            all_goals
              go_wp2_with fail
              go_meet
              refine ⟨_, rfl, by (try simp), ⟨by simp [go_sem], by simp [go_sem], by simp [go_sem], by simp [go_sem], by simp [go_sem], by simp [go_sem], by simp [go_sem], by simp [go_sem], by simp [go_sem]⟩, ?_⟩
              repeat (first | with_reducible exact On.refl _ | with_reducible assumption | with_reducible apply On.alloc | with_reducible apply On.drew | (obtain ⟨hOW, _⟩ := ‹On w2 _ ∧ _›; exact hOW) | (refine On.trans ?_ (by assumption)))
          case rest =>
            obtain ⟨G, rfl, hG, hin, hO⟩ := hcut
            have h3 : On w wc := HO2.out.trans hO
            have HR3 := Lib.hid (HR2.out.on hO)
            have z3 : w.heap.size < wc.heap.size := HR3.out.1.lt
            obtain ⟨r0, r1, r2, r3, r4, r5, r6, r7, r8⟩ := HR3.out.1
            have f0 := HR3.out.2 0
            have f1 := HR3.out.2 1
            have f2 := HR3.out.2 2
            have f3 := HR3.out.2 3
            have f4 := HR3.out.2 4
            have f5 := HR3.out.2 5
            have f6 := HR3.out.2 6
            have f7 := HR3.out.2 7
            have f8 := HR3.out.2 8
            have hne : w.heap.size ≠ G := Nat.ne_of_lt (Nat.lt_of_lt_of_le HR2.out.1.lt hG)
            have HIN := Lib.hid hin
            have hlt := hin.lt
            obtain ⟨y0, y1, y2, y3, y4, y5, y6, y7, y8⟩ := hin
            go_wp2_with fail
            refine (HST.out _ h3).mono ?_
            rintro e w4 ⟨rfl, h4⟩
            have z4 : w.heap.size < w4.heap.size := h4.lts _ z3
            clear r0 r1 r2 r3 r4 r5 r6 r7 r8 f0 f1 f2 f3 f4 f5 f6 f7 f8 y0 y1 y2 y3 y4 y5 y6 y7 y8 hlt
            have HR4 := Lib.hid (HR3.out.on h4)
            obtain ⟨r0, r1, r2, r3, r4, r5, r6, r7, r8⟩ := HR4.out.1
            have f0 := HR4.out.2 0
            have f1 := HR4.out.2 1
            have f2 := HR4.out.2 2
            have f3 := HR4.out.2 3
            have f4 := HR4.out.2 4
            have f5 := HR4.out.2 5
            have f6 := HR4.out.2 6
            have f7 := HR4.out.2 7
            have f8 := HR4.out.2 8
            obtain ⟨y0, y1, y2, y3, y4, y5, y6, y7, y8⟩ := HIN.out.on h4
            have hlt := World.block_lt_of_cell? _ _ y0
            go_wp2_with fail
            refine bodyPost_ret (v := .tuple #[.agg #[.string ⟨#[]⟩, .string ⟨#[]⟩, .string ⟨#[]⟩, .string ⟨#[]⟩, .string ⟨#[]⟩, .int .i64 0, .int .i64 0, .int .i64 0, .int .i64 0], .bool false]) (by simp [results, Tryd.results31, go_sem, r0, r1, r2, r3, r4, r5, r6, r7, r8]) rfl ⟨rfl, ?_⟩
            repeat (first | with_reducible exact On.refl _ | with_reducible apply On.alloc | with_reducible apply On.drewN | with_reducible apply On.drew | with_reducible refine On.setCell ?_ (by (try simp) <;> omega) _ | refine On.trans ?_ h4 | refine On.trans ?_ h3)

      · have n4 : ((zs.length : Int) == 4) = false := beq_eq_false_iff_ne.2 (by omega)
        have n5 : ((zs.length : Int) != 4) = true := by rw [bne, n4]; rfl
        have en := Lib.hid (t_no (rt_words_list hps (.inr ⟨zs, hrl, g4⟩)))
        obtain ⟨x0, x1, x2, x3, x4, x5, x6, x7, x8, x9⟩ := en.out
        rw [x0, x1, x2, x3, x4, x5, x6, x7, x8, x9]
        clear x0 x1 x2 x3 x4 x5 x6 x7 x8 x9 en
        have HP := Lib.hid hp
        clear hp hrl qa qb qc qd qe qf g4 hTX
        go_enter Tryd.func31, Tryd.ntmps31
        go_wp2_with fail
        refine (HSP.out _ (by repeat (first | with_reducible exact On.refl _ | with_reducible apply On.alloc | with_reducible apply On.drewN | with_reducible apply On.drew | with_reducible refine On.setCell ?_ (by (try simp) <;> omega) _))).mono ?_
        rintro e w1 ⟨v, rfl, hown, h1⟩
        rw [hps] at hown
        obtain ⟨g, off, cap, rfl, hg, hc⟩ := row_texts hown (by simp)
        have c0 : w1.cell? ⟨g, off, none⟩ = some (.string ⟨a.toArray⟩) := hc 0 (by simp)
        have c1 : w1.cell? ⟨g, off + 1, none⟩ = some (.string ⟨b.toArray⟩) := hc 1 (by simp)
        have c2 : w1.cell? ⟨g, off + 2, none⟩ = some (.string ⟨c.toArray⟩) := hc 2 (by simp)
        have c3 : w1.cell? ⟨g, off + 3, none⟩ = some (.string ⟨d.toArray⟩) := hc 3 (by simp)
        have c4 : w1.cell? ⟨g, off + 4, none⟩ = some (.string ⟨e.toArray⟩) := hc 4 (by simp)
        have c5 : w1.cell? ⟨g, off + 5, none⟩ = some (.string ⟨f.toArray⟩) := hc 5 (by simp)
        have HR1 := Lib.hid (show Res w1 w.heap.size from Res.on ⟨⟨by simp [go_sem], by simp [go_sem], by simp [go_sem], by simp [go_sem], by simp [go_sem], by simp [go_sem], by simp [go_sem], by simp [go_sem], by simp [go_sem]⟩, fun i => by simp [go_sem]⟩ h1)
        have z1 : w.heap.size < w1.heap.size := HR1.out.1.lt
        obtain ⟨r0, r1, r2, r3, r4, r5, r6, r7, r8⟩ := HR1.out.1
        have f0 := HR1.out.2 0
        have f1 := HR1.out.2 1
        have f2 := HR1.out.2 2
        have f3 := HR1.out.2 3
        have f4 := HR1.out.2 4
        have f5 := HR1.out.2 5
        have f6 := HR1.out.2 6
        have f7 := HR1.out.2 7
        have f8 := HR1.out.2 8
        have hlen : [a, b, c, d, e, f].length = 6 := rfl
        rw [hlen]
        have HO1 := Lib.hid (show On w w1 by repeat (first | with_reducible exact On.refl _ | with_reducible apply On.alloc | with_reducible apply On.drewN | with_reducible apply On.drew | with_reducible refine On.setCell ?_ (by (try simp) <;> omega) _ | refine On.trans ?_ h1))
        clear hc hown hlen h1
        go_wp2_with fail
        refine (HP.out _ HO1.out).mono ?_
        rintro e w2 ⟨v, rfl, hi, h2⟩
        have HR2 := Lib.hid (HR1.out.on h2)
        have z2 : w.heap.size < w2.heap.size := HR2.out.1.lt
        clear r0 r1 r2 r3 r4 r5 r6 r7 r8 f0 f1 f2 f3 f4 f5 f6 f7 f8
        have HO2 := Lib.hid (HO1.out.trans h2)
        obtain ⟨x1, x2, rfl, -⟩ := hi
        clear h2 c0 c1 c2 c3 c4 c5
        obtain ⟨r0, r1, r2, r3, r4, r5, r6, r7, r8⟩ := HR2.out.1
        have f0 := HR2.out.2 0
        have f1 := HR2.out.2 1
        have f2 := HR2.out.2 2
        have f3 := HR2.out.2 3
        have f4 := HR2.out.2 4
        have f5 := HR2.out.2 5
        have f6 := HR2.out.2 6
        have f7 := HR2.out.2 7
        have f8 := HR2.out.2 8
        go_wp2_with fail
        refine bodyPost_ret (v := .tuple #[.agg #[.string ⟨#[]⟩, .string ⟨#[]⟩, .string ⟨#[]⟩, .string ⟨#[]⟩, .string ⟨#[]⟩, .int .i64 0, .int .i64 0, .int .i64 0, .int .i64 0], .bool false]) (by simp [results, Tryd.results31, go_sem, r0, r1, r2, r3, r4, r5, r6, r7, r8]) rfl ⟨rfl, ?_⟩
        repeat (first | with_reducible exact On.refl _ | with_reducible apply On.alloc | with_reducible apply On.drewN | with_reducible apply On.drew | with_reducible refine On.setCell ?_ (by (try simp) <;> omega) _ | refine On.trans ?_ HO2.out)
  · have en := Lib.hid (t_no (rt_words_len (l := s.data.toList) (by rw [hps]; exact h6)))
    obtain ⟨x0, x1, x2, x3, x4, x5, x6, x7, x8, x9⟩ := en.out
    rw [x0, x1, x2, x3, x4, x5, x6, x7, x8, x9]
    clear x0 x1 x2 x3 x4 x5 x6 x7 x8 x9 en hplen hRP hTX
    have hn : ((ps.length : Int) == 6) = false := beq_eq_false_iff_ne.2 (by omega)
    have hn2 : ((ps.length : Int) != 6) = true := by rw [bne, hn]; rfl
    go_enter Tryd.func31, Tryd.ntmps31
    go_wp2_with fail
    refine (HSP.out _ (by repeat (first | with_reducible exact On.refl _ | with_reducible apply On.alloc | with_reducible apply On.drewN | with_reducible apply On.drew | with_reducible refine On.setCell ?_ (by (try simp) <;> omega) _))).mono ?_
    rintro e w1 ⟨v, rfl, hown, h1⟩
    rw [hps] at hown
    obtain ⟨x1, x2, hv, -⟩ := hown
    rw [texts_length] at hv
    subst hv
    have HR1 := Lib.hid (show Res w1 w.heap.size from Res.on ⟨⟨by simp [go_sem], by simp [go_sem], by simp [go_sem], by simp [go_sem], by simp [go_sem], by simp [go_sem], by simp [go_sem], by simp [go_sem], by simp [go_sem]⟩, fun i => by simp [go_sem]⟩ h1)
    have z1 : w.heap.size < w1.heap.size := HR1.out.1.lt
    obtain ⟨r0, r1, r2, r3, r4, r5, r6, r7, r8⟩ := HR1.out.1
    have f0 := HR1.out.2 0
    have f1 := HR1.out.2 1
    have f2 := HR1.out.2 2
    have f3 := HR1.out.2 3
    have f4 := HR1.out.2 4
    have f5 := HR1.out.2 5
    have f6 := HR1.out.2 6
    have f7 := HR1.out.2 7
    have f8 := HR1.out.2 8
    clear hps HSP h6
    go_wp2_with fail
    refine bodyPost_ret (v := .tuple #[.agg #[.string ⟨#[]⟩, .string ⟨#[]⟩, .string ⟨#[]⟩, .string ⟨#[]⟩, .string ⟨#[]⟩, .int .i64 0, .int .i64 0, .int .i64 0, .int .i64 0], .bool false]) (by simp [results, Tryd.results31, go_sem, r0, r1, r2, r3, r4, r5, r6, r7, r8]) rfl ⟨rfl, ?_⟩
    repeat (first | with_reducible exact On.refl _ | with_reducible apply On.alloc | with_reducible apply On.drewN | with_reducible apply On.drew | with_reducible refine On.setCell ?_ (by (try simp) <;> omega) _ | refine On.trans ?_ h1)

set_option maxHeartbeats 2000000 in
theorem eqSector (s0 s1 s2 s3 s4 : ByteArray) (v0 v1 v2 v3 : Int) (w : World) :
    Calls Tryd.prog 32 #[.agg #[.string s0, .string s1, .string s2, .string s3, .string s4, .int .i64 v0, .int .i64 v1, .int .i64 v2, .int .i64 v3], .agg #[.string s0, .string s1, .string s2, .string s3, .string s4, .int .i64 v0, .int .i64 v1, .int .i64 v2, .int .i64 v3]] w fun e w' => e = .returned (.bool true) ∧ On w w' := by
  go_enter Tryd.func32, Tryd.ntmps32
  go_wp2_with fail
  go_ret
  exact ⟨rfl, by repeat (first | with_reducible exact On.refl _ | with_reducible apply On.alloc | with_reducible apply On.drewN | with_reducible apply On.drew | with_reducible refine On.setCell ?_ (by (try simp) <;> omega) _)⟩
end Go.Proofs.YtbmhhhhodlfcbaaDoor.RdT
