
/-
  The site with a text, in the model and in the program. Conditions: a text of at most 1048576 bytes; for the program's, what the library's variables hold.
-/
import Derived.Test.YtbmhhhhodlfcbaaDoorRdSPlain
import Derived.Test.YtbmhhhhodlfcbaaDoorWordsImpl
import Derived.Deep.RegionHeld3
import Derived.Deep.DeepCutAuto
namespace Go.Proofs.YtbmhhhhodlfcbaaDoor.RdS
open Go.RowKit
open Plain
open Point (okB)
open Site (okS siteT)
open ReadPt (rpR row_strs)
open Words (texts texts_length)
open Msk (word_len)

/-- The block g holds an empty site that may be written. -/
def Res (w : World) (g : Nat) : Prop := Site.In w g ⟨#[]⟩ ⟨#[]⟩ 0 0 ∧ w.frozen? ⟨g, 0, none⟩ = false ∧ w.frozen? ⟨g, 1, none⟩ = false ∧ w.frozen? ⟨g, 2, none⟩ = false ∧ w.frozen? ⟨g, 3, none⟩ = false
theorem Res.on {w w' : World} {g : Nat} (h : Res w g) (ho : On w w') : Res w' g :=
  ⟨h.1.on ho, (ho.frozen (by exact h.1.lt)).trans h.2.1, (ho.frozen (by exact h.1.lt)).trans h.2.2.1, (ho.frozen (by exact h.1.lt)).trans h.2.2.2.1, (ho.frozen (by exact h.1.lt)).trans h.2.2.2.2⟩
def sA (l : List UInt8) : ByteArray := match rs l with | some (a, _) => ⟨a.toArray⟩ | none => ⟨#[]⟩
def sB (l : List UInt8) : ByteArray := match rs l with | some (_, b, _) => ⟨b.toArray⟩ | none => ⟨#[]⟩
def sX (l : List UInt8) : Int := match rs l with | some (_, _, x, _) => x | none => 0
def sY (l : List UInt8) : Int := match rs l with | some (_, _, _, y) => y | none => 0
def sO (l : List UInt8) : Bool := (rs l).isSome
theorem s_no {l : List UInt8} (h : rs l = none) : sA l = ⟨#[]⟩ ∧ sB l = ⟨#[]⟩ ∧ sX l = 0 ∧ sY l = 0 ∧ sO l = false := by unfold sA sB sX sY sO; rw [h]; exact ⟨rfl, rfl, rfl, rfl, rfl⟩
theorem s_yes {l a b : List UInt8} {x y : Int} (h : rs l = some (a, b, x, y)) : sA l = ⟨a.toArray⟩ ∧ sB l = ⟨b.toArray⟩ ∧ sX l = x ∧ sY l = y ∧ sO l = true := by unfold sA sB sX sY sO; rw [h]; exact ⟨rfl, rfl, rfl, rfl, rfl⟩
theorem undrew {w w' : World} (h : On w.drew w') : On w w' := by
  have h' : Below w.drew.heap.size w.drew w' := h
  exact ⟨h'.os, h'.tape, h'.output, h'.size, fun k hk => h'.block k hk⟩
theorem held4 {W w' : World} {g G : Nat} {u v x y : Value} (h0 : W.cell? ⟨g, 0, none⟩ = some u) (h1 : W.cell? ⟨g, 1, none⟩ = some v) (h2 : W.cell? ⟨G, 0, none⟩ = some x) (h3 : W.cell? ⟨G, 1, none⟩ = some y) (h : On W w') :
    On W w' ∧ w'.cell? ⟨g, 0, none⟩ = some u ∧ w'.cell? ⟨g, 1, none⟩ = some v ∧ w'.cell? ⟨G, 0, none⟩ = some x ∧ w'.cell? ⟨G, 1, none⟩ = some y :=
  ⟨h, (h.cell (World.block_lt_of_cell? W _ h0)).trans h0, (h.cell (World.block_lt_of_cell? W _ h1)).trans h1, (h.cell (World.block_lt_of_cell? W _ h2)).trans h2, (h.cell (World.block_lt_of_cell? W _ h3)).trans h3⟩
theorem row_texts {w : World} {B : Nat} {v : Value} {ps : List (List UInt8)} (h : Strs.Own B w v (texts ps)) (h0 : 0 < ps.length) :
    ∃ g off cap, v = .slice (some ⟨g, off, none⟩) ps.length cap ∧ g < w.heap.size ∧ ∀ j (hj : j < ps.length), w.cell? ⟨g, off + j, none⟩ = some (.string ⟨(ps[j]'hj).toArray⟩) := by
  obtain ⟨a, cap, hv, hc⟩ := h
  rw [texts_length] at hv hc
  obtain ⟨b, off, rfl, _, hlt, _, hcell⟩ := hc h0
  refine ⟨b, off, cap, hv, hlt, fun j hj => ?_⟩
  rw [hcell j hj]
  simp [texts, List.getD_eq_getElem?_getD, hj]
theorem size_le {p : List UInt8} {n : Nat} (h : p.length ≤ n) : (⟨p.toArray⟩ : ByteArray).size ≤ n := by simpa [ByteArray.size] using h
theorem str_ne {t : ByteArray} {s : ByteArray} (h : ¬ t.data.toList = s.data.toList) : (t.toList == s.toList) = false := beq_eq_false_iff_ne.2 (fun e => h (by rw [ByteArray.toList_eq, ByteArray.toList_eq] at e; exact e))
theorem str_eq {t : ByteArray} {s : ByteArray} (h : t.data.toList = s.data.toList) : t.toList = s.toList := by rw [ByteArray.toList_eq, ByteArray.toList_eq]; exact h

set_option maxRecDepth 100000 in
set_option maxHeartbeats 4000000 in
theorem spec_ReadSite (s : ByteArray) (w : World) (hs : s.size ≤ 1048576) :
    Calls Tryd.prog 23 #[.string s] w fun e w' => e = .returned (.tuple #[.agg #[.string (sA s.data.toList), .string (sB s.data.toList), .int .i64 (sX s.data.toList), .int .i64 (sY s.data.toList)], .bool (sO s.data.toList)]) ∧ On w w' := by
  have HSP := Lib.hid (fun w => Split.spec_split s 32 32 rfl w hs)
  have hplen : ∀ p ∈ pieces 32 s.data.toList, p.length ≤ 1048576 := fun p hp => Nat.le_trans (ReadPt.len_le_of_piece hp (Nat.le_refl _)) (by rw [Num.len_data]; exact hs)
  obtain ⟨ps, hps⟩ : ∃ ps, pieces 32 s.data.toList = ps := ⟨_, rfl⟩
  by_cases h3 : ps.length = 3
  · obtain ⟨a, b, c, rfl⟩ := three_of h3
    clear h3
    have qa : (⟨a.toArray⟩ : ByteArray).size ≤ 1048576 := size_le (hplen a (by rw [hps]; simp))
    have qb : (⟨b.toArray⟩ : ByteArray).size ≤ 1048576 := size_le (hplen b (by rw [hps]; simp))
    have qc : (⟨c.toArray⟩ : ByteArray).size ≤ 1048576 := size_le (hplen c (by rw [hps]; simp))
    have hp := fun w => ReadPt.spec_read ⟨c.toArray⟩ w qc
    rw [str_data] at hp
    unfold rpR at hp
    have HOK := Lib.hid (fun g w' hi => Site.spec_ok g ⟨a.toArray⟩ ⟨b.toArray⟩ (rX c) (rY c) w' qa qb hi)
    clear hplen qc qa qb
    cases g3 : rB c with
    | false =>
      have en := Lib.hid (s_no (rs_bad hps (by rw [g3]; simp)))
      obtain ⟨e1, e2, e3, e4, e5⟩ := en.out
      rw [e1, e2, e3, e4, e5]
      clear e1 e2 e3 e4 e5 en
      rw [g3] at hp
      have HP := Lib.hid hp
      clear hp HOK
      go_enter Tryd.func23, Tryd.ntmps23
      go_wp2_with fail
      refine (HSP.out _).mono ?_
      rintro e w1 ⟨v, rfl, hown, h1⟩
      rw [hps] at hown
      obtain ⟨g, cap, rfl, -, hg, hc⟩ := row_strs hown (by simp)
      have c0 : w1.cell? ⟨g, 0, none⟩ = some (.string ⟨a.toArray⟩) := hc 0 (by simp)
      have c1 : w1.cell? ⟨g, 1, none⟩ = some (.string ⟨b.toArray⟩) := hc 1 (by simp)
      have c2 : w1.cell? ⟨g, 2, none⟩ = some (.string ⟨c.toArray⟩) := hc 2 (by simp)
      have HR1 := Lib.hid (show Res w1 w.heap.size from Res.on ⟨⟨by simp [go_sem], by simp [go_sem], by simp [go_sem], by simp [go_sem]⟩, by simp [go_sem], by simp [go_sem], by simp [go_sem], by simp [go_sem]⟩ h1)
      have z1 : w.heap.size < w1.heap.size := HR1.out.1.lt
      obtain ⟨⟨r0, r1, r2, r3⟩, f0, f1, f2, f3⟩ := HR1.out
      have hlen : [a, b, c].length = 3 := rfl
      rw [hlen]
      clear hc hown hlen
      go_wp2_with fail
      refine (HP.out _).mono ?_
      rintro e w2 ⟨rfl, h2⟩
      have HR2 := Lib.hid (HR1.out.on h2)
      have z2 : w.heap.size < w2.heap.size := HR2.out.1.lt
      clear r0 r1 r2 r3 f0 f1 f2 f3
      have HO2 := Lib.hid (show On w w2 by repeat (first | with_reducible exact On.refl _ | with_reducible apply On.alloc | with_reducible apply On.drewN | with_reducible apply On.drew | with_reducible refine On.setCell ?_ (by (try simp) <;> omega) _ | refine On.trans ?_ h2 | refine On.trans ?_ h1))
      have e0 := (h2.cell (by exact hg)).trans c0
      have e1 := (h2.cell (by exact hg)).trans c1
      have z2g : g < w2.heap.size := h2.lts _ hg
      have z2n : g ≠ w2.heap.size := Nat.ne_of_lt z2g
      clear h2 c0 c1 c2
      go_upto_region 5 with fail
      obtain ⟨W, hW⟩ : ∃ W, W = w2.alloc (.cells #[.int .i64 (rX c), .int .i64 (rY c)] 39) := ⟨_, rfl⟩
      have hOW : On w W := by rw [hW]; repeat (first | with_reducible exact On.refl _ | with_reducible apply On.alloc | with_reducible apply On.drewN | with_reducible apply On.drew | with_reducible refine On.setCell ?_ (by (try simp) <;> omega) _ | refine On.trans ?_ HO2.out)
      have d0 : W.cell? ⟨g, 0, none⟩ = some (.string ⟨a.toArray⟩) := by rw [hW]; simp [go_sem, z2g, e0]
      have d1 : W.cell? ⟨g, 1, none⟩ = some (.string ⟨b.toArray⟩) := by rw [hW]; simp [go_sem, z2g, e1]
      have d2 : W.cell? ⟨w2.heap.size, 0, none⟩ = some (.int .i64 (rX c)) := by rw [hW]; simp [go_sem]
      have d3 : W.cell? ⟨w2.heap.size, 1, none⟩ = some (.int .i64 (rY c)) := by rw [hW]; simp [go_sem]
      have HD := Lib.hid (fun w' (ho : On W w') => held4 d0 d1 d2 d3 ho)
      have HRW := Lib.hid (show Res W w.heap.size from HR2.out.on (by rw [hW]; repeat (first | with_reducible exact On.refl _ | with_reducible apply On.alloc | with_reducible apply On.drewN | with_reducible apply On.drew | with_reducible refine On.setCell ?_ (by (try simp) <;> omega) _)))
      have HW := Lib.hid hW
      have HOW := Lib.hid hOW
      rw [← HW.out]
      clear hW d0 d1 d2 d3 hOW
      go_cut [7] (fun sa wx => ∃ G : Nat, sa = .pointer (some ⟨G, 0, none⟩) ∧ W.heap.size ≤ G ∧ Site.In wx G ⟨a.toArray⟩ ⟨b.toArray⟩ (rX c) (rY c) ∧ On W wx)
      case first =>
        go_region_held3 (fun w' => On W w' ∧ w'.cell? ⟨g, 0, none⟩ = some (.string ⟨a.toArray⟩) ∧ w'.cell? ⟨g, 1, none⟩ = some (.string ⟨b.toArray⟩) ∧ w'.cell? ⟨w2.heap.size, 0, none⟩ = some (.int .i64 (rX c)) ∧ w'.cell? ⟨w2.heap.size, 1, none⟩ = some (.int .i64 (rY c)))
          ((refine HD.out _ ?_; repeat (first | with_reducible exact On.refl _ | with_reducible assumption | with_reducible apply On.alloc | with_reducible apply On.drew | (obtain ⟨hOW, _⟩ := ‹On W _ ∧ _›; exact hOW) | (refine On.trans ?_ (by assumption)))))
          (first | fail | fail)
        all_goals
          go_wp2_with fail
          go_meet
          refine ⟨_, rfl, by (try simp), ⟨by simp [go_sem], by simp [go_sem], by simp [go_sem], by simp [go_sem]⟩, ?_⟩
          repeat (first | with_reducible exact On.refl _ | with_reducible assumption | with_reducible apply On.alloc | with_reducible apply On.drew | (obtain ⟨hOW, _⟩ := ‹On W _ ∧ _›; exact hOW) | (refine On.trans ?_ (by assumption)))
      case rest =>
        obtain ⟨G, rfl, hG, hin, hO⟩ := hcut
        have h3 : On w wc := HOW.out.trans hO
        have HR3 := Lib.hid (HRW.out.on hO)
        have z3 : w.heap.size < wc.heap.size := HR3.out.1.lt
        obtain ⟨⟨r0, r1, r2, r3⟩, f0, f1, f2, f3⟩ := HR3.out
        clear hin
        go_wp2_with fail
        refine bodyPost_ret (v := .tuple #[.agg #[.string ⟨#[]⟩, .string ⟨#[]⟩, .int .i64 0, .int .i64 0], .bool false]) (by simp [results, Tryd.results23, go_sem, r0, r1, r2, r3]) rfl ⟨rfl, ?_⟩
        repeat (first | with_reducible exact On.refl _ | with_reducible apply On.alloc | with_reducible apply On.drewN | with_reducible apply On.drew | with_reducible refine On.setCell ?_ (by (try simp) <;> omega) _ | refine On.trans ?_ h3)
    | true =>
      rw [g3] at hp
      have HP := Lib.hid hp
      have hk := (rpt_back g3).1
      rw [okS_list, hk] at HOK
      cases g : (nameB a && nameB b) with
      | false =>
        have g' : (nameB a && (nameB b && true)) = false := by rw [← Bool.and_assoc, g]; rfl
        have en := Lib.hid (s_no (rs_bad hps (by rw [g3]; exact g')))
        obtain ⟨e1, e2, e3, e4, e5⟩ := en.out
        rw [e1, e2, e3, e4, e5]
        clear e1 e2 e3 e4 e5 en
        rw [g'] at HOK
        clear hp g' hk
        go_enter Tryd.func23, Tryd.ntmps23
        go_wp2_with fail
        refine (HSP.out _).mono ?_
        rintro e w1 ⟨v, rfl, hown, h1⟩
        rw [hps] at hown
        obtain ⟨g, cap, rfl, -, hg, hc⟩ := row_strs hown (by simp)
        have c0 : w1.cell? ⟨g, 0, none⟩ = some (.string ⟨a.toArray⟩) := hc 0 (by simp)
        have c1 : w1.cell? ⟨g, 1, none⟩ = some (.string ⟨b.toArray⟩) := hc 1 (by simp)
        have c2 : w1.cell? ⟨g, 2, none⟩ = some (.string ⟨c.toArray⟩) := hc 2 (by simp)
        have HR1 := Lib.hid (show Res w1 w.heap.size from Res.on ⟨⟨by simp [go_sem], by simp [go_sem], by simp [go_sem], by simp [go_sem]⟩, by simp [go_sem], by simp [go_sem], by simp [go_sem], by simp [go_sem]⟩ h1)
        have z1 : w.heap.size < w1.heap.size := HR1.out.1.lt
        obtain ⟨⟨r0, r1, r2, r3⟩, f0, f1, f2, f3⟩ := HR1.out
        have hlen : [a, b, c].length = 3 := rfl
        rw [hlen]
        clear hc hown hlen
        go_wp2_with fail
        refine (HP.out _).mono ?_
        rintro e w2 ⟨rfl, h2⟩
        have HR2 := Lib.hid (HR1.out.on h2)
        have z2 : w.heap.size < w2.heap.size := HR2.out.1.lt
        clear r0 r1 r2 r3 f0 f1 f2 f3
        have HO2 := Lib.hid (show On w w2 by repeat (first | with_reducible exact On.refl _ | with_reducible apply On.alloc | with_reducible apply On.drewN | with_reducible apply On.drew | with_reducible refine On.setCell ?_ (by (try simp) <;> omega) _ | refine On.trans ?_ h2 | refine On.trans ?_ h1))
        have e0 := (h2.cell (by exact hg)).trans c0
        have e1 := (h2.cell (by exact hg)).trans c1
        have z2g : g < w2.heap.size := h2.lts _ hg
        have z2n : g ≠ w2.heap.size := Nat.ne_of_lt z2g
        clear h2 c0 c1 c2
        go_upto_region 5 with fail
        obtain ⟨W, hW⟩ : ∃ W, W = w2.alloc (.cells #[.int .i64 (rX c), .int .i64 (rY c)] 39) := ⟨_, rfl⟩
        have hOW : On w W := by rw [hW]; repeat (first | with_reducible exact On.refl _ | with_reducible apply On.alloc | with_reducible apply On.drewN | with_reducible apply On.drew | with_reducible refine On.setCell ?_ (by (try simp) <;> omega) _ | refine On.trans ?_ HO2.out)
        have d0 : W.cell? ⟨g, 0, none⟩ = some (.string ⟨a.toArray⟩) := by rw [hW]; simp [go_sem, z2g, e0]
        have d1 : W.cell? ⟨g, 1, none⟩ = some (.string ⟨b.toArray⟩) := by rw [hW]; simp [go_sem, z2g, e1]
        have d2 : W.cell? ⟨w2.heap.size, 0, none⟩ = some (.int .i64 (rX c)) := by rw [hW]; simp [go_sem]
        have d3 : W.cell? ⟨w2.heap.size, 1, none⟩ = some (.int .i64 (rY c)) := by rw [hW]; simp [go_sem]
        have HD := Lib.hid (fun w' (ho : On W w') => held4 d0 d1 d2 d3 ho)
        have HRW := Lib.hid (show Res W w.heap.size from HR2.out.on (by rw [hW]; repeat (first | with_reducible exact On.refl _ | with_reducible apply On.alloc | with_reducible apply On.drewN | with_reducible apply On.drew | with_reducible refine On.setCell ?_ (by (try simp) <;> omega) _)))
        have HW := Lib.hid hW
        have HOW := Lib.hid hOW
        rw [← HW.out]
        clear hW d0 d1 d2 d3 hOW
        go_cut [7] (fun sa wx => ∃ G : Nat, sa = .pointer (some ⟨G, 0, none⟩) ∧ W.heap.size ≤ G ∧ Site.In wx G ⟨a.toArray⟩ ⟨b.toArray⟩ (rX c) (rY c) ∧ On W wx)
        case first =>
          go_region_held3 (fun w' => On W w' ∧ w'.cell? ⟨g, 0, none⟩ = some (.string ⟨a.toArray⟩) ∧ w'.cell? ⟨g, 1, none⟩ = some (.string ⟨b.toArray⟩) ∧ w'.cell? ⟨w2.heap.size, 0, none⟩ = some (.int .i64 (rX c)) ∧ w'.cell? ⟨w2.heap.size, 1, none⟩ = some (.int .i64 (rY c)))
            ((refine HD.out _ ?_; repeat (first | with_reducible exact On.refl _ | with_reducible assumption | with_reducible apply On.alloc | with_reducible apply On.drew | (obtain ⟨hOW, _⟩ := ‹On W _ ∧ _›; exact hOW) | (refine On.trans ?_ (by assumption)))))
            (first | fail | fail)
          all_goals
            go_wp2_with fail
            go_meet
            refine ⟨_, rfl, by (try simp), ⟨by simp [go_sem], by simp [go_sem], by simp [go_sem], by simp [go_sem]⟩, ?_⟩
            repeat (first | with_reducible exact On.refl _ | with_reducible assumption | with_reducible apply On.alloc | with_reducible apply On.drew | (obtain ⟨hOW, _⟩ := ‹On W _ ∧ _›; exact hOW) | (refine On.trans ?_ (by assumption)))
        case rest =>
          obtain ⟨G, rfl, hG, hin, hO⟩ := hcut
          have h3 : On w wc := HOW.out.trans hO
          have HR3 := Lib.hid (HRW.out.on hO)
          have z3 : w.heap.size < wc.heap.size := HR3.out.1.lt
          obtain ⟨⟨r0, r1, r2, r3⟩, f0, f1, f2, f3⟩ := HR3.out
          go_wp2_with fail
          refine (HOK.out G _ hin).mono ?_
          rintro e w4 ⟨rfl, h4⟩
          have z4 : w.heap.size < w4.heap.size := h4.lts _ z3
          clear r0 r1 r2 r3 f0 f1 f2 f3
          obtain ⟨⟨r0, r1, r2, r3⟩, f0, f1, f2, f3⟩ := HR3.out.on h4
          go_wp2_with fail
          refine bodyPost_ret (v := .tuple #[.agg #[.string ⟨#[]⟩, .string ⟨#[]⟩, .int .i64 0, .int .i64 0], .bool false]) (by simp [results, Tryd.results23, go_sem, r0, r1, r2, r3]) rfl ⟨rfl, ?_⟩
          repeat (first | with_reducible exact On.refl _ | with_reducible apply On.alloc | with_reducible apply On.drewN | with_reducible apply On.drew | with_reducible refine On.setCell ?_ (by (try simp) <;> omega) _ | refine On.trans ?_ h4 | refine On.trans ?_ h3)
      | true =>
        have g' : (nameB a && (nameB b && true)) = true := by rw [← Bool.and_assoc, g]; rfl
        have en := Lib.hid (s_yes (rs_good hps (by rw [g3]; exact g')))
        obtain ⟨e1, e2, e3, e4, e5⟩ := en.out
        rw [e1, e2, e3, e4, e5]
        clear e1 e2 e3 e4 e5 en
        rw [g'] at HOK
        clear hp g' hk
        go_enter Tryd.func23, Tryd.ntmps23
        go_wp2_with fail
        refine (HSP.out _).mono ?_
        rintro e w1 ⟨v, rfl, hown, h1⟩
        rw [hps] at hown
        obtain ⟨g, cap, rfl, -, hg, hc⟩ := row_strs hown (by simp)
        have c0 : w1.cell? ⟨g, 0, none⟩ = some (.string ⟨a.toArray⟩) := hc 0 (by simp)
        have c1 : w1.cell? ⟨g, 1, none⟩ = some (.string ⟨b.toArray⟩) := hc 1 (by simp)
        have c2 : w1.cell? ⟨g, 2, none⟩ = some (.string ⟨c.toArray⟩) := hc 2 (by simp)
        have HR1 := Lib.hid (show Res w1 w.heap.size from Res.on ⟨⟨by simp [go_sem], by simp [go_sem], by simp [go_sem], by simp [go_sem]⟩, by simp [go_sem], by simp [go_sem], by simp [go_sem], by simp [go_sem]⟩ h1)
        have z1 : w.heap.size < w1.heap.size := HR1.out.1.lt
        obtain ⟨⟨r0, r1, r2, r3⟩, f0, f1, f2, f3⟩ := HR1.out
        have hlen : [a, b, c].length = 3 := rfl
        rw [hlen]
        clear hc hown hlen
        go_wp2_with fail
        refine (HP.out _).mono ?_
        rintro e w2 ⟨rfl, h2⟩
        have HR2 := Lib.hid (HR1.out.on h2)
        have z2 : w.heap.size < w2.heap.size := HR2.out.1.lt
        clear r0 r1 r2 r3 f0 f1 f2 f3
        have HO2 := Lib.hid (show On w w2 by repeat (first | with_reducible exact On.refl _ | with_reducible apply On.alloc | with_reducible apply On.drewN | with_reducible apply On.drew | with_reducible refine On.setCell ?_ (by (try simp) <;> omega) _ | refine On.trans ?_ h2 | refine On.trans ?_ h1))
        have e0 := (h2.cell (by exact hg)).trans c0
        have e1 := (h2.cell (by exact hg)).trans c1
        have z2g : g < w2.heap.size := h2.lts _ hg
        have z2n : g ≠ w2.heap.size := Nat.ne_of_lt z2g
        clear h2 c0 c1 c2
        go_upto_region 5 with fail
        obtain ⟨W, hW⟩ : ∃ W, W = w2.alloc (.cells #[.int .i64 (rX c), .int .i64 (rY c)] 39) := ⟨_, rfl⟩
        have hOW : On w W := by rw [hW]; repeat (first | with_reducible exact On.refl _ | with_reducible apply On.alloc | with_reducible apply On.drewN | with_reducible apply On.drew | with_reducible refine On.setCell ?_ (by (try simp) <;> omega) _ | refine On.trans ?_ HO2.out)
        have d0 : W.cell? ⟨g, 0, none⟩ = some (.string ⟨a.toArray⟩) := by rw [hW]; simp [go_sem, z2g, e0]
        have d1 : W.cell? ⟨g, 1, none⟩ = some (.string ⟨b.toArray⟩) := by rw [hW]; simp [go_sem, z2g, e1]
        have d2 : W.cell? ⟨w2.heap.size, 0, none⟩ = some (.int .i64 (rX c)) := by rw [hW]; simp [go_sem]
        have d3 : W.cell? ⟨w2.heap.size, 1, none⟩ = some (.int .i64 (rY c)) := by rw [hW]; simp [go_sem]
        have HD := Lib.hid (fun w' (ho : On W w') => held4 d0 d1 d2 d3 ho)
        have HRW := Lib.hid (show Res W w.heap.size from HR2.out.on (by rw [hW]; repeat (first | with_reducible exact On.refl _ | with_reducible apply On.alloc | with_reducible apply On.drewN | with_reducible apply On.drew | with_reducible refine On.setCell ?_ (by (try simp) <;> omega) _)))
        have HW := Lib.hid hW
        have HOW := Lib.hid hOW
        rw [← HW.out]
        clear hW d0 d1 d2 d3 hOW
        go_cut [7] (fun sa wx => ∃ G : Nat, sa = .pointer (some ⟨G, 0, none⟩) ∧ W.heap.size ≤ G ∧ Site.In wx G ⟨a.toArray⟩ ⟨b.toArray⟩ (rX c) (rY c) ∧ On W wx)
        case first =>
          go_region_held3 (fun w' => On W w' ∧ w'.cell? ⟨g, 0, none⟩ = some (.string ⟨a.toArray⟩) ∧ w'.cell? ⟨g, 1, none⟩ = some (.string ⟨b.toArray⟩) ∧ w'.cell? ⟨w2.heap.size, 0, none⟩ = some (.int .i64 (rX c)) ∧ w'.cell? ⟨w2.heap.size, 1, none⟩ = some (.int .i64 (rY c)))
            ((refine HD.out _ ?_; repeat (first | with_reducible exact On.refl _ | with_reducible assumption | with_reducible apply On.alloc | with_reducible apply On.drew | (obtain ⟨hOW, _⟩ := ‹On W _ ∧ _›; exact hOW) | (refine On.trans ?_ (by assumption)))))
            (first | fail | fail)
          all_goals
            go_wp2_with fail
            go_meet
            refine ⟨_, rfl, by (try simp), ⟨by simp [go_sem], by simp [go_sem], by simp [go_sem], by simp [go_sem]⟩, ?_⟩
            repeat (first | with_reducible exact On.refl _ | with_reducible assumption | with_reducible apply On.alloc | with_reducible apply On.drew | (obtain ⟨hOW, _⟩ := ‹On W _ ∧ _›; exact hOW) | (refine On.trans ?_ (by assumption)))
        case rest =>
          obtain ⟨G, rfl, hG, hin, hO⟩ := hcut
          have h3 : On w wc := HOW.out.trans hO
          have HR3 := Lib.hid (HRW.out.on hO)
          have z3 : w.heap.size < wc.heap.size := HR3.out.1.lt
          obtain ⟨⟨r0, r1, r2, r3⟩, f0, f1, f2, f3⟩ := HR3.out
          have hlt := hin.lt
          have hne : w.heap.size ≠ G := Nat.ne_of_lt (Nat.lt_of_lt_of_le HRW.out.1.lt hG)
          have HIN := Lib.hid hin
          go_wp2_with fail
          refine (HOK.out G _ hin).mono ?_
          rintro e w4 ⟨rfl, h4⟩
          have z4 : w.heap.size < w4.heap.size := h4.lts _ z3
          clear r0 r1 r2 r3 f0 f1 f2 f3
          obtain ⟨⟨r0, r1, r2, r3⟩, f0, f1, f2, f3⟩ := HR3.out.on h4
          obtain ⟨y0, y1, y2, y3⟩ := HIN.out.on h4
          have hlt4 := World.block_lt_of_cell? _ _ y0
          clear hin
          go_wp2_with fail
          refine bodyPost_ret (v := .tuple #[.agg #[.string ⟨a.toArray⟩, .string ⟨b.toArray⟩, .int .i64 (rX c), .int .i64 (rY c)], .bool true]) (by simp [results, Tryd.results23, go_sem, r0, r1, r2, r3]) rfl ⟨rfl, ?_⟩
          repeat (first | with_reducible exact On.refl _ | with_reducible apply On.alloc | with_reducible apply On.drewN | with_reducible apply On.drew | with_reducible refine On.setCell ?_ (by (try simp) <;> omega) _ | refine On.trans ?_ h4 | refine On.trans ?_ h3)
  · have en := Lib.hid (s_no (rs_len (l := s.data.toList) (by rw [hps]; exact h3)))
    obtain ⟨e1, e2, e3, e4, e5⟩ := en.out
    rw [e1, e2, e3, e4, e5]
    clear e1 e2 e3 e4 e5 en hplen
    have hn : ((ps.length : Int) == 3) = false := beq_eq_false_iff_ne.2 (by omega)
    have hn2 : ((ps.length : Int) != 3) = true := by rw [bne, hn]; rfl
    go_enter Tryd.func23, Tryd.ntmps23
    go_wp2_with fail
    refine (HSP.out _).mono ?_
    rintro e w1 ⟨v, rfl, hown, h1⟩
    rw [hps] at hown
    have h0 : 0 < ps.length := by rw [← hps]; exact List.length_pos_iff.2 (pieces_ne _ _)
    obtain ⟨g, cap, rfl, -, hg, -⟩ := row_strs hown h0
    have HR1 := Lib.hid (show Res w1 w.heap.size from Res.on ⟨⟨by simp [go_sem], by simp [go_sem], by simp [go_sem], by simp [go_sem]⟩, by simp [go_sem], by simp [go_sem], by simp [go_sem], by simp [go_sem]⟩ h1)
    have z1 : w.heap.size < w1.heap.size := HR1.out.1.lt
    obtain ⟨⟨r0, r1, r2, r3⟩, f0, f1, f2, f3⟩ := HR1.out
    clear hown hps HSP h3
    go_wp2_with fail
    refine bodyPost_ret (v := .tuple #[.agg #[.string ⟨#[]⟩, .string ⟨#[]⟩, .int .i64 0, .int .i64 0], .bool false]) (by simp [results, Tryd.results23, go_sem, r0, r1, r2, r3]) rfl ⟨rfl, ?_⟩
    repeat (first | with_reducible exact On.refl _ | with_reducible apply On.alloc | with_reducible apply On.drewN | with_reducible apply On.drew | with_reducible refine On.setCell ?_ (by (try simp) <;> omega) _ | refine On.trans ?_ h1)

theorem held4o {W w' : World} {g o G : Nat} {u v x y : Value} (h0 : W.cell? ⟨g, o, none⟩ = some u) (h1 : W.cell? ⟨g, o + 1, none⟩ = some v) (h2 : W.cell? ⟨G, 0, none⟩ = some x) (h3 : W.cell? ⟨G, 1, none⟩ = some y) (h : On W w') :
    On W w' ∧ w'.cell? ⟨g, o, none⟩ = some u ∧ w'.cell? ⟨g, o + 1, none⟩ = some v ∧ w'.cell? ⟨G, 0, none⟩ = some x ∧ w'.cell? ⟨G, 1, none⟩ = some y :=
  ⟨h, (h.cell (World.block_lt_of_cell? W _ h0)).trans h0, (h.cell (World.block_lt_of_cell? W _ h1)).trans h1, (h.cell (World.block_lt_of_cell? W _ h2)).trans h2, (h.cell (World.block_lt_of_cell? W _ h3)).trans h3⟩
set_option maxRecDepth 100000 in
set_option maxHeartbeats 4000000 in
theorem impl_ReadSite (s : ByteArray) (m : Int) (w : World) (hs : s.size ≤ 1048576) (hm : w.cell? ⟨1, 0, none⟩ = some (.int .i64 m)) (hw : Tabs.Sent w) (ht : Lib.TabBelow Tryd.prog w.heap.size w "internal/strconv.uint64pow10" .u64 Lib.pow10Tab) :
    Calls Tryd.prog 24 #[.string s] w fun e w' => e = .returned (.tuple #[.agg #[.string (sA s.data.toList), .string (sB s.data.toList), .int .i64 (sX s.data.toList), .int .i64 (sY s.data.toList)], .bool (sO s.data.toList)]) ∧ On w w' := by
  have hml := World.block_lt_of_cell? w _ hm
  have HSP := Lib.hid (fun w' (ho : On w w') => Words.impl_words s m w' hs ((ho.cell (by exact hml)).trans hm))
  have hplen : ∀ p ∈ words s.data.toList, p.length ≤ 1048576 := fun p hp => Nat.le_trans (word_len hp) (by rw [Num.len_data]; exact hs)
  have hRP := fun (t : ByteArray) (ht2 : t.size ≤ 1048576) w' (ho : On w w') => ReadPt.impl_readPoint t m w' ht2 ((ho.cell (by exact hml)).trans hm) (hw.below ho) (fun w'' hb => ht w'' (On.trans ho hb))
  have hTX := fun (a b : ByteArray) (x y : Int) (qa : a.size ≤ 1048576) (qb : b.size ≤ 1048576) w' (ho : On w w') => Site.impl_SiteText a b x y w' qa qb (fun w'' hb => ht w'' (On.trans ho hb))
  clear hm hw ht hml
  obtain ⟨ps, hps⟩ : ∃ ps, words s.data.toList = ps := ⟨_, rfl⟩
  by_cases h3 : ps.length = 3
  · obtain ⟨a, b, c, rfl⟩ := three_of h3
    clear h3
    have qa : (⟨a.toArray⟩ : ByteArray).size ≤ 1048576 := size_le (hplen a (by rw [hps]; simp))
    have qb : (⟨b.toArray⟩ : ByteArray).size ≤ 1048576 := size_le (hplen b (by rw [hps]; simp))
    have qc : (⟨c.toArray⟩ : ByteArray).size ≤ 1048576 := size_le (hplen c (by rw [hps]; simp))
    have hp := fun w' (ho : On w w') => hRP ⟨c.toArray⟩ qc w' ho
    rw [str_data] at hp
    unfold rpR at hp
    have hst := fun w' (ho : On w w') => hTX ⟨a.toArray⟩ ⟨b.toArray⟩ (rX c) (rY c) qa qb w' ho
    clear hplen qc qa qb hRP hTX
    cases g3 : rB c with
    | false =>
      have en := Lib.hid (s_no (rs_words_bad hps (fun q => by rw [g3] at q; exact absurd q.1 (by decide))))
      obtain ⟨e1, e2, e3, e4, e5⟩ := en.out
      rw [e1, e2, e3, e4, e5]
      clear e1 e2 e3 e4 e5 en
      rw [g3] at hp
      have HP := Lib.hid hp
      clear hp hst
      go_enter Tryd.func24, Tryd.ntmps24
      go_wp2_with fail
      refine (HSP.out _ (by repeat (first | with_reducible exact On.refl _ | with_reducible apply On.alloc | with_reducible apply On.drewN | with_reducible apply On.drew | with_reducible refine On.setCell ?_ (by (try simp) <;> omega) _))).mono ?_
      rintro e w1 ⟨v, rfl, hown, h1⟩
      rw [hps] at hown
      obtain ⟨g, off, cap, rfl, hg, hc⟩ := row_texts hown (by simp)
      have c0 : w1.cell? ⟨g, off, none⟩ = some (.string ⟨a.toArray⟩) := hc 0 (by simp)
      have c1 : w1.cell? ⟨g, off + 1, none⟩ = some (.string ⟨b.toArray⟩) := hc 1 (by simp)
      have c2 : w1.cell? ⟨g, off + 2, none⟩ = some (.string ⟨c.toArray⟩) := hc 2 (by simp)
      have HR1 := Lib.hid (show Res w1 w.heap.size from Res.on ⟨⟨by simp [go_sem], by simp [go_sem], by simp [go_sem], by simp [go_sem]⟩, by simp [go_sem], by simp [go_sem], by simp [go_sem], by simp [go_sem]⟩ h1)
      have z1 : w.heap.size < w1.heap.size := HR1.out.1.lt
      obtain ⟨⟨r0, r1, r2, r3⟩, f0, f1, f2, f3⟩ := HR1.out
      have hlen : [a, b, c].length = 3 := rfl
      rw [hlen]
      have HO1 := Lib.hid (show On w w1 by repeat (first | with_reducible exact On.refl _ | with_reducible apply On.alloc | with_reducible apply On.drewN | with_reducible apply On.drew | with_reducible refine On.setCell ?_ (by (try simp) <;> omega) _ | refine On.trans ?_ h1))
      clear hc hown hlen h1
      go_wp2_with fail
      refine (HP.out _ HO1.out).mono ?_
      rintro e w2 ⟨rfl, h2⟩
      have HR2 := Lib.hid (HR1.out.on h2)
      have z2 : w.heap.size < w2.heap.size := HR2.out.1.lt
      clear r0 r1 r2 r3 f0 f1 f2 f3
      have HO2 := Lib.hid (HO1.out.trans h2)
      have e0 := (h2.cell (by exact hg)).trans c0
      have e1 := (h2.cell (by exact hg)).trans c1
      have z2g : g < w2.heap.size := h2.lts _ hg
      have z2n : g ≠ w2.heap.size := Nat.ne_of_lt z2g
      clear h2 c0 c1 c2
      go_upto_region 5 with fail
      obtain ⟨W, hW⟩ : ∃ W, W = w2.alloc (.cells #[.int .i64 (rX c), .int .i64 (rY c)] 39) := ⟨_, rfl⟩
      have hOW : On w W := by rw [hW]; repeat (first | with_reducible exact On.refl _ | with_reducible apply On.alloc | with_reducible apply On.drewN | with_reducible apply On.drew | with_reducible refine On.setCell ?_ (by (try simp) <;> omega) _ | refine On.trans ?_ HO2.out)
      have d0 : W.cell? ⟨g, off, none⟩ = some (.string ⟨a.toArray⟩) := by rw [hW]; simp [go_sem, z2g, e0]
      have d1 : W.cell? ⟨g, off + 1, none⟩ = some (.string ⟨b.toArray⟩) := by rw [hW]; simp [go_sem, z2g, e1]
      have d2 : W.cell? ⟨w2.heap.size, 0, none⟩ = some (.int .i64 (rX c)) := by rw [hW]; simp [go_sem]
      have d3 : W.cell? ⟨w2.heap.size, 1, none⟩ = some (.int .i64 (rY c)) := by rw [hW]; simp [go_sem]
      have HD := Lib.hid (fun w' (ho : On W w') => held4o d0 d1 d2 d3 ho)
      have HRW := Lib.hid (show Res W w.heap.size from HR2.out.on (by rw [hW]; repeat (first | with_reducible exact On.refl _ | with_reducible apply On.alloc | with_reducible apply On.drewN | with_reducible apply On.drew | with_reducible refine On.setCell ?_ (by (try simp) <;> omega) _)))
      have HW := Lib.hid hW
      have HOW := Lib.hid hOW
      rw [← HW.out]
      clear hW d0 d1 d2 d3 hOW
      go_cut [7] (fun sa wx => ∃ G : Nat, sa = .pointer (some ⟨G, 0, none⟩) ∧ W.heap.size ≤ G ∧ Site.In wx G ⟨a.toArray⟩ ⟨b.toArray⟩ (rX c) (rY c) ∧ On W wx)
      case first =>
        go_region_held3 (fun w' => On W w' ∧ w'.cell? ⟨g, off, none⟩ = some (.string ⟨a.toArray⟩) ∧ w'.cell? ⟨g, off + 1, none⟩ = some (.string ⟨b.toArray⟩) ∧ w'.cell? ⟨w2.heap.size, 0, none⟩ = some (.int .i64 (rX c)) ∧ w'.cell? ⟨w2.heap.size, 1, none⟩ = some (.int .i64 (rY c)))
          ((refine HD.out _ ?_; repeat (first | with_reducible exact On.refl _ | with_reducible assumption | with_reducible apply On.alloc | with_reducible apply On.drew | (obtain ⟨hOW, _⟩ := ‹On W _ ∧ _›; exact hOW) | (refine On.trans ?_ (by assumption)))))
          (first | fail | fail)
        all_goals
          go_wp2_with fail
          go_meet
          refine ⟨_, rfl, by (try simp), ⟨by simp [go_sem], by simp [go_sem], by simp [go_sem], by simp [go_sem]⟩, ?_⟩
          repeat (first | with_reducible exact On.refl _ | with_reducible assumption | with_reducible apply On.alloc | with_reducible apply On.drew | (obtain ⟨hOW, _⟩ := ‹On W _ ∧ _›; exact hOW) | (refine On.trans ?_ (by assumption)))
      case rest =>
        obtain ⟨G, rfl, hG, hin, hO⟩ := hcut
        have h3 : On w wc := HOW.out.trans hO
        have HR3 := Lib.hid (HRW.out.on hO)
        have z3 : w.heap.size < wc.heap.size := HR3.out.1.lt
        obtain ⟨⟨r0, r1, r2, r3⟩, f0, f1, f2, f3⟩ := HR3.out
        clear hin
        go_wp2_with fail
        refine bodyPost_ret (v := .tuple #[.agg #[.string ⟨#[]⟩, .string ⟨#[]⟩, .int .i64 0, .int .i64 0], .bool false]) (by simp [results, Tryd.results24, go_sem, r0, r1, r2, r3]) rfl ⟨rfl, ?_⟩
        repeat (first | with_reducible exact On.refl _ | with_reducible apply On.alloc | with_reducible apply On.drewN | with_reducible apply On.drew | with_reducible refine On.setCell ?_ (by (try simp) <;> omega) _ | refine On.trans ?_ h3)
    | true =>
      rw [g3] at hp
      have HP := Lib.hid hp
      by_cases g : (siteT ⟨a.toArray⟩ ⟨b.toArray⟩ (rX c) (rY c)).data.toList = s.data.toList
      · have g1 := str_eq g
        have en := Lib.hid (s_yes (rs_words_good hps g3 g))
        obtain ⟨e1, e2, e3, e4, e5⟩ := en.out
        rw [e1, e2, e3, e4, e5]
        clear e1 e2 e3 e4 e5 en
        generalize siteT ⟨a.toArray⟩ ⟨b.toArray⟩ (rX c) (rY c) = u at *
        have HST := Lib.hid hst
        clear hp hst g
        go_enter Tryd.func24, Tryd.ntmps24
        go_wp2_with fail
        refine (HSP.out _ (by repeat (first | with_reducible exact On.refl _ | with_reducible apply On.alloc | with_reducible apply On.drewN | with_reducible apply On.drew | with_reducible refine On.setCell ?_ (by (try simp) <;> omega) _))).mono ?_
        rintro e w1 ⟨v, rfl, hown, h1⟩
        rw [hps] at hown
        obtain ⟨g, off, cap, rfl, hg, hc⟩ := row_texts hown (by simp)
        have c0 : w1.cell? ⟨g, off, none⟩ = some (.string ⟨a.toArray⟩) := hc 0 (by simp)
        have c1 : w1.cell? ⟨g, off + 1, none⟩ = some (.string ⟨b.toArray⟩) := hc 1 (by simp)
        have c2 : w1.cell? ⟨g, off + 2, none⟩ = some (.string ⟨c.toArray⟩) := hc 2 (by simp)
        have HR1 := Lib.hid (show Res w1 w.heap.size from Res.on ⟨⟨by simp [go_sem], by simp [go_sem], by simp [go_sem], by simp [go_sem]⟩, by simp [go_sem], by simp [go_sem], by simp [go_sem], by simp [go_sem]⟩ h1)
        have z1 : w.heap.size < w1.heap.size := HR1.out.1.lt
        obtain ⟨⟨r0, r1, r2, r3⟩, f0, f1, f2, f3⟩ := HR1.out
        have hlen : [a, b, c].length = 3 := rfl
        rw [hlen]
        have HO1 := Lib.hid (show On w w1 by repeat (first | with_reducible exact On.refl _ | with_reducible apply On.alloc | with_reducible apply On.drewN | with_reducible apply On.drew | with_reducible refine On.setCell ?_ (by (try simp) <;> omega) _ | refine On.trans ?_ h1))
        clear hc hown hlen h1
        go_wp2_with fail
        refine (HP.out _ HO1.out).mono ?_
        rintro e w2 ⟨rfl, h2⟩
        have HR2 := Lib.hid (HR1.out.on h2)
        have z2 : w.heap.size < w2.heap.size := HR2.out.1.lt
        clear r0 r1 r2 r3 f0 f1 f2 f3
        have HO2 := Lib.hid (HO1.out.trans h2)
        have e0 := (h2.cell (by exact hg)).trans c0
        have e1 := (h2.cell (by exact hg)).trans c1
        have z2g : g < w2.heap.size := h2.lts _ hg
        have z2n : g ≠ w2.heap.size := Nat.ne_of_lt z2g
        clear h2 c0 c1 c2
        go_upto_region 5 with fail
        obtain ⟨W, hW⟩ : ∃ W, W = w2.alloc (.cells #[.int .i64 (rX c), .int .i64 (rY c)] 39) := ⟨_, rfl⟩
        have hOW : On w W := by rw [hW]; repeat (first | with_reducible exact On.refl _ | with_reducible apply On.alloc | with_reducible apply On.drewN | with_reducible apply On.drew | with_reducible refine On.setCell ?_ (by (try simp) <;> omega) _ | refine On.trans ?_ HO2.out)
        have d0 : W.cell? ⟨g, off, none⟩ = some (.string ⟨a.toArray⟩) := by rw [hW]; simp [go_sem, z2g, e0]
        have d1 : W.cell? ⟨g, off + 1, none⟩ = some (.string ⟨b.toArray⟩) := by rw [hW]; simp [go_sem, z2g, e1]
        have d2 : W.cell? ⟨w2.heap.size, 0, none⟩ = some (.int .i64 (rX c)) := by rw [hW]; simp [go_sem]
        have d3 : W.cell? ⟨w2.heap.size, 1, none⟩ = some (.int .i64 (rY c)) := by rw [hW]; simp [go_sem]
        have HD := Lib.hid (fun w' (ho : On W w') => held4o d0 d1 d2 d3 ho)
        have HRW := Lib.hid (show Res W w.heap.size from HR2.out.on (by rw [hW]; repeat (first | with_reducible exact On.refl _ | with_reducible apply On.alloc | with_reducible apply On.drewN | with_reducible apply On.drew | with_reducible refine On.setCell ?_ (by (try simp) <;> omega) _)))
        have HW := Lib.hid hW
        have HOW := Lib.hid hOW
        rw [← HW.out]
        clear hW d0 d1 d2 d3 hOW
        go_cut [7] (fun sa wx => ∃ G : Nat, sa = .pointer (some ⟨G, 0, none⟩) ∧ W.heap.size ≤ G ∧ Site.In wx G ⟨a.toArray⟩ ⟨b.toArray⟩ (rX c) (rY c) ∧ On W wx)
        case first =>
          go_region_held3 (fun w' => On W w' ∧ w'.cell? ⟨g, off, none⟩ = some (.string ⟨a.toArray⟩) ∧ w'.cell? ⟨g, off + 1, none⟩ = some (.string ⟨b.toArray⟩) ∧ w'.cell? ⟨w2.heap.size, 0, none⟩ = some (.int .i64 (rX c)) ∧ w'.cell? ⟨w2.heap.size, 1, none⟩ = some (.int .i64 (rY c)))
            ((refine HD.out _ ?_; repeat (first | with_reducible exact On.refl _ | with_reducible assumption | with_reducible apply On.alloc | with_reducible apply On.drew | (obtain ⟨hOW, _⟩ := ‹On W _ ∧ _›; exact hOW) | (refine On.trans ?_ (by assumption)))))
            (first | fail | fail)
          all_goals
            go_wp2_with fail
            go_meet
            refine ⟨_, rfl, by (try simp), ⟨by simp [go_sem], by simp [go_sem], by simp [go_sem], by simp [go_sem]⟩, ?_⟩
            repeat (first | with_reducible exact On.refl _ | with_reducible assumption | with_reducible apply On.alloc | with_reducible apply On.drew | (obtain ⟨hOW, _⟩ := ‹On W _ ∧ _›; exact hOW) | (refine On.trans ?_ (by assumption)))
        case rest =>
          obtain ⟨G, rfl, hG, hin, hO⟩ := hcut
          have h3 : On w wc := HOW.out.trans hO
          have HR3 := Lib.hid (HRW.out.on hO)
          have z3 : w.heap.size < wc.heap.size := HR3.out.1.lt
          obtain ⟨⟨r0, r1, r2, r3⟩, f0, f1, f2, f3⟩ := HR3.out
          have hne : w.heap.size ≠ G := Nat.ne_of_lt (Nat.lt_of_lt_of_le HRW.out.1.lt hG)
          have HIN := Lib.hid hin
          have hlt := hin.lt
          obtain ⟨y0, y1, y2, y3⟩ := hin
          go_wp2_with fail
          refine (HST.out _ h3).mono ?_
          rintro e w4 ⟨rfl, h4⟩
          have z4 : w.heap.size < w4.heap.size := h4.lts _ z3
          clear r0 r1 r2 r3 f0 f1 f2 f3 y0 y1 y2 y3 hlt
          obtain ⟨⟨r0, r1, r2, r3⟩, f0, f1, f2, f3⟩ := HR3.out.on h4
          obtain ⟨y0, y1, y2, y3⟩ := HIN.out.on h4
          have hlt := World.block_lt_of_cell? _ _ y0
          go_wp2_with fail
          refine bodyPost_ret (v := .tuple #[.agg #[.string ⟨a.toArray⟩, .string ⟨b.toArray⟩, .int .i64 (rX c), .int .i64 (rY c)], .bool true]) (by simp [results, Tryd.results24, go_sem, r0, r1, r2, r3]) rfl ⟨rfl, ?_⟩
          repeat (first | with_reducible exact On.refl _ | with_reducible apply On.alloc | with_reducible apply On.drewN | with_reducible apply On.drew | with_reducible refine On.setCell ?_ (by (try simp) <;> omega) _ | refine On.trans ?_ h4 | refine On.trans ?_ h3)
      · have g1 := str_ne g
        have g2 : ¬ (siteT ⟨a.toArray⟩ ⟨b.toArray⟩ (rX c) (rY c)).toList = s.toList := ne_of_beq_false g1
        have en := Lib.hid (s_no (rs_words_bad hps (fun q => g q.2)))
        obtain ⟨e1, e2, e3, e4, e5⟩ := en.out
        rw [e1, e2, e3, e4, e5]
        clear e1 e2 e3 e4 e5 en
        generalize siteT ⟨a.toArray⟩ ⟨b.toArray⟩ (rX c) (rY c) = u at *
        have HST := Lib.hid hst
        clear hp hst g
        go_enter Tryd.func24, Tryd.ntmps24
        go_wp2_with fail
        refine (HSP.out _ (by repeat (first | with_reducible exact On.refl _ | with_reducible apply On.alloc | with_reducible apply On.drewN | with_reducible apply On.drew | with_reducible refine On.setCell ?_ (by (try simp) <;> omega) _))).mono ?_
        rintro e w1 ⟨v, rfl, hown, h1⟩
        rw [hps] at hown
        obtain ⟨g, off, cap, rfl, hg, hc⟩ := row_texts hown (by simp)
        have c0 : w1.cell? ⟨g, off, none⟩ = some (.string ⟨a.toArray⟩) := hc 0 (by simp)
        have c1 : w1.cell? ⟨g, off + 1, none⟩ = some (.string ⟨b.toArray⟩) := hc 1 (by simp)
        have c2 : w1.cell? ⟨g, off + 2, none⟩ = some (.string ⟨c.toArray⟩) := hc 2 (by simp)
        have HR1 := Lib.hid (show Res w1 w.heap.size from Res.on ⟨⟨by simp [go_sem], by simp [go_sem], by simp [go_sem], by simp [go_sem]⟩, by simp [go_sem], by simp [go_sem], by simp [go_sem], by simp [go_sem]⟩ h1)
        have z1 : w.heap.size < w1.heap.size := HR1.out.1.lt
        obtain ⟨⟨r0, r1, r2, r3⟩, f0, f1, f2, f3⟩ := HR1.out
        have hlen : [a, b, c].length = 3 := rfl
        rw [hlen]
        have HO1 := Lib.hid (show On w w1 by repeat (first | with_reducible exact On.refl _ | with_reducible apply On.alloc | with_reducible apply On.drewN | with_reducible apply On.drew | with_reducible refine On.setCell ?_ (by (try simp) <;> omega) _ | refine On.trans ?_ h1))
        clear hc hown hlen h1
        go_wp2_with fail
        refine (HP.out _ HO1.out).mono ?_
        rintro e w2 ⟨rfl, h2⟩
        have HR2 := Lib.hid (HR1.out.on h2)
        have z2 : w.heap.size < w2.heap.size := HR2.out.1.lt
        clear r0 r1 r2 r3 f0 f1 f2 f3
        have HO2 := Lib.hid (HO1.out.trans h2)
        have e0 := (h2.cell (by exact hg)).trans c0
        have e1 := (h2.cell (by exact hg)).trans c1
        have z2g : g < w2.heap.size := h2.lts _ hg
        have z2n : g ≠ w2.heap.size := Nat.ne_of_lt z2g
        clear h2 c0 c1 c2
        go_upto_region 5 with fail
        obtain ⟨W, hW⟩ : ∃ W, W = w2.alloc (.cells #[.int .i64 (rX c), .int .i64 (rY c)] 39) := ⟨_, rfl⟩
        have hOW : On w W := by rw [hW]; repeat (first | with_reducible exact On.refl _ | with_reducible apply On.alloc | with_reducible apply On.drewN | with_reducible apply On.drew | with_reducible refine On.setCell ?_ (by (try simp) <;> omega) _ | refine On.trans ?_ HO2.out)
        have d0 : W.cell? ⟨g, off, none⟩ = some (.string ⟨a.toArray⟩) := by rw [hW]; simp [go_sem, z2g, e0]
        have d1 : W.cell? ⟨g, off + 1, none⟩ = some (.string ⟨b.toArray⟩) := by rw [hW]; simp [go_sem, z2g, e1]
        have d2 : W.cell? ⟨w2.heap.size, 0, none⟩ = some (.int .i64 (rX c)) := by rw [hW]; simp [go_sem]
        have d3 : W.cell? ⟨w2.heap.size, 1, none⟩ = some (.int .i64 (rY c)) := by rw [hW]; simp [go_sem]
        have HD := Lib.hid (fun w' (ho : On W w') => held4o d0 d1 d2 d3 ho)
        have HRW := Lib.hid (show Res W w.heap.size from HR2.out.on (by rw [hW]; repeat (first | with_reducible exact On.refl _ | with_reducible apply On.alloc | with_reducible apply On.drewN | with_reducible apply On.drew | with_reducible refine On.setCell ?_ (by (try simp) <;> omega) _)))
        have HW := Lib.hid hW
        have HOW := Lib.hid hOW
        rw [← HW.out]
        clear hW d0 d1 d2 d3 hOW
        go_cut [7] (fun sa wx => ∃ G : Nat, sa = .pointer (some ⟨G, 0, none⟩) ∧ W.heap.size ≤ G ∧ Site.In wx G ⟨a.toArray⟩ ⟨b.toArray⟩ (rX c) (rY c) ∧ On W wx)
        case first =>
          go_region_held3 (fun w' => On W w' ∧ w'.cell? ⟨g, off, none⟩ = some (.string ⟨a.toArray⟩) ∧ w'.cell? ⟨g, off + 1, none⟩ = some (.string ⟨b.toArray⟩) ∧ w'.cell? ⟨w2.heap.size, 0, none⟩ = some (.int .i64 (rX c)) ∧ w'.cell? ⟨w2.heap.size, 1, none⟩ = some (.int .i64 (rY c)))
            ((refine HD.out _ ?_; repeat (first | with_reducible exact On.refl _ | with_reducible assumption | with_reducible apply On.alloc | with_reducible apply On.drew | (obtain ⟨hOW, _⟩ := ‹On W _ ∧ _›; exact hOW) | (refine On.trans ?_ (by assumption)))))
            (first | fail | fail)
          all_goals
            go_wp2_with fail
            go_meet
            refine ⟨_, rfl, by (try simp), ⟨by simp [go_sem], by simp [go_sem], by simp [go_sem], by simp [go_sem]⟩, ?_⟩
            repeat (first | with_reducible exact On.refl _ | with_reducible assumption | with_reducible apply On.alloc | with_reducible apply On.drew | (obtain ⟨hOW, _⟩ := ‹On W _ ∧ _›; exact hOW) | (refine On.trans ?_ (by assumption)))
        case rest =>
          obtain ⟨G, rfl, hG, hin, hO⟩ := hcut
          have h3 : On w wc := HOW.out.trans hO
          have HR3 := Lib.hid (HRW.out.on hO)
          have z3 : w.heap.size < wc.heap.size := HR3.out.1.lt
          obtain ⟨⟨r0, r1, r2, r3⟩, f0, f1, f2, f3⟩ := HR3.out
          have hne : w.heap.size ≠ G := Nat.ne_of_lt (Nat.lt_of_lt_of_le HRW.out.1.lt hG)
          have HIN := Lib.hid hin
          have hlt := hin.lt
          obtain ⟨y0, y1, y2, y3⟩ := hin
          go_wp2_with fail
          refine (HST.out _ h3).mono ?_
          rintro e w4 ⟨rfl, h4⟩
          have z4 : w.heap.size < w4.heap.size := h4.lts _ z3
          clear r0 r1 r2 r3 f0 f1 f2 f3 y0 y1 y2 y3 hlt
          obtain ⟨⟨r0, r1, r2, r3⟩, f0, f1, f2, f3⟩ := HR3.out.on h4
          obtain ⟨y0, y1, y2, y3⟩ := HIN.out.on h4
          have hlt := World.block_lt_of_cell? _ _ y0
          go_wp2_with fail
          refine bodyPost_ret (v := .tuple #[.agg #[.string ⟨#[]⟩, .string ⟨#[]⟩, .int .i64 0, .int .i64 0], .bool false]) (by simp [results, Tryd.results24, go_sem, r0, r1, r2, r3]) rfl ⟨rfl, ?_⟩
          repeat (first | with_reducible exact On.refl _ | with_reducible apply On.alloc | with_reducible apply On.drewN | with_reducible apply On.drew | with_reducible refine On.setCell ?_ (by (try simp) <;> omega) _ | refine On.trans ?_ h4 | refine On.trans ?_ h3)
  · have en := Lib.hid (s_no (rs_words_len (l := s.data.toList) (by rw [hps]; exact h3)))
    obtain ⟨e1, e2, e3, e4, e5⟩ := en.out
    rw [e1, e2, e3, e4, e5]
    clear e1 e2 e3 e4 e5 en hplen hRP hTX
    have hn : ((ps.length : Int) == 3) = false := beq_eq_false_iff_ne.2 (by omega)
    have hn2 : ((ps.length : Int) != 3) = true := by rw [bne, hn]; rfl
    go_enter Tryd.func24, Tryd.ntmps24
    go_wp2_with fail
    refine (HSP.out _ (by repeat (first | with_reducible exact On.refl _ | with_reducible apply On.alloc | with_reducible apply On.drewN | with_reducible apply On.drew | with_reducible refine On.setCell ?_ (by (try simp) <;> omega) _))).mono ?_
    rintro e w1 ⟨v, rfl, hown, h1⟩
    rw [hps] at hown
    obtain ⟨x1, x2, hv, -⟩ := hown
    rw [texts_length] at hv
    subst hv
    have HR1 := Lib.hid (show Res w1 w.heap.size from Res.on ⟨⟨by simp [go_sem], by simp [go_sem], by simp [go_sem], by simp [go_sem]⟩, by simp [go_sem], by simp [go_sem], by simp [go_sem], by simp [go_sem]⟩ h1)
    have z1 : w.heap.size < w1.heap.size := HR1.out.1.lt
    obtain ⟨⟨r0, r1, r2, r3⟩, f0, f1, f2, f3⟩ := HR1.out
    clear hps HSP h3
    go_wp2_with fail
    refine bodyPost_ret (v := .tuple #[.agg #[.string ⟨#[]⟩, .string ⟨#[]⟩, .int .i64 0, .int .i64 0], .bool false]) (by simp [results, Tryd.results24, go_sem, r0, r1, r2, r3]) rfl ⟨rfl, ?_⟩
    repeat (first | with_reducible exact On.refl _ | with_reducible apply On.alloc | with_reducible apply On.drewN | with_reducible apply On.drew | with_reducible refine On.setCell ?_ (by (try simp) <;> omega) _ | refine On.trans ?_ h1)

theorem eqSite (a b : ByteArray) (x y : Int) (w : World) :
    Calls Tryd.prog 25 #[.agg #[.string a, .string b, .int .i64 x, .int .i64 y], .agg #[.string a, .string b, .int .i64 x, .int .i64 y]] w fun e w' => e = .returned (.bool true) ∧ On w w' := by
  go_enter Tryd.func25, Tryd.ntmps25
  go_wp2_with fail
  refine (ReadPt.laws_eqPoint _ _ _).mono ?_
  rintro e w1 ⟨rfl, h1⟩
  go_wp2_with fail
  go_ret
  exact ⟨rfl, by repeat (first | with_reducible exact On.refl _ | with_reducible apply On.alloc | with_reducible apply On.drewN | with_reducible apply On.drew | with_reducible refine On.setCell ?_ (by (try simp) <;> omega) _ | refine On.trans ?_ h1)⟩
end Go.Proofs.YtbmhhhhodlfcbaaDoor.RdS
