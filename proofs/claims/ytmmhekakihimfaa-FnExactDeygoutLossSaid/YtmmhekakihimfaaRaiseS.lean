
/-
  A profile with higher ends, in the model. Condition: at most 1048576 heights.
-/
import Derived.Test.YtmmhekakihimfaaRaise
namespace Go.Proofs.Ytmmhekakihimfaa.Nu
open Go.RowKit
open Plain
open Ints (Ints Own)
open Prof (PIn okP of_okP slice_of)
set_option maxRecDepth 100000 in
set_option maxHeartbeats 4000000 in
theorem spec_raise (d f l by_ : Int) (v : Value) (zs : List Int) (w : World) (hn : zs.length ≤ 1048576) (h : Ints w v zs) :
    Calls Try.prog 39 #[.agg #[.int .i64 d, .int .i64 f, .int .i64 l, v], .int .i64 by_] w fun e w' => ∃ a c, e = .returned (.tuple #[.agg #[.int .i64 (rX (rsC d f l by_ zs) d), .int .i64 (rX (rsC d f l by_ zs) (f + by_)), .int .i64 (rX (rsC d f l by_ zs) (l + by_)), .slice a (rZ (rsC d f l by_ zs) zs).length c], .int .i64 (rsC d f l by_ zs)]) ∧ Ints w' (.slice a (rZ (rsC d f l by_ zs) zs).length c) (rZ (rsC d f l by_ zs) zs) ∧ On w w' := by
  obtain ⟨a, cap, rfl, -⟩ := id h
  have HV := Lib.hid (fun w' (hb : On w w') hp => Prof.spec_ok w.heap.size d f l a cap zs w' hn hp (h.below hb))
  cases hok : okP d f l zs with
  | false =>
    rw [hok] at HV
    rw [rs_1 hok]
    clear h
    go_enter Try.func39, Try.ntmps39
    go_wp2_with fail
    refine (HV.out _ (by repeat (first | with_reducible exact On.refl _ | apply On.alloc)) ⟨by simp [go_sem], by simp [go_sem], by simp [go_sem], by simp [go_sem]⟩).mono ?_
    rintro e w1 ⟨rfl, q, hq⟩
    have HO := Lib.hid (show On w w1 by rw [hq]; repeat (first | with_reducible exact On.refl _ | apply On.drewN | apply On.alloc))
    have HP := Lib.hid (show PRec.In w1 w.heap.size d f l (.slice a zs.length cap) by rw [hq]; exact ⟨by simp [go_sem], by simp [go_sem], by simp [go_sem], by simp [go_sem]⟩)
    have HR := Lib.hid (show PRec.In w1 (w.heap.size + 1) 0 0 0 (.slice none 0 0) by rw [hq]; exact ⟨by simp [go_sem], by simp [go_sem], by simp [go_sem], by simp [go_sem]⟩)
    have HF := Lib.hid (show ∀ i, w1.frozen? ⟨w.heap.size + 1, i, none⟩ = false from fun i => by rw [hq]; simp [go_sem])
    have k0 := HF.out 0
    have k1 := HF.out 1
    have k2 := HF.out 2
    have k3 := HF.out 3
    obtain ⟨p0, p1, p2, p3⟩ := HP.out
    obtain ⟨r0, r1, r2, r3⟩ := HR.out
    have hg := World.block_lt_of_cell? w1 _ r0
    clear hq
    go_wp2_with fail
    refine bodyPost_ret (v := .tuple #[.agg #[.int .i64 0, .int .i64 0, .int .i64 0, .slice none 0 0], .int .i64 1]) (by simp [results, Try.results39, go_sem, r0, r1, r2, r3]) rfl ⟨none, 0, rfl, (Own.empty 0 _ _ _).ints, ?_⟩
    repeat (first | with_reducible exact HO.out | refine On.setCell ?_ (by (try simp) <;> omega) _)
  | true =>
    rw [hok] at HV
    obtain ⟨-, ⟨n2, n65⟩, -⟩ := of_okP hok
    obtain ⟨b, off, rfl, hb, hc⟩ := slice_of h (by omega)
    have HC := Lib.hid (fun w' (hb2 : On w w') => Clone.spec_own b off cap zs w' (by omega) hn (hb2.lts _ hb) (fun i hi => (hb2.cell (by exact hb)).trans (hc i hi)))
    cases hin : inB by_ 0 90000 with
    | false =>
      rw [rs_2 hok hin]
      clear h hc
      go_enter Try.func39, Try.ntmps39
      go_wp2_with fail
      refine (HV.out _ (by repeat (first | with_reducible exact On.refl _ | apply On.alloc)) ⟨by simp [go_sem], by simp [go_sem], by simp [go_sem], by simp [go_sem]⟩).mono ?_
      rintro e w1 ⟨rfl, q, hq⟩
      have HO := Lib.hid (show On w w1 by rw [hq]; repeat (first | with_reducible exact On.refl _ | apply On.drewN | apply On.alloc))
      have HP := Lib.hid (show PRec.In w1 w.heap.size d f l (.slice (some ⟨b, off, none⟩) zs.length cap) by rw [hq]; exact ⟨by simp [go_sem], by simp [go_sem], by simp [go_sem], by simp [go_sem]⟩)
      have HR := Lib.hid (show PRec.In w1 (w.heap.size + 1) 0 0 0 (.slice none 0 0) by rw [hq]; exact ⟨by simp [go_sem], by simp [go_sem], by simp [go_sem], by simp [go_sem]⟩)
      have HF := Lib.hid (show ∀ i, w1.frozen? ⟨w.heap.size + 1, i, none⟩ = false from fun i => by rw [hq]; simp [go_sem])
      have k0 := HF.out 0
      have k1 := HF.out 1
      have k2 := HF.out 2
      have k3 := HF.out 3
      obtain ⟨p0, p1, p2, p3⟩ := HP.out
      obtain ⟨r0, r1, r2, r3⟩ := HR.out
      have hg := World.block_lt_of_cell? w1 _ r0
      clear hq
      go_wp2_with fail
      refine (Prof.spec_height _ _).mono ?_
      rintro e w' ⟨rfl, rfl⟩
      rw [show Prof.htB by_ = false from hin]
      go_wp2_with fail
      refine bodyPost_ret (v := .tuple #[.agg #[.int .i64 0, .int .i64 0, .int .i64 0, .slice none 0 0], .int .i64 2]) (by simp [results, Try.results39, go_sem, r0, r1, r2, r3]) rfl ⟨none, 0, rfl, (Own.empty 0 _ _ _).ints, ?_⟩
      repeat (first | with_reducible exact HO.out | refine On.setCell ?_ (by (try simp) <;> omega) _)
    | true =>
      obtain ⟨b0, b1⟩ := of_inB hin
      obtain ⟨-, -, hall, ⟨f0, f1⟩, ⟨l0, l1⟩⟩ := of_okP hok
      have hz0 := (of_inB (hall 0 (by omega))).1
      have hz1 := (of_inB (hall (zs.length - 1) (by omega))).1
      have e1 : IntKind.i64.wrap (f + by_) = f + by_ := IntWalk.i64_in _ (by omega)
      have e2 : IntKind.i64.wrap (l + by_) = l + by_ := IntWalk.i64_in _ (by omega)
      clear hall hz0 hz1
      have HOK := Lib.hid hok
      have HIN := Lib.hid hin
      clear h hc
      go_enter Try.func39, Try.ntmps39
      go_wp2_with fail
      refine (HV.out _ (by repeat (first | with_reducible exact On.refl _ | apply On.alloc)) ⟨by simp [go_sem], by simp [go_sem], by simp [go_sem], by simp [go_sem]⟩).mono ?_
      rintro e w1 ⟨rfl, q, hq⟩
      have HO := Lib.hid (show On w w1 by rw [hq]; repeat (first | with_reducible exact On.refl _ | apply On.drewN | apply On.alloc))
      have HP := Lib.hid (show PRec.In w1 w.heap.size d f l (.slice (some ⟨b, off, none⟩) zs.length cap) by rw [hq]; exact ⟨by simp [go_sem], by simp [go_sem], by simp [go_sem], by simp [go_sem]⟩)
      have HR := Lib.hid (show PRec.In w1 (w.heap.size + 1) 0 0 0 (.slice none 0 0) by rw [hq]; exact ⟨by simp [go_sem], by simp [go_sem], by simp [go_sem], by simp [go_sem]⟩)
      have HF := Lib.hid (show ∀ i, w1.frozen? ⟨w.heap.size + 1, i, none⟩ = false from fun i => by rw [hq]; simp [go_sem])
      have k0 := HF.out 0
      have k1 := HF.out 1
      have k2 := HF.out 2
      have k3 := HF.out 3
      obtain ⟨p0, p1, p2, p3⟩ := HP.out
      obtain ⟨r0, r1, r2, r3⟩ := HR.out
      have hg := World.block_lt_of_cell? w1 _ r0
      clear hq
      go_wp2_with fail
      refine (Prof.spec_height _ _).mono ?_
      rintro e w' ⟨rfl, rfl⟩
      rw [show Prof.htB by_ = true from hin]
      go_upto_region 5 with fail
      go_cut [6] (fun sa wx => ∃ g a' c', sa = .pointer (some ⟨g, 0, none⟩) ∧ w1.heap.size ≤ g ∧ PRec.In wx g d (f + by_) (l + by_) (.slice a' zs.length c') ∧ Own w1.heap.size wx (.slice a' zs.length c') zs ∧ On w1 wx)
      case first =>
        go_region_held3 (fun w' => On w1 w' ∧ w'.cell? ⟨w.heap.size, 0, none⟩ = some (.int .i64 d) ∧ w'.cell? ⟨w.heap.size, 1, none⟩ = some (.int .i64 f) ∧ w'.cell? ⟨w.heap.size, 2, none⟩ = some (.int .i64 l) ∧ w'.cell? ⟨w.heap.size, 3, none⟩ = some (.slice (some ⟨b, off, none⟩) zs.length cap))
          ((refine PRec.held_one HP.out ?_; repeat (first | with_reducible exact On.refl _ | with_reducible assumption | apply On.alloc | apply On.drew | (obtain ⟨hOW, _⟩ := ‹On w1 _ ∧ _›; exact hOW) | (refine On.setCell ?_ (by (try simp) <;> omega) _) | (refine On.trans ?_ (by assumption)))))
          (first
            | (go_at_call 72; refine (HC.out _ (On.trans HO.out (by repeat (first | with_reducible exact On.refl _ | with_reducible assumption | apply On.alloc | apply On.drew | (obtain ⟨hOW, _⟩ := ‹On w1 _ ∧ _›; exact hOW) | (refine On.trans ?_ (by assumption)))))).mono ?_; rintro e w' ⟨a', c', rfl, hown, hcall⟩; (try (with_reducible replace hcall := PRec.On.undrew hcall)); obtain ⟨hc, hf⟩ := bcell hcall; have hgr := hcall.lts; (try (have hl1 := hgr _ (by assumption))); (try (have hl0 := PRec.On.last hcall)); have hsz := hcall.size; (try simp at hsz)))
        all_goals
          go_wp2_with fail
          go_meet
          refine ⟨_, a', c', rfl, ?_, ?_, ?_, ?_⟩
          · (try simp) <;> omega
          · refine ⟨?_, ?_, ?_, ?_⟩ <;> first | (simp [go_sem]; done) | (go_simp; done) | simp [go_sem, hc]
          · first | exact (hown.below (On.alloc (On.refl _) _)).mono (by simp) | exact ((((hown.setCell (by simp) _).setCell (by simp) _).setCell (by simp) _).setCell (by simp) _).mono (by simp)
          · obtain ⟨hOW, _⟩ := ‹On w1 _ ∧ _›
            exact hOW
      case rest =>
        obtain ⟨g, a', c', rfl, hgw, hI, ho, hOx⟩ := hcut
        have HOx := Lib.hid hOx
        have HK := Lib.hid (fun w' (h2 : On wc w') => Prof.spec_ok g d (f + by_) (l + by_) a' c' zs w' hn (PRec.In.on hI h2) (ho.ints.below h2))
        have HI := Lib.hid hI
        have hgl := World.block_lt_of_cell? _ _ hI.1
        have HW := Lib.hid ho
        obtain ⟨i0, i1, i2, i3⟩ := HI.out
        obtain ⟨r0, r1, r2, r3⟩ := HR.out.on hOx
        have hgc := World.block_lt_of_cell? wc _ r0
        have fc := fun i => (hOx.frozen (p := ⟨w.heap.size + 1, i, none⟩) (by exact hg)).trans (HF.out i)
        have k0 := fc 0
        have k1 := fc 1
        have k2 := fc 2
        have k3 := fc 3
        have hne : g ≠ w.heap.size + 1 := by omega
        clear hI ho hOx fc
        cases hk : okP d (f + by_) (l + by_) zs with
        | false =>
          have hK := HK.out
          rw [hk] at hK
          have HK2 := Lib.hid hK
          have EN := Lib.hid (rs_6 HOK.out HIN.out hk)
          clear hK hk
          go_wp2_with fail
          refine (HK2.out _ (On.refl _)).mono ?_
          rintro e w2 ⟨rfl, q2, hq2⟩
          have h2 : On wc w2 := by rw [hq2]; exact (On.refl _).drewN _
          have H2 := Lib.hid h2
          obtain ⟨r0, r1, r2, r3⟩ := HR.out.on (HOx.out.trans h2)
          have k0 := (h2.frozen (p := ⟨w.heap.size + 1, 0, none⟩) (by exact hgc)).trans k0
          have k1 := (h2.frozen (p := ⟨w.heap.size + 1, 1, none⟩) (by exact hgc)).trans k1
          have k2 := (h2.frozen (p := ⟨w.heap.size + 1, 2, none⟩) (by exact hgc)).trans k2
          have k3 := (h2.frozen (p := ⟨w.heap.size + 1, 3, none⟩) (by exact hgc)).trans k3
          clear hq2 h2
          go_wp2_with fail
          rw [EN.out]
          refine bodyPost_ret (v := .tuple #[.agg #[.int .i64 0, .int .i64 0, .int .i64 0, .slice none 0 0], .int .i64 6]) (by simp [results, Try.results39, go_sem, r0, r1, r2, r3]) rfl ⟨none, 0, rfl, (Own.empty 0 _ _ _).ints, ?_⟩
          repeat (first | with_reducible exact (HO.out.trans HOx.out).trans H2.out | refine On.setCell ?_ (by (try simp) <;> omega) _)
        | true =>
          have hK := HK.out
          rw [hk] at hK
          have HK2 := Lib.hid hK
          have EN := Lib.hid (rs_0 HOK.out HIN.out hk)
          clear hK hk
          go_wp2_with fail
          refine (HK2.out _ (On.refl _)).mono ?_
          rintro e w2 ⟨rfl, q2, hq2⟩
          have h2 : On wc w2 := by rw [hq2]; exact (On.refl _).drewN _
          have H2 := Lib.hid h2
          obtain ⟨i0, i1, i2, i3⟩ := HI.out.on h2
          have hgl2 := World.block_lt_of_cell? w2 _ i0
          obtain ⟨r0, r1, r2, r3⟩ := HR.out.on (HOx.out.trans h2)
          have k0 := (h2.frozen (p := ⟨w.heap.size + 1, 0, none⟩) (by exact hgc)).trans k0
          have k1 := (h2.frozen (p := ⟨w.heap.size + 1, 1, none⟩) (by exact hgc)).trans k1
          have k2 := (h2.frozen (p := ⟨w.heap.size + 1, 2, none⟩) (by exact hgc)).trans k2
          have k3 := (h2.frozen (p := ⟨w.heap.size + 1, 3, none⟩) (by exact hgc)).trans k3
          clear hq2 h2
          go_wp2_with fail
          rw [EN.out]
          refine bodyPost_ret (v := .tuple #[.agg #[.int .i64 d, .int .i64 (f + by_), .int .i64 (l + by_), .slice a' zs.length c'], .int .i64 0]) (by simp [results, Try.results39, go_sem, r0, r1, r2, r3]) rfl ⟨a', c', rfl, ?_, ?_⟩
          · refine Own.ints (B := w1.heap.size) (show Own _ _ (.slice a' zs.length c') zs from ?_)
            repeat (first | exact HW.out.below H2.out | refine Own.setCell ?_ (by (try simp) <;> omega) _)
          · repeat (first | with_reducible exact (HO.out.trans HOx.out).trans H2.out | refine On.setCell ?_ (by (try simp) <;> omega) _)
end Go.Proofs.Ytmmhekakihimfaa.Nu
