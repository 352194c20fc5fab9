
/-
  A part of a profile, whole, in the model. Condition: at most 1048576 heights.
-/
import Derived.Test.YtmmhekakihimfaaPartS
namespace Go.Proofs.Ytmmhekakihimfaa.Nu
open Go.RowKit
open Plain
open Ints (Ints Own)
open Prof (PIn okP of_okP slice_of off off_bd)
set_option maxRecDepth 100000 in
set_option maxHeartbeats 4000000 in
theorem spec_part (d f l i k : Int) (v : Value) (zs : List Int) (w : World) (hn : zs.length ≤ 1048576) (h : FitI w v zs) :
    Calls Try.prog 28 #[.agg #[.int .i64 d, .int .i64 f, .int .i64 l, v], .int .i64 i, .int .i64 k] w fun e w' => ∃ a c, e = .returned (.tuple #[.agg #[.int .i64 (rX (ptC d f l i k zs) (ptD d zs i k)), .int .i64 (rX (ptC d f l i k zs) (ptE f l zs i)), .int .i64 (rX (ptC d f l i k zs) (ptE f l zs k)), .slice a (rZ (ptC d f l i k zs) (ptZ zs i k)).length c], .int .i64 (ptC d f l i k zs)]) ∧ Ints w' (.slice a (rZ (ptC d f l i k zs) (ptZ zs i k)).length c) (rZ (ptC d f l i k zs) (ptZ zs i k)) ∧ On w w' := by
  obtain ⟨h, a, cap, rfl, hcap⟩ := h
  have HV := Lib.hid (fun w' (hb : On w w') hp => Prof.spec_ok w.heap.size d f l a cap zs w' hn hp (h.below hb))
  cases hok : okP d f l zs with
  | false =>
    rw [hok] at HV
    rw [pt_1 hok]
    clear h
    go_enter Try.func28, Try.ntmps28
    go_wp2_with fail
    refine (HV.out _ (by repeat (first | with_reducible exact On.refl _ | apply On.alloc)) ⟨by simp [go_sem], by simp [go_sem], by simp [go_sem], by simp [go_sem]⟩).mono ?_
    rintro e w1 ⟨rfl, q, hq⟩
    have HO := Lib.hid (show On w w1 by rw [hq]; repeat (first | with_reducible exact On.refl _ | apply On.drewN | apply On.alloc))
    have HP := Lib.hid (show PRec.In w1 w.heap.size d f l (.slice a zs.length cap) by rw [hq]; exact ⟨by simp [go_sem], by simp [go_sem], by simp [go_sem], by simp [go_sem]⟩)
    have HR := Lib.hid (show PRec.In w1 (w.heap.size + 1) 0 0 0 (.slice none 0 0) by rw [hq]; exact ⟨by simp [go_sem], by simp [go_sem], by simp [go_sem], by simp [go_sem]⟩)
    have HF := Lib.hid (show ∀ i, w1.frozen? ⟨w.heap.size + 1, i, none⟩ = false from fun i => by rw [hq]; simp [go_sem])
    have k0 := HF.out 0
    have k1 := HF.out 1
    have k2 := HF.out 2
    have k3 := HF.out 3
    obtain ⟨p0, p1, p2, p3⟩ := HP.out
    obtain ⟨r0, r1, r2, r3⟩ := HR.out
    have hg := World.block_lt_of_cell? w1 _ r0
    clear hq
    go_wp2_with fail
    refine bodyPost_ret (v := .tuple #[.agg #[.int .i64 0, .int .i64 0, .int .i64 0, .slice none 0 0], .int .i64 1]) (by simp [results, Try.results28, go_sem, r0, r1, r2, r3]) rfl ⟨none, 0, rfl, (Own.empty 0 _ _ _).ints, ?_⟩
    repeat (first | with_reducible exact HO.out | refine On.setCell ?_ (by (try simp) <;> omega) _)
  | true =>
    rw [hok] at HV
    obtain ⟨⟨d0, d1⟩, ⟨n2, n65⟩, -⟩ := of_okP hok
    obtain ⟨n, hzn⟩ : ∃ n, zs.length = n + 1 := ⟨zs.length - 1, by omega⟩
    obtain ⟨b, off, rfl, hb, hc⟩ := slice_of h (by omega)
    have hnn : ((zs.length : Int) - 1) = n := by omega
    have en : IntKind.i64.wrap (n : Int) = n := IntWalk.i64_in _ (by omega)
    cases hi : inB i 0 (n : Int) with
    | false =>
      rw [pt_2 hok (by unfold ptB; rw [hnn, hi]; rfl)]
      rw [hzn] at HV ⊢
      clear h hc hnn
      go_enter Try.func28, Try.ntmps28
      go_wp2_with fail
      refine (HV.out _ (by repeat (first | with_reducible exact On.refl _ | apply On.alloc)) ⟨by simp [go_sem], by simp [go_sem], by simp [go_sem], by simp [go_sem]⟩).mono ?_
      rintro e w1 ⟨rfl, q, hq⟩
      have HO := Lib.hid (show On w w1 by rw [hq]; repeat (first | with_reducible exact On.refl _ | apply On.drewN | apply On.alloc))
      have HP := Lib.hid (show PRec.In w1 w.heap.size d f l (.slice (some ⟨b, off, none⟩) (n + 1) cap) by rw [hq]; exact ⟨by simp [go_sem], by simp [go_sem], by simp [go_sem], by simp [go_sem]⟩)
      have HR := Lib.hid (show PRec.In w1 (w.heap.size + 1) 0 0 0 (.slice none 0 0) by rw [hq]; exact ⟨by simp [go_sem], by simp [go_sem], by simp [go_sem], by simp [go_sem]⟩)
      have HF := Lib.hid (show ∀ i, w1.frozen? ⟨w.heap.size + 1, i, none⟩ = false from fun i => by rw [hq]; simp [go_sem])
      have k0 := HF.out 0
      have k1 := HF.out 1
      have k2 := HF.out 2
      have k3 := HF.out 3
      obtain ⟨p0, p1, p2, p3⟩ := HP.out
      obtain ⟨r0, r1, r2, r3⟩ := HR.out
      have hg := World.block_lt_of_cell? w1 _ r0
      clear hq
      go_wp2_with fail
      refine (Arith.l00In _ _ _ _).mono ?_
      rintro e w' ⟨rfl, rfl⟩
      rw [hi]
      go_wp2_with fail
      refine bodyPost_ret (v := .tuple #[.agg #[.int .i64 0, .int .i64 0, .int .i64 0, .slice none 0 0], .int .i64 2]) (by simp [results, Try.results28, go_sem, r0, r1, r2, r3]) rfl ⟨none, 0, rfl, (Own.empty 0 _ _ _).ints, ?_⟩
      repeat (first | with_reducible exact HO.out | refine On.setCell ?_ (by (try simp) <;> omega) _)
    | true =>
      obtain ⟨i0, i1⟩ := of_inB hi
      have ei : IntKind.i64.wrap (i + 1) = i + 1 := IntWalk.i64_in _ (by omega)
      cases hk : inB k (i + 1) (n : Int) with
      | false =>
        rw [pt_2 hok (by unfold ptB; rw [hnn, hi, hk]; rfl)]
        rw [hzn] at HV ⊢
        clear h hc hnn
        go_enter Try.func28, Try.ntmps28
        go_wp2_with fail
        refine (HV.out _ (by repeat (first | with_reducible exact On.refl _ | apply On.alloc)) ⟨by simp [go_sem], by simp [go_sem], by simp [go_sem], by simp [go_sem]⟩).mono ?_
        rintro e w1 ⟨rfl, q, hq⟩
        have HO := Lib.hid (show On w w1 by rw [hq]; repeat (first | with_reducible exact On.refl _ | apply On.drewN | apply On.alloc))
        have HP := Lib.hid (show PRec.In w1 w.heap.size d f l (.slice (some ⟨b, off, none⟩) (n + 1) cap) by rw [hq]; exact ⟨by simp [go_sem], by simp [go_sem], by simp [go_sem], by simp [go_sem]⟩)
        have HR := Lib.hid (show PRec.In w1 (w.heap.size + 1) 0 0 0 (.slice none 0 0) by rw [hq]; exact ⟨by simp [go_sem], by simp [go_sem], by simp [go_sem], by simp [go_sem]⟩)
        have HF := Lib.hid (show ∀ i, w1.frozen? ⟨w.heap.size + 1, i, none⟩ = false from fun i => by rw [hq]; simp [go_sem])
        have k0 := HF.out 0
        have k1 := HF.out 1
        have k2 := HF.out 2
        have k3 := HF.out 3
        obtain ⟨p0, p1, p2, p3⟩ := HP.out
        obtain ⟨r0, r1, r2, r3⟩ := HR.out
        have hg := World.block_lt_of_cell? w1 _ r0
        clear hq
        go_wp2_with fail
        refine (Arith.l00In _ _ _ _).mono ?_
        rintro e w' ⟨rfl, rfl⟩
        rw [hi]
        go_wp2_with fail
        refine (Arith.l00In _ _ _ _).mono ?_
        rintro e w' ⟨rfl, rfl⟩
        rw [hk]
        go_wp2_with fail
        refine bodyPost_ret (v := .tuple #[.agg #[.int .i64 0, .int .i64 0, .int .i64 0, .slice none 0 0], .int .i64 2]) (by simp [results, Try.results28, go_sem, r0, r1, r2, r3]) rfl ⟨none, 0, rfl, (Own.empty 0 _ _ _).ints, ?_⟩
        repeat (first | with_reducible exact HO.out | refine On.setCell ?_ (by (try simp) <;> omega) _)
      | true =>
        obtain ⟨j0, j1⟩ := of_inB hk
        obtain ⟨i', rfl⟩ := Int.eq_ofNat_of_zero_le i0
        obtain ⟨k', rfl⟩ := Int.eq_ofNat_of_zero_le (show 0 ≤ k by omega)
        have hpb : ptB zs (i' : Int) (k' : Int) = true := by unfold ptB; rw [hnn, hi, hk]; rfl
        have P0 := Lib.hid (fun q => pt_0 (d := d) (f := f) (l := l) (i := i') (k := k') (zs := zs) hok hpb q)
        have P6 := Lib.hid (fun q => pt_6 (d := d) (f := f) (l := l) (i := i') (k := k') (zs := zs) hok hpb q)
        have HLP := Lib.hid (fun w' (hw : On w w') hp => spec_l10Part w.heap.size n cap b off i' k' d f l zs w' hp (hw.lts _ hb) (fun j hj => (hw.cell (p := ⟨b, off + j, none⟩) (by exact hb)).trans (hc j (by omega))) hzn d0 d1 (by omega) (by omega) (by omega) hcap)
        have hzl : (ptZ zs i' k').length ≤ 1048576 := by unfold ptZ; rw [Int.toNat_natCast, Int.toNat_natCast, cut_len (by omega)]; omega
        generalize ptD d zs i' k' = pd at *
        generalize ptE f l zs i' = pe at *
        generalize ptE f l zs k' = pk at *
        generalize ptZ zs i' k' = zz at *
        rw [hzn] at HV
        have hsl : (.slice (some ⟨b, off, none⟩) zs.length cap : Value) = .slice (some ⟨b, off, none⟩) (n + 1) cap := by rw [hzn]
        rw [hsl]
        have HZN := Lib.hid hzn
        clear h hc hnn hpb hsl hzn hok
        go_enter Try.func28, Try.ntmps28
        go_wp2_with fail
        refine (HV.out _ (by repeat (first | with_reducible exact On.refl _ | apply On.alloc)) ⟨by simp [go_sem], by simp [go_sem], by simp [go_sem], by simp [go_sem]⟩).mono ?_
        rintro e w1 ⟨rfl, q, hq⟩
        have HO := Lib.hid (show On w w1 by rw [hq]; repeat (first | with_reducible exact On.refl _ | apply On.drewN | apply On.alloc))
        have HP := Lib.hid (show PRec.In w1 w.heap.size d f l (.slice (some ⟨b, off, none⟩) (n + 1) cap) by rw [hq]; exact ⟨by simp [go_sem], by simp [go_sem], by simp [go_sem], by simp [go_sem]⟩)
        have HR := Lib.hid (show PRec.In w1 (w.heap.size + 1) 0 0 0 (.slice none 0 0) by rw [hq]; exact ⟨by simp [go_sem], by simp [go_sem], by simp [go_sem], by simp [go_sem]⟩)
        have HF := Lib.hid (show ∀ i, w1.frozen? ⟨w.heap.size + 1, i, none⟩ = false from fun i => by rw [hq]; simp [go_sem])
        have k0 := HF.out 0
        have k1 := HF.out 1
        have k2 := HF.out 2
        have k3 := HF.out 3
        obtain ⟨p0, p1, p2, p3⟩ := HP.out
        obtain ⟨r0, r1, r2, r3⟩ := HR.out
        have hg := World.block_lt_of_cell? w1 _ r0
        clear hq
        go_wp2_with fail
        refine (Arith.l00In _ _ _ _).mono ?_
        rintro e w' ⟨rfl, rfl⟩
        rw [hi]
        go_wp2_with fail
        refine (Arith.l00In _ _ _ _).mono ?_
        rintro e w' ⟨rfl, rfl⟩
        rw [hk]
        go_wp2_with fail
        refine (HLP.out _ HO.out HP.out).mono ?_
        rintro e w2 ⟨a', c', rfl, ho2, h2⟩
        have HO2 := Lib.hid h2
        have HW2 := Lib.hid ho2
        have HK := Lib.hid (fun w' (h3 : On w2 w') hp => Prof.spec_ok w2.heap.size pd pe pk a' c' zz w' hzl hp (ho2.ints.below h3))
        have hsz := h2.size
        clear h2 ho2
        cases hq : okP pd pe pk zz with
        | false =>
          have hK := HK.out
          rw [hq] at hK
          have HK2 := Lib.hid hK
          have EN := Lib.hid (P6.out hq)
          clear hK hq
          go_wp2_with fail
          refine (HK2.out _ (by repeat (first | with_reducible exact On.refl _ | apply On.alloc)) ⟨by simp [go_sem], by simp [go_sem], by simp [go_sem], by simp [go_sem]⟩).mono ?_
          rintro e w3 ⟨rfl, q3, hq3⟩
          have h3 : On w2 w3 := by rw [hq3]; repeat (first | with_reducible exact On.refl _ | apply On.drewN | apply On.alloc)
          have H3 := Lib.hid h3
          have HI3 := Lib.hid (show PRec.In w3 w2.heap.size pd pe pk (.slice a' zz.length c') by rw [hq3]; exact ⟨by simp [go_sem], by simp [go_sem], by simp [go_sem], by simp [go_sem]⟩)
          obtain ⟨i0, i1, i2, i3⟩ := HI3.out
          have hgi := World.block_lt_of_cell? w3 _ i0
          obtain ⟨r0, r1, r2, r3⟩ := HR.out.on (HO2.out.trans h3)
          have k0 := ((HO2.out.trans h3).frozen (p := ⟨w.heap.size + 1, 0, none⟩) (by exact hg)).trans (HF.out 0)
          have k1 := ((HO2.out.trans h3).frozen (p := ⟨w.heap.size + 1, 1, none⟩) (by exact hg)).trans (HF.out 1)
          have k2 := ((HO2.out.trans h3).frozen (p := ⟨w.heap.size + 1, 2, none⟩) (by exact hg)).trans (HF.out 2)
          have k3 := ((HO2.out.trans h3).frozen (p := ⟨w.heap.size + 1, 3, none⟩) (by exact hg)).trans (HF.out 3)
          clear hq3 h3
          go_wp2_with fail
          rw [EN.out]
          refine bodyPost_ret (v := .tuple #[.agg #[.int .i64 0, .int .i64 0, .int .i64 0, .slice none 0 0], .int .i64 6]) (by simp [results, Try.results28, go_sem, r0, r1, r2, r3]) rfl ⟨none, 0, rfl, (Own.empty 0 _ _ _).ints, ?_⟩
          repeat (first | with_reducible exact (HO.out.trans HO2.out).trans H3.out | refine On.setCell ?_ (by (try simp) <;> omega) _)
        | true =>
          have hK := HK.out
          rw [hq] at hK
          have HK2 := Lib.hid hK
          have EN := Lib.hid (P0.out hq)
          clear hK hq
          go_wp2_with fail
          refine (HK2.out _ (by repeat (first | with_reducible exact On.refl _ | apply On.alloc)) ⟨by simp [go_sem], by simp [go_sem], by simp [go_sem], by simp [go_sem]⟩).mono ?_
          rintro e w3 ⟨rfl, q3, hq3⟩
          have h3 : On w2 w3 := by rw [hq3]; repeat (first | with_reducible exact On.refl _ | apply On.drewN | apply On.alloc)
          have H3 := Lib.hid h3
          have HI3 := Lib.hid (show PRec.In w3 w2.heap.size pd pe pk (.slice a' zz.length c') by rw [hq3]; exact ⟨by simp [go_sem], by simp [go_sem], by simp [go_sem], by simp [go_sem]⟩)
          obtain ⟨i0, i1, i2, i3⟩ := HI3.out
          have hgi := World.block_lt_of_cell? w3 _ i0
          obtain ⟨r0, r1, r2, r3⟩ := HR.out.on (HO2.out.trans h3)
          have k0 := ((HO2.out.trans h3).frozen (p := ⟨w.heap.size + 1, 0, none⟩) (by exact hg)).trans (HF.out 0)
          have k1 := ((HO2.out.trans h3).frozen (p := ⟨w.heap.size + 1, 1, none⟩) (by exact hg)).trans (HF.out 1)
          have k2 := ((HO2.out.trans h3).frozen (p := ⟨w.heap.size + 1, 2, none⟩) (by exact hg)).trans (HF.out 2)
          have k3 := ((HO2.out.trans h3).frozen (p := ⟨w.heap.size + 1, 3, none⟩) (by exact hg)).trans (HF.out 3)
          clear hq3 h3
          go_wp2_with fail
          rw [EN.out]
          refine bodyPost_ret (v := .tuple #[.agg #[.int .i64 pd, .int .i64 pe, .int .i64 pk, .slice a' zz.length c'], .int .i64 0]) (by simp [results, Try.results28, go_sem, r0, r1, r2, r3]) rfl ⟨a', c', rfl, ?_, ?_⟩
          · refine Own.ints (B := w1.heap.size) (show Own _ _ (.slice a' zz.length c') zz from ?_)
            refine Own.setCell (Own.setCell (Own.setCell (Own.setCell ?_ (by (try simp) <;> omega) _) (by (try simp) <;> omega) _) (by (try simp) <;> omega) _) (by (try simp) <;> omega) _
            exact HW2.out.below H3.out
          · repeat (first | with_reducible exact (HO.out.trans HO2.out).trans H3.out | refine On.setCell ?_ (by (try simp) <;> omega) _)
end Go.Proofs.Ytmmhekakihimfaa.Nu
