
/-
  When a band is valid, in the program. Conditions: at most 1048576 bytes in the name; the program's variable of spans holds what its text lays.
-/
import Derived.Test.YtbmhhhhodlfcbaaDoorBnd
namespace Go.Proofs.YtbmhhhhodlfcbaaDoor.Bnd
open Go.RowKit
open Plain
open Ints (Ints)


theorem allows2_0 (y z : Int) (b : Nat) (w : World) {cap : Nat} (hc : w.cell? ⟨b, 0, none⟩ = some (.int .i64 y)) (hd : w.cell? ⟨b, 1, none⟩ = some (.int .i64 z)) (hg : Span.SpanG w) :
    Calls Tryd.prog 83 #[.int .i64 0, .slice (some ⟨b, 0, none⟩) 2 cap] w fun e w' => e = .returned (.bool (inB y 1 100000000 && inB z 1 100000000)) ∧ On w w' := by
  refine (Span.allows_0 _ [y, z] w (by simp) ⟨some ⟨b, 0, none⟩, cap, rfl, fun _ => ⟨b, 0, rfl, World.block_lt_of_cell? w _ hc, fun i hi => ?_⟩⟩ hg).mono ?_
  · rcases (show i = 0 ∨ i = 1 by simp at hi; omega) with rfl | rfl
    · exact hc
    · exact hd
  · rintro e w' ⟨rfl, ho⟩
    exact ⟨ret_bool (by simp), ho⟩
set_option maxRecDepth 100000 in
set_option maxHeartbeats 8000000 in
theorem impl_ok (x : ByteArray) (l h r d : Int) (w : World) (q0 : x.size ≤ 1048576) (hg : Span.SpanG w) :
    Calls Tryd.prog 47 #[.agg #[.string x, .int .i64 l, .int .i64 h, .int .i64 r, .int .i64 d]] w fun e w' => e = .returned (.bool (okB x l h r d)) ∧ On w w' := by
  have HG := Lib.hid hg
  have HN := Lib.hid (fun w => Text1.impl_isName x w q0)
  clear hg
  unfold okB
  generalize nameB x.data.toList = n at *
  cases n with
  | false =>
    have en := Lib.hid (show okN false l h r d = false from ok_0)
    go_enter Tryd.func47, Tryd.ntmps47
    go_wp2_with fail
    refine (HN.out _).mono ?_
    rintro e w1 ⟨rfl, rfl⟩
    go_wp2_with fail
    go_ret
    exact ⟨ret_bool en.out.symm, by repeat (first | with_reducible exact On.refl _ | apply On.alloc | apply On.drewN | apply On.drew | refine On.setCell ?_ (by (try simp) <;> omega) _)⟩
  | true =>
    cases t1 : inB l 1 100000000 with
    | false =>
      have tt : (inB l 1 100000000 && inB h 1 100000000) = false := by rw [t1]; rfl
      have en := Lib.hid (ok_1 (n := true) (h := h) (r := r) (d := d) t1)
      go_enter Tryd.func47, Tryd.ntmps47
      go_wp2_with fail
      refine (HN.out _).mono ?_
      rintro e w1 ⟨rfl, rfl⟩
      go_wp2_with fail
      refine (allows2_0 l h _ _ (by simp [go_sem]) (by simp [go_sem]) (HG.out.on (by repeat (first | with_reducible exact On.refl _ | apply On.alloc | apply On.drewN | apply On.drew | refine On.setCell ?_ (by (try simp) <;> omega) _)))).mono ?_
      rintro e w2 ⟨rfl, a2⟩
      obtain ⟨hc2, hf2⟩ := bcell a2
      have z2 : w.heap.size < w2.heap.size := by have := a2.size; simp at this; omega
      have hO2 : On w w2 := by repeat (first | with_reducible exact On.refl _ | apply On.alloc | apply On.drewN | apply On.drew | refine On.setCell ?_ (by (try simp) <;> omega) _ | refine On.trans ?_ a2)
      clear a2
      go_wp2_with fail
      go_ret
      exact ⟨ret_bool en.out.symm, by repeat (first | with_reducible exact On.refl _ | apply On.alloc | apply On.drewN | apply On.drew | refine On.setCell ?_ (by (try simp) <;> omega) _ | refine On.trans ?_ hO2)⟩
    | true =>
      cases t2 : inB h 1 100000000 with
      | false =>
        have tt : (inB l 1 100000000 && inB h 1 100000000) = false := by rw [t1, t2]; rfl
        have en := Lib.hid (ok_2 (n := true) (l := l) (r := r) (d := d) t2)
        go_enter Tryd.func47, Tryd.ntmps47
        go_wp2_with fail
        refine (HN.out _).mono ?_
        rintro e w1 ⟨rfl, rfl⟩
        go_wp2_with fail
        refine (allows2_0 l h _ _ (by simp [go_sem]) (by simp [go_sem]) (HG.out.on (by repeat (first | with_reducible exact On.refl _ | apply On.alloc | apply On.drewN | apply On.drew | refine On.setCell ?_ (by (try simp) <;> omega) _)))).mono ?_
        rintro e w2 ⟨rfl, a2⟩
        obtain ⟨hc2, hf2⟩ := bcell a2
        have z2 : w.heap.size < w2.heap.size := by have := a2.size; simp at this; omega
        have hO2 : On w w2 := by repeat (first | with_reducible exact On.refl _ | apply On.alloc | apply On.drewN | apply On.drew | refine On.setCell ?_ (by (try simp) <;> omega) _ | refine On.trans ?_ a2)
        clear a2
        go_wp2_with fail
        go_ret
        exact ⟨ret_bool en.out.symm, by repeat (first | with_reducible exact On.refl _ | apply On.alloc | apply On.drewN | apply On.drew | refine On.setCell ?_ (by (try simp) <;> omega) _ | refine On.trans ?_ hO2)⟩
      | true =>
        have tt : (inB l 1 100000000 && inB h 1 100000000) = true := by rw [t1, t2]; rfl
        cases t3 : inB r 1 100000 with
        | false =>
          have en := Lib.hid (ok_3 (n := true) (l := l) (h := h) (d := d) t3)
          go_enter Tryd.func47, Tryd.ntmps47
          go_wp2_with fail
          refine (HN.out _).mono ?_
          rintro e w1 ⟨rfl, rfl⟩
          go_wp2_with fail
          refine (allows2_0 l h _ _ (by simp [go_sem]) (by simp [go_sem]) (HG.out.on (by repeat (first | with_reducible exact On.refl _ | apply On.alloc | apply On.drewN | apply On.drew | refine On.setCell ?_ (by (try simp) <;> omega) _)))).mono ?_
          rintro e w2 ⟨rfl, a2⟩
          obtain ⟨hc2, hf2⟩ := bcell a2
          have z2 : w.heap.size < w2.heap.size := by have := a2.size; simp at this; omega
          have hO2 : On w w2 := by repeat (first | with_reducible exact On.refl _ | apply On.alloc | apply On.drewN | apply On.drew | refine On.setCell ?_ (by (try simp) <;> omega) _ | refine On.trans ?_ a2)
          clear a2
          go_wp2_with fail
          refine (Arith.within _ _ _ _).mono ?_
          rintro e w3 ⟨rfl, rfl⟩
          go_wp2_with fail
          go_ret
          exact ⟨ret_bool en.out.symm, by repeat (first | with_reducible exact On.refl _ | apply On.alloc | apply On.drewN | apply On.drew | refine On.setCell ?_ (by (try simp) <;> omega) _ | refine On.trans ?_ hO2)⟩
        | true =>
          obtain ⟨l1, l2⟩ := of_inB t1
          obtain ⟨h1, h2⟩ := of_inB t2
          obtain ⟨r1, r2⟩ := of_inB t3
          cases t4 : inB (quo l h r) 1 1000 with
          | false =>
            have en := Lib.hid (ok_4 (n := true) (d := d) t4)
            go_enter Tryd.func47, Tryd.ntmps47
            go_wp2_with fail
            refine (HN.out _).mono ?_
            rintro e w1 ⟨rfl, rfl⟩
            go_wp2_with fail
            refine (allows2_0 l h _ _ (by simp [go_sem]) (by simp [go_sem]) (HG.out.on (by repeat (first | with_reducible exact On.refl _ | apply On.alloc | apply On.drewN | apply On.drew | refine On.setCell ?_ (by (try simp) <;> omega) _)))).mono ?_
            rintro e w2 ⟨rfl, a2⟩
            obtain ⟨hc2, hf2⟩ := bcell a2
            have z2 : w.heap.size < w2.heap.size := by have := a2.size; simp at this; omega
            have hO2 : On w w2 := by repeat (first | with_reducible exact On.refl _ | apply On.alloc | apply On.drewN | apply On.drew | refine On.setCell ?_ (by (try simp) <;> omega) _ | refine On.trans ?_ a2)
            clear a2
            go_wp2_with fail
            refine (Arith.within _ _ _ _).mono ?_
            rintro e w3 ⟨rfl, rfl⟩
            go_wp2_with fail
            refine (impl_count x l h r d _ l1 l2 h1 h2 r1).mono ?_
            rintro e w4 ⟨rfl, a4⟩
            obtain ⟨hc4, hf4⟩ := bcell a4
            have z4 : w.heap.size < w4.heap.size := Nat.lt_of_lt_of_le z2 a4.size
            have hO4 : On w w4 := by repeat (first | with_reducible exact On.refl _ | apply On.alloc | apply On.drewN | apply On.drew | refine On.setCell ?_ (by (try simp) <;> omega) _ | refine On.trans ?_ a4 | refine On.trans ?_ hO2)
            clear a4
            go_wp2_with fail
            refine (Arith.within _ _ _ _).mono ?_
            rintro e w5 ⟨rfl, rfl⟩
            go_wp2_with fail
            go_ret
            exact ⟨ret_bool en.out.symm, by repeat (first | with_reducible exact On.refl _ | apply On.alloc | apply On.drewN | apply On.drew | refine On.setCell ?_ (by (try simp) <;> omega) _ | refine On.trans ?_ hO4)⟩
          | true =>
            by_cases hd : d = 0
            · have hd' : (d == 0) = true := beq_iff_eq.2 hd
              have en0 := Lib.hid (show okN true l h r d = true by rw [hd]; exact ok_zero t1 t2 t3 t4)
              clear hd
              have en := Lib.hid (en0.out)
              go_enter Tryd.func47, Tryd.ntmps47
              go_wp2_with fail
              refine (HN.out _).mono ?_
              rintro e w1 ⟨rfl, rfl⟩
              go_wp2_with fail
              refine (allows2_0 l h _ _ (by simp [go_sem]) (by simp [go_sem]) (HG.out.on (by repeat (first | with_reducible exact On.refl _ | apply On.alloc | apply On.drewN | apply On.drew | refine On.setCell ?_ (by (try simp) <;> omega) _)))).mono ?_
              rintro e w2 ⟨rfl, a2⟩
              obtain ⟨hc2, hf2⟩ := bcell a2
              have z2 : w.heap.size < w2.heap.size := by have := a2.size; simp at this; omega
              have hO2 : On w w2 := by repeat (first | with_reducible exact On.refl _ | apply On.alloc | apply On.drewN | apply On.drew | refine On.setCell ?_ (by (try simp) <;> omega) _ | refine On.trans ?_ a2)
              clear a2
              go_wp2_with fail
              refine (Arith.within _ _ _ _).mono ?_
              rintro e w3 ⟨rfl, rfl⟩
              go_wp2_with fail
              refine (impl_count x l h r d _ l1 l2 h1 h2 r1).mono ?_
              rintro e w4 ⟨rfl, a4⟩
              obtain ⟨hc4, hf4⟩ := bcell a4
              have z4 : w.heap.size < w4.heap.size := Nat.lt_of_lt_of_le z2 a4.size
              have hO4 : On w w4 := by repeat (first | with_reducible exact On.refl _ | apply On.alloc | apply On.drewN | apply On.drew | refine On.setCell ?_ (by (try simp) <;> omega) _ | refine On.trans ?_ a4 | refine On.trans ?_ hO2)
              clear a4
              go_wp2_with fail
              refine (Arith.within _ _ _ _).mono ?_
              rintro e w5 ⟨rfl, rfl⟩
              go_wp2_with fail
              go_ret
              exact ⟨ret_bool en.out.symm, by repeat (first | with_reducible exact On.refl _ | apply On.alloc | apply On.drewN | apply On.drew | refine On.setCell ?_ (by (try simp) <;> omega) _ | refine On.trans ?_ hO4)⟩
            · have hd' : (d == 0) = false := beq_eq_false_iff_ne.2 hd
              by_cases e0 : h - l ≤ d ∧ d ≤ 100000000 - h
              · have ib := Lib.hid (inB_yes e0.1 e0.2)
                obtain ⟨e1, e2⟩ := e0
                have en := Lib.hid (show okN true l h r d = true by rw [ok_main t1 t2 t3 t4 hd, decide_eq_true e1, decide_eq_true (show h + d ≤ 100000000 by omega)]; rfl)
                go_enter Tryd.func47, Tryd.ntmps47
                go_wp2_with fail
                refine (HN.out _).mono ?_
                rintro e w1 ⟨rfl, rfl⟩
                go_wp2_with fail
                refine (allows2_0 l h _ _ (by simp [go_sem]) (by simp [go_sem]) (HG.out.on (by repeat (first | with_reducible exact On.refl _ | apply On.alloc | apply On.drewN | apply On.drew | refine On.setCell ?_ (by (try simp) <;> omega) _)))).mono ?_
                rintro e w2 ⟨rfl, a2⟩
                obtain ⟨hc2, hf2⟩ := bcell a2
                have z2 : w.heap.size < w2.heap.size := by have := a2.size; simp at this; omega
                have hO2 : On w w2 := by repeat (first | with_reducible exact On.refl _ | apply On.alloc | apply On.drewN | apply On.drew | refine On.setCell ?_ (by (try simp) <;> omega) _ | refine On.trans ?_ a2)
                clear a2
                go_wp2_with fail
                refine (Arith.within _ _ _ _).mono ?_
                rintro e w3 ⟨rfl, rfl⟩
                go_wp2_with fail
                refine (impl_count x l h r d _ l1 l2 h1 h2 r1).mono ?_
                rintro e w4 ⟨rfl, a4⟩
                obtain ⟨hc4, hf4⟩ := bcell a4
                have z4 : w.heap.size < w4.heap.size := Nat.lt_of_lt_of_le z2 a4.size
                have hO4 : On w w4 := by repeat (first | with_reducible exact On.refl _ | apply On.alloc | apply On.drewN | apply On.drew | refine On.setCell ?_ (by (try simp) <;> omega) _ | refine On.trans ?_ a4 | refine On.trans ?_ hO2)
                clear a4
                go_wp2_with fail
                refine (Arith.within _ _ _ _).mono ?_
                rintro e w5 ⟨rfl, rfl⟩
                go_wp2_with fail
                refine (Arith.within _ _ _ _).mono ?_
                rintro e w6 ⟨rfl, rfl⟩
                try rw [ib.out]
                go_wp2_with fail
                go_ret
                exact ⟨ret_bool en.out.symm, by repeat (first | with_reducible exact On.refl _ | apply On.alloc | apply On.drewN | apply On.drew | refine On.setCell ?_ (by (try simp) <;> omega) _ | refine On.trans ?_ hO4)⟩
              · have ib := Lib.hid (show inB d (h - l) (100000000 - h) = false from inB_no (by omega))
                have en0 : okN true l h r d = false := by
                  rw [ok_main t1 t2 t3 t4 hd]
                  by_cases e1 : h - l ≤ d
                  · rw [decide_eq_true e1, decide_eq_false (show ¬ h + d ≤ 100000000 by omega)]; rfl
                  · rw [decide_eq_false e1]; rfl
                clear e0
                have en := Lib.hid (en0)
                go_enter Tryd.func47, Tryd.ntmps47
                go_wp2_with fail
                refine (HN.out _).mono ?_
                rintro e w1 ⟨rfl, rfl⟩
                go_wp2_with fail
                refine (allows2_0 l h _ _ (by simp [go_sem]) (by simp [go_sem]) (HG.out.on (by repeat (first | with_reducible exact On.refl _ | apply On.alloc | apply On.drewN | apply On.drew | refine On.setCell ?_ (by (try simp) <;> omega) _)))).mono ?_
                rintro e w2 ⟨rfl, a2⟩
                obtain ⟨hc2, hf2⟩ := bcell a2
                have z2 : w.heap.size < w2.heap.size := by have := a2.size; simp at this; omega
                have hO2 : On w w2 := by repeat (first | with_reducible exact On.refl _ | apply On.alloc | apply On.drewN | apply On.drew | refine On.setCell ?_ (by (try simp) <;> omega) _ | refine On.trans ?_ a2)
                clear a2
                go_wp2_with fail
                refine (Arith.within _ _ _ _).mono ?_
                rintro e w3 ⟨rfl, rfl⟩
                go_wp2_with fail
                refine (impl_count x l h r d _ l1 l2 h1 h2 r1).mono ?_
                rintro e w4 ⟨rfl, a4⟩
                obtain ⟨hc4, hf4⟩ := bcell a4
                have z4 : w.heap.size < w4.heap.size := Nat.lt_of_lt_of_le z2 a4.size
                have hO4 : On w w4 := by repeat (first | with_reducible exact On.refl _ | apply On.alloc | apply On.drewN | apply On.drew | refine On.setCell ?_ (by (try simp) <;> omega) _ | refine On.trans ?_ a4 | refine On.trans ?_ hO2)
                clear a4
                go_wp2_with fail
                refine (Arith.within _ _ _ _).mono ?_
                rintro e w5 ⟨rfl, rfl⟩
                go_wp2_with fail
                refine (Arith.within _ _ _ _).mono ?_
                rintro e w6 ⟨rfl, rfl⟩
                try rw [ib.out]
                go_wp2_with fail
                go_ret
                exact ⟨ret_bool en.out.symm, by repeat (first | with_reducible exact On.refl _ | apply On.alloc | apply On.drewN | apply On.drew | refine On.setCell ?_ (by (try simp) <;> omega) _ | refine On.trans ?_ hO4)⟩
end Go.Proofs.YtbmhhhhodlfcbaaDoor.Bnd
