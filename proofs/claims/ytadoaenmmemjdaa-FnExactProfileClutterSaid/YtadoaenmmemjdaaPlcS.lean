
/-
  The places of a profile, in the model. Condition: valid points, 2 to 65 places.
-/
import Derived.Test.YtadoaenmmemjdaaPlc0
import Derived.Test.YtadoaenmmemjdaaPts
import Derived.Test.YtadoaenmmemjdaaTail
import Derived.Test.YtadoaenmmemjdaaArith
import Derived.Deep.RegionHeld3
import Derived.Deep.AppendLies
namespace Go.Proofs.Ytadoaenmmemjdaa.Plc
open Go.RowKit
open Plain
open Pts (OwnP Pairs flat flat_even flat_odd infoP)

theorem held_four {W w' : World} {G b c : Nat} {x0 x1 x2 x3 : Value} (h : W.cell? ⟨b, 0, none⟩ = some x0 ∧ W.cell? ⟨b, 1, none⟩ = some x1 ∧ W.cell? ⟨c, 0, none⟩ = some x2 ∧ W.cell? ⟨c, 1, none⟩ = some x3) (hb : b < G) (hc : c < G) (hk : Below G W w') : Below G W w' ∧ w'.cell? ⟨b, 0, none⟩ = some x0 ∧ w'.cell? ⟨b, 1, none⟩ = some x1 ∧ w'.cell? ⟨c, 0, none⟩ = some x2 ∧ w'.cell? ⟨c, 1, none⟩ = some x3 :=
  ⟨hk, (hk.cell (by exact hb)).trans h.1, (hk.cell (by exact hb)).trans h.2.1, (hk.cell (by exact hc)).trans h.2.2.1, (hk.cell (by exact hc)).trans h.2.2.2⟩
def cellP (p : Int × Int) : List Value := [.int .i64 p.1, .int .i64 p.2]
/-- The cells of the first k places. -/
def cellsP (F : Nat → Int × Int) : Nat → List Value
  | 0 => []
  | k + 1 => cellsP F k ++ cellP (F k)
theorem cellsP_len (F : Nat → Int × Int) : ∀ k, (cellsP F k).length = k * 2
  | 0 => rfl
  | k + 1 => by unfold cellsP; rw [List.length_append, cellsP_len F k]; simp [cellP]; omega
theorem cellsP_at (F : Nat → Int × Int) : ∀ {n k : Nat}, k < n → (cellsP F n)[k * 2]? = some (.int .i64 (F k).1) ∧ (cellsP F n)[k * 2 + 1]? = some (.int .i64 (F k).2)
  | n + 1, k, h => by
    have hl := cellsP_len F n
    unfold cellsP
    by_cases g : k = n
    · subst g
      rw [List.getElem?_append_right (by omega), List.getElem?_append_right (by omega), hl, show k * 2 - k * 2 = 0 by omega, show k * 2 + 1 - k * 2 = 1 by omega]
      exact ⟨rfl, rfl⟩
    · rw [List.getElem?_append_left (by omega), List.getElem?_append_left (by omega)]
      exact cellsP_at F (by omega)
theorem pairs_row {w : World} {B e n : Nat} {v : Value} {F : Nat → Int × Int} (h : w.ownsRow B e 2 v n (cellsP F n)) (zs : List (Int × Int)) (hl : zs.length = n) (hz : ∀ k, k < n → zs.getD k (0, 0) = F k) : Pairs w v zs := by
  subst hl
  have hlt := h.lt
  have hc := fun g (hg : v.ownBlock = some g) => h.cells hg
  obtain ⟨_, ⟨rfl, h2⟩ | ⟨g, cap, cur, rfl, hB, _⟩⟩ := h
  · exact ⟨none, 0, by rw [h2], fun h0 => by omega⟩
  · refine ⟨_, cap, rfl, fun _ => ⟨g, 0, rfl, (hlt g rfl).2, fun j hj => ?_⟩⟩
    obtain ⟨c1, c2⟩ := cellsP_at F (n := zs.length) (k := j / 2) (by omega)
    have hz' := hz (j / 2) (by omega)
    have e : ∀ j : Nat, (⟨g, 0, none⟩ : Addr).add j = ⟨g, 0 + j, none⟩ := fun j => by cases j <;> simp [Addr.add]
    unfold flat
    rw [hz']
    by_cases hm : j % 2 = 0
    · rw [if_pos hm]
      have := hc g rfl _ _ c1
      rw [e, show j / 2 * 2 = j by omega] at this
      exact this
    · rw [if_neg hm]
      have := hc g rfl _ _ c2
      rw [e, show j / 2 * 2 + 1 = j by omega] at this
      exact this
theorem lit0 {G : Nat} (W : World) (q : Nat) (hq : q = W.heap.size) (hG : G ≤ W.heap.size) : (W.alloc (.cells #[] 27)).ownsRow G 27 2 (.slice (some ⟨q, 0, none⟩) 0 0) 0 [] := by
  subst hq
  exact World.ownsRow_lit W #[] 0 hG (by unfold maxLen; omega) rfl
theorem own_on {w w' : World} {B e s n : Nat} {v : Value} {xs : List Value} (h : w.ownsRow B e s v n xs) (ho : On w w') : w'.ownsRow B e s v n xs := by
  refine ⟨h.1, ?_⟩
  rcases h.2 with h | ⟨g, cap, cur, rfl, hb, hg, hr⟩
  · exact .inl h
  · refine .inr ⟨g, cap, cur, rfl, hb, (ho.block g ?_).trans hg, hr⟩
    rcases Nat.lt_or_ge g w.heap.size with h' | h'
    · exact h'
    · simp [Array.getElem?_eq_none h'] at hg
set_option maxRecDepth 100000 in
set_option maxHeartbeats 8000000 in
theorem spec_places (ax ay bx bv : Int) (n : Nat) (w : World) (a0 : 0 ≤ ax ∧ ax ≤ 200000) (a1 : 0 ≤ ay ∧ ay ≤ 200000) (b0 : 0 ≤ bx ∧ bx ≤ 200000) (b1 : 0 ≤ bv ∧ bv ≤ 200000) (hn : 2 ≤ n) (hn2 : n ≤ 65) :
    Calls Try.prog 25 #[.agg #[.int .i64 ax, .int .i64 ay], .agg #[.int .i64 bx, .int .i64 bv], .int .i64 n] w fun e w' => ∃ v, e = .returned v ∧ Pairs w' v (plcs ax ay bx bv n) ∧ On w w' := by
  obtain ⟨i0, hi, hz0, hz1, hz2⟩ := info_parts infoP
  by_cases h1 : ax < bx
  · have hbf := bef_lt (ay := ay) (bv := bv) h1
    have g1 : ¬ bx < ax := by omega
    have g2 : (ax == bx) = false := beq_eq_false_iff_ne.2 (by omega)
    go_enter Try.func25, Try.ntmps25
    go_wp2_with fail
    obtain ⟨WB, hWB⟩ : ∃ WB, WB = (w.alloc (.cells #[.int .i64 ax, .int .i64 ay] 27)).alloc (.cells #[.int .i64 bx, .int .i64 bv] 27) := ⟨_, rfl⟩
    obtain ⟨G, hG⟩ : ∃ G, G = w.heap.size + 2 := ⟨_, rfl⟩
    have Q := Lib.hid (show WB.cell? ⟨w.heap.size, 0, none⟩ = some (.int .i64 ax) ∧ WB.cell? ⟨w.heap.size, 1, none⟩ = some (.int .i64 ay) ∧ WB.cell? ⟨w.heap.size + 1, 0, none⟩ = some (.int .i64 bx) ∧ WB.cell? ⟨w.heap.size + 1, 1, none⟩ = some (.int .i64 bv) by rw [hWB]; refine ⟨?_, ?_, ?_, ?_⟩ <;> simp [go_sem])
    have HOW := Lib.hid (show On w WB by rw [hWB]; exact On.alloc (On.alloc (On.refl _) _) _)
    have HWS := Lib.hid (show w.heap.size + 1 + 1 = WB.heap.size by rw [hWB]; simp)
    have HGB := Lib.hid (show G ≤ WB.heap.size by rw [hWB, hG]; simp)
    have hGa : w.heap.size < G := by omega
    have hGb : w.heap.size + 1 < G := by omega
    rw [← hWB]
    have HGW := Lib.hid hG
    clear hWB hG
    go_loopw [9, 10] (fun v i wr => ∃ k : Nat, k ≤ n ∧ i = .int .i64 k ∧ wr.ownsRow G 27 2 v k (cellsP (plc ax ay bx bv n) k) ∧ Below G WB wr) (fun _ i _ => n - (intOf i).toNat)
    case atStart => exact ⟨0, Nat.zero_le _, rfl, lit0 WB _ HWS.out HGB.out, (Below.refl _ _).alloc HGB.out _⟩
    case round =>
      obtain ⟨k, hk, rfl, hown, hb⟩ := hrel
      have HO := Lib.hid hown
      have HB := Lib.hid hb
      have hszr := hb.size
      have c0 := (hb.cell (p := ⟨w.heap.size, 0, none⟩) hGa).trans Q.out.1
      have c1 := (hb.cell (p := ⟨w.heap.size, 1, none⟩) hGa).trans Q.out.2.1
      have c2 := (hb.cell (p := ⟨w.heap.size + 1, 0, none⟩) hGb).trans Q.out.2.2.1
      have c3 := (hb.cell (p := ⟨w.heap.size + 1, 1, none⟩) hGb).trans Q.out.2.2.2
      have hGr : G ≤ wr.heap.size := Nat.le_trans HGB.out hszr
      clear hown hb
      by_cases hlt : k < n
      · have hlti : (k : Int) < (n : Int) := by omega
        obtain ⟨t, ht⟩ : ∃ t : Nat, t = k := ⟨_, rfl⟩
        have ht2 := ht.symm
        have htn : t < n := by omega
        have hti : True := trivial
        have m1 := mid_bd (x := ax) (u := bx) (lo := 0) (hi := 200000) (k := t) hn htn a0.1 a0.2 b0.1 b0.2
        have m2 := mid_bd (x := ay) (u := bv) (lo := 0) (hi := 200000) (k := t) hn htn a1.1 a1.2 b1.1 b1.2
        have hp : plc ax ay bx bv n k = (ax + near ((t : Int) * (bx - ax)) ((n : Int) - 1), ay + near ((t : Int) * (bv - ay)) ((n : Int) - 1)) := by unfold plc pt mid; rw [hbf, ← ht, Int.mul_comm ((t : Nat) : Int), Int.mul_comm ((t : Nat) : Int)]; rfl
        unfold mid at m1 m2
        rw [Int.mul_comm _ ((t : Nat) : Int)] at m1 m2
        have p1 := prod_in (d := bx - ax) (k := (t : Int)) (by omega) (by omega) (by omega) (by omega)
        have p2 := prod_in (d := bv - ay) (k := (t : Int)) (by omega) (by omega) (by omega) (by omega)
        rw [Int.mul_comm _ ((t : Nat) : Int)] at p1 p2
        have HD1 := Lib.hid (fun w => Arith.l01Div ((t : Int) * (bx - ax)) ((n : Int) - 1) w (by omega) (by omega) (by omega) (by omega) (by omega))
        have HD2 := Lib.hid (fun w => Arith.l01Div ((t : Int) * (bv - ay)) ((n : Int) - 1) w (by omega) (by omega) (by omega) (by omega) (by omega))
        have HP := Lib.hid (show cellsP (plc ax ay bx bv n) (k + 1) = cellsP (plc ax ay bx bv n) k ++ [.int .i64 (ax + near ((t : Int) * (bx - ax)) ((n : Int) - 1)), .int .i64 (ay + near ((t : Int) * (bv - ay)) ((n : Int) - 1))] by show _ ++ cellP _ = _; rw [hp]; rfl)
        generalize near ((t : Int) * (bx - ax)) ((n : Int) - 1) = R1 at *
        generalize near ((t : Int) * (bv - ay)) ((n : Int) - 1) = R2 at *
        have w1 : IntKind.i64.wrap ((t : Int) * (bx - ax)) = (t : Int) * (bx - ax) := IntWalk.i64_in _ (by omega)
        have w2 : IntKind.i64.wrap ((t : Int) * (bv - ay)) = (t : Int) * (bv - ay) := IntWalk.i64_in _ (by omega)
        have w3 : IntKind.i64.wrap ((n : Int) - 1) = (n : Int) - 1 := IntWalk.i64_in _ (by omega)
        have w4 : IntKind.i64.wrap (ax + R1) = ax + R1 := IntWalk.i64_in _ (by omega)
        have w5 : IntKind.i64.wrap (ay + R2) = ay + R2 := IntWalk.i64_in _ (by omega)
        have w6 : IntKind.i64.wrap ((n : Int) - 1 - (k : Int)) = (n : Int) - 1 - (k : Int) := IntWalk.i64_in _ (by omega)
        have w7 : IntKind.i64.wrap (bx - ax) = bx - ax := IntWalk.i64_in _ (by omega)
        have w8 : IntKind.i64.wrap (bv - ay) = bv - ay := IntWalk.i64_in _ (by omega)
        have z0 := World.block_lt_of_cell? wr _ c0
        have z1 := World.block_lt_of_cell? wr _ c2
        have wk : IntKind.i64.wrap (k : Int) = (k : Int) := IntWalk.i64_in _ (by omega)
        have HTI := Lib.hid hti
        clear hp p1 p2 m1 m2 ht hti
        subst ht2
        go_wp2_with fail
        have hm63 : k + 1 ≤ maxLen := by unfold maxLen; omega
        have hm64 : (k + 1) * 16 ≤ 140737488355328 := by omega
        go_region_held3 (fun w' => Below G WB w' ∧ w'.cell? ⟨w.heap.size, 0, none⟩ = some (.int .i64 ax) ∧ w'.cell? ⟨w.heap.size, 1, none⟩ = some (.int .i64 ay) ∧ w'.cell? ⟨w.heap.size + 1, 0, none⟩ = some (.int .i64 bx) ∧ w'.cell? ⟨w.heap.size + 1, 1, none⟩ = some (.int .i64 bv))
          ((refine held_four Q.out hGa hGb ?_; first | exact Below.drew HB.out | exact HB.out | (obtain ⟨hOW, _⟩ := ‹Below G WB _ ∧ _›; first | exact hOW | (refine Below.alloc hOW ?_ _; first | exact hGr | omega | (simp; omega)) | (refine Below.grown hOW hgrow ?_ (fun q hq => (HO.out.lt q hq).1); first | exact hGr | omega | (simp; omega)))))
          (first
            | (go_at_call 41; (first | with_reducible refine (HD1.out _).mono ?_ | with_reducible refine (HD2.out _).mono ?_); rintro e w' ⟨rfl, rfl⟩)
            | ((refine step_append_lies _ (by rfl) _ _ _ (by rfl) G 27 i0 _ 2 16 Try.underlying24 hi hz0 hz1 hz2 rfl (by decide) _ k (cellsP (plc ax ay bx bv n) k) (by rfl) (by first | exact (HO.out.alloc _).drew | exact HO.out.drew.alloc _ | exact HO.out.alloc _) ⟨wr.heap.size, 0, none⟩ 1 1 [.int .i64 (ax + R1), .int .i64 (ay + R2)] (by rfl) (by rfl) (World.news_of_block (cs := #[.int .i64 (ax + R1), .int .i64 (ay + R2)]) (t := 27) (fr := (0, 0)) (heap_alloc_new wr _)) (by simp [Value.oneCell']) Nat.one_pos hm63 hm64 ?_ (wr.heap.size + 1) ?_ ?_; (focus (simp; omega)); (focus simp); intro gg cp w9 hown9 hgrow hat hlt9)))
        all_goals
          obtain ⟨hB9, _⟩ := ‹Below G WB _ ∧ _›
          have HB9 := Lib.hid hB9
          rw [← HP.out] at hown9
          have HO9 := Lib.hid hown9
          clear hown9 hgrow hat hB9
          go_wp2
          go_roundw
          case rel => first | exact ⟨k + 1, by omega, by go_num, HO9.out, HB9.out⟩ | ((repeat apply Exists.intro); exact ⟨⟨k + 1, by omega, by go_num, HO9.out, HB9.out⟩, rfl⟩)
          case measure => simp [intOf]; omega
      · obtain rfl : k = n := by omega
        have hpr := pairs_row HO.out (plcs ax ay bx bv k) (plcs_len ..) (fun q hq => plcs_at ax ay bx bv hq)
        have HPR := Lib.hid hpr
        clear hpr
        go_wp2_with fail
        go_ret
        exact ⟨_, rfl, HPR.out, Below.trans HOW.out (Below.mono HB.out (by omega))⟩
  · by_cases h2 : ax = bx
    · by_cases h3 : ay ≤ bv
      · have hbf := bef_le h2 h3
        have g1 : ¬ bx < ax := by omega
        have g2 : (ax == bx) = true := beq_iff_eq.2 h2
        have g3 : ¬ bv < ay := by omega
        have H2 := Lib.hid h2
        clear h2
        go_enter Try.func25, Try.ntmps25
        go_wp2_with fail
        obtain ⟨WB, hWB⟩ : ∃ WB, WB = (w.alloc (.cells #[.int .i64 ax, .int .i64 ay] 27)).alloc (.cells #[.int .i64 bx, .int .i64 bv] 27) := ⟨_, rfl⟩
        obtain ⟨G, hG⟩ : ∃ G, G = w.heap.size + 2 := ⟨_, rfl⟩
        have Q := Lib.hid (show WB.cell? ⟨w.heap.size, 0, none⟩ = some (.int .i64 ax) ∧ WB.cell? ⟨w.heap.size, 1, none⟩ = some (.int .i64 ay) ∧ WB.cell? ⟨w.heap.size + 1, 0, none⟩ = some (.int .i64 bx) ∧ WB.cell? ⟨w.heap.size + 1, 1, none⟩ = some (.int .i64 bv) by rw [hWB]; refine ⟨?_, ?_, ?_, ?_⟩ <;> simp [go_sem])
        have HOW := Lib.hid (show On w WB by rw [hWB]; exact On.alloc (On.alloc (On.refl _) _) _)
        have HWS := Lib.hid (show w.heap.size + 1 + 1 = WB.heap.size by rw [hWB]; simp)
        have HGB := Lib.hid (show G ≤ WB.heap.size by rw [hWB, hG]; simp)
        have hGa : w.heap.size < G := by omega
        have hGb : w.heap.size + 1 < G := by omega
        rw [← hWB]
        have HGW := Lib.hid hG
        clear hWB hG
        go_loopw [9, 10] (fun v i wr => ∃ k : Nat, k ≤ n ∧ i = .int .i64 k ∧ wr.ownsRow G 27 2 v k (cellsP (plc ax ay bx bv n) k) ∧ Below G WB wr) (fun _ i _ => n - (intOf i).toNat)
        case atStart => exact ⟨0, Nat.zero_le _, rfl, lit0 WB _ HWS.out HGB.out, (Below.refl _ _).alloc HGB.out _⟩
        case round =>
          obtain ⟨k, hk, rfl, hown, hb⟩ := hrel
          have HO := Lib.hid hown
          have HB := Lib.hid hb
          have hszr := hb.size
          have c0 := (hb.cell (p := ⟨w.heap.size, 0, none⟩) hGa).trans Q.out.1
          have c1 := (hb.cell (p := ⟨w.heap.size, 1, none⟩) hGa).trans Q.out.2.1
          have c2 := (hb.cell (p := ⟨w.heap.size + 1, 0, none⟩) hGb).trans Q.out.2.2.1
          have c3 := (hb.cell (p := ⟨w.heap.size + 1, 1, none⟩) hGb).trans Q.out.2.2.2
          have hGr : G ≤ wr.heap.size := Nat.le_trans HGB.out hszr
          clear hown hb
          by_cases hlt : k < n
          · have hlti : (k : Int) < (n : Int) := by omega
            obtain ⟨t, ht⟩ : ∃ t : Nat, t = k := ⟨_, rfl⟩
            have ht2 := ht.symm
            have htn : t < n := by omega
            have hti : True := trivial
            have m1 := mid_bd (x := ax) (u := bx) (lo := 0) (hi := 200000) (k := t) hn htn a0.1 a0.2 b0.1 b0.2
            have m2 := mid_bd (x := ay) (u := bv) (lo := 0) (hi := 200000) (k := t) hn htn a1.1 a1.2 b1.1 b1.2
            have hp : plc ax ay bx bv n k = (ax + near ((t : Int) * (bx - ax)) ((n : Int) - 1), ay + near ((t : Int) * (bv - ay)) ((n : Int) - 1)) := by unfold plc pt mid; rw [hbf, ← ht, Int.mul_comm ((t : Nat) : Int), Int.mul_comm ((t : Nat) : Int)]; rfl
            unfold mid at m1 m2
            rw [Int.mul_comm _ ((t : Nat) : Int)] at m1 m2
            have p1 := prod_in (d := bx - ax) (k := (t : Int)) (by omega) (by omega) (by omega) (by omega)
            have p2 := prod_in (d := bv - ay) (k := (t : Int)) (by omega) (by omega) (by omega) (by omega)
            rw [Int.mul_comm _ ((t : Nat) : Int)] at p1 p2
            have HD1 := Lib.hid (fun w => Arith.l01Div ((t : Int) * (bx - ax)) ((n : Int) - 1) w (by omega) (by omega) (by omega) (by omega) (by omega))
            have HD2 := Lib.hid (fun w => Arith.l01Div ((t : Int) * (bv - ay)) ((n : Int) - 1) w (by omega) (by omega) (by omega) (by omega) (by omega))
            have HP := Lib.hid (show cellsP (plc ax ay bx bv n) (k + 1) = cellsP (plc ax ay bx bv n) k ++ [.int .i64 (ax + near ((t : Int) * (bx - ax)) ((n : Int) - 1)), .int .i64 (ay + near ((t : Int) * (bv - ay)) ((n : Int) - 1))] by show _ ++ cellP _ = _; rw [hp]; rfl)
            generalize near ((t : Int) * (bx - ax)) ((n : Int) - 1) = R1 at *
            generalize near ((t : Int) * (bv - ay)) ((n : Int) - 1) = R2 at *
            have w1 : IntKind.i64.wrap ((t : Int) * (bx - ax)) = (t : Int) * (bx - ax) := IntWalk.i64_in _ (by omega)
            have w2 : IntKind.i64.wrap ((t : Int) * (bv - ay)) = (t : Int) * (bv - ay) := IntWalk.i64_in _ (by omega)
            have w3 : IntKind.i64.wrap ((n : Int) - 1) = (n : Int) - 1 := IntWalk.i64_in _ (by omega)
            have w4 : IntKind.i64.wrap (ax + R1) = ax + R1 := IntWalk.i64_in _ (by omega)
            have w5 : IntKind.i64.wrap (ay + R2) = ay + R2 := IntWalk.i64_in _ (by omega)
            have w6 : IntKind.i64.wrap ((n : Int) - 1 - (k : Int)) = (n : Int) - 1 - (k : Int) := IntWalk.i64_in _ (by omega)
            have w7 : IntKind.i64.wrap (bx - ax) = bx - ax := IntWalk.i64_in _ (by omega)
            have w8 : IntKind.i64.wrap (bv - ay) = bv - ay := IntWalk.i64_in _ (by omega)
            have z0 := World.block_lt_of_cell? wr _ c0
            have z1 := World.block_lt_of_cell? wr _ c2
            have wk : IntKind.i64.wrap (k : Int) = (k : Int) := IntWalk.i64_in _ (by omega)
            have HTI := Lib.hid hti
            clear hp p1 p2 m1 m2 ht hti
            subst ht2
            go_wp2_with fail
            have hm63 : k + 1 ≤ maxLen := by unfold maxLen; omega
            have hm64 : (k + 1) * 16 ≤ 140737488355328 := by omega
            go_region_held3 (fun w' => Below G WB w' ∧ w'.cell? ⟨w.heap.size, 0, none⟩ = some (.int .i64 ax) ∧ w'.cell? ⟨w.heap.size, 1, none⟩ = some (.int .i64 ay) ∧ w'.cell? ⟨w.heap.size + 1, 0, none⟩ = some (.int .i64 bx) ∧ w'.cell? ⟨w.heap.size + 1, 1, none⟩ = some (.int .i64 bv))
              ((refine held_four Q.out hGa hGb ?_; first | exact Below.drew HB.out | exact HB.out | (obtain ⟨hOW, _⟩ := ‹Below G WB _ ∧ _›; first | exact hOW | (refine Below.alloc hOW ?_ _; first | exact hGr | omega | (simp; omega)) | (refine Below.grown hOW hgrow ?_ (fun q hq => (HO.out.lt q hq).1); first | exact hGr | omega | (simp; omega)))))
              (first
                | (go_at_call 41; (first | with_reducible refine (HD1.out _).mono ?_ | with_reducible refine (HD2.out _).mono ?_); rintro e w' ⟨rfl, rfl⟩)
                | ((refine step_append_lies _ (by rfl) _ _ _ (by rfl) G 27 i0 _ 2 16 Try.underlying24 hi hz0 hz1 hz2 rfl (by decide) _ k (cellsP (plc ax ay bx bv n) k) (by rfl) (by first | exact (HO.out.alloc _).drew | exact HO.out.drew.alloc _ | exact HO.out.alloc _) ⟨wr.heap.size, 0, none⟩ 1 1 [.int .i64 (ax + R1), .int .i64 (ay + R2)] (by rfl) (by rfl) (World.news_of_block (cs := #[.int .i64 (ax + R1), .int .i64 (ay + R2)]) (t := 27) (fr := (0, 0)) (heap_alloc_new wr _)) (by simp [Value.oneCell']) Nat.one_pos hm63 hm64 ?_ (wr.heap.size + 1) ?_ ?_; (focus (simp; omega)); (focus simp); intro gg cp w9 hown9 hgrow hat hlt9)))
            all_goals
              obtain ⟨hB9, _⟩ := ‹Below G WB _ ∧ _›
              have HB9 := Lib.hid hB9
              rw [← HP.out] at hown9
              have HO9 := Lib.hid hown9
              clear hown9 hgrow hat hB9
              go_wp2
              go_roundw
              case rel => first | exact ⟨k + 1, by omega, by go_num, HO9.out, HB9.out⟩ | ((repeat apply Exists.intro); exact ⟨⟨k + 1, by omega, by go_num, HO9.out, HB9.out⟩, rfl⟩)
              case measure => simp [intOf]; omega
          · obtain rfl : k = n := by omega
            have hpr := pairs_row HO.out (plcs ax ay bx bv k) (plcs_len ..) (fun q hq => plcs_at ax ay bx bv hq)
            have HPR := Lib.hid hpr
            clear hpr
            go_wp2_with fail
            go_ret
            exact ⟨_, rfl, HPR.out, Below.trans HOW.out (Below.mono HB.out (by omega))⟩
      · have hbf := bef_ge h2 (show bv < ay by omega)
        have g1 : ¬ bx < ax := by omega
        have g2 : (ax == bx) = true := beq_iff_eq.2 h2
        have g3 : bv < ay := by omega
        have H2 := Lib.hid h2
        clear h2
        go_enter Try.func25, Try.ntmps25
        go_wp2_with fail
        obtain ⟨WB, hWB⟩ : ∃ WB, WB = ((w.alloc (.cells #[.int .i64 bx, .int .i64 bv] 27)).alloc (.cells #[.int .i64 ax, .int .i64 ay] 27)).alloc (.cells #[.int .i64 ax, .int .i64 ay] 27) := ⟨_, rfl⟩
        obtain ⟨G, hG⟩ : ∃ G, G = w.heap.size + 2 := ⟨_, rfl⟩
        have Q := Lib.hid (show WB.cell? ⟨w.heap.size, 0, none⟩ = some (.int .i64 bx) ∧ WB.cell? ⟨w.heap.size, 1, none⟩ = some (.int .i64 bv) ∧ WB.cell? ⟨w.heap.size + 1, 0, none⟩ = some (.int .i64 ax) ∧ WB.cell? ⟨w.heap.size + 1, 1, none⟩ = some (.int .i64 ay) by rw [hWB]; refine ⟨?_, ?_, ?_, ?_⟩ <;> simp [go_sem])
        have HOW := Lib.hid (show On w WB by rw [hWB]; exact On.alloc (On.alloc (On.alloc (On.refl _) _) _) _)
        have HWS := Lib.hid (show w.heap.size + 1 + 1 + 1 = WB.heap.size by rw [hWB]; simp)
        have HGB := Lib.hid (show G ≤ WB.heap.size by rw [hWB, hG]; simp)
        have hGa : w.heap.size < G := by omega
        have hGb : w.heap.size + 1 < G := by omega
        rw [← hWB]
        have HGW := Lib.hid hG
        clear hWB hG
        go_loopw [9, 10] (fun v i wr => ∃ k : Nat, k ≤ n ∧ i = .int .i64 k ∧ wr.ownsRow G 27 2 v k (cellsP (plc ax ay bx bv n) k) ∧ Below G WB wr) (fun _ i _ => n - (intOf i).toNat)
        case atStart => exact ⟨0, Nat.zero_le _, rfl, lit0 WB _ HWS.out HGB.out, (Below.refl _ _).alloc HGB.out _⟩
        case round =>
          obtain ⟨k, hk, rfl, hown, hb⟩ := hrel
          have HO := Lib.hid hown
          have HB := Lib.hid hb
          have hszr := hb.size
          have c0 := (hb.cell (p := ⟨w.heap.size, 0, none⟩) hGa).trans Q.out.1
          have c1 := (hb.cell (p := ⟨w.heap.size, 1, none⟩) hGa).trans Q.out.2.1
          have c2 := (hb.cell (p := ⟨w.heap.size + 1, 0, none⟩) hGb).trans Q.out.2.2.1
          have c3 := (hb.cell (p := ⟨w.heap.size + 1, 1, none⟩) hGb).trans Q.out.2.2.2
          have hGr : G ≤ wr.heap.size := Nat.le_trans HGB.out hszr
          clear hown hb
          by_cases hlt : k < n
          · have hlti : (k : Int) < (n : Int) := by omega
            obtain ⟨t, ht⟩ : ∃ t : Nat, t = (n - 1 - k) := ⟨_, rfl⟩
            have htn : t < n := by omega
            have hti : (n : Int) - 1 - (k : Int) = (t : Int) := by omega
            have m1 := mid_bd (x := bx) (u := ax) (lo := 0) (hi := 200000) (k := t) hn htn b0.1 b0.2 a0.1 a0.2
            have m2 := mid_bd (x := bv) (u := ay) (lo := 0) (hi := 200000) (k := t) hn htn b1.1 b1.2 a1.1 a1.2
            have hp : plc ax ay bx bv n k = (bx + near ((t : Int) * (ax - bx)) ((n : Int) - 1), bv + near ((t : Int) * (ay - bv)) ((n : Int) - 1)) := by unfold plc pt mid; rw [hbf, ← ht, Int.mul_comm ((t : Nat) : Int), Int.mul_comm ((t : Nat) : Int)]; rfl
            unfold mid at m1 m2
            rw [Int.mul_comm _ ((t : Nat) : Int)] at m1 m2
            have p1 := prod_in (d := ax - bx) (k := (t : Int)) (by omega) (by omega) (by omega) (by omega)
            have p2 := prod_in (d := ay - bv) (k := (t : Int)) (by omega) (by omega) (by omega) (by omega)
            rw [Int.mul_comm _ ((t : Nat) : Int)] at p1 p2
            have HD1 := Lib.hid (fun w => Arith.l01Div ((t : Int) * (ax - bx)) ((n : Int) - 1) w (by omega) (by omega) (by omega) (by omega) (by omega))
            have HD2 := Lib.hid (fun w => Arith.l01Div ((t : Int) * (ay - bv)) ((n : Int) - 1) w (by omega) (by omega) (by omega) (by omega) (by omega))
            have HP := Lib.hid (show cellsP (plc ax ay bx bv n) (k + 1) = cellsP (plc ax ay bx bv n) k ++ [.int .i64 (bx + near ((t : Int) * (ax - bx)) ((n : Int) - 1)), .int .i64 (bv + near ((t : Int) * (ay - bv)) ((n : Int) - 1))] by show _ ++ cellP _ = _; rw [hp]; rfl)
            generalize near ((t : Int) * (ax - bx)) ((n : Int) - 1) = R1 at *
            generalize near ((t : Int) * (ay - bv)) ((n : Int) - 1) = R2 at *
            have w1 : IntKind.i64.wrap ((t : Int) * (ax - bx)) = (t : Int) * (ax - bx) := IntWalk.i64_in _ (by omega)
            have w2 : IntKind.i64.wrap ((t : Int) * (ay - bv)) = (t : Int) * (ay - bv) := IntWalk.i64_in _ (by omega)
            have w3 : IntKind.i64.wrap ((n : Int) - 1) = (n : Int) - 1 := IntWalk.i64_in _ (by omega)
            have w4 : IntKind.i64.wrap (bx + R1) = bx + R1 := IntWalk.i64_in _ (by omega)
            have w5 : IntKind.i64.wrap (bv + R2) = bv + R2 := IntWalk.i64_in _ (by omega)
            have w6 : IntKind.i64.wrap ((n : Int) - 1 - (k : Int)) = (n : Int) - 1 - (k : Int) := IntWalk.i64_in _ (by omega)
            have w7 : IntKind.i64.wrap (ax - bx) = ax - bx := IntWalk.i64_in _ (by omega)
            have w8 : IntKind.i64.wrap (ay - bv) = ay - bv := IntWalk.i64_in _ (by omega)
            have z0 := World.block_lt_of_cell? wr _ c0
            have z1 := World.block_lt_of_cell? wr _ c2
            have wk : IntKind.i64.wrap (k : Int) = (k : Int) := IntWalk.i64_in _ (by omega)
            have HTI := Lib.hid hti
            clear hp p1 p2 m1 m2 ht hti
            go_wp2_with fail
            rw [HTI.out]
            have hm63 : k + 1 ≤ maxLen := by unfold maxLen; omega
            have hm64 : (k + 1) * 16 ≤ 140737488355328 := by omega
            go_region_held3 (fun w' => Below G WB w' ∧ w'.cell? ⟨w.heap.size, 0, none⟩ = some (.int .i64 bx) ∧ w'.cell? ⟨w.heap.size, 1, none⟩ = some (.int .i64 bv) ∧ w'.cell? ⟨w.heap.size + 1, 0, none⟩ = some (.int .i64 ax) ∧ w'.cell? ⟨w.heap.size + 1, 1, none⟩ = some (.int .i64 ay))
              ((refine held_four Q.out hGa hGb ?_; first | exact Below.drew HB.out | exact HB.out | (obtain ⟨hOW, _⟩ := ‹Below G WB _ ∧ _›; first | exact hOW | (refine Below.alloc hOW ?_ _; first | exact hGr | omega | (simp; omega)) | (refine Below.grown hOW hgrow ?_ (fun q hq => (HO.out.lt q hq).1); first | exact hGr | omega | (simp; omega)))))
              (first
                | (go_at_call 41; (first | with_reducible refine (HD1.out _).mono ?_ | with_reducible refine (HD2.out _).mono ?_); rintro e w' ⟨rfl, rfl⟩)
                | ((refine step_append_lies _ (by rfl) _ _ _ (by rfl) G 27 i0 _ 2 16 Try.underlying24 hi hz0 hz1 hz2 rfl (by decide) _ k (cellsP (plc ax ay bx bv n) k) (by rfl) (by first | exact (HO.out.alloc _).drew | exact HO.out.drew.alloc _ | exact HO.out.alloc _) ⟨wr.heap.size, 0, none⟩ 1 1 [.int .i64 (bx + R1), .int .i64 (bv + R2)] (by rfl) (by rfl) (World.news_of_block (cs := #[.int .i64 (bx + R1), .int .i64 (bv + R2)]) (t := 27) (fr := (0, 0)) (heap_alloc_new wr _)) (by simp [Value.oneCell']) Nat.one_pos hm63 hm64 ?_ (wr.heap.size + 1) ?_ ?_; (focus (simp; omega)); (focus simp); intro gg cp w9 hown9 hgrow hat hlt9)))
            all_goals
              obtain ⟨hB9, _⟩ := ‹Below G WB _ ∧ _›
              have HB9 := Lib.hid hB9
              rw [← HP.out] at hown9
              have HO9 := Lib.hid hown9
              clear hown9 hgrow hat hB9
              go_wp2
              go_roundw
              case rel => first | exact ⟨k + 1, by omega, by go_num, HO9.out, HB9.out⟩ | ((repeat apply Exists.intro); exact ⟨⟨k + 1, by omega, by go_num, HO9.out, HB9.out⟩, rfl⟩)
              case measure => simp [intOf]; omega
          · obtain rfl : k = n := by omega
            have hpr := pairs_row HO.out (plcs ax ay bx bv k) (plcs_len ..) (fun q hq => plcs_at ax ay bx bv hq)
            have HPR := Lib.hid hpr
            clear hpr
            go_wp2_with fail
            go_ret
            exact ⟨_, rfl, HPR.out, Below.trans HOW.out (Below.mono HB.out (by omega))⟩
    · have hbf := bef_gt (ay := ay) (bv := bv) (show bx < ax by omega)
      have g1 : bx < ax := by omega
      go_enter Try.func25, Try.ntmps25
      go_wp2_with fail
      obtain ⟨WB, hWB⟩ : ∃ WB, WB = ((w.alloc (.cells #[.int .i64 bx, .int .i64 bv] 27)).alloc (.cells #[.int .i64 ax, .int .i64 ay] 27)).alloc (.cells #[.int .i64 ax, .int .i64 ay] 27) := ⟨_, rfl⟩
      obtain ⟨G, hG⟩ : ∃ G, G = w.heap.size + 2 := ⟨_, rfl⟩
      have Q := Lib.hid (show WB.cell? ⟨w.heap.size, 0, none⟩ = some (.int .i64 bx) ∧ WB.cell? ⟨w.heap.size, 1, none⟩ = some (.int .i64 bv) ∧ WB.cell? ⟨w.heap.size + 1, 0, none⟩ = some (.int .i64 ax) ∧ WB.cell? ⟨w.heap.size + 1, 1, none⟩ = some (.int .i64 ay) by rw [hWB]; refine ⟨?_, ?_, ?_, ?_⟩ <;> simp [go_sem])
      have HOW := Lib.hid (show On w WB by rw [hWB]; exact On.alloc (On.alloc (On.alloc (On.refl _) _) _) _)
      have HWS := Lib.hid (show w.heap.size + 1 + 1 + 1 = WB.heap.size by rw [hWB]; simp)
      have HGB := Lib.hid (show G ≤ WB.heap.size by rw [hWB, hG]; simp)
      have hGa : w.heap.size < G := by omega
      have hGb : w.heap.size + 1 < G := by omega
      rw [← hWB]
      have HGW := Lib.hid hG
      clear hWB hG
      go_loopw [9, 10] (fun v i wr => ∃ k : Nat, k ≤ n ∧ i = .int .i64 k ∧ wr.ownsRow G 27 2 v k (cellsP (plc ax ay bx bv n) k) ∧ Below G WB wr) (fun _ i _ => n - (intOf i).toNat)
      case atStart => exact ⟨0, Nat.zero_le _, rfl, lit0 WB _ HWS.out HGB.out, (Below.refl _ _).alloc HGB.out _⟩
      case round =>
        obtain ⟨k, hk, rfl, hown, hb⟩ := hrel
        have HO := Lib.hid hown
        have HB := Lib.hid hb
        have hszr := hb.size
        have c0 := (hb.cell (p := ⟨w.heap.size, 0, none⟩) hGa).trans Q.out.1
        have c1 := (hb.cell (p := ⟨w.heap.size, 1, none⟩) hGa).trans Q.out.2.1
        have c2 := (hb.cell (p := ⟨w.heap.size + 1, 0, none⟩) hGb).trans Q.out.2.2.1
        have c3 := (hb.cell (p := ⟨w.heap.size + 1, 1, none⟩) hGb).trans Q.out.2.2.2
        have hGr : G ≤ wr.heap.size := Nat.le_trans HGB.out hszr
        clear hown hb
        by_cases hlt : k < n
        · have hlti : (k : Int) < (n : Int) := by omega
          obtain ⟨t, ht⟩ : ∃ t : Nat, t = (n - 1 - k) := ⟨_, rfl⟩
          have htn : t < n := by omega
          have hti : (n : Int) - 1 - (k : Int) = (t : Int) := by omega
          have m1 := mid_bd (x := bx) (u := ax) (lo := 0) (hi := 200000) (k := t) hn htn b0.1 b0.2 a0.1 a0.2
          have m2 := mid_bd (x := bv) (u := ay) (lo := 0) (hi := 200000) (k := t) hn htn b1.1 b1.2 a1.1 a1.2
          have hp : plc ax ay bx bv n k = (bx + near ((t : Int) * (ax - bx)) ((n : Int) - 1), bv + near ((t : Int) * (ay - bv)) ((n : Int) - 1)) := by unfold plc pt mid; rw [hbf, ← ht, Int.mul_comm ((t : Nat) : Int), Int.mul_comm ((t : Nat) : Int)]; rfl
          unfold mid at m1 m2
          rw [Int.mul_comm _ ((t : Nat) : Int)] at m1 m2
          have p1 := prod_in (d := ax - bx) (k := (t : Int)) (by omega) (by omega) (by omega) (by omega)
          have p2 := prod_in (d := ay - bv) (k := (t : Int)) (by omega) (by omega) (by omega) (by omega)
          rw [Int.mul_comm _ ((t : Nat) : Int)] at p1 p2
          have HD1 := Lib.hid (fun w => Arith.l01Div ((t : Int) * (ax - bx)) ((n : Int) - 1) w (by omega) (by omega) (by omega) (by omega) (by omega))
          have HD2 := Lib.hid (fun w => Arith.l01Div ((t : Int) * (ay - bv)) ((n : Int) - 1) w (by omega) (by omega) (by omega) (by omega) (by omega))
          have HP := Lib.hid (show cellsP (plc ax ay bx bv n) (k + 1) = cellsP (plc ax ay bx bv n) k ++ [.int .i64 (bx + near ((t : Int) * (ax - bx)) ((n : Int) - 1)), .int .i64 (bv + near ((t : Int) * (ay - bv)) ((n : Int) - 1))] by show _ ++ cellP _ = _; rw [hp]; rfl)
          generalize near ((t : Int) * (ax - bx)) ((n : Int) - 1) = R1 at *
          generalize near ((t : Int) * (ay - bv)) ((n : Int) - 1) = R2 at *
          have w1 : IntKind.i64.wrap ((t : Int) * (ax - bx)) = (t : Int) * (ax - bx) := IntWalk.i64_in _ (by omega)
          have w2 : IntKind.i64.wrap ((t : Int) * (ay - bv)) = (t : Int) * (ay - bv) := IntWalk.i64_in _ (by omega)
          have w3 : IntKind.i64.wrap ((n : Int) - 1) = (n : Int) - 1 := IntWalk.i64_in _ (by omega)
          have w4 : IntKind.i64.wrap (bx + R1) = bx + R1 := IntWalk.i64_in _ (by omega)
          have w5 : IntKind.i64.wrap (bv + R2) = bv + R2 := IntWalk.i64_in _ (by omega)
          have w6 : IntKind.i64.wrap ((n : Int) - 1 - (k : Int)) = (n : Int) - 1 - (k : Int) := IntWalk.i64_in _ (by omega)
          have w7 : IntKind.i64.wrap (ax - bx) = ax - bx := IntWalk.i64_in _ (by omega)
          have w8 : IntKind.i64.wrap (ay - bv) = ay - bv := IntWalk.i64_in _ (by omega)
          have z0 := World.block_lt_of_cell? wr _ c0
          have z1 := World.block_lt_of_cell? wr _ c2
          have wk : IntKind.i64.wrap (k : Int) = (k : Int) := IntWalk.i64_in _ (by omega)
          have HTI := Lib.hid hti
          clear hp p1 p2 m1 m2 ht hti
          go_wp2_with fail
          rw [HTI.out]
          have hm63 : k + 1 ≤ maxLen := by unfold maxLen; omega
          have hm64 : (k + 1) * 16 ≤ 140737488355328 := by omega
          go_region_held3 (fun w' => Below G WB w' ∧ w'.cell? ⟨w.heap.size, 0, none⟩ = some (.int .i64 bx) ∧ w'.cell? ⟨w.heap.size, 1, none⟩ = some (.int .i64 bv) ∧ w'.cell? ⟨w.heap.size + 1, 0, none⟩ = some (.int .i64 ax) ∧ w'.cell? ⟨w.heap.size + 1, 1, none⟩ = some (.int .i64 ay))
            ((refine held_four Q.out hGa hGb ?_; first | exact Below.drew HB.out | exact HB.out | (obtain ⟨hOW, _⟩ := ‹Below G WB _ ∧ _›; first | exact hOW | (refine Below.alloc hOW ?_ _; first | exact hGr | omega | (simp; omega)) | (refine Below.grown hOW hgrow ?_ (fun q hq => (HO.out.lt q hq).1); first | exact hGr | omega | (simp; omega)))))
            (first
              | (go_at_call 41; (first | with_reducible refine (HD1.out _).mono ?_ | with_reducible refine (HD2.out _).mono ?_); rintro e w' ⟨rfl, rfl⟩)
              | ((refine step_append_lies _ (by rfl) _ _ _ (by rfl) G 27 i0 _ 2 16 Try.underlying24 hi hz0 hz1 hz2 rfl (by decide) _ k (cellsP (plc ax ay bx bv n) k) (by rfl) (by first | exact (HO.out.alloc _).drew | exact HO.out.drew.alloc _ | exact HO.out.alloc _) ⟨wr.heap.size, 0, none⟩ 1 1 [.int .i64 (bx + R1), .int .i64 (bv + R2)] (by rfl) (by rfl) (World.news_of_block (cs := #[.int .i64 (bx + R1), .int .i64 (bv + R2)]) (t := 27) (fr := (0, 0)) (heap_alloc_new wr _)) (by simp [Value.oneCell']) Nat.one_pos hm63 hm64 ?_ (wr.heap.size + 1) ?_ ?_; (focus (simp; omega)); (focus simp); intro gg cp w9 hown9 hgrow hat hlt9)))
          all_goals
            obtain ⟨hB9, _⟩ := ‹Below G WB _ ∧ _›
            have HB9 := Lib.hid hB9
            rw [← HP.out] at hown9
            have HO9 := Lib.hid hown9
            clear hown9 hgrow hat hB9
            go_wp2
            go_roundw
            case rel => first | exact ⟨k + 1, by omega, by go_num, HO9.out, HB9.out⟩ | ((repeat apply Exists.intro); exact ⟨⟨k + 1, by omega, by go_num, HO9.out, HB9.out⟩, rfl⟩)
            case measure => simp [intOf]; omega
        · obtain rfl : k = n := by omega
          have hpr := pairs_row HO.out (plcs ax ay bx bv k) (plcs_len ..) (fun q hq => plcs_at ax ay bx bv hq)
          have HPR := Lib.hid hpr
          clear hpr
          go_wp2_with fail
          go_ret
          exact ⟨_, rfl, HPR.out, Below.trans HOW.out (Below.mono HB.out (by omega))⟩
end Go.Proofs.Ytadoaenmmemjdaa.Plc
