
/-
  The text of a terrain, in the program. Condition: at most 1048576 heights and classes, each slice has the room for them; the library's table of powers of ten holds what its text lays.
-/
import Derived.Test.YtggiilbdlbhpgaaDoorTTxt
import Derived.Test.YtggiilbdlbhpgaaDoorBldR
namespace Go.Proofs.YtggiilbdlbhpgaaDoor.TTxt
open Go.RowKit
open Plain
open Terr (okT of_okT of_size TIn slice_of)
open Ints (Ints)
open Lib (IsBuilder BuilderAt strCells)

set_option maxHeartbeats 1000000 in
theorem idx0 (s : Int) (X Y k q : Nat) (w : World) (hq : q = k * X) (h : q ≤ 1000) :
    Calls Tryd.prog 51 #[.agg #[.int .i64 s, .int .i64 (X : Int), .int .i64 (Y : Int)], .int .i64 0, .int .i64 (k : Int)] w fun e w' => e = .returned (.int .i64 (q : Int)) ∧ On w w' := by
  have e1 : IntKind.i64.wrap ((k : Int) * (X : Int)) = (q : Int) := by
    rw [show (k : Int) * (X : Int) = (q : Int) by rw [hq]; simp]
    exact IntWalk.i64_in _ (by omega)
  have e2 : IntKind.i64.wrap (q : Int) = (q : Int) := IntWalk.i64_in _ (by omega)
  clear hq
  go_enter Tryd.func51, Tryd.ntmps51
  go_wp2_with fail
  go_ret
  exact ⟨rfl, by repeat (first | with_reducible exact On.refl _ | apply On.alloc)⟩
set_option maxHeartbeats 1000000 in
theorem idx1 (s : Int) (X Y k q : Nat) (w : World) (hq : q = k * X) (h : q + X ≤ 1000) :
    Calls Tryd.prog 51 #[.agg #[.int .i64 s, .int .i64 (X : Int), .int .i64 (Y : Int)], .int .i64 0, .int .i64 ((k : Int) + 1)] w fun e w' => e = .returned (.int .i64 ((q : Int) + (X : Int))) ∧ On w w' := by
  have e1 : IntKind.i64.wrap (((k : Int) + 1) * (X : Int)) = (q : Int) + (X : Int) := by
    rw [show ((k : Int) + 1) * (X : Int) = (q : Int) + (X : Int) by rw [hq, Int.add_mul]; simp]
    exact IntWalk.i64_in _ (by omega)
  have e2 : IntKind.i64.wrap ((q : Int) + (X : Int)) = (q : Int) + (X : Int) := IntWalk.i64_in _ (by omega)
  clear hq
  go_enter Tryd.func51, Tryd.ntmps51
  go_wp2_with fail
  go_ret
  exact ⟨rfl, by repeat (first | with_reducible exact On.refl _ | apply On.alloc)⟩
set_option maxRecDepth 100000 in
set_option maxHeartbeats 2000000 in
theorem impl_row (s : Int) (X Y b off n cap k q : Nat) (w : World) (hq : q = k * X) (h : q + X ≤ 1000) (h1 : q + X ≤ cap) (h2 : 0 < X) (hk : k ≤ 1000) :
    Calls Tryd.prog 36 #[.agg #[.int .i64 s, .int .i64 (X : Int), .int .i64 (Y : Int)], .slice (some ⟨b, off, none⟩) n cap, .int .i64 (k : Int)] w fun e w' => e = .returned (.slice (some ⟨b, off + q, none⟩) X (cap - q)) ∧ On w w' := by
  have I0 := Lib.hid (fun w1 => idx0 s X Y k q w1 hq (by omega))
  have I1 := Lib.hid (fun w1 => idx1 s X Y k q w1 hq (by omega))
  have sl := slc b off n cap q X h1 h2
  have e1 : IntKind.i64.wrap ((k : Int) + 1) = (k : Int) + 1 := IntWalk.i64_in _ (by omega)
  clear hq h h1 h2 hk
  go_enter Tryd.func36, Tryd.ntmps36
  go_wp2_with fail
  refine wp_region_onh (by kernel_rfl) (by kernel_rfl) ?_
  repeat (refine rest_step (fun K hK => ?_); go_simp; first | (refine hK _ ?_; clear hK K) | (apply Exists.intro; refine ⟨fun v1 hv1 => ?_, hK _ ?_⟩; (first | with_reducible exact rfl | with_reducible exact ⟨rfl, rfl⟩ | with_reducible exact Calls.on hv1 (I0.out _) | with_reducible exact Calls.on hv1 (I1.out _) | (obtain ⟨hc, hf⟩ := bcell hv1; go_simp; first | with_reducible exact rfl | with_reducible exact ⟨rfl, rfl⟩ | exact rfl | exact ⟨rfl, rfl⟩)); clear hK K))
  refine rest_nil ?_
  intro w5 h5
  go_wp2_with fail
  go_ret
  exact ⟨rfl, On.trans (by repeat (first | with_reducible exact On.refl _ | apply On.alloc)) h5⟩
set_option maxRecDepth 100000 in
set_option maxHeartbeats 8000000 in
theorem impl_TerrainText (s x y : Int) (a b : Option Addr) (n cap m dap : Nat) (zs cs : List Int) (w : World) (hzn : zs.length = n) (hcm : cs.length = m) (hn : n ≤ 1048576) (hm : m ≤ 1048576) (fz : n ≤ cap) (fc : m ≤ dap) (h : Ints w (.slice a n cap) zs) (k : Ints w (.slice b m dap) cs) (ht : Lib.TabBelow Tryd.prog w.heap.size w "internal/strconv.uint64pow10" .u64 Lib.pow10Tab) :
    Calls Tryd.prog 17 #[.agg #[.int .i64 s, .int .i64 x, .int .i64 y, .slice a n cap, .slice b m dap]] w fun e w' => e = .returned (.string (textV (okT s x y zs cs) s x y zs cs)) ∧ On w w' := by
  have HO := Lib.hid (fun w' (hb : On w w') => Terr.impl_validT s x y a b n cap m dap zs cs w' hzn hcm hn hm (h.below hb) (k.below hb))
  cases hok : okT s x y zs cs with
  | false =>
    rw [hok] at HO
    have E := Lib.hid (show textV false s x y zs cs = ⟨#[]⟩ from rfl)
    clear h k ht
    go_enter Tryd.func17, Tryd.ntmps17
    go_wp2_with fail
    refine (HO.out _ (by repeat (first | with_reducible exact On.refl _ | apply On.alloc))).mono ?_
    rintro r w1 ⟨rfl, h1⟩
    go_wp2_with fail
    go_ret
    exact ⟨ret_str E.out.symm, On.trans (by repeat (first | with_reducible exact On.refl _ | apply On.alloc)) h1⟩
  | true =>
    rw [hok] at HO
    have HT := Lib.hid ht
    clear ht
    obtain ⟨X, Y, rfl, rfl, ⟨b1, b2⟩, ⟨x1, x2⟩, ⟨y1, y2⟩, lz, lc, sz, sc⟩ := of_ok hok
    have hXY : 4 ≤ X * Y := Nat.mul_le_mul x1 y1
    have hXY2 : X * Y ≤ 24 * 24 := Nat.mul_le_mul x2 y2
    obtain ⟨c, off, rfl, hb, hcell⟩ := slice_of h hzn (by omega)
    obtain ⟨d, doff, rfl, hd, hdell⟩ := slice_of k hcm (by omega)
    have D1 := Lib.hid (show ∀ w1, On w w1 → Calls Tryd.prog 25 #[.int .i64 s] w1 fun e w' => e = .returned (.string (dec s)) ∧ On w1 w' from fun w1 h => Dec.impl_decimal s w1 (by omega) (by omega) (HT.out w1 h))
    have D2 := Lib.hid (show ∀ w1, On w w1 → Calls Tryd.prog 25 #[.int .i64 (X : Int)] w1 fun e w' => e = .returned (.string (dec (X : Int))) ∧ On w1 w' from fun w1 h => Dec.impl_decimal (X : Int) w1 (by omega) (by omega) (HT.out w1 h))
    have D3 := Lib.hid (show ∀ w1, On w w1 → Calls Tryd.prog 25 #[.int .i64 (Y : Int)] w1 fun e w' => e = .returned (.string (dec (Y : Int))) ∧ On w1 w' from fun w1 h => Dec.impl_decimal (Y : Int) w1 (by omega) (by omega) (HT.out w1 h))
    have s1 := dec_size (x := s) (by omega) (by omega)
    have s2 := dec_size (x := (X : Int)) (by omega) (by omega)
    have s3 := dec_size (x := (Y : Int)) (by omega) (by omega)
    have E := Lib.hid (show textV true s (X : Int) (Y : Int) zs cs = tt (head (dec s) (dec (X : Int)) (dec (Y : Int))) zs cs X Y from rfl)
    generalize textV true s (X : Int) (Y : Int) zs cs = tx at *
    generalize dec s = d1 at *
    generalize dec (X : Int) = d2 at *
    generalize dec (Y : Int) = d3 at *
    have HH : (head d1 d2 d3).size ≤ 100 := by
      have : (⟨#[116, 101, 114, 114, 97, 105, 110, 32]⟩ : ByteArray).size = 8 := rfl
      simp only [head, ByteArray.size_append, sz1]
      omega
    have HE := Lib.hid (show head d1 d2 d3 = ⟨#[116, 101, 114, 114, 97, 105, 110, 32]⟩ ++ d1 ++ ⟨#[32]⟩ ++ d2 ++ ⟨#[32]⟩ ++ d3 ++ ⟨#[10]⟩ from rfl)
    have g1 : ¬ 9223372036854775807 < 8 + d1.size := by omega
    have g2 : ¬ 9223372036854775807 < 8 + d1.size + 1 := by omega
    have g3 : ¬ 9223372036854775807 < 8 + d1.size + 1 + d2.size := by omega
    have g4 : ¬ 9223372036854775807 < 8 + d1.size + 1 + d2.size + 1 := by omega
    have g5 : ¬ 9223372036854775807 < 8 + d1.size + 1 + d2.size + 1 + d3.size := by omega
    have g6 : ¬ 9223372036854775807 < 8 + d1.size + 1 + d2.size + 1 + d3.size + 1 := by omega
    have HC := Lib.hid hcell
    have HD := Lib.hid hdell
    have HS := Lib.hid (fun k hk => tt_size (head d1 d2 d3) sz sc lz lc x2 k hk)
    have HF := Lib.hid (fun (k : Nat) (hk : k < Y) => (⟨row_fits sz (show k * X + X ≤ zs.length by have := in_rows (X := X) hk; omega) x2, row_fits sc (show k * X + X ≤ cs.length by have := in_rows (X := X) hk; omega) x2⟩ : fitsB (row zs (k * X) X) = true ∧ fitsB (row cs (k * X) X) = true))
    clear hcell hdell h k hok
    go_enter Tryd.func17, Tryd.ntmps17
    go_wp2_with fail
    refine (HO.out _ (by repeat (first | with_reducible exact On.refl _ | apply On.alloc))).mono ?_
    rintro r w1 ⟨rfl, h1⟩
    have K1 : TIn w1 w.heap.size s (X : Int) (Y : Int) (.slice (some ⟨c, off, none⟩) n cap) (.slice (some ⟨d, doff, none⟩) m dap) := TIn.on ⟨by simp [go_sem], by simp [go_sem], by simp [go_sem], by simp [go_sem], by simp [go_sem]⟩ h1
    have HO1 := Lib.hid (show On w w1 from On.trans (On.alloc (On.refl w) _) h1)
    have hg := World.block_lt_of_cell? w1 _ K1.1
    have KP := Lib.hid K1
    have HB0 := Lib.hid (show IsBuilder 57 5 w1.heap.size w1.heap.size (strCells ⟨#[]⟩) (w1.alloc (.cells #[.pointer none, .slice none 0 0] 57)) from Bld.fresh rfl)
    have hsz0 := Lib.hid (show (⟨#[]⟩ : ByteArray).size + (head d1 d2 d3).size ≤ 1099511627776 by have : (⟨#[]⟩ : ByteArray).size = 0 := rfl; omega)
    obtain ⟨k0, k1, k2, k3, k4⟩ := K1
    clear h1 HO
    go_wp2_with fail
    refine wp_region_on_tail 15 (by kernel_rfl) (by kernel_rfl) ?_
    simp only [List.take_succ_cons, List.take_zero, List.drop_succ_cons, List.drop_zero]
    repeat (refine wpQuiet_step (fun K hK => ?_); go_simp; first | (refine hK _ ?_; clear hK K) | (apply Exists.intro; refine ⟨fun v1 hv1 => ?_, hK _ ?_⟩; (first | with_reducible exact rfl | with_reducible exact ⟨rfl, rfl⟩ | with_reducible exact Calls.on hv1 (D1.out _ (On.trans (On.alloc HO1.out _) hv1)) | with_reducible exact Calls.on hv1 (D2.out _ (On.trans (On.alloc HO1.out _) hv1)) | with_reducible exact Calls.on hv1 (D3.out _ (On.trans (On.alloc HO1.out _) hv1)) | (obtain ⟨hc, hf⟩ := bcell hv1; go_simp; first | with_reducible exact rfl | with_reducible exact ⟨rfl, rfl⟩ | exact rfl | exact ⟨rfl, rfl⟩)); clear hK K))
    refine wpQuiet_nil ?_
    intro w5 h5
    have HB5 := Lib.hid (Bld.is_on HB0.out h5)
    have HW5 := Lib.hid (show On w1 w5 from On.trans (On.alloc (On.refl w1) _) h5)
    rw [HE.out] at hsz0
    clear h5 HB0
    go_wp2_with fail
    refine (Bld.write_text w1.heap.size w1.heap.size ⟨#[]⟩ _ _ HB5.out hsz0.out HW5.out.size).mono ?_
    rintro e w2 ⟨rfl, hb2, h2⟩
    rw [← HE.out, show (⟨#[]⟩ : ByteArray) ++ head d1 d2 d3 = head d1 d2 d3 from ByteArray.empty_append] at hb2
    have HB2 := Lib.hid hb2
    have HO2 := Lib.hid (show On w1 w2 from Below.trans HW5.out h2)
    obtain ⟨m0, m1, m2, m3, m4⟩ := KP.out.on HO2.out
    have hg2 := HO2.out.lts _ hg
    clear hb2 h2 k0 k1 k2 k3 k4 D1 D2 D3 HE g1 g2 g3 g4 g5 g6 s1 s2 s3 HB5 HW5 hsz0
    generalize hh : head d1 d2 d3 = hdr at *
    clear hh
    go_wp2_with fail
    go_loopw [26] (fun i wr => ∃ k : Nat, k ≤ Y ∧ i = .int .i64 k ∧ IsBuilder 57 5 w1.heap.size w1.heap.size (strCells (tt hdr zs cs X k)) wr ∧ On w1 wr) (fun i _ => Y - (intOf i).toNat)
    case atStart => exact ⟨0, Nat.zero_le _, rfl, HB2.out, HO2.out⟩
    case round =>
      obtain ⟨k, hk, rfl, hbk, ho⟩ := hrel
      have HB := Lib.hid hbk
      have HW := Lib.hid ho
      have HOW := Lib.hid (On.trans HO1.out ho)
      obtain ⟨k0, k1, k2, k3, k4⟩ := KP.out.on ho
      have hgr := ho.lts _ hg
      have hbr := HOW.out.lts _ hb
      have hdr' := HOW.out.lts _ hd
      have osz := HS.out k hk
      clear ho hbk m0 m1 m2 m3 m4
      by_cases hlt : k < Y
      · have hlti : (k : Int) < (Y : Int) := by omega
        have hq := in_rows (X := X) hlt
        obtain ⟨f1, f2⟩ := HF.out k hlt
        obtain ⟨q, hqe⟩ : ∃ q, q = k * X := ⟨_, rfl⟩
        have E1 := Lib.hid (show tt hdr zs cs X (k + 1) = tt hdr zs cs X k ++ (com (row zs q X) ++ ⟨#[32]⟩ ++ com (row cs q X) ++ ⟨#[10]⟩) by rw [hqe]; rfl)
        rw [← hqe] at f1 f2 hq
        have l1 := row_len (zs := zs) (q := q) (X := X) (by omega)
        have l2 := row_len (zs := cs) (q := q) (X := X) (by omega)
        have z1 := com_size f1
        have z2 := com_size f2
        have C1 := fun w1 (h : On w w1) => ListImpl.impl_some c (off + q) (cap - q) (row zs q X) w1 (by omega) (by omega) (h.lts _ hb) (fun i hi => by rw [row_get (by omega), Nat.add_assoc]; exact (h.cell (by exact hb)).trans (HC.out (q + i) (by omega))) (fun w' h' => HT.out w' (On.trans h h'))
        have C2 := fun w1 (h : On w w1) => ListImpl.impl_some d (doff + q) (dap - q) (row cs q X) w1 (by omega) (by omega) (h.lts _ hd) (fun i hi => by rw [row_get (by omega), Nat.add_assoc]; exact (h.cell (by exact hd)).trans (HD.out (q + i) (by omega))) (fun w' h' => HT.out w' (On.trans h h'))
        rw [l1, show ListSpec.listT (row zs q X) = com (row zs q X) from ListSpec.listT_yes f1 (by omega)] at C1
        rw [l2, show ListSpec.listT (row cs q X) = com (row cs q X) from ListSpec.listT_yes f2 (by omega)] at C2
        rw [l1] at z1
        rw [l2] at z2
        have P1 := Lib.hid (show ∀ w1, On w w1 → Calls Tryd.prog 34 #[.slice (some ⟨c, off + q, none⟩) X (cap - q)] w1 fun e w' => e = .returned (.string (com (row zs q X))) ∧ On w1 w' from C1)
        have P2 := Lib.hid (show ∀ w1, On w w1 → Calls Tryd.prog 34 #[.slice (some ⟨d, doff + q, none⟩) X (dap - q)] w1 fun e w' => e = .returned (.string (com (row cs q X))) ∧ On w1 w' from C2)
        have R1 := Lib.hid (fun w1 => impl_row s X Y c off n cap k q w1 hqe (by omega) (by omega) (by omega) (by omega))
        have R2 := Lib.hid (fun w1 => impl_row s X Y d doff m dap k q w1 hqe (by omega) (by omega) (by omega) (by omega))
        have G := Lib.hid (fun w1 => Terr.impl_grid s (X : Int) (Y : Int) (some ⟨c, off, none⟩) (some ⟨d, doff, none⟩) n cap m dap w1)
        generalize com (row zs q X) = t1 at *
        generalize com (row cs q X) = t2 at *
        have g1 : ¬ 9223372036854775807 < t1.size + 1 := by omega
        have g2 : ¬ 9223372036854775807 < t1.size + 1 + t2.size := by omega
        have g3 : ¬ 9223372036854775807 < t1.size + 1 + t2.size + 1 := by omega
        have ab := Lib.hid (show (tt hdr zs cs X k).size + (t1 ++ ⟨#[32]⟩ ++ t2 ++ ⟨#[10]⟩ : ByteArray).size ≤ 1099511627776 by
          simp only [ByteArray.size_append, sz1]
          omega)
        clear C1 C2 z1 z2 l1 l2 f1 f2 osz hqe
        go_wp2_with fail
        refine wp_region_on_tail 17 (by kernel_rfl) (by kernel_rfl) ?_
        simp only [List.take_succ_cons, List.take_zero, List.drop_succ_cons, List.drop_zero]
        repeat (refine wpQuiet_step (fun K hK => ?_); go_simp; first | (refine hK _ ?_; clear hK K) | (apply Exists.intro; refine ⟨fun v1 hv1 => ?_, hK _ ?_⟩; (first | with_reducible exact rfl | with_reducible exact ⟨rfl, rfl⟩ | with_reducible exact Calls.on hv1 (G.out _) | with_reducible exact Calls.on hv1 (R1.out _) | with_reducible exact Calls.on hv1 (R2.out _) | with_reducible exact Calls.on hv1 (P1.out _ (On.trans HOW.out hv1)) | with_reducible exact Calls.on hv1 (P2.out _ (On.trans HOW.out hv1)) | (obtain ⟨hc, hf⟩ := bcell hv1; go_simp; first | with_reducible exact rfl | with_reducible exact ⟨rfl, rfl⟩ | exact rfl | exact ⟨rfl, rfl⟩)); clear hK K))
        refine wpQuiet_nil ?_
        intro w5 h5
        have HB5 := Lib.hid (Bld.is_on HB.out h5)
        have HW5 := Lib.hid (On.trans HW.out h5)
        clear h5
        go_wp2_with (go_at_call 24; refine (Bld.write_text w1.heap.size w1.heap.size (tt hdr zs cs X k) _ _ HB5.out ab.out HW5.out.size).mono ?_; rintro e w6 ⟨rfl, hb6, h6⟩)
        have hb7 := E1.out ▸ hb6
        go_roundw
        case rel => exact ⟨k + 1, by omega, by go_num, hb7, Below.trans HW5.out h6⟩
        case measure => simp [intOf]; omega
      · obtain rfl : k = Y := by omega
        have hnot : ¬ ((k : Int) < (k : Int)) := by omega
        go_wp2_with (go_at_call 26; refine (Bld.read w1.heap.size w1.heap.size _ _ HB.out HW.out.size).mono ?_; rintro e w6 ⟨rfl, h6⟩)
        go_ret
        exact ⟨ret_str E.out.symm, On.trans HO1.out (Below.trans HW.out h6)⟩
end Go.Proofs.YtggiilbdlbhpgaaDoor.TTxt
