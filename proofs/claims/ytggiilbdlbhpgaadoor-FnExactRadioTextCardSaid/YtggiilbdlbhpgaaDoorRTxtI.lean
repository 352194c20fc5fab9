
/-
  The text of a radio, in the program. Condition: at most 1048576 modes, and bytes in the name; the library's table of powers of ten holds what its text lays.
-/
import Derived.Test.YtggiilbdlbhpgaaDoorRTxt
namespace Go.Proofs.YtggiilbdlbhpgaaDoor.RTxt
open Go.RowKit
open Plain
open Rad (at0 at1 okR of_okR Upto of_modes In)
open Modes (Pairs)
open Lib (IsBuilder BuilderAt strCells)

set_option maxRecDepth 100000 in
set_option maxHeartbeats 8000000 in
theorem impl_RadioText (x0 : ByteArray) (x1 x2 x3 x4 : Int) (v5 : Value) (z5 : List (Int × Int)) (w : World) (q0 : x0.size ≤ 1048576) (q5 : z5.length ≤ 1048576) (h5 : Pairs w v5 z5) (ht : Lib.TabBelow Tryd.prog w.heap.size w "internal/strconv.uint64pow10" .u64 Lib.pow10Tab) :
    Calls Tryd.prog 9 #[.agg #[.string x0, .int .i64 x1, .int .i64 x2, .int .i64 x3, .int .i64 x4, v5]] w fun e w' => e = .returned (.string (textV (okR x0 x1 x2 x3 x4 z5) x0 x1 x2 x3 x4 z5)) ∧ On w w' := by
  have HO := Lib.hid (fun w' (hb : On w w') => Rad.impl_valid x0 x1 x2 x3 x4 v5 z5 w' q0 q5 (h5.below hb))
  cases hok : okR x0 x1 x2 x3 x4 z5 with
  | false =>
    obtain ⟨a5, cap5, rfl, -⟩ := h5
    rw [hok] at HO
    have E := Lib.hid (show textV false x0 x1 x2 x3 x4 z5 = ⟨#[]⟩ from rfl)
    clear ht
    go_enter Tryd.func9, Tryd.ntmps9
    go_wp2_with fail
    refine (HO.out _ (by repeat (first | with_reducible exact On.refl _ | apply On.alloc))).mono ?_
    rintro r w1 ⟨rfl, h1⟩
    go_wp2_with fail
    go_ret
    exact ⟨ret_str E.out.symm, On.trans (by repeat (first | with_reducible exact On.refl _ | apply On.alloc)) h1⟩
  | true =>
    rw [hok] at HO
    obtain ⟨-, b1, b2, b3, b4, hm⟩ := of_okR hok
    obtain ⟨⟨n1, n8⟩, hu⟩ := of_modes hm
    obtain ⟨n, hn⟩ : ∃ n, n = z5.length := ⟨_, rfl⟩
    have HT := Lib.hid ht
    clear ht
    have D1 := Lib.hid (show ∀ w1, On w w1 → Calls Tryd.prog 25 #[.int .i64 x1] w1 fun e w' => e = .returned (.string (dec x1)) ∧ On w1 w' from fun w1 h => Dec.impl_decimal x1 w1 (by omega) (by omega) (HT.out w1 h))
    have D2 := Lib.hid (show ∀ w1, On w w1 → Calls Tryd.prog 25 #[.int .i64 x2] w1 fun e w' => e = .returned (.string (dec x2)) ∧ On w1 w' from fun w1 h => Dec.impl_decimal x2 w1 (by omega) (by omega) (HT.out w1 h))
    have D3 := Lib.hid (show ∀ w1, On w w1 → Calls Tryd.prog 25 #[.int .i64 x3] w1 fun e w' => e = .returned (.string (dec x3)) ∧ On w1 w' from fun w1 h => Dec.impl_decimal x3 w1 (by omega) (by omega) (HT.out w1 h))
    have D4 := Lib.hid (show ∀ w1, On w w1 → Calls Tryd.prog 25 #[.int .i64 x4] w1 fun e w' => e = .returned (.string (dec x4)) ∧ On w1 w' from fun w1 h => Dec.impl_decimal x4 w1 (by omega) (by omega) (HT.out w1 h))
    have s1 := dec_size x1 (by omega) (by omega)
    have s2 := dec_size x2 (by omega) (by omega)
    have s3 := dec_size x3 (by omega) (by omega)
    have s4 := dec_size x4 (by omega) (by omega)
    have E := Lib.hid (show textV true x0 x1 x2 x3 x4 z5 = bc (hd x0 [dec x1, dec x2, dec x3, dec x4] 4) z5 n by rw [hn]; exact radT_bc x0 x1 x2 x3 x4 (by omega))
    generalize textV true x0 x1 x2 x3 x4 z5 = tx at *
    generalize dec x1 = d1 at *
    generalize dec x2 = d2 at *
    generalize dec x3 = d3 at *
    generalize dec x4 = d4 at *
    have HS := Lib.hid (fun k hk => hd_size (x0 := x0) (ds := [d1, d2, d3, d4]) (by intro d hd; simp only [List.mem_cons, List.not_mem_nil, or_false] at hd; rcases hd with rfl | rfl | rfl | rfl <;> assumption) k hk)
    have HU := Lib.hid (show Upto z5 n by rw [hn]; exact hu)
    have h5' := h5
    obtain ⟨a5, cap5, rfl, -⟩ := h5
    obtain ⟨b, off, rfl, hb, hcell⟩ := Modes.slice_of h5' (by omega)
    have HC := Lib.hid (fun (k : Nat) (hk : k < n) => show w.cell? ⟨b, off + k * 2, none⟩ = some (.int .i64 (at0 z5 k)) ∧ w.cell? ⟨b, off + k * 2 + 1, none⟩ = some (.int .i64 (at1 z5 k)) from hcell k (by rw [← hn]; exact hk))
    rw [← hn] at n1 n8 HO ⊢
    clear hcell h5' hn hu hm hok b1 b2 b3 b4
    go_enter Tryd.func9, Tryd.ntmps9
    go_wp2_with fail
    refine (HO.out _ (by repeat (first | with_reducible exact On.refl _ | apply On.alloc))).mono ?_
    rintro r w1 ⟨rfl, h1⟩
    have K1 : In w1 w.heap.size x0 x1 x2 x3 x4 (.slice (some ⟨b, off, none⟩) n cap5) := In.on ⟨by simp [go_sem], by simp [go_sem], by simp [go_sem], by simp [go_sem], by simp [go_sem], by simp [go_sem]⟩ h1
    have HO1 := Lib.hid (show On w w1 from On.trans (On.alloc (On.refl w) _) h1)
    have hg1 := World.block_lt_of_cell? w1 _ K1.1
    have HK := Lib.hid K1
    have HB0 := Lib.hid (show IsBuilder 57 5 w1.heap.size w1.heap.size (strCells ⟨#[]⟩) (w1.alloc (.cells #[.pointer none, .slice none 0 0] 57)) from Bld.fresh rfl)
    obtain ⟨k0, k1, k2, k3, k4, k5⟩ := K1
    clear h1 HO
    go_wp2_with fail
    refine (Bld.write_text w1.heap.size w1.heap.size ⟨#[]⟩ x0 _ HB0.out (by have : (⟨#[]⟩ : ByteArray).size = 0 := rfl; omega) (by simp)).mono ?_
    rintro r w2 ⟨rfl, hb2, h2⟩
    rw [show (⟨#[]⟩ : ByteArray) ++ x0 = x0 from ByteArray.empty_append] at hb2
    have HB2 := Lib.hid hb2
    have HO2 := Lib.hid (show On w1 w2 from Below.trans (On.alloc (On.refl w1) _) h2)
    obtain ⟨m0, m1, m2, m3, m4, m5⟩ := HK.out.on HO2.out
    have hg2 := HO2.out.lts _ hg1
    clear hb2 h2 k0 k1 k2 k3 k4 k5
    go_wp2_with fail
    go_loopw [24] (fun i wr => ∃ k : Nat, i = .int .i64 k ∧ k ≤ 4 ∧ IsBuilder 57 5 w1.heap.size w1.heap.size (strCells (hd x0 [d1, d2, d3, d4] k)) wr ∧ On w1 wr) (fun i _ => 4 - (intOf i).toNat)
    case atStart => exact ⟨0, rfl, by omega, HB2.out, HO2.out⟩
    case round =>
      obtain ⟨k, rfl, hk, hbk, hwk⟩ := hrel
      have HB := Lib.hid hbk
      have HW := Lib.hid hwk
      have ak := HS.out k (by simpa using hk)
      have hgr := hwk.lts _ hg1
      obtain ⟨l0, l1, l2, l3, l4, l5⟩ := HK.out.on hwk
      have hsz := hwk.size
      clear hbk hwk m0 m1 m2 m3 m4 m5
      have hk4 : k = 0 ∨ k = 1 ∨ k = 2 ∨ k = 3 ∨ k = 4 := by omega
      rcases hk4 with rfl | rfl | rfl | rfl | rfl
      · have e1 := Lib.hid (hd_succ (x0 := x0) (ds := [d1, d2, d3, d4]) (k := 0) (d := d1) rfl)
        have ix : ∀ w, (Instr.index 62 (.agg #[.int .i64 x1, .int .i64 x2, .int .i64 x3, .int .i64 x4]) (.int .i64 0)).run Tryd.prog w = .ok (.int .i64 x1) w := fun _ => by kernel_rfl
        have ab := Lib.hid (show (hd x0 [d1, d2, d3, d4] 0).size + (⟨#[32]⟩ ++ d1 : ByteArray).size ≤ 1099511627776 by
          simp only [ByteArray.size_append, sz1]
          omega)
        have g1 : ¬ 9223372036854775807 < 1 + d1.size := by omega
        clear ak
        go_wp2_with (first
          | (go_at_call 25; refine (D1.out _ (On.trans HO1.out HW.out)).mono ?_; rintro e w4 ⟨rfl, h4⟩; have HB4 := Lib.hid (Bld.is_on HB.out h4); have HW4 := Lib.hid (On.trans HW.out h4); clear h4)
          | (go_at_call 24; refine (Bld.write_text w1.heap.size w1.heap.size (hd x0 [d1, d2, d3, d4] 0) _ _ HB4.out ab.out HW4.out.size).mono ?_; rintro e w5 ⟨rfl, hb5, h5⟩))
        have hb6 := e1.out ▸ hb5
        go_roundw
        case rel => exact ⟨1, rfl, by decide, hb6, Below.trans HW4.out h5⟩
        case measure => simp [intOf]
      · have e1 := Lib.hid (hd_succ (x0 := x0) (ds := [d1, d2, d3, d4]) (k := 1) (d := d2) rfl)
        have ix : ∀ w, (Instr.index 62 (.agg #[.int .i64 x1, .int .i64 x2, .int .i64 x3, .int .i64 x4]) (.int .i64 1)).run Tryd.prog w = .ok (.int .i64 x2) w := fun _ => by kernel_rfl
        have ab := Lib.hid (show (hd x0 [d1, d2, d3, d4] 1).size + (⟨#[32]⟩ ++ d2 : ByteArray).size ≤ 1099511627776 by
          simp only [ByteArray.size_append, sz1]
          omega)
        have g1 : ¬ 9223372036854775807 < 1 + d2.size := by omega
        clear ak
        go_wp2_with (first
          | (go_at_call 25; refine (D2.out _ (On.trans HO1.out HW.out)).mono ?_; rintro e w4 ⟨rfl, h4⟩; have HB4 := Lib.hid (Bld.is_on HB.out h4); have HW4 := Lib.hid (On.trans HW.out h4); clear h4)
          | (go_at_call 24; refine (Bld.write_text w1.heap.size w1.heap.size (hd x0 [d1, d2, d3, d4] 1) _ _ HB4.out ab.out HW4.out.size).mono ?_; rintro e w5 ⟨rfl, hb5, h5⟩))
        have hb6 := e1.out ▸ hb5
        go_roundw
        case rel => exact ⟨2, rfl, by decide, hb6, Below.trans HW4.out h5⟩
        case measure => simp [intOf]
      · have e1 := Lib.hid (hd_succ (x0 := x0) (ds := [d1, d2, d3, d4]) (k := 2) (d := d3) rfl)
        have ix : ∀ w, (Instr.index 62 (.agg #[.int .i64 x1, .int .i64 x2, .int .i64 x3, .int .i64 x4]) (.int .i64 2)).run Tryd.prog w = .ok (.int .i64 x3) w := fun _ => by kernel_rfl
        have ab := Lib.hid (show (hd x0 [d1, d2, d3, d4] 2).size + (⟨#[32]⟩ ++ d3 : ByteArray).size ≤ 1099511627776 by
          simp only [ByteArray.size_append, sz1]
          omega)
        have g1 : ¬ 9223372036854775807 < 1 + d3.size := by omega
        clear ak
        go_wp2_with (first
          | (go_at_call 25; refine (D3.out _ (On.trans HO1.out HW.out)).mono ?_; rintro e w4 ⟨rfl, h4⟩; have HB4 := Lib.hid (Bld.is_on HB.out h4); have HW4 := Lib.hid (On.trans HW.out h4); clear h4)
          | (go_at_call 24; refine (Bld.write_text w1.heap.size w1.heap.size (hd x0 [d1, d2, d3, d4] 2) _ _ HB4.out ab.out HW4.out.size).mono ?_; rintro e w5 ⟨rfl, hb5, h5⟩))
        have hb6 := e1.out ▸ hb5
        go_roundw
        case rel => exact ⟨3, rfl, by decide, hb6, Below.trans HW4.out h5⟩
        case measure => simp [intOf]
      · have e1 := Lib.hid (hd_succ (x0 := x0) (ds := [d1, d2, d3, d4]) (k := 3) (d := d4) rfl)
        have ix : ∀ w, (Instr.index 62 (.agg #[.int .i64 x1, .int .i64 x2, .int .i64 x3, .int .i64 x4]) (.int .i64 3)).run Tryd.prog w = .ok (.int .i64 x4) w := fun _ => by kernel_rfl
        have ab := Lib.hid (show (hd x0 [d1, d2, d3, d4] 3).size + (⟨#[32]⟩ ++ d4 : ByteArray).size ≤ 1099511627776 by
          simp only [ByteArray.size_append, sz1]
          omega)
        have g1 : ¬ 9223372036854775807 < 1 + d4.size := by omega
        clear ak
        go_wp2_with (first
          | (go_at_call 25; refine (D4.out _ (On.trans HO1.out HW.out)).mono ?_; rintro e w4 ⟨rfl, h4⟩; have HB4 := Lib.hid (Bld.is_on HB.out h4); have HW4 := Lib.hid (On.trans HW.out h4); clear h4)
          | (go_at_call 24; refine (Bld.write_text w1.heap.size w1.heap.size (hd x0 [d1, d2, d3, d4] 3) _ _ HB4.out ab.out HW4.out.size).mono ?_; rintro e w5 ⟨rfl, hb5, h5⟩))
        have hb6 := e1.out ▸ hb5
        go_roundw
        case rel => exact ⟨4, rfl, by decide, hb6, Below.trans HW4.out h5⟩
        case measure => simp [intOf]
      · clear HS
        have hg4 := HU.out
        have bsz := fun k hk => bc_size HU.out (hd x0 [d1, d2, d3, d4] 4) k hk
        have HBZ := Lib.hid bsz
        clear bsz hg4
        generalize ht4 : hd x0 [d1, d2, d3, d4] 4 = t4 at *
        clear ht4
        have hnn : ((n : Nat) : Int) = (n : Int) := rfl
        go_wp2_with fail
        go_loopw [6, 35] (fun s i wr => ∃ k : Nat, k ≤ n ∧ i = .int .i64 k ∧ s = .string (sep k) ∧ IsBuilder 57 5 w1.heap.size w1.heap.size (strCells (bc t4 z5 k)) wr ∧ On w1 wr) (fun _ i _ => n - (intOf i).toNat)
        case atStart => exact ⟨0, Nat.zero_le _, rfl, rfl, HB.out, HW.out⟩
        case round =>
          obtain ⟨k, hk, rfl, rfl, hb3, hw3⟩ := hrel
          have HB3 := Lib.hid hb3
          have HW3 := Lib.hid hw3
          have hO3 := On.trans HO1.out hw3
          have hbr := hO3.lts _ hb
          have hgr3 := hw3.lts _ hg1
          have bsz := HBZ.out k hk
          clear hb3 hw3 l0 l1 l2 l3 l4 l5
          by_cases hlt : k < n
          · have hlti : (k : Int) < (n : Int) := by omega
            obtain ⟨⟨u1, u2⟩, u3, u4⟩ := upto_in HU.out hlt
            have c1 : wr.cell? ⟨b, off + k * 2, none⟩ = some (.int .i64 (at0 z5 k)) := (hO3.cell (by exact hb)).trans (HC.out k hlt).1
            have c2 : wr.cell? ⟨b, off + k * 2 + 1, none⟩ = some (.int .i64 (at1 z5 k)) := (hO3.cell (by exact hb)).trans (HC.out k hlt).2
            have E1 := Lib.hid (show bc t4 z5 (k + 1) = bc t4 z5 k ++ (sep k ++ dec (at0 z5 k) ++ ⟨#[47]⟩ ++ dec (at1 z5 k)) from rfl)
            have s5 := sep_size k
            have hs5 : Value.string ⟨#[44]⟩ = .string (sep (k + 1)) := by rw [sep, if_neg (by omega)]
            have HS5 := Lib.hid hs5
            generalize at0 z5 k = x at *
            generalize at1 z5 k = y at *
            have P1 := Lib.hid (show ∀ w1, On w w1 → Calls Tryd.prog 25 #[.int .i64 x] w1 fun e w' => e = .returned (.string (dec x)) ∧ On w1 w' from fun w1 h => Dec.impl_decimal x w1 (by omega) (by omega) (HT.out w1 h))
            have P2 := Lib.hid (show ∀ w1, On w w1 → Calls Tryd.prog 25 #[.int .i64 y] w1 fun e w' => e = .returned (.string (dec y)) ∧ On w1 w' from fun w1 h => Dec.impl_decimal y w1 (by omega) (by omega) (HT.out w1 h))
            have p1 := dec_size x (by omega) (by omega)
            have p2 := dec_size y (by omega) (by omega)
            generalize dec x = f1 at *
            generalize dec y = f2 at *
            generalize sep k = s at *
            have g1 : ¬ 9223372036854775807 < s.size + f1.size := by omega
            have g2 : ¬ 9223372036854775807 < s.size + f1.size + 1 := by omega
            have g3 : ¬ 9223372036854775807 < s.size + f1.size + 1 + f2.size := by omega
            have ab := Lib.hid (show (bc t4 z5 k).size + (s ++ f1 ++ ⟨#[47]⟩ ++ f2 : ByteArray).size ≤ 1099511627776 by
              simp only [ByteArray.size_append, sz1]
              omega)
            have HOW := Lib.hid hO3
            clear hs5 s5 p1 p2 u1 u2 u3 u4 bsz hO3
            go_wp2_with fail
            refine wp_region_on_tail 10 (by kernel_rfl) (by kernel_rfl) ?_
            simp only [List.take_succ_cons, List.take_zero, List.drop_succ_cons, List.drop_zero]
            repeat (refine wpQuiet_step (fun K hK => ?_); go_simp; first | (refine hK _ ?_; clear hK K) | (apply Exists.intro; refine ⟨fun v1 hv1 => ?_, hK _ ?_⟩; (first | with_reducible exact rfl | with_reducible exact ⟨rfl, rfl⟩ | with_reducible exact Calls.on hv1 (P1.out _ (On.trans (On.alloc HOW.out _) hv1)) | with_reducible exact Calls.on hv1 (P2.out _ (On.trans (On.alloc HOW.out _) hv1)) | (obtain ⟨hc, hf⟩ := bcell hv1; go_simp; first | with_reducible exact rfl | with_reducible exact ⟨rfl, rfl⟩ | exact rfl | exact ⟨rfl, rfl⟩)); clear hK K))
            refine wpQuiet_nil ?_
            intro w5 h5
            have hO5 := Lib.hid (show On wr w5 from On.trans (On.alloc (On.refl wr) _) h5)
            have HB5 := Lib.hid (Bld.is_on HB3.out hO5.out)
            have HW5 := Lib.hid (On.trans HW3.out hO5.out)
            clear h5
            go_wp2_with (go_at_call 24; refine (Bld.write_text w1.heap.size w1.heap.size (bc t4 z5 k) _ _ HB5.out ab.out HW5.out.size).mono ?_; rintro e w6 ⟨rfl, hb6, h6⟩)
            have hb7 := E1.out ▸ hb6
            go_roundw
            case rel => exact ⟨k + 1, by omega, by go_num, HS5.out, hb7, Below.trans HW5.out h6⟩
            case measure => simp [intOf]; omega
          · obtain rfl : k = n := by omega
            have hnot : ¬ ((k : Int) < (k : Int)) := by omega
            clear hnn
            go_wp2_with (go_at_call 26; refine (Bld.read w1.heap.size w1.heap.size _ _ HB3.out HW3.out.size).mono ?_; rintro e w6 ⟨rfl, h6⟩)
            go_ret
            exact ⟨ret_str E.out.symm, On.trans HO1.out (Below.trans HW3.out h6)⟩
end Go.Proofs.YtggiilbdlbhpgaaDoor.RTxt
