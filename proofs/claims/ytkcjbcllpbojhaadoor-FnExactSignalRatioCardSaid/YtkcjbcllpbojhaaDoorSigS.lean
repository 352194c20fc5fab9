
/-
  The ratio of a sector to all others that transmit, in the model. Conditions: a row of levels, a channel for each, a table.
-/
import Derived.Test.YtkcjbcllpbojhaaDoorSigC
import Derived.Test.YtkcjbcllpbojhaaDoorSums
import Derived.Test.YtkcjbcllpbojhaaDoorClone
import Derived.Deep.AppendLies
import Derived.Deep.OwnRows
import Derived.Deep.RegionHeld3
import Derived.Deep.RegionLaw
namespace Go.Proofs.YtkcjbcllpbojhaaDoor.Sig
open Go.RowKit
open Plain
open Ints (Ints)

theorem spec_apart (a b : Int) (w : World) (a0 : -1 ≤ a) (a1 : a ≤ 999) (b0 : -1 ≤ b) (b1 : b ≤ 999) :
    Calls Tryd.prog 51 #[.int .i64 a, .int .i64 b] w fun e w' => e = .returned (.int .i64 (gap a b)) ∧ w = w' := by
  have en := Lib.hid (show Turn.gmax (a - b) (b - a) = gap a b by unfold Turn.gmax gap; split <;> split <;> omega)
  go_enter Tryd.func51, Tryd.ntmps51
  go_wp2_with fail
  refine (Sum.spec_max _ _ _).mono ?_
  rintro e w1 ⟨rfl, rfl⟩
  go_wp2_with fail
  go_ret
  exact ⟨ret_int en.out, rfl⟩
set_option maxRecDepth 1000000 in
set_option maxHeartbeats 4000000 in
theorem spec_ratio (ls cs ts : List Int) (n s : Nat) (bl ol pl bc oc pc bt ot pt : Nat) (w : World) (hG : Good ls cs ts n) (hs : s < n) (h0 : 0 ≤ cs.getD s 0)
    (ll : bl < w.heap.size) (lc : bc < w.heap.size)
    (hl : ∀ i, i < n → w.cell? ⟨bl, ol + i, none⟩ = some (.int .i64 (ls.getD i 0))) (hc : ∀ i, i < n → w.cell? ⟨bc, oc + i, none⟩ = some (.int .i64 (cs.getD i 0))) (ht : ∀ i, i < ts.length → w.cell? ⟨bt, ot + i, none⟩ = some (.int .i64 (ts.getD i 0))) (at1 : Option Addr) (hat : 0 < ts.length → at1 = some ⟨bt, ot, none⟩ ∧ bt < w.heap.size) :
    Calls Tryd.prog 30 #[.slice (some ⟨bl, ol, none⟩) n pl, .slice (some ⟨bc, oc, none⟩) n pc, .slice at1 ts.length pt, .int .i64 s] w fun e w' => e = .returned (.int .i64 (ratio ls cs ts s n)) ∧ On w w' := by
  obtain ⟨i0, hi, hz0, hz1, hz2⟩ := info_parts Ints.info
  have hn1 := hG.n1
  have hn0 := hG.n0
  have HL := Lib.hid hl
  have HC := Lib.hid hc
  have HT := Lib.hid ht
  have HAT := Lib.hid hat
  have HG := Lib.hid hG
  have htl := hG.t1
  obtain ⟨m, hm⟩ : ∃ m, m = ts.length := ⟨_, rfl⟩
  have HM := Lib.hid hm
  have hsi : (s : Int) < (n : Int) := by omega
  have hns : (0 : Int) ≤ (s : Int) := by omega
  have H0 := Lib.hid h0
  rw [← hm] at htl ⊢
  clear hl hc ht hat hG hm h0
  go_enter Tryd.func30, Tryd.ntmps30
  go_wp2_with fail
  go_loopw [9, 10] (fun v i wr => ∃ k : Nat, k ≤ n ∧ i = .int .i64 k ∧ wr.ownsRow w.heap.size 2 1 v (others ls cs ts s k).length (Clone.intCells (others ls cs ts s k)) ∧ On w wr) (fun _ i _ => n - (intOf i).toNat)
  case atStart => exact ⟨0, Nat.zero_le _, rfl, lit0 _ _ _ rfl (Nat.le_refl _), (On.refl _).alloc _⟩
  case round =>
    obtain ⟨k, hk, rfl, hown, ho⟩ := hrel
    have HB := Lib.hid ho
    have HOW := Lib.hid hown
    clear hown ho
    by_cases hlt : k < n
    · by_cases hks : k = s
      · subst hks
        have hlti : (k : Int) < (n : Int) := by omega
        have HE := Lib.hid (others_no (ls := ls) (heard_self cs ts k))
        go_wp2_with fail
        go_roundw
        case rel => exact ⟨k + 1, by omega, by go_num, by rw [HE.out]; exact HOW.out, HB.out⟩
        case measure => simp [intOf]; omega
      · have hk2 : (k == s) = false := beq_eq_false_iff_ne.2 hks
        have hk3 : ((k : Int) == (s : Int)) = false := beq_eq_false_iff_ne.2 (by omega)
        have hlti : (k : Int) < (n : Int) := by omega
        obtain ⟨c, hcv⟩ : ∃ c, c = cs.getD k 0 := ⟨_, rfl⟩
        obtain ⟨c2, hcv2⟩ : ∃ c, c = cs.getD s 0 := ⟨_, rfl⟩
        obtain ⟨l, hlv⟩ : ∃ l, l = ls.getD k 0 := ⟨_, rfl⟩
        have c0 : wr.cell? ⟨bc, oc + k, none⟩ = some (.int .i64 c) := by rw [hcv]; exact (HB.out.cell (by exact lc)).trans (HC.out k hlt)
        have c1 : wr.cell? ⟨bc, oc + s, none⟩ = some (.int .i64 c2) := by rw [hcv2]; exact (HB.out.cell (by exact lc)).trans (HC.out s hs)
        have c3 : wr.cell? ⟨bl, ol + k, none⟩ = some (.int .i64 l) := by rw [hlv]; exact (HB.out.cell (by exact ll)).trans (HL.out k hlt)
        have gl := HB.out.lts _ ll
        have gc := HB.out.lts _ lc
        have hcb := HG.out.ch k hlt
        have hcb2 := HG.out.ch s hs
        have hlb := HG.out.lv k hlt
        have hnb := near_bd HG.out hlt hs
        obtain ⟨d, hd⟩ : ∃ d, d = near cs s k := ⟨_, rfl⟩
        have hgd : gap c c2 = (d : Nat) := by rw [hcv, hcv2, hd]; exact gap_near
        rw [← hcv] at hcb
        rw [← hcv2] at hcb2
        rw [← hlv] at hlb
        rw [← hd] at hnb
        by_cases hneg : c < 0
        · have HE := Lib.hid (others_no (ls := ls) (heard_neg (ts := ts) (s := s) (k := k) (by rw [← hcv]; exact hneg)))
          clear hcv hcv2 hlv hd hgd
          go_wp2_with fail
          go_roundw
          case rel => exact ⟨k + 1, by omega, by go_num, by rw [HE.out]; exact HOW.out, HB.out⟩
          case measure => simp [intOf]; omega
        · have HAP := Lib.hid (fun w => spec_apart c c2 w hcb.1 hcb.2 hcb2.1 hcb2.2)
          rw [hgd] at HAP
          have hnd : decide (c < 0) = false := decide_eq_false hneg
          by_cases hfar : d < m
          · have hfari : (d : Int) < (m : Int) := by omega
            have hd0 : (0 : Int) ≤ (d : Int) := by omega
            obtain ⟨rfl, hbt⟩ := HAT.out (by rw [← HM.out]; omega)
            obtain ⟨t, htv⟩ : ∃ t, t = ts.getD d 0 := ⟨_, rfl⟩
            have htb := HG.out.tb d (by rw [← HM.out]; exact hfar)
            rw [← htv] at htb
            have HE := Lib.hid (others_yes (ls := ls) (heard_yes (ts := ts) hks (show 0 ≤ cs.getD k 0 by rw [← hcv]; omega) (by rw [← hd, ← HM.out]; exact hfar)))
            obtain ⟨x, hx⟩ : ∃ x, x = Turn.gmax (-300000) (l - t) := ⟨_, rfl⟩
            have HX := Lib.hid (show item ls cs ts s k = x by rw [hx, hlv, htv, hd]; rfl)
            have HMX := Lib.hid (fun w => show Calls Tryd.prog 52 #[.int .i64 (-300000), .int .i64 (l - t)] w fun e w' => e = .returned (.int .i64 x) ∧ w = w' by rw [hx]; exact Sum.spec_max _ _ w)
            have c4 : wr.cell? ⟨bt, ot + d, none⟩ = some (.int .i64 t) := by rw [htv]; exact (HB.out.cell (by exact hbt)).trans (HT.out d (by rw [← HM.out]; exact hfar))
            have gt := HB.out.lts _ hbt
            have wlt : IntKind.i64.wrap (l - t) = l - t := IntWalk.i64_in _ (by omega)
            have hol := others_len ls cs ts s k
            have hm63 : (others ls cs ts s k).length + 1 ≤ maxLen := by unfold maxLen; omega
            have hm64 : ((others ls cs ts s k).length + 1) * 8 ≤ 140737488355328 := by omega
            clear hcv hcv2 hlv hd hgd htv hx
            go_wp2_with fail
            refine wp_region_onh (by kernel_rfl) (by kernel_rfl) ?_
            repeat (refine rest_step (fun K hK => ?_); go_simp; first | (refine hK _ ?_; clear hK K) | (apply Exists.intro; refine ⟨fun v1 hv1 => ?_, hK _ ?_⟩; (first | with_reducible exact rfl | with_reducible exact ⟨rfl, rfl⟩ | with_reducible exact Calls.on_same hv1 (HAP.out _) | (obtain ⟨hc, hf⟩ := bcell hv1; go_simp; first | with_reducible exact rfl | with_reducible exact ⟨rfl, rfl⟩ | exact rfl | exact ⟨rfl, rfl⟩)); clear hK K))
            refine rest_nil ?_
            intro w5 h5
            have HB5 := Lib.hid (HB.out.trans h5)
            have HOW5 := Lib.hid (own_on HOW.out h5)
            have HS5 := Lib.hid (HB.out.trans h5).size
            have e3 : w5.cell? ⟨bl, ol + k, none⟩ = some (.int .i64 l) := (h5.cell (by exact gl)).trans c3
            have e4 : w5.cell? ⟨bt, ot + d, none⟩ = some (.int .i64 t) := (h5.cell (by exact gt)).trans c4
            have gl5 := h5.lts _ gl
            have gt5 := h5.lts _ gt
            have CA := Lib.hid (show w.cell? ⟨bl, ol + k, none⟩ = some (.int .i64 l) from (HB5.out.cell (by exact ll)).symm.trans e3)
            have CB := Lib.hid (show w.cell? ⟨bt, ot + d, none⟩ = some (.int .i64 t) from (HB5.out.cell (by exact hbt)).symm.trans e4)
            clear c0 c1 c3 c4 h5
            go_wp2_with fail
            go_region_held3 (fun w' => On w w' ∧ w'.cell? ⟨bl, ol + k, none⟩ = some (.int .i64 l) ∧ w'.cell? ⟨bt, ot + d, none⟩ = some (.int .i64 t))
              ((refine held2 CA.out CB.out ?_; first | exact HB5.out.drew | exact HB5.out | (obtain ⟨hOW, _⟩ := ‹On w _ ∧ _›; first | exact hOW | exact On.alloc hOW _ | (refine Below.grown hOW hgrow ?_ (fun q hq => (HOW5.out.lt q hq).1); first | exact HS5.out | (have := HS5.out; simp; omega)))))
              (first
                | (go_at_call 52; with_reducible refine (HMX.out _).mono ?_; rintro e w' ⟨rfl, rfl⟩)
                | ((refine step_append_lies _ (by rfl) _ _ _ (by rfl) w.heap.size 2 i0 _ 1 8 Tryd.underlying27 hi hz0 hz1 hz2 rfl (by decide) _ (others ls cs ts s k).length (Clone.intCells (others ls cs ts s k)) (by rfl) (by first | exact (HOW5.out.alloc _).drew | exact HOW5.out.drew.alloc _ | exact HOW5.out.alloc _) ⟨w5.heap.size, 0, none⟩ 1 1 [.int .i64 x] (by rfl) (by rfl) (World.news_of_block (cs := #[.int .i64 x]) (t := 2) (fr := (0, 0)) (heap_alloc_new w5 _)) (by simp [Value.oneCell']) Nat.one_pos hm63 hm64 ?_ (w5.heap.size + 1) ?_ ?_; (focus (have := HS5.out; simp; omega)); (focus simp); intro gg cp w9 hown9 hgrow hat9 hlt9)))
            all_goals
              obtain ⟨hB9, _⟩ := ‹On w _ ∧ _›
              have HB9 := Lib.hid hB9
              have hd9 : Clone.intCells (others ls cs ts s k) ++ [Value.int .i64 x] = Clone.intCells (others ls cs ts s (k + 1)) := by rw [HE.out, HX.out]; unfold Clone.intCells; rw [List.map_append]; rfl
              have hl9 : (others ls cs ts s k).length + 1 = (others ls cs ts s (k + 1)).length := by rw [HE.out, List.length_append]; rfl
              rw [hd9, hl9] at hown9
              have HO9 := Lib.hid hown9
              have hl9i : ((others ls cs ts s k).length : Int) + 1 = ((others ls cs ts s (k + 1)).length : Nat) := by omega
              have HL9 := Lib.hid hl9
              clear hown9 hgrow hat9 hB9 hd9 hl9 hl9i
              go_wp2
              go_roundw
              case rel => first | exact ⟨k + 1, by omega, by go_num, by rw [← HL9.out] at HO9 ⊢; exact HO9.out, HB9.out⟩ | ((repeat apply Exists.intro); exact ⟨⟨k + 1, by omega, by go_num, by rw [← HL9.out] at HO9 ⊢; exact HO9.out, HB9.out⟩, rfl⟩)
              case measure => simp [intOf]; omega
          · have hfari : ¬ (d : Int) < (m : Int) := by omega
            have hfard : decide ((d : Int) < (m : Int)) = false := decide_eq_false hfari
            have HE := Lib.hid (others_no (ls := ls) (heard_far (cs := cs) (ts := ts) (s := s) (k := k) (by rw [← hd, ← HM.out]; exact hfar)))
            clear hcv hcv2 hlv hd hgd
            go_wp2_with fail
            refine wp_region_onh (by kernel_rfl) (by kernel_rfl) ?_
            repeat (refine rest_step (fun K hK => ?_); go_simp; first | (refine hK _ ?_; clear hK K) | (apply Exists.intro; refine ⟨fun v1 hv1 => ?_, hK _ ?_⟩; (first | with_reducible exact rfl | with_reducible exact ⟨rfl, rfl⟩ | with_reducible exact Calls.on_same hv1 (HAP.out _) | (obtain ⟨hc, hf⟩ := bcell hv1; go_simp; first | with_reducible exact rfl | with_reducible exact ⟨rfl, rfl⟩ | exact rfl | exact ⟨rfl, rfl⟩)); clear hK K))
            refine rest_nil ?_
            intro w5 h5
            have HB5 := Lib.hid (HB.out.trans h5)
            have HOW5 := Lib.hid (own_on HOW.out h5)
            clear h5
            go_wp2_with fail
            go_roundw
            case rel => exact ⟨k + 1, by omega, by go_num, by rw [HE.out]; exact HOW5.out, HB5.out⟩
            case measure => simp [intOf]; omega
    · obtain rfl : k = n := by omega
      obtain ⟨av, cv, rfl, hv⟩ := Clone.own_of_row HOW.out
      have HV := Lib.hid hv.ints
      have ll5 := HB.out.lts _ ll
      obtain ⟨l, hlv⟩ : ∃ l, l = ls.getD s 0 := ⟨_, rfl⟩
      have c3 : wr.cell? ⟨bl, ol + s, none⟩ = some (.int .i64 l) := by rw [hlv]; exact (HB.out.cell (by exact ll)).trans (HL.out s hs)
      have hlb := HG.out.lv s hs
      rw [← hlv] at hlb
      by_cases hz : (others ls cs ts s k).length = 0
      · have en := Lib.hid (ratio_none hz)
        have hz2 : ((others ls cs ts s k).length : Int) = 0 := by omega
        rw [hz]
        clear hv hz hz2 hlv
        go_wp2_with fail
        go_ret
        exact ⟨ret_int en.out.symm, HB.out⟩
      · have hcd := others_code (s := s) HG.out (by omega)
        have en := Lib.hid (show ratio ls cs ts s k = Turn.gmax (-200000) (Turn.smin 200000 (l - Sum.sumL (others ls cs ts s k))) by rw [hlv]; exact ratio_some hz)
        obtain ⟨sb0, sb1⟩ := Sum.sumL_bd hcd
        have HCD := Lib.hid hcd
        have HSL := Lib.hid (fun w' (ho : On wr w') => show Calls Tryd.prog 38 #[.slice av (others ls cs ts s k).length cv] w' (fun e w2 => e = .returned (.int .i64 (Sum.sumL (others ls cs ts s k))) ∧ w' = w2) from by
          obtain ⟨a9, c9, h9, hc9⟩ := HV.out
          injection h9 with h91 h92 h93
          subst h91
          obtain ⟨b9, o9, rfl, hb9, hcell9⟩ := hc9 (by omega)
          exact Sum.spec_sumL b9 o9 cv _ w' HCD.out (fun i hi => (ho.cell (by exact hb9)).trans (hcell9 i hi)))
        obtain ⟨q, hq⟩ : ∃ q, q = (others ls cs ts s k).length := ⟨_, rfl⟩
        obtain ⟨S, hS⟩ : ∃ S, S = Sum.sumL (others ls cs ts s k) := ⟨_, rfl⟩
        rw [← hq] at hz HSL ⊢
        rw [← hS] at HSL en sb0 sb1
        have hz2 : (q == 0) = false := beq_eq_false_iff_ne.2 hz
        have hz3 : ((q : Int) == 0) = false := beq_eq_false_iff_ne.2 (by omega)
        have wls : IntKind.i64.wrap (l - S) = l - S := IntWalk.i64_in _ (by omega)
        clear hv hcd hq hS hlv
        go_wp2_with fail
        refine wp_region_onh (by kernel_rfl) (by kernel_rfl) ?_
        repeat (refine rest_step (fun K hK => ?_); go_simp; first | (refine hK _ ?_; clear hK K) | (apply Exists.intro; refine ⟨fun v1 hv1 => ?_, hK _ ?_⟩; (first | with_reducible exact rfl | with_reducible exact ⟨rfl, rfl⟩ | with_reducible exact Calls.on_same hv1 (HSL.out _ hv1) | with_reducible exact Calls.on_same hv1 (Turn.spec_min _ _ _) | with_reducible exact Calls.on_same hv1 (Sum.spec_max _ _ _) | (obtain ⟨hc, hf⟩ := bcell hv1; go_simp; first | with_reducible exact rfl | with_reducible exact ⟨rfl, rfl⟩ | exact rfl | exact ⟨rfl, rfl⟩)); clear hK K))
        refine rest_nil ?_
        intro w5 h5
        go_wp2_with fail
        go_ret
        exact ⟨ret_int en.out.symm, HB.out.trans h5⟩
end Go.Proofs.YtkcjbcllpbojhaaDoor.Sig
