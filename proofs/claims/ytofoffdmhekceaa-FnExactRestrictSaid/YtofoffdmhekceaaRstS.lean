
/-
  A problem with fewer channels of an item, in the model. Condition: at most 1048576 lists of at most 1048576 numbers.
-/
import Derived.Test.YtofoffdmhekceaaRst
namespace Go.Proofs.Ytofoffdmhekceaa.Rst
open Go.RowKit
open Plain
open Ints (Ints Own)
open Prb (T)
open Con
open Asg (hasB of_dom)
open Del (kept)
open Mats (OwnX Lay Val block_lt)
open Clone (intCells own_of_row)

theorem cells_snoc (zs : List Int) (x : Int) : intCells zs ++ [.int .i64 x] = intCells (zs ++ [x]) := by unfold intCells; rw [List.map_append]; rfl
theorem ret_rst {a0 a1 : Option Addr} {n0 n1 m0 m1 c0 c1 : Nat} {x y : Int} (h0 : n0 = m0) (h1 : n1 = m1) (h : x = y) :
    Ending.returned (.tuple #[.agg #[.slice a0 n0 c0, .slice a1 n1 c1], .int .i64 x]) = .returned (.tuple #[.agg #[.slice a0 m0 c0, .slice a1 m1 c1], .int .i64 y]) := by rw [h0, h1, h]
theorem is_empty (w : World) : Prb.Is w (.agg #[.slice none 0 0, .slice none 0 0]) ⟨[], []⟩ := ⟨_, _, rfl, Mats.Rows.empty _ _ _, Mats.Rows.empty _ _ _⟩
theorem ints_on {w w' : World} {v : Value} {z : List Int} (h : Ints w v z) (ho : On w w') : Ints w' v z := h.below ho
set_option maxRecDepth 1000000 in
set_option maxHeartbeats 16000000 in
theorem spec_Restrict (u : Value) (N : T) (x : Int) (v : Value) (ch : List Int) (w : World) (hs : N.Small 1048576) (hz : ch.length ≤ 1048576) (h : Prb.Is w u N) (hl : Ints w v ch) :
    Calls Try.prog 30 #[u, .int .i64 x, v] w fun e w' => ∃ a0 c0 a1 c1, e = .returned (.tuple #[.agg #[.slice a0 (rstV N x ch).f0.length c0, .slice a1 (rstV N x ch).f1.length c1], .int .i64 (rstC N x ch)]) ∧
      Prb.Is w' (.agg #[.slice a0 (rstV N x ch).f0.length c0, .slice a1 (rstV N x ch).f1.length c1]) (rstV N x ch) ∧ On w w' := by
  obtain ⟨a0, a1, c0, c1, rfl, r0, r1⟩ := Is.shape h
  obtain ⟨n0, hn0⟩ : ∃ n, n = N.f0.length := ⟨_, rfl⟩
  obtain ⟨n1, hn1⟩ : ∃ n, n = N.f1.length := ⟨_, rfl⟩
  obtain ⟨w0, hW0⟩ : ∃ W, W = (w.alloc (.cells #[.slice a0 n0 c0, .slice a1 n1 c1] 27)).alloc (.cells #[.slice none 0 0, .slice none 0 0] 27) := ⟨_, rfl⟩
  have HO := Lib.hid (show On w w0 by rw [hW0]; exact On.alloc (On.alloc (On.refl w) _) _)
  have HE := Lib.hid (show Ent w.heap.size (w.heap.size + 1) (.slice a0 n0 c0) (.slice a1 n1 c1) w0 by rw [hW0]; constructor <;> simp [go_sem] <;> omega)
  have HA := Lib.hid (show At w0 w.heap.size N a0 a1 c0 c1 from ⟨HE.out.lg, by rw [HE.out.g0, hn0], by rw [HE.out.g1, hn1], r0.below HO.out, r1.below HO.out⟩)
  have HV := Lib.hid (ints_on hl HO.out)
  have HS := Lib.hid (spec_ok w.heap.size N a0 a1 c0 c1 w0 hs HA.out)
  have HSM := Lib.hid hs
  have HN0 := Lib.hid hn0
  have HN1 := Lib.hid hn1
  have HZ := Lib.hid hz
  obtain ⟨i0, hi, hz0, hz1, hz2⟩ := info_parts Ints.info
  have HLS := Lib.hid hl
  obtain ⟨ac, cc, hv, -⟩ := hl
  obtain ⟨nc, hnc⟩ : ∃ n, n = ch.length := ⟨_, rfl⟩
  have HNC := Lib.hid hnc
  rw [← hnc] at hv
  subst hv
  have hnc2 : nc ≤ 1048576 := by rw [hnc]; exact hz
  rw [← hn0, ← hn1]
  have HW := Lib.hid hW0
  clear r0 r1 hs h hn0 hn1 hz hnc hW0
  cases hok : okB N with
  | false =>
    rw [hok] at HS
    have en := Lib.hid (rst_ok (x := x) (ch := ch) hok)
    clear hok
    go_enter Try.func30, Try.ntmps30
    go_wp2_with fail
    rw [← HW.out]
    refine HS.out.mono ?_
    rintro e w1 ⟨rfl, g1⟩
    obtain ⟨l1, l2, k1, k2, k3, k4, k5, k6⟩ := HE.out.on g1
    have HG := Lib.hid g1
    clear g1
    go_wp2_with fail
    refine bodyPost_ret (v := .tuple #[.agg #[.slice none 0 0, .slice none 0 0], .int .i64 1]) (by simp [results, Try.results30, go_sem, k3, k4]) rfl ⟨none, 0, none, 0, ret_rst (by rw [en.out.1]; rfl) (by rw [en.out.1]; rfl) en.out.2.symm, by rw [en.out.1]; exact is_empty _, ?_⟩
    exact On.setCell (On.setCell (HO.out.trans HG.out) (by simp) _) (by simp) _
  | true =>
    rw [hok] at HS
    have HK := Lib.hid (ok_of hok)
    cases hit : itemB N x with
    | false =>
      have en := Lib.hid (rst_item (ch := ch) hok hit)
      have HIT := Lib.hid hit
      clear hok hit
      go_enter Try.func30, Try.ntmps30
      go_wp2_with fail
      rw [← HW.out]
      refine HS.out.mono ?_
      rintro e w1 ⟨rfl, g1⟩
      have HG := Lib.hid g1
      clear g1
      go_wp2_with fail
      refine (spec_item _ N _ _ _ _ _ _ HSM.out.1.1 (HA.out.on HG.out)).mono ?_
      rintro e w2 ⟨rfl, rfl⟩
      rw [HIT.out]
      obtain ⟨l1, l2, k1, k2, k3, k4, k5, k6⟩ := HE.out.on HG.out
      go_wp2_with fail
      refine bodyPost_ret (v := .tuple #[.agg #[.slice none 0 0, .slice none 0 0], .int .i64 2]) (by simp [results, Try.results30, go_sem, k3, k4]) rfl ⟨none, 0, none, 0, ret_rst (by rw [en.out.1]; rfl) (by rw [en.out.1]; rfl) en.out.2.symm, by rw [en.out.1]; exact is_empty _, ?_⟩
      exact On.setCell (On.setCell (HO.out.trans HG.out) (by simp) _) (by simp) _
    | true =>
      have HIT := Lib.hid hit
      have HOK := Lib.hid hok
      obtain ⟨i, hxi, hlt⟩ := of_item hit
      subst hxi
      have h24 := HK.out.n2
      have hin : i < n0 := by rw [HN0.out]; exact hlt
      have HI := Lib.hid hlt
      obtain ⟨hd1, -, -⟩ := of_dom (HK.out.dom i hlt)
      obtain ⟨z, hz⟩ : ∃ z, z = N.f0.getD i [] := ⟨_, rfl⟩
      have HZZ := Lib.hid hz
      rw [← hz] at hd1
      obtain ⟨l, hll⟩ : ∃ l, l = z.length := ⟨_, rfl⟩
      have HLL := Lib.hid hll
      rw [← hll] at hd1
      have n24 : n0 ≤ 24 := by rw [HN0.out]; exact h24
      obtain ⟨b0, o0, rfl, hb0, hrow⟩ := lists_at HA.out.r0 (by omega)
      obtain ⟨dz, ez, hu, hiz⟩ := hrow i hlt
      obtain ⟨dz', ez', hvz, hcz⟩ := hiz
      cases hvz
      rw [← hz, ← hll] at hu hcz
      obtain ⟨bz, oz, rfl, hbz, hcellz⟩ := hcz (by omega)
      have HCZ := Lib.hid hcellz
      have HU := Lib.hid hu
      clear hok hit hlt hz h24 hll hrow hcz hcellz hu
      go_enter Try.func30, Try.ntmps30
      go_wp2_with fail
      rw [← HW.out]
      refine HS.out.mono ?_
      rintro e w1 ⟨rfl, g1⟩
      have HG := Lib.hid g1
      clear g1
      go_wp2_with fail
      refine (spec_item _ N _ _ _ _ _ _ HSM.out.1.1 (HA.out.on HG.out)).mono ?_
      rintro e w2 ⟨rfl, rfl⟩
      rw [HIT.out]
      go_wp2_with fail
      refine (spec_own _ N _ _ _ _ _ HK.out (HA.out.on HG.out)).mono ?_
      rintro e w2 ⟨x0, d0, x1, d1, B0, E0, B1, E1, rfl, ho0, ho1, hap, hB0, hB1, he0, he1, hfz, g2⟩
      rw [← HN0.out] at ho0 ⊢
      rw [← HN1.out] at ho1 ⊢
      have HX0 := Lib.hid ho0
      have HX1 := Lib.hid ho1
      have HAP := Lib.hid hap
      have HFZ := Lib.hid hfz
      have HG2 := Lib.hid (HG.out.trans g2)
      obtain ⟨l1, l2, k1, k2, k3, k4, k5, k6⟩ := HE.out.on HG2.out
      have hsz := HG.out.size
      clear ho0 ho1 hap hfz g2
      go_wp2_with fail
      generalize hW3 : w2.alloc (.cells #[.slice x0 n0 d0, .slice x1 n1 d1] 27) = w3
      have H3 := Lib.hid (show On w2 w3 by rw [← hW3]; exact On.alloc (On.refl _) _)
      have X8 := Lib.hid (show w3.cell? ⟨w2.heap.size, 0, none⟩ = some (.slice x0 n0 d0) ∧ w3.cell? ⟨w2.heap.size, 1, none⟩ = some (.slice x1 n1 d1) by rw [← hW3]; exact ⟨by simp [go_sem], by simp [go_sem]⟩)
      have hs3 : w3.heap.size = w2.heap.size + 1 := by rw [← hW3]; simp
      have HS3 := Lib.hid hs3
      have HG3 := Lib.hid (HG2.out.trans H3.out)
      have h8 : w2.heap.size < w3.heap.size := by omega
      clear hW3 l1 l2 k1 k2 k3 k4 k5 k6 hs3
      go_loopw [9, 10] (fun v i wr => ∃ k : Nat, k ≤ l ∧ i = .int .i64 k ∧ wr.ownsRow (w2.heap.size + 1) 2 1 v (kept (hasB ch) z k).length (intCells (kept (hasB ch) z k)) ∧ On w3 wr) (fun _ i _ => l - (intOf i).toNat)
      case atStart => exact ⟨0, Nat.zero_le _, rfl, by have := World.ownsRow_lit w3 (e := 2) (size := 1) #[] 0 (Nat.le_refl _) (by unfold maxLen; omega) rfl; rw [HS3.out] at this; exact this, On.alloc (On.refl _) _⟩
      case round =>
        obtain ⟨k, hk, rfl, hown, ho⟩ := hrel
        have XO := Lib.hid hown
        have HO4 := Lib.hid ho
        have hoo := HG3.out.trans ho
        obtain ⟨l1, l2, k1, k2, k3, k4, k5, k6⟩ := HE.out.on hoo
        have q1 : wr.cell? ⟨b0, o0 + i, none⟩ = some (.slice (some ⟨bz, oz, none⟩) l ez) := (hoo.cell (by exact hb0)).trans HU.out
        have s1 := hoo.lts _ hb0
        have s2 := hoo.lts _ hbz
        clear hown
        by_cases hlt2 : k < l
        · have hlti : (k : Int) < (l : Int) := by omega
          obtain ⟨y, hy⟩ : ∃ y, y = z.getD k 0 := ⟨_, rfl⟩
          have q2 : wr.cell? ⟨bz, oz + k, none⟩ = some (.int .i64 y) := (hoo.cell (by exact hbz)).trans (by rw [hy]; exact HCZ.out k hlt2)
          have HH := Lib.hid (Asg.spec_has _ ch y wr HZ.out (ints_on HV.out hoo))
          obtain ⟨q, hq⟩ : ∃ q, q = hasB ch y := ⟨_, rfl⟩
          have HQ := Lib.hid (show hasB ch (z.getD k 0) = q by rw [hq, hy])
          have HY := Lib.hid hy
          rw [← hq] at HH
          have hln := Del.kept_len (hasB ch) z k
          have hsz4 := ho.size
          clear hq hy hoo ho
          cases q with
          | false =>
            have EK := Lib.hid (Del.kept_no HQ.out)
            go_wp2_with fail
            refine HH.out.mono ?_
            rintro e w4 ⟨rfl, rfl⟩
            go_wp2_with fail
            go_roundw
            case rel => exact ⟨k + 1, by omega, by go_num, by rw [EK.out]; exact XO.out, HO4.out⟩
            case measure => simp [intOf]; omega
          | true =>
            have EK := Lib.hid (Del.kept_yes HQ.out)
            go_wp2_with fail
            refine HH.out.mono ?_
            rintro e w4 ⟨rfl, rfl⟩
            go_wp2_with (at_builtin; refine wpList_append_own _ rfl (.tmp 40) (.tmp 49) 32 rfl (w2.heap.size + 1) 2 i0 (.int .i64 0) 1 8 Try.underlying32 hi hz0 hz1 hz2 rfl (by decide) _ (kept (hasB ch) z k).length _ rfl (XO.out.alloc _) ⟨wr.heap.size, 0, none⟩ 1 1 [.int .i64 y] rfl rfl ?c1 ?c2 ?c3 ?c4 ?c5 ?_)
            case c1 => exact cell_one_new _ _ _
            case c2 => intro u hu; simp at hu; subst hu; rfl
            case c3 => unfold maxLen; omega
            case c4 => omega
            case c5 => have := HS3.out; simp; omega
            intro v' w5 hown' hgrow _
            have el : (kept (hasB ch) z k).length + 1 = (kept (hasB ch) z (k + 1)).length := by rw [EK.out, List.length_append]; rfl
            rw [cells_snoc, HY.out, ← EK.out, el] at hown'
            have HW5 := Lib.hid hown'
            have HO5 := Lib.hid (show On w3 w5 from Below.grown (On.alloc HO4.out _) hgrow (by simp; omega) (fun q hq => by rw [HS3.out]; exact (XO.out.lt q hq).1))
            clear hown' hgrow el
            go_wp2
            go_roundw
            case rel => first | exact ⟨k + 1, by omega, by go_num, HW5.out, HO5.out⟩ | ((repeat apply Exists.intro); exact ⟨⟨k + 1, by omega, by go_num, HW5.out, HO5.out⟩, rfl⟩)
            case measure => simp [intOf]; omega
        · obtain rfl : k = l := by omega
          obtain ⟨a9, c9, rfl, hown9⟩ := own_of_row XO.out
          have H9 := Lib.hid hown9
          have EL := Lib.hid (show kept (hasB ch) z k = left N i ch by unfold left; rw [← HZZ.out, ← HLL.out])
          obtain ⟨m, hm⟩ : ∃ m, m = (kept (hasB ch) z k).length := ⟨_, rfl⟩
          have HM := Lib.hid hm
          rw [← hm]
          clear hown9 hm XO ho
          by_cases hm0 : m = 0
          · have en := Lib.hid (rst_none HOK.out HIT.out (show left N i ch = [] by rw [← EL.out]; exact List.eq_nil_of_length_eq_zero (by rw [← HM.out]; exact hm0)))
            subst hm0
            clear hoo
            go_wp2_with fail
            refine bodyPost_ret (v := .tuple #[.agg #[.slice none 0 0, .slice none 0 0], .int .i64 6]) (by simp [results, Try.results30, go_sem, k3, k4]) rfl ⟨none, 0, none, 0, ret_rst (by rw [en.out.1]; rfl) (by rw [en.out.1]; rfl) en.out.2.symm, by rw [en.out.1]; exact is_empty _, ?_⟩
            exact On.setCell (On.setCell (HO.out.trans (HG3.out.trans HO4.out)) (by simp) _) (by simp) _
          · have en := Lib.hid (rst_yes HOK.out HIT.out (show left N i ch ≠ [] by rw [← EL.out]; intro h; rw [h] at HM; exact hm0 HM.out))
            have z1 : ((m : Int) == 0) = false := beq_eq_false_iff_ne.2 (by omega)
            have z2 : (m == 0) = false := beq_eq_false_iff_ne.2 hm0
            obtain ⟨a', cap', hv', hc'⟩ := HX0.out
            injection hv' with hv1 hv2 hv3
            subst hv1 hv3
            clear hv2
            obtain ⟨b, off, f, o, ee, D, rfl, hlay, hval⟩ := hc' (by rw [← HN0.out]; omega)
            have g2r := H3.out.trans HO4.out
            have hE := hlay.le
            have hB := hlay.ge
            have hne1 : ¬ b = w2.heap.size := by omega
            have hne2 : ¬ b = w.heap.size + 1 := by have := HG.out.size; have := HE.out.lr; omega
            have hne3 : ¬ w2.heap.size = b := by omega
            have hne4 : ¬ w.heap.size + 1 = b := by omega
            have c8 : wr.cell? ⟨w2.heap.size, 0, none⟩ = some (.slice (some ⟨b, off, none⟩) n0 d0) := (HO4.out.cell (by exact h8)).trans X8.out.1
            have c9' : wr.cell? ⟨w2.heap.size, 1, none⟩ = some (.slice x1 n1 d1) := (HO4.out.cell (by exact h8)).trans X8.out.2
            have hl2 := hlay.out i (by exact HI.out)
            have ci : wr.cell? ⟨b, off + i, none⟩ = some (.slice (D i) (N.f0.getD i []).length (ee i)) := (g2r.cell (by exact hlay.lt)).trans hl2
            have fi : wr.frozen? ⟨b, off + i, none⟩ = false := (g2r.frozen (by exact hlay.lt)).trans (HFZ.out b rfl _)
            have sb := g2r.lts _ hlay.lt
            have s8 := HO4.out.lts _ h8
            have hii : (i : Int) < (n0 : Int) := by omega
            obtain ⟨a'', cap'', hv'', hc''⟩ := H9.out
            injection hv'' with hv1 hv2 hv3
            subst hv1 hv3
            clear hv2
            rw [← HM.out] at hc''
            obtain ⟨bl, ol, rfl, hbl1, hbl2, hbl3, hbl4⟩ := hc'' (by omega)
            have HP := Lib.hid (own_put (c := d0) (ei := c9) (z := kept (hasB ch) z k) (fi := bl) (oi := ol) (E' := wr.heap.size) (hlay.on g2r) (fun j hj _ => fun q hq => (g2r.cell (by exact (hlay.adr j hj (by omega)).2.2.2.1)).trans (hval j hj q hq)) HI.out (by have := g2r.size; omega) (by omega) hbl2 hbl2 (by omega)
              (fun j hj _ h0 => by have := (hlay.adr j hj h0).2.2.1; omega) (fun q hq => hbl3 q (by rw [HM.out]; exact hq)) (fun q hq => hbl4 q (by rw [HM.out]; exact hq)))
            have HX1r := Lib.hid (HX1.out.below g2r)
            rw [← HM.out, ← HN0.out, EL.out] at HP
            have HQ := Lib.hid (show b < B1 ∨ E1 ≤ b from by rcases HAP.out with q | q <;> omega)
            have hr0 : w.heap.size + 1 < B0 := by have := HG.out.size; have := HE.out.lr; omega
            have hr1 : w.heap.size + 1 < B1 := by have := HG.out.size; have := HE.out.lr; omega
            clear hc'' hbl3 hbl4 hlay hval hc' hl2 hoo g2r
            go_wp2_with fail
            refine bodyPost_ret (v := .tuple #[.agg #[.slice (some ⟨b, off, none⟩) n0 d0, .slice x1 n1 d1], .int .i64 0]) (by simp [results, Try.results30, go_sem, k3, k4]) rfl ⟨_, _, _, _, ret_rst (by rw [en.out.1, HN0.out]; simp) (by rw [en.out.1, HN1.out]) en.out.2.symm, ?_, ?_⟩
            · rw [en.out.1]
              have e0 : (N.f0.set i (left N i ch)).length = n0 := by rw [List.length_set, HN0.out]
              have e1 : N.f1.length = n1 := HN1.out.symm
              show Prb.Is _ (.agg #[.slice _ (N.f0.set i (left N i ch)).length _, .slice _ N.f1.length _]) _
              rw [e0, e1]
              exact ⟨_, _, rfl, (own_off (own_off HP.out (.inl (by show w.heap.size + 1 < B0; omega)) _) (.inl (by show w.heap.size + 1 < B0; omega)) _).rows, (own_off (own_off (own_off HX1r.out HQ.out _) (.inl (by show w.heap.size + 1 < B1; omega)) _) (.inl (by show w.heap.size + 1 < B1; omega)) _).rows⟩
            · exact On.setCell (On.setCell (On.setCell (HO.out.trans (HG3.out.trans HO4.out)) (by show w.heap.size ≤ b; omega) _) (by show w.heap.size ≤ w.heap.size + 1; omega) _) (by show w.heap.size ≤ w.heap.size + 1; omega) _
end Go.Proofs.Ytofoffdmhekceaa.Rst
