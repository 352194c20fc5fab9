
/-
  SignalRatio, in the model and in the program. Conditions: lists of at most 1048576 numbers; the program's variable of spans holds what its text lays.
-/
import Derived.Test.YtkcjbcllpbojhaaDoorSigS
import Derived.Test.YtkcjbcllpbojhaaDoorSigI
import Derived.Test.YtkcjbcllpbojhaaDoorVRows
namespace Go.Proofs.YtkcjbcllpbojhaaDoor.Sig
open Go.RowKit
open Plain
open Ints (Ints)

theorem of_row {ls : List Int} (h : VRows.rowB ls = true) : 1 ≤ ls.length ∧ ls.length ≤ 24 := by
  unfold VRows.rowB at h
  simp only [Bool.and_eq_true] at h
  have := of_inB h.1
  omega
theorem climb_ge {ts : List Int} (h : Msk.Climb 0 120000 ts) : ∀ k, k < ts.length → 0 ≤ ts.getD k 0
  | 0, _ => by rw [h.1]; omega
  | k + 1, hk => by
    have := climb_ge h k (by omega)
    have := h.2.1 k hk
    omega
theorem good_of {ls cs ts : List Int} (h1 : VRows.rowB ls = true) (h2 : chB cs ls.length = true) (h3 : Table.okT ts = true) : Good ls cs ts ls.length := by
  obtain ⟨n0, n1⟩ := of_row h1
  obtain ⟨t, tc⟩ := Table.of_okT h3
  unfold chB at h2
  simp only [Bool.and_eq_true] at h2
  have hcl : cs.length = ls.length := of_decide_eq_true h2.1
  have hch := allTo_of h2.2
  unfold VRows.rowB at h1
  simp only [Bool.and_eq_true] at h1
  have hlv := allTo_of h1.2
  exact ⟨n0, n1, rfl, hcl, fun k hk => of_inB (hlv k hk), fun k hk => of_inB (hch k (by rw [hcl]; exact hk)), t.2, fun k hk => ⟨climb_ge tc k hk, tc.2.2 k hk⟩⟩
def okB (ls cs ts : List Int) : Bool := VRows.rowB ls && (chB cs ls.length && Table.okT ts)
noncomputable def sigV (ls cs ts : List Int) (x : Int) : Int := if okB ls cs ts = true ∧ inB x 0 ((ls.length : Int) - 1) = true ∧ ¬ cs.getD x.toNat 0 < 0 then ratio ls cs ts x.toNat ls.length else 0
def sigC (ls cs ts : List Int) (x : Int) : Int := if okB ls cs ts = true then (if inB x 0 ((ls.length : Int) - 1) = true then (if cs.getD x.toNat 0 < 0 then 6 else 0) else 2) else 1
theorem okB_no {ls cs ts : List Int} (h : VRows.rowB ls = false ∨ chB cs ls.length = false ∨ Table.okT ts = false) : okB ls cs ts = false := by
  unfold okB
  rcases h with h | h | h <;> rw [h] <;> simp
theorem okB_yes {ls cs ts : List Int} (h1 : VRows.rowB ls = true) (h2 : chB cs ls.length = true) (h3 : Table.okT ts = true) : okB ls cs ts = true := by unfold okB; rw [h1, h2, h3]; rfl
theorem sig_bad {ls cs ts : List Int} {x : Int} (h : VRows.rowB ls = false ∨ chB cs ls.length = false ∨ Table.okT ts = false) : sigV ls cs ts x = 0 ∧ sigC ls cs ts x = 1 := by
  unfold sigV sigC
  rw [okB_no h]
  exact ⟨rfl, rfl⟩
theorem sig_range {ls cs ts : List Int} {x : Int} (h1 : VRows.rowB ls = true) (h2 : chB cs ls.length = true) (h3 : Table.okT ts = true) (h : inB x 0 ((ls.length : Int) - 1) = false) : sigV ls cs ts x = 0 ∧ sigC ls cs ts x = 2 := by
  unfold sigV sigC
  rw [okB_yes h1 h2 h3, h]
  exact ⟨rfl, rfl⟩
theorem sig_state {ls cs ts : List Int} {s : Nat} (h1 : VRows.rowB ls = true) (h2 : chB cs ls.length = true) (h3 : Table.okT ts = true) (h : inB (s : Int) 0 ((ls.length : Int) - 1) = true) (hn : cs.getD s 0 < 0) : sigV ls cs ts s = 0 ∧ sigC ls cs ts s = 6 := by
  unfold sigV sigC
  rw [okB_yes h1 h2 h3, h, Int.toNat_natCast]
  exact ⟨if_neg (fun k => k.2.2 hn), by rw [if_pos rfl, if_pos rfl, if_pos hn]⟩
theorem sig_ok {ls cs ts : List Int} {s : Nat} (h1 : VRows.rowB ls = true) (h2 : chB cs ls.length = true) (h3 : Table.okT ts = true) (h : inB (s : Int) 0 ((ls.length : Int) - 1) = true) (hn : ¬ cs.getD s 0 < 0) : sigV ls cs ts s = ratio ls cs ts s ls.length ∧ sigC ls cs ts s = 0 := by
  unfold sigV sigC
  rw [okB_yes h1 h2 h3, h, Int.toNat_natCast]
  exact ⟨if_pos ⟨rfl, rfl, hn⟩, by rw [if_pos rfl, if_pos rfl, if_neg hn]⟩
set_option maxHeartbeats 4000000 in
theorem spec_Signal (v1 v2 v3 : Value) (ls cs ts : List Int) (x : Int) (w : World) (q1 : ls.length ≤ 1048576) (q2 : cs.length ≤ 1048576) (q3 : ts.length ≤ 1048576) (h1 : Ints w v1 ls) (h2 : Ints w v2 cs) (h3 : Ints w v3 ts) :
    Calls Tryd.prog 11 #[v1, v2, v3, .int .i64 x] w fun e w' => e = .returned (.tuple #[.int .i64 (sigV ls cs ts x), .int .i64 (sigC ls cs ts x)]) ∧ On w w' := by
  have HR := Lib.hid (fun w' (ho : On w w') => VRows.spec_row v1 ls w' q1 (h1.below ho))
  have HC := Lib.hid (fun w' (ho : On w w') => spec_channels v2 cs ls.length w' q2 (h2.below ho))
  have HT := Lib.hid (fun w' (ho : On w w') => Table.spec_table v3 ts w' q3 (h3.below ho))
  have H1 := Lib.hid h1
  have H2 := Lib.hid h2
  have H3 := Lib.hid h3
  obtain ⟨a1, c1, rfl, -⟩ := h1
  obtain ⟨a2, c2, rfl, -⟩ := h2
  obtain ⟨a3, c3, rfl, -⟩ := h3
  obtain ⟨n, hn⟩ : ∃ n, n = ls.length := ⟨_, rfl⟩
  have HN := Lib.hid hn
  rw [← hn] at HR HC q1 ⊢
  clear hn
  cases hr : VRows.rowB ls with
  | false =>
    rw [hr] at HR
    have en := Lib.hid (sig_bad (cs := cs) (ts := ts) (x := x) (.inl hr))
    clear hr
    go_enter Tryd.func11, Tryd.ntmps11
    go_wp2_with fail
    refine (HR.out _ (On.refl _)).mono ?_
    rintro e w9 ⟨rfl, rfl⟩
    go_wp2_with fail
    go_ret2
    exact ⟨Log.ret_ii en.out.1.symm en.out.2.symm, (On.refl _)⟩
  | true =>
    rw [hr] at HR
    obtain ⟨n0, n1⟩ := of_row hr
    rw [← HN.out] at n0 n1
    cases hc : chB cs n with
    | false =>
      rw [hc] at HC
      have en := Lib.hid (sig_bad (ls := ls) (ts := ts) (x := x) (.inr (.inl (show chB cs ls.length = false by rw [← HN.out]; exact hc))))
      clear hr hc
      go_enter Tryd.func11, Tryd.ntmps11
      go_wp2_with fail
      refine (HR.out _ (On.refl _)).mono ?_
      rintro e w9 ⟨rfl, rfl⟩
      go_wp2_with fail
      refine (HC.out _ (On.refl _)).mono ?_
      rintro e w9 ⟨rfl, rfl⟩
      go_wp2_with fail
      go_ret2
      exact ⟨Log.ret_ii en.out.1.symm en.out.2.symm, (On.refl _)⟩
    | true =>
      rw [hc] at HC
      cases ht : Table.okT ts with
      | false =>
        rw [ht] at HT
        have en := Lib.hid (sig_bad (ls := ls) (cs := cs) (x := x) (.inr (.inr ht)))
        clear hr hc ht
        go_enter Tryd.func11, Tryd.ntmps11
        go_wp2_with fail
        refine (HR.out _ (On.refl _)).mono ?_
        rintro e w9 ⟨rfl, rfl⟩
        go_wp2_with fail
        refine (HC.out _ (On.refl _)).mono ?_
        rintro e w9 ⟨rfl, rfl⟩
        go_wp2_with fail
        refine (HT.out _ (On.refl _)).mono ?_
        rintro e w3 ⟨rfl, kK3⟩
        have K3 := Lib.hid (On.trans (On.refl _) kK3)
        clear kK3
        go_wp2_with fail
        go_ret2
        exact ⟨Log.ret_ii en.out.1.symm en.out.2.symm, K3.out⟩
      | true =>
        rw [ht] at HT
        have hG := good_of hr (show chB cs ls.length = true by rw [← HN.out]; exact hc) ht
        rw [← HN.out] at hG
        have HG := Lib.hid hG
        have HI := Lib.hid (fun w => Arith.l00In x 0 ((n : Int) - 1) w)
        cases hx : inB x 0 ((n : Int) - 1) with
        | false =>
          rw [hx] at HI
          have en := Lib.hid (sig_range hr (show chB cs ls.length = true by rw [← HN.out]; exact hc) ht (show inB x 0 ((ls.length : Int) - 1) = false by rw [← HN.out]; exact hx))
          clear hr hc ht hx hG
          go_enter Tryd.func11, Tryd.ntmps11
          go_wp2_with fail
          refine (HR.out _ (On.refl _)).mono ?_
          rintro e w9 ⟨rfl, rfl⟩
          go_wp2_with fail
          refine (HC.out _ (On.refl _)).mono ?_
          rintro e w9 ⟨rfl, rfl⟩
          go_wp2_with fail
          refine (HT.out _ (On.refl _)).mono ?_
          rintro e w3 ⟨rfl, kK3⟩
          have K3 := Lib.hid (On.trans (On.refl _) kK3)
          clear kK3
          go_wp2_with fail
          refine (HI.out _).mono ?_
          rintro e w9 ⟨rfl, rfl⟩
          go_wp2_with fail
          go_ret2
          exact ⟨Log.ret_ii en.out.1.symm en.out.2.symm, K3.out⟩
        | true =>
          rw [hx] at HI
          obtain ⟨x0, x1⟩ := of_inB hx
          obtain ⟨s, rfl⟩ : ∃ s : Nat, x = s := ⟨x.toNat, by omega⟩
          have hsn : s < n := by omega
          have hsi : (s : Int) < (n : Int) := by omega
          have hs0 : (0 : Int) ≤ (s : Int) := by omega
          obtain ⟨c, hcv⟩ : ∃ c, c = cs.getD s 0 := ⟨_, rfl⟩
          obtain ⟨a9, c9, h9, hc9⟩ := H2.out
          injection h9 with h91 h92 h93
          subst h91
          obtain ⟨b2, o2, rfl, hb2, hcell2⟩ := hc9 (by rw [hG.cl]; omega)
          have k00 : w.cell? ⟨b2, o2 + s, none⟩ = some (.int .i64 c) := by rw [hcv]; exact hcell2 s (by rw [hG.cl]; exact hsn)
          have HK := Lib.hid k00
          have HC2 := Lib.hid hcell2
          have hcl := Lib.hid hG.cl
          have hchb := hG.ch s hsn
          rw [← hcv] at hchb
          obtain ⟨m2, hm2⟩ : ∃ m, m = cs.length := ⟨_, rfl⟩
          rw [← hm2] at HC ⊢
          have hsm : (s : Int) < (m2 : Int) := by rw [hm2, hG.cl]; exact hsi
          have hm2n : m2 = n := by rw [hm2, hG.cl]
          subst hm2n
          clear k00 hcell2 hc9 h92 h93
          by_cases hneg : c < 0
          · have en := Lib.hid (sig_state hr (show chB cs ls.length = true by rw [← HN.out]; exact hc) ht (show inB (s : Int) 0 ((ls.length : Int) - 1) = true by rw [← HN.out]; exact hx) (show cs.getD s 0 < 0 by rw [← hcv]; omega))
            have hneg2 : decide (c < 0) = true := decide_eq_true hneg
            clear hr hc ht hx hG hcv hm2
            go_enter Tryd.func11, Tryd.ntmps11
            go_wp2_with fail
            refine (HR.out _ (On.refl _)).mono ?_
            rintro e w9 ⟨rfl, rfl⟩
            go_wp2_with fail
            refine (HC.out _ (On.refl _)).mono ?_
            rintro e w9 ⟨rfl, rfl⟩
            go_wp2_with fail
            refine (HT.out _ (On.refl _)).mono ?_
            rintro e w3 ⟨rfl, kK3⟩
            have K3 := Lib.hid (On.trans (On.refl _) kK3)
            clear kK3
            go_wp2_with fail
            refine (HI.out _).mono ?_
            rintro e w9 ⟨rfl, rfl⟩
            have k0 := (On.cell (p := ⟨b2, o2 + s, none⟩) K3.out (by exact hb2)).trans HK.out
            go_wp2_with fail
            go_ret2
            exact ⟨Log.ret_ii en.out.1.symm en.out.2.symm, K3.out⟩
          · have en := Lib.hid (sig_ok hr (show chB cs ls.length = true by rw [← HN.out]; exact hc) ht (show inB (s : Int) 0 ((ls.length : Int) - 1) = true by rw [← HN.out]; exact hx) (show ¬ cs.getD s 0 < 0 by rw [← hcv]; omega))
            have hneg2 : decide (c < 0) = false := decide_eq_false hneg
            obtain ⟨a8, c8, h8, hc8⟩ := H1.out
            injection h8 with h81 h82 h83
            subst h81
            obtain ⟨b1, o1, rfl, hb1, hcell1⟩ := hc8 (by rw [hG.ll]; omega)
            obtain ⟨a7, c7, h7, hc7⟩ := H3.out
            injection h7 with h71 h72 h73
            subst h71
            have t0 : 0 < ts.length := (Table.of_okT ht).1.1
            obtain ⟨b3, o3, rfl, hb3, hcell3⟩ := hc7 t0
            have HRT := Lib.hid (fun w' (ho : On w w') => spec_ratio ls cs ts m2 s b1 o1 c1 b2 o2 c2 b3 o3 c3 w' HG.out hsn (by rw [← hcv]; omega) (ho.lts _ hb1) (ho.lts _ hb2) (fun i hi => (ho.cell (by exact hb1)).trans (hcell1 i (by rw [HG.out.ll]; exact hi))) (fun i hi => (ho.cell (by exact hb2)).trans (HC2.out i (by rw [HG.out.cl]; exact hi))) (fun i hi => (ho.cell (by exact hb3)).trans (hcell3 i hi)) (some ⟨b3, o3, none⟩) (fun _ => ⟨rfl, ho.lts _ hb3⟩))
            rw [show ls.length = m2 from HN.out.symm] at en
            clear hr hc ht hx hG hcv hm2 hcell1 hcell3 hc8 hc7 h82 h83 h72 h73
            go_enter Tryd.func11, Tryd.ntmps11
            go_wp2_with fail
            refine (HR.out _ (On.refl _)).mono ?_
            rintro e w9 ⟨rfl, rfl⟩
            go_wp2_with fail
            refine (HC.out _ (On.refl _)).mono ?_
            rintro e w9 ⟨rfl, rfl⟩
            go_wp2_with fail
            refine (HT.out _ (On.refl _)).mono ?_
            rintro e w3 ⟨rfl, kK3⟩
            have K3 := Lib.hid (On.trans (On.refl _) kK3)
            clear kK3
            go_wp2_with fail
            refine (HI.out _).mono ?_
            rintro e w9 ⟨rfl, rfl⟩
            have k0 := (On.cell (p := ⟨b2, o2 + s, none⟩) K3.out (by exact hb2)).trans HK.out
            go_wp2_with fail
            refine (HRT.out _ K3.out).mono ?_
            rintro e w8 ⟨rfl, k8⟩
            go_wp2_with fail
            go_ret2
            exact ⟨Log.ret_ii en.out.1.symm en.out.2.symm, On.trans K3.out k8⟩
set_option maxHeartbeats 4000000 in
theorem impl_Signal (v1 v2 v3 : Value) (ls cs ts : List Int) (x : Int) (w : World) (q1 : ls.length ≤ 1048576) (q2 : cs.length ≤ 1048576) (q3 : ts.length ≤ 1048576) (h1 : Ints w v1 ls) (h2 : Ints w v2 cs) (h3 : Ints w v3 ts) (hg : Span.SpanG w) :
    Calls Tryd.prog 13 #[v1, v2, v3, .int .i64 x] w fun e w' => e = .returned (.tuple #[.int .i64 (sigV ls cs ts x), .int .i64 (sigC ls cs ts x)]) ∧ On w w' := by
  have HR := Lib.hid (fun w' (ho : On w w') => VRows.impl_row v1 ls w' q1 (h1.below ho) (hg.on ho))
  have HC := Lib.hid (fun (p : 1 ≤ ls.length) w' (ho : On w w') => impl_channels v2 cs ls.length w' q2 p q1 (h2.below ho))
  have HT := Lib.hid (fun w' (ho : On w w') => Table.impl_isTable v3 ts w' q3 (h3.below ho))
  have H1 := Lib.hid h1
  have H2 := Lib.hid h2
  have H3 := Lib.hid h3
  clear hg
  obtain ⟨a1, c1, rfl, -⟩ := h1
  obtain ⟨a2, c2, rfl, -⟩ := h2
  obtain ⟨a3, c3, rfl, -⟩ := h3
  obtain ⟨n, hn⟩ : ∃ n, n = ls.length := ⟨_, rfl⟩
  have HN := Lib.hid hn
  rw [← hn] at HR HC q1 ⊢
  clear hn
  cases hr : VRows.rowB ls with
  | false =>
    rw [hr] at HR
    have en := Lib.hid (sig_bad (cs := cs) (ts := ts) (x := x) (.inl hr))
    clear hr
    go_enter Tryd.func13, Tryd.ntmps13
    go_wp2_with fail
    refine (HR.out _ (On.refl _)).mono ?_
    rintro e w1 ⟨rfl, kK1⟩
    have K1 := Lib.hid (On.trans (On.refl _) kK1)
    clear kK1
    go_wp2_with fail
    go_ret2
    exact ⟨Log.ret_ii en.out.1.symm en.out.2.symm, K1.out⟩
  | true =>
    rw [hr] at HR
    obtain ⟨n0, n1⟩ := of_row hr
    rw [← HN.out] at n0 n1
    cases hc : chB cs n with
    | false =>
      rw [hc] at HC
      have en := Lib.hid (sig_bad (ls := ls) (ts := ts) (x := x) (.inr (.inl (show chB cs ls.length = false by rw [← HN.out]; exact hc))))
      clear hr hc
      go_enter Tryd.func13, Tryd.ntmps13
      go_wp2_with fail
      refine (HR.out _ (On.refl _)).mono ?_
      rintro e w1 ⟨rfl, kK1⟩
      have K1 := Lib.hid (On.trans (On.refl _) kK1)
      clear kK1
      go_wp2_with fail
      refine (HC.out (by omega) _ K1.out).mono ?_
      rintro e w2 ⟨rfl, kK2⟩
      have K2 := Lib.hid (On.trans K1.out kK2)
      clear kK2
      go_wp2_with fail
      go_ret2
      exact ⟨Log.ret_ii en.out.1.symm en.out.2.symm, K2.out⟩
    | true =>
      rw [hc] at HC
      cases ht : Table.okT ts with
      | false =>
        rw [ht] at HT
        have en := Lib.hid (sig_bad (ls := ls) (cs := cs) (x := x) (.inr (.inr ht)))
        clear hr hc ht
        go_enter Tryd.func13, Tryd.ntmps13
        go_wp2_with fail
        refine (HR.out _ (On.refl _)).mono ?_
        rintro e w1 ⟨rfl, kK1⟩
        have K1 := Lib.hid (On.trans (On.refl _) kK1)
        clear kK1
        go_wp2_with fail
        refine (HC.out (by omega) _ K1.out).mono ?_
        rintro e w2 ⟨rfl, kK2⟩
        have K2 := Lib.hid (On.trans K1.out kK2)
        clear kK2
        go_wp2_with fail
        refine (HT.out _ K2.out).mono ?_
        rintro e w3 ⟨rfl, kK3⟩
        have K3 := Lib.hid (On.trans K2.out kK3)
        clear kK3
        go_wp2_with fail
        go_ret2
        exact ⟨Log.ret_ii en.out.1.symm en.out.2.symm, K3.out⟩
      | true =>
        rw [ht] at HT
        have hG := good_of hr (show chB cs ls.length = true by rw [← HN.out]; exact hc) ht
        rw [← HN.out] at hG
        have HG := Lib.hid hG
        have HI := Lib.hid (fun w => Arith.within x 0 ((n : Int) - 1) w)
        cases hx : inB x 0 ((n : Int) - 1) with
        | false =>
          rw [hx] at HI
          have en := Lib.hid (sig_range hr (show chB cs ls.length = true by rw [← HN.out]; exact hc) ht (show inB x 0 ((ls.length : Int) - 1) = false by rw [← HN.out]; exact hx))
          clear hr hc ht hx hG
          go_enter Tryd.func13, Tryd.ntmps13
          go_wp2_with fail
          refine (HR.out _ (On.refl _)).mono ?_
          rintro e w1 ⟨rfl, kK1⟩
          have K1 := Lib.hid (On.trans (On.refl _) kK1)
          clear kK1
          go_wp2_with fail
          refine (HC.out (by omega) _ K1.out).mono ?_
          rintro e w2 ⟨rfl, kK2⟩
          have K2 := Lib.hid (On.trans K1.out kK2)
          clear kK2
          go_wp2_with fail
          refine (HT.out _ K2.out).mono ?_
          rintro e w3 ⟨rfl, kK3⟩
          have K3 := Lib.hid (On.trans K2.out kK3)
          clear kK3
          go_wp2_with fail
          refine (HI.out _).mono ?_
          rintro e w9 ⟨rfl, rfl⟩
          go_wp2_with fail
          go_ret2
          exact ⟨Log.ret_ii en.out.1.symm en.out.2.symm, K3.out⟩
        | true =>
          rw [hx] at HI
          obtain ⟨x0, x1⟩ := of_inB hx
          obtain ⟨s, rfl⟩ : ∃ s : Nat, x = s := ⟨x.toNat, by omega⟩
          have hsn : s < n := by omega
          have hsi : (s : Int) < (n : Int) := by omega
          have hs0 : (0 : Int) ≤ (s : Int) := by omega
          obtain ⟨c, hcv⟩ : ∃ c, c = cs.getD s 0 := ⟨_, rfl⟩
          obtain ⟨a9, c9, h9, hc9⟩ := H2.out
          injection h9 with h91 h92 h93
          subst h91
          obtain ⟨b2, o2, rfl, hb2, hcell2⟩ := hc9 (by rw [hG.cl]; omega)
          have k00 : w.cell? ⟨b2, o2 + s, none⟩ = some (.int .i64 c) := by rw [hcv]; exact hcell2 s (by rw [hG.cl]; exact hsn)
          have HK := Lib.hid k00
          have HC2 := Lib.hid hcell2
          have hcl := Lib.hid hG.cl
          have hchb := hG.ch s hsn
          rw [← hcv] at hchb
          obtain ⟨m2, hm2⟩ : ∃ m, m = cs.length := ⟨_, rfl⟩
          rw [← hm2] at HC ⊢
          have hsm : (s : Int) < (m2 : Int) := by rw [hm2, hG.cl]; exact hsi
          have hm2n : m2 = n := by rw [hm2, hG.cl]
          subst hm2n
          clear k00 hcell2 hc9 h92 h93
          by_cases hneg : c = -1
          · have en := Lib.hid (sig_state hr (show chB cs ls.length = true by rw [← HN.out]; exact hc) ht (show inB (s : Int) 0 ((ls.length : Int) - 1) = true by rw [← HN.out]; exact hx) (show cs.getD s 0 < 0 by rw [← hcv]; omega))
            have hneg2 : (c == -1) = true := beq_iff_eq.2 hneg
            clear hr hc ht hx hG hcv hm2
            go_enter Tryd.func13, Tryd.ntmps13
            go_wp2_with fail
            refine (HR.out _ (On.refl _)).mono ?_
            rintro e w1 ⟨rfl, kK1⟩
            have K1 := Lib.hid (On.trans (On.refl _) kK1)
            clear kK1
            go_wp2_with fail
            refine (HC.out (by omega) _ K1.out).mono ?_
            rintro e w2 ⟨rfl, kK2⟩
            have K2 := Lib.hid (On.trans K1.out kK2)
            clear kK2
            go_wp2_with fail
            refine (HT.out _ K2.out).mono ?_
            rintro e w3 ⟨rfl, kK3⟩
            have K3 := Lib.hid (On.trans K2.out kK3)
            clear kK3
            go_wp2_with fail
            refine (HI.out _).mono ?_
            rintro e w9 ⟨rfl, rfl⟩
            have k0 := (On.cell (p := ⟨b2, o2 + s, none⟩) K3.out (by exact hb2)).trans HK.out
            go_wp2_with fail
            go_ret2
            exact ⟨Log.ret_ii en.out.1.symm en.out.2.symm, K3.out⟩
          · have en := Lib.hid (sig_ok hr (show chB cs ls.length = true by rw [← HN.out]; exact hc) ht (show inB (s : Int) 0 ((ls.length : Int) - 1) = true by rw [← HN.out]; exact hx) (show ¬ cs.getD s 0 < 0 by rw [← hcv]; omega))
            have hneg2 : (c == -1) = false := beq_eq_false_iff_ne.2 hneg
            obtain ⟨a8, c8, h8, hc8⟩ := H1.out
            injection h8 with h81 h82 h83
            subst h81
            obtain ⟨b1, o1, rfl, hb1, hcell1⟩ := hc8 (by rw [hG.ll]; omega)
            obtain ⟨a7, c7, h7, hc7⟩ := H3.out
            injection h7 with h71 h72 h73
            subst h71
            have t0 : 0 < ts.length := (Table.of_okT ht).1.1
            obtain ⟨b3, o3, rfl, hb3, hcell3⟩ := hc7 t0
            have HRT := Lib.hid (fun w' (ho : On w w') => impl_ratio ls cs ts m2 s b1 o1 c1 b2 o2 c2 b3 o3 c3 w' HG.out hsn (by rw [← hcv]; omega) (ho.lts _ hb1) (ho.lts _ hb2) (fun i hi => (ho.cell (by exact hb1)).trans (hcell1 i (by rw [HG.out.ll]; exact hi))) (fun i hi => (ho.cell (by exact hb2)).trans (HC2.out i (by rw [HG.out.cl]; exact hi))) (fun i hi => (ho.cell (by exact hb3)).trans (hcell3 i hi)) (some ⟨b3, o3, none⟩) (fun _ => ⟨rfl, ho.lts _ hb3⟩))
            rw [show ls.length = m2 from HN.out.symm] at en
            clear hr hc ht hx hG hcv hm2 hcell1 hcell3 hc8 hc7 h82 h83 h72 h73
            go_enter Tryd.func13, Tryd.ntmps13
            go_wp2_with fail
            refine (HR.out _ (On.refl _)).mono ?_
            rintro e w1 ⟨rfl, kK1⟩
            have K1 := Lib.hid (On.trans (On.refl _) kK1)
            clear kK1
            go_wp2_with fail
            refine (HC.out (by omega) _ K1.out).mono ?_
            rintro e w2 ⟨rfl, kK2⟩
            have K2 := Lib.hid (On.trans K1.out kK2)
            clear kK2
            go_wp2_with fail
            refine (HT.out _ K2.out).mono ?_
            rintro e w3 ⟨rfl, kK3⟩
            have K3 := Lib.hid (On.trans K2.out kK3)
            clear kK3
            go_wp2_with fail
            refine (HI.out _).mono ?_
            rintro e w9 ⟨rfl, rfl⟩
            have k0 := (On.cell (p := ⟨b2, o2 + s, none⟩) K3.out (by exact hb2)).trans HK.out
            go_wp2_with fail
            refine (HRT.out _ K3.out).mono ?_
            rintro e w8 ⟨rfl, k8⟩
            go_wp2_with fail
            go_ret2
            exact ⟨Log.ret_ii en.out.1.symm en.out.2.symm, On.trans K3.out k8⟩
end Go.Proofs.YtkcjbcllpbojhaaDoor.Sig
