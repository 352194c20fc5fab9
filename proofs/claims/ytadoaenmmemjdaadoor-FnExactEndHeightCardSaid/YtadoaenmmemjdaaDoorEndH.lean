
/-
  EndHeight, in the model and in the program. Condition: the program's variables of errors hold sentinels that differ.
-/
import Derived.Test.YtadoaenmmemjdaaDoorHigh
import Derived.Test.YtadoaenmmemjdaaDoorErrC
namespace Go.Proofs.YtadoaenmmemjdaaDoor.High
open Go.RowKit
open Plain
open Ints (Ints)
open EndOk (okE EIn of_okE)
open Terr (okT inT TIn hgt of_okT of_size)
open Errs (Sens codeS endS endsS faultOf Kind)

theorem ret_ii {a b c d : Int} (h1 : a = b) (h2 : c = d) : Ending.returned (.tuple #[.int .i64 a, .int .i64 c]) = .returned (.tuple #[.int .i64 b, .int .i64 d]) := by rw [h1, h2]
/-- The code of a terrain and an end in it. -/
def endC (s x y : Int) (zs cs : List Int) (px py ph : Int) : Int := if okT s x y zs cs = false then 1 else if okE px py ph = false then 1 else if inT s x y px py = false then 2 else 0
def endV (s x y : Int) (zs cs : List Int) (px py ph : Int) : Int := if endC s x y zs cs px py ph = 0 then hgt s x y zs px py + ph else 0
theorem endC_1 {s x y px py ph : Int} {zs cs : List Int} (h : okT s x y zs cs = false) : endC s x y zs cs px py ph = 1 := if_pos h
theorem endC_2 {s x y px py ph : Int} {zs cs : List Int} (h : okT s x y zs cs = true) (h1 : okE px py ph = false) : endC s x y zs cs px py ph = 1 := by unfold endC; rw [h, if_neg (by simp), if_pos h1]
theorem endC_3 {s x y px py ph : Int} {zs cs : List Int} (h : okT s x y zs cs = true) (h1 : okE px py ph = true) (h2 : inT s x y px py = false) : endC s x y zs cs px py ph = 2 := by unfold endC; rw [h, if_neg (by simp), h1, if_neg (by simp), if_pos h2]
theorem endC_4 {s x y px py ph : Int} {zs cs : List Int} (h : okT s x y zs cs = true) (h1 : okE px py ph = true) (h2 : inT s x y px py = true) : endC s x y zs cs px py ph = 0 := by unfold endC; rw [h, if_neg (by simp), h1, if_neg (by simp), h2, if_neg (by simp)]
theorem endV_no {s x y px py ph : Int} {zs cs : List Int} (h : endC s x y zs cs px py ph ≠ 0) : endV s x y zs cs px py ph = 0 := if_neg h
theorem endV_yes {s x y px py ph : Int} {zs cs : List Int} (h : endC s x y zs cs px py ph = 0) : endV s x y zs cs px py ph = hgt s x y zs px py + ph := if_pos h
theorem any1 (B : Nat → Bool) : Errs.anyTo B 1 = B 0 := by simp [Errs.anyTo]
/-- The code of the errors of one end. -/
theorem code_one (s x y : Int) (zs cs : List Int) (px py ph : Int) : codeS (fun m => Errs.anyTo (fun i => (fun _ : Nat => endsS s x y zs cs (fun _ => (px, py, ph)) 1) i m) 1) = endC s x y zs cs px py ph := by
  simp only [any1]
  cases h0 : okT s x y zs cs with
  | false => rw [endC_1 h0]; exact Errs.code_0 (by simp [endsS, h0])
  | true =>
    cases h1 : okE px py ph with
    | false => rw [endC_2 h0 h1]; exact Errs.code_0 (by simp [endsS, h0, any1, endS, faultOf, h1])
    | true =>
      cases h2 : inT s x y px py with
      | false => rw [endC_3 h0 h1 h2]; exact Errs.code_1 (by simp [endsS, h0, any1, endS, faultOf, h1, h2]) (by simp [endsS, h0, any1, endS, faultOf, h1, h2])
      | true => rw [endC_4 h0 h1 h2]; exact Errs.code_4 (by simp [endsS, h0, any1, endS, faultOf, h1, h2]) (by simp [endsS, h0, any1, endS, faultOf, h1, h2]) (by simp [endsS, h0, any1, endS, faultOf, h1, h2]) (by simp [endsS, h0, any1, endS, faultOf, h1, h2])
theorem ends_lit (w : World) (q : Nat) (px py ph : Int) (t : TypeId) (hq : q = w.heap.size) : Errs.Ends (w.alloc (.cells #[.int .i64 px, .int .i64 py, .int .i64 ph] t)) (some ⟨q, 0, none⟩) 1 (fun _ => (px, py, ph)) := fun _ =>
  ⟨_, 0, rfl, by simp [hq], fun i hi => by
    obtain rfl : i = 0 := by omega
    subst hq
    refine ⟨?_, ?_, ?_⟩ <;> simp [go_sem]⟩
theorem row_lit (w : World) (q : Nat) (v : Value) (t : TypeId) (hq : q = w.heap.size) : Errs.Row (w.alloc (.cells #[v] t)) (some ⟨q, 0, none⟩) 1 (fun _ => v) := fun _ =>
  ⟨_, 0, rfl, by simp [hq], fun i hi => by
    obtain rfl : i = 0 := by omega
    subst hq
    simp [go_sem]⟩
set_option maxHeartbeats 2000000 in
theorem spec_EndHeight (s x y : Int) (a b : Option Addr) (n cap m dap : Nat) (zs cs : List Int) (px py ph : Int) (w : World) (hzn : zs.length = n) (hcm : cs.length = m) (hn : n ≤ 1048576) (hm : m ≤ 1048576) (h : Ints w (.slice a n cap) zs) (k : Ints w (.slice b m dap) cs) :
    Calls Tryd.prog 7 #[.agg #[.int .i64 s, .int .i64 x, .int .i64 y, .slice a n cap, .slice b m dap], .agg #[.int .i64 px, .int .i64 py, .int .i64 ph]] w fun e w' => e = .returned (.tuple #[.int .i64 (endV s x y zs cs px py ph), .int .i64 (endC s x y zs cs px py ph)]) ∧ On w w' := by
  have HO := Lib.hid (fun w' (hb : On w w') hp => Terr.spec_okT w.heap.size n cap m dap s x y a b zs cs w' hzn hcm hn hm hp (h.below hb) (k.below hb))
  cases h0 : okT s x y zs cs with
  | false =>
    have hc := endC_1 (px := px) (py := py) (ph := ph) h0
    have hv := endV_no (s := s) (x := x) (y := y) (zs := zs) (cs := cs) (px := px) (py := py) (ph := ph) (by omega)
    have HC := Lib.hid hc
    have HVV := Lib.hid hv
    have HP := Lib.hid (fun w => EndOk.spec_l12End px py ph w)
    rw [h0] at HO
    clear hc hv h k h0
    go_enter Tryd.func7, Tryd.ntmps7
    go_wp2_with fail
    refine (HO.out _ (by repeat (first | with_reducible exact On.refl _ | with_reducible exact Below.refl _ _ | apply On.alloc)) ⟨by simp [go_sem], by simp [go_sem], by simp [go_sem], by simp [go_sem], by simp [go_sem]⟩).mono ?_
    rintro e w1 ⟨rfl, h1⟩
    have O1 := Lib.hid (show On w w1 by refine On.trans ?_ h1; repeat (first | with_reducible exact On.refl _ | apply On.alloc))
    clear h1
    go_wp2_with fail
    go_ret2
    exact ⟨ret_ii HVV.out.symm HC.out.symm, O1.out⟩
  | true =>
    cases h1 : okE px py ph with
    | false =>
      have hc := endC_2 h0 h1
      have hv := endV_no (s := s) (x := x) (y := y) (zs := zs) (cs := cs) (px := px) (py := py) (ph := ph) (by omega)
      have HC := Lib.hid hc
      have HVV := Lib.hid hv
      have HP := Lib.hid (fun w => EndOk.spec_l12End px py ph w)
      rw [h0] at HO
      rw [h1] at HP
      clear hc hv h k h0 h1
      go_enter Tryd.func7, Tryd.ntmps7
      go_wp2_with fail
      refine (HO.out _ (by repeat (first | with_reducible exact On.refl _ | with_reducible exact Below.refl _ _ | apply On.alloc)) ⟨by simp [go_sem], by simp [go_sem], by simp [go_sem], by simp [go_sem], by simp [go_sem]⟩).mono ?_
      rintro e w1 ⟨rfl, h1⟩
      have O1 := Lib.hid (show On w w1 by refine On.trans ?_ h1; repeat (first | with_reducible exact On.refl _ | apply On.alloc))
      have T1 := Lib.hid (show TIn w1 w.heap.size s x y (.slice a n cap) (.slice b m dap) from TIn.on ⟨by simp [go_sem], by simp [go_sem], by simp [go_sem], by simp [go_sem], by simp [go_sem]⟩ h1)
      have E1 := Lib.hid (show EIn w1 (w.heap.size + 1) px py ph from EIn.on ⟨by simp [go_sem], by simp [go_sem], by simp [go_sem]⟩ h1)
      obtain ⟨e10, e11, e12⟩ := E1.out
      clear h1
      go_wp2_with fail
      refine (HP.out _).mono ?_
      rintro e w2 ⟨rfl, h2⟩
      have O2 := Lib.hid (On.trans O1.out h2)
      have E2 := Lib.hid (E1.out.on h2)
      have T2 := Lib.hid (T1.out.on h2)
      obtain ⟨e20, e21, e22⟩ := E2.out
      clear h2 e10 e11 e12
      go_wp2_with fail
      go_ret2
      exact ⟨ret_ii HVV.out.symm HC.out.symm, O2.out⟩
    | true =>
      cases h2 : inT s x y px py with
      | false =>
        have hc := endC_3 h0 h1 h2
        have hv := endV_no (s := s) (x := x) (y := y) (zs := zs) (cs := cs) (px := px) (py := py) (ph := ph) (by omega)
        obtain ⟨⟨s0, s1⟩, ⟨x0, x1⟩, ⟨y0, y1⟩, -, -⟩ := of_size (of_okT h0).1
        have HI := Lib.hid (fun w' hp => Terr.spec_in w.heap.size s x y px py (.slice a n cap) (.slice b m dap) w' hp s0 s1 x0 x1 y0 y1)
        have HC := Lib.hid hc
        have HVV := Lib.hid hv
        have HP := Lib.hid (fun w => EndOk.spec_l12End px py ph w)
        rw [h0] at HO
        rw [h1] at HP
        rw [h2] at HI
        clear hc hv h k h0 h1 h2
        go_enter Tryd.func7, Tryd.ntmps7
        go_wp2_with fail
        refine (HO.out _ (by repeat (first | with_reducible exact On.refl _ | with_reducible exact Below.refl _ _ | apply On.alloc)) ⟨by simp [go_sem], by simp [go_sem], by simp [go_sem], by simp [go_sem], by simp [go_sem]⟩).mono ?_
        rintro e w1 ⟨rfl, h1⟩
        have O1 := Lib.hid (show On w w1 by refine On.trans ?_ h1; repeat (first | with_reducible exact On.refl _ | apply On.alloc))
        have T1 := Lib.hid (show TIn w1 w.heap.size s x y (.slice a n cap) (.slice b m dap) from TIn.on ⟨by simp [go_sem], by simp [go_sem], by simp [go_sem], by simp [go_sem], by simp [go_sem]⟩ h1)
        have E1 := Lib.hid (show EIn w1 (w.heap.size + 1) px py ph from EIn.on ⟨by simp [go_sem], by simp [go_sem], by simp [go_sem]⟩ h1)
        obtain ⟨e10, e11, e12⟩ := E1.out
        clear h1
        go_wp2_with fail
        refine (HP.out _).mono ?_
        rintro e w2 ⟨rfl, h2⟩
        have O2 := Lib.hid (On.trans O1.out h2)
        have E2 := Lib.hid (E1.out.on h2)
        have T2 := Lib.hid (T1.out.on h2)
        obtain ⟨e20, e21, e22⟩ := E2.out
        clear h2 e10 e11 e12
        go_wp2_with fail
        refine (HI.out _ T2.out).mono ?_
        rintro e w3 ⟨rfl, h3⟩
        have O3 := Lib.hid (On.trans O2.out h3)
        have E3 := Lib.hid (E2.out.on h3)
        have T3 := Lib.hid (T2.out.on h3)
        obtain ⟨e30, e31, e32⟩ := E3.out
        clear h3 e20 e21 e22
        go_wp2_with fail
        go_ret2
        exact ⟨ret_ii HVV.out.symm HC.out.symm, O3.out⟩
      | true =>
        have hc := endC_4 h0 h1 h2
        have hv := endV_yes hc
        obtain ⟨-, e0, e1⟩ := of_okE h1
        have HH := Lib.hid (fun w' (hb : On w w') hp => spec_high w.heap.size s x y a b n cap m dap zs cs px py ph w' hzn hp (h.below hb) h0 h2 (by omega) (by omega))
        obtain ⟨⟨s0, s1⟩, ⟨x0, x1⟩, ⟨y0, y1⟩, -, -⟩ := of_size (of_okT h0).1
        have HI := Lib.hid (fun w' hp => Terr.spec_in w.heap.size s x y px py (.slice a n cap) (.slice b m dap) w' hp s0 s1 x0 x1 y0 y1)
        have HC := Lib.hid hc
        have HVV := Lib.hid hv
        have HP := Lib.hid (fun w => EndOk.spec_l12End px py ph w)
        rw [h0] at HO
        rw [h1] at HP
        rw [h2] at HI
        generalize hgt s x y zs px py = H at *
        clear hc hv h k h0 h1 h2
        go_enter Tryd.func7, Tryd.ntmps7
        go_wp2_with fail
        refine (HO.out _ (by repeat (first | with_reducible exact On.refl _ | with_reducible exact Below.refl _ _ | apply On.alloc)) ⟨by simp [go_sem], by simp [go_sem], by simp [go_sem], by simp [go_sem], by simp [go_sem]⟩).mono ?_
        rintro e w1 ⟨rfl, h1⟩
        have O1 := Lib.hid (show On w w1 by refine On.trans ?_ h1; repeat (first | with_reducible exact On.refl _ | apply On.alloc))
        have T1 := Lib.hid (show TIn w1 w.heap.size s x y (.slice a n cap) (.slice b m dap) from TIn.on ⟨by simp [go_sem], by simp [go_sem], by simp [go_sem], by simp [go_sem], by simp [go_sem]⟩ h1)
        have E1 := Lib.hid (show EIn w1 (w.heap.size + 1) px py ph from EIn.on ⟨by simp [go_sem], by simp [go_sem], by simp [go_sem]⟩ h1)
        obtain ⟨e10, e11, e12⟩ := E1.out
        clear h1
        go_wp2_with fail
        refine (HP.out _).mono ?_
        rintro e w2 ⟨rfl, h2⟩
        have O2 := Lib.hid (On.trans O1.out h2)
        have E2 := Lib.hid (E1.out.on h2)
        have T2 := Lib.hid (T1.out.on h2)
        obtain ⟨e20, e21, e22⟩ := E2.out
        clear h2 e10 e11 e12
        go_wp2_with fail
        refine (HI.out _ T2.out).mono ?_
        rintro e w3 ⟨rfl, h3⟩
        have O3 := Lib.hid (On.trans O2.out h3)
        have E3 := Lib.hid (E2.out.on h3)
        have T3 := Lib.hid (T2.out.on h3)
        obtain ⟨e30, e31, e32⟩ := E3.out
        clear h3 e20 e21 e22
        go_wp2_with fail
        refine (HH.out _ O3.out T3.out).mono ?_
        rintro e w4 ⟨rfl, h4⟩
        have O4 := Lib.hid (On.trans O3.out h4)
        clear h4
        go_wp2_with fail
        go_ret2
        exact ⟨ret_ii HVV.out.symm HC.out.symm, O4.out⟩
theorem of_end {s x y px py ph : Int} {zs cs : List Int} (h : endC s x y zs cs px py ph = 0) : okT s x y zs cs = true ∧ okE px py ph = true ∧ inT s x y px py = true ∧ 1 ≤ ph ∧ ph ≤ 3000 := by
  unfold endC at h
  cases h0 : okT s x y zs cs with
  | false => rw [h0] at h; simp at h
  | true =>
    cases h1 : okE px py ph with
    | false => rw [h0, h1] at h; simp at h
    | true =>
      cases h2 : inT s x y px py with
      | false => rw [h0, h1, h2] at h; simp at h
      | true => exact ⟨rfl, rfl, rfl, (of_okE h1).2.1, (of_okE h1).2.2⟩
set_option maxHeartbeats 2000000 in
theorem impl_EndHeight (A : Nat → Addr) (s x y : Int) (a b : Option Addr) (n cap m dap : Nat) (zs cs : List Int) (px py ph : Int) (w : World) (hzn : zs.length = n) (hcm : cs.length = m) (hn : n ≤ 1048576) (hm : m ≤ 1048576) (h : Ints w (.slice a n cap) zs) (k : Ints w (.slice b m dap) cs) (hcap : n ≤ cap) (hs : Sens w A) :
    Calls Tryd.prog 10 #[.agg #[.int .i64 s, .int .i64 x, .int .i64 y, .slice a n cap, .slice b m dap], .agg #[.int .i64 px, .int .i64 py, .int .i64 ph]] w fun e w' => e = .returned (.tuple #[.int .i64 (endV s x y zs cs px py ph), .int .i64 (endC s x y zs cs px py ph)]) ∧ On w w' := by
  have HE := Lib.hid (fun (ea : Option Addr) (ecap : Nat) w' (hb : On w w') (he : Errs.Ends w' ea 1 (fun _ => (px, py, ph))) => Errs.impl_checkEnds A s x y a b n cap m dap zs cs ea 1 ecap (fun _ => (px, py, ph)) w' (hs.on hb) hzn hcm hn hm (h.below hb) (k.below hb) (by omega) he)
  have HS := Lib.hid hs
  clear hs
  by_cases hc : endC s x y zs cs px py ph = 0
  · have hok := of_end hc
    have hv := endV_yes hc
    have HV2 := Lib.hid (fun w' (hb : On w w') => impl_high s x y a b n cap m dap zs cs px py ph w' hzn hcap (h.below hb) hok.1 hok.2.2.1 (by omega) (by omega))
    generalize hgt s x y zs px py = H at *
    have HVV := Lib.hid hv
    have HCD := Lib.hid (code_one s x y zs cs px py ph)
    have HCC := Lib.hid hc
    rw [hc] at HCD
    clear hc hv h k hok
    go_enter Tryd.func10, Tryd.ntmps10
    go_wp2_with fail
    refine (HE.out _ _ _ (by repeat (first | with_reducible exact On.refl _ | with_reducible exact Below.refl _ _ | apply On.alloc)) ?_).mono ?_
    · exact ends_lit _ _ px py ph _ (by simp)
    rintro e w1 ⟨v, rfl, hk, h1⟩
    have O1 := Lib.hid (show On w w1 by refine On.trans ?_ h1; repeat (first | with_reducible exact On.refl _ | apply On.alloc))
    have T1 := Lib.hid (show TIn w1 w.heap.size s x y (.slice a n cap) (.slice b m dap) from TIn.on ⟨by simp [go_sem], by simp [go_sem], by simp [go_sem], by simp [go_sem], by simp [go_sem]⟩ h1)
    have E1 := Lib.hid (show EIn w1 (w.heap.size + 1) px py ph from EIn.on ⟨by simp [go_sem], by simp [go_sem], by simp [go_sem]⟩ h1)
    have HK := Lib.hid hk
    have hsh := Errs.shape hk
    clear hk h1
    rcases hsh with rfl | ⟨vt, vp, rfl⟩
    · go_wp2_with fail
      refine (Errs.impl_codeOf A _ 1 _ _ (fun _ => endsS s x y zs cs (fun _ => (px, py, ph)) 1) _ (HS.out.on (On.alloc O1.out _)) (by omega) ?_ (fun _ _ => HK.out.on (On.alloc (On.refl _) _))).mono ?_
      · exact row_lit _ _ _ _ rfl
      rintro e w2 ⟨rfl, h2⟩
      have O2 := Lib.hid (On.trans (On.alloc O1.out _) h2)
      have T2 := Lib.hid (T1.out.on (On.trans (On.alloc (On.refl _) _) h2))
      have E2 := Lib.hid (E1.out.on (On.trans (On.alloc (On.refl _) _) h2))
      clear h2
      rw [HCD.out]
      obtain ⟨t20, t21, t22, t23, t24⟩ := T2.out
      obtain ⟨e20, e21, e22⟩ := E2.out
      have z20 := World.block_lt_of_cell? w2 _ t20
      go_wp2_with fail
      refine (HV2.out _ O2.out).mono ?_
      rintro e w3 ⟨rfl, h3⟩
      go_wp2_with fail
      go_ret2
      exact ⟨ret_ii HVV.out.symm HCC.out.symm, On.trans O2.out h3⟩
    · go_wp2_with fail
      refine (Errs.impl_codeOf A _ 1 _ _ (fun _ => endsS s x y zs cs (fun _ => (px, py, ph)) 1) _ (HS.out.on (On.alloc O1.out _)) (by omega) ?_ (fun _ _ => HK.out.on (On.alloc (On.refl _) _))).mono ?_
      · exact row_lit _ _ _ _ rfl
      rintro e w2 ⟨rfl, h2⟩
      have O2 := Lib.hid (On.trans (On.alloc O1.out _) h2)
      have T2 := Lib.hid (T1.out.on (On.trans (On.alloc (On.refl _) _) h2))
      have E2 := Lib.hid (E1.out.on (On.trans (On.alloc (On.refl _) _) h2))
      clear h2
      rw [HCD.out]
      obtain ⟨t20, t21, t22, t23, t24⟩ := T2.out
      obtain ⟨e20, e21, e22⟩ := E2.out
      have z20 := World.block_lt_of_cell? w2 _ t20
      go_wp2_with fail
      refine (HV2.out _ O2.out).mono ?_
      rintro e w3 ⟨rfl, h3⟩
      go_wp2_with fail
      go_ret2
      exact ⟨ret_ii HVV.out.symm HCC.out.symm, On.trans O2.out h3⟩
  · skip
    have hv := endV_no hc
    have hb := (show (endC s x y zs cs px py ph == 0) = false from beq_eq_false_iff_ne.2 hc)
    have HVV := Lib.hid hv
    have HCD := Lib.hid (code_one s x y zs cs px py ph)
    have HCC := Lib.hid hc
    generalize endC s x y zs cs px py ph = C at *
    clear hc hv h k
    go_enter Tryd.func10, Tryd.ntmps10
    go_wp2_with fail
    refine (HE.out _ _ _ (by repeat (first | with_reducible exact On.refl _ | with_reducible exact Below.refl _ _ | apply On.alloc)) ?_).mono ?_
    · exact ends_lit _ _ px py ph _ (by simp)
    rintro e w1 ⟨v, rfl, hk, h1⟩
    have O1 := Lib.hid (show On w w1 by refine On.trans ?_ h1; repeat (first | with_reducible exact On.refl _ | apply On.alloc))
    have T1 := Lib.hid (show TIn w1 w.heap.size s x y (.slice a n cap) (.slice b m dap) from TIn.on ⟨by simp [go_sem], by simp [go_sem], by simp [go_sem], by simp [go_sem], by simp [go_sem]⟩ h1)
    have E1 := Lib.hid (show EIn w1 (w.heap.size + 1) px py ph from EIn.on ⟨by simp [go_sem], by simp [go_sem], by simp [go_sem]⟩ h1)
    have HK := Lib.hid hk
    have hsh := Errs.shape hk
    clear hk h1
    rcases hsh with rfl | ⟨vt, vp, rfl⟩
    · go_wp2_with fail
      refine (Errs.impl_codeOf A _ 1 _ _ (fun _ => endsS s x y zs cs (fun _ => (px, py, ph)) 1) _ (HS.out.on (On.alloc O1.out _)) (by omega) ?_ (fun _ _ => HK.out.on (On.alloc (On.refl _) _))).mono ?_
      · exact row_lit _ _ _ _ rfl
      rintro e w2 ⟨rfl, h2⟩
      have O2 := Lib.hid (On.trans (On.alloc O1.out _) h2)
      have T2 := Lib.hid (T1.out.on (On.trans (On.alloc (On.refl _) _) h2))
      have E2 := Lib.hid (E1.out.on (On.trans (On.alloc (On.refl _) _) h2))
      clear h2
      rw [HCD.out]
      go_wp2_with fail
      go_ret2
      exact ⟨ret_ii HVV.out.symm rfl, O2.out⟩
    · go_wp2_with fail
      refine (Errs.impl_codeOf A _ 1 _ _ (fun _ => endsS s x y zs cs (fun _ => (px, py, ph)) 1) _ (HS.out.on (On.alloc O1.out _)) (by omega) ?_ (fun _ _ => HK.out.on (On.alloc (On.refl _) _))).mono ?_
      · exact row_lit _ _ _ _ rfl
      rintro e w2 ⟨rfl, h2⟩
      have O2 := Lib.hid (On.trans (On.alloc O1.out _) h2)
      have T2 := Lib.hid (T1.out.on (On.trans (On.alloc (On.refl _) _) h2))
      have E2 := Lib.hid (E1.out.on (On.trans (On.alloc (On.refl _) _) h2))
      clear h2
      rw [HCD.out]
      go_wp2_with fail
      go_ret2
      exact ⟨ret_ii HVV.out.symm rfl, O2.out⟩
end Go.Proofs.YtadoaenmmemjdaaDoor.High
