
/-
  ProfileOf and ProfileClutter whole, in the model and in the program. Conditions: the heights' slice has room for what it holds.
-/
import Derived.Test.YtadoaenmmemjdaaPrfI
import Derived.Test.YtadoaenmmemjdaaPrfS
namespace Go.Proofs.Ytadoaenmmemjdaa.Prf
open Go.RowKit
open Plain Terr Plc
open Point (okB)
open Ints (Ints Own)
open Pts (OwnP Pairs flat flat_even flat_odd)
theorem prop_height (s x y : Int) (a b : Option Addr) (n cap d dap : Nat) (zs cs : List Int) (w : World) (hzn : zs.length = n) (hcm : cs.length = d) (_hn : n ≤ 1048576) (hm : d ≤ 1048576) (h : Ints w (.slice a n cap) zs) (_k : Ints w (.slice b d dap) cs) (hcap : n ≤ cap) (p q : Int) (w' : World) (ho : okT s x y zs cs = true) (hi : inT s x y p q = true) (ho' : On w w') :
    Calls Try.prog 37 #[.agg #[.int .i64 s, .int .i64 x, .int .i64 y, .slice a n cap, .slice b d dap], .agg #[.int .i64 p, .int .i64 q]] w' fun e w'' => e = .returned (.int .i64 ((fun p q => hgt s x y zs p q) p q)) ∧ On w' w'' := by
  obtain ⟨hs, hxy, hcl, hg⟩ := of_okT ho
  obtain ⟨⟨s0, s1⟩, ⟨x0, x1⟩, ⟨y0, y1⟩, -, -⟩ := of_size hs
  have hp5 := prod_n x0 x1 y0 y1
  have hxy' : (n : Int) = x * y := by rw [← hzn]; exact hxy
  rw [hzn] at hg
  obtain ⟨bz, oz, rfl, hlt, hcell⟩ := Terr.slice_of h hzn (by omega)
  obtain ⟨I, K, A, X, u, v, h0, h1, h2, h3, spt⟩ := spot s0 s1 x0 x1 y0 y1 hi hxy' hg
  exact impl_heightOf bz oz n cap I K A X d dap b s x y p q u v h0 h1 h2 h3 zs w' spt (ho'.lts _ hlt) (fun i hi' => (ho'.cell (p := ⟨bz, oz + i, none⟩) (by exact hlt)).trans (hcell i hi')) (by omega) hxy' hcap s0 s1 x0 x1 y0 y1 hi
theorem sprop_height (g : Nat) (s x y : Int) (a b : Option Addr) (n cap d dap : Nat) (zs cs : List Int) (w : World) (hzn : zs.length = n) (_hcm : cs.length = d) (hn : n ≤ 1048576) (_hm : d ≤ 1048576) (h : Ints w (.slice a n cap) zs) (_k : Ints w (.slice b d dap) cs) (hp : TIn w g s x y (.slice a n cap) (.slice b d dap)) (ho : okT s x y zs cs = true) (p q : Int) (w' : World) (hi : inT s x y p q = true) (ho' : On w w') :
    Calls Try.prog 47 #[.pointer (some ⟨g, 0, none⟩), .agg #[.int .i64 p, .int .i64 q]] w' fun e w'' => e = .returned (.int .i64 ((fun p q => hgt s x y zs p q) p q)) ∧ On w' w'' := by
  obtain ⟨hs, hxy, hcl, hg⟩ := of_okT ho
  obtain ⟨⟨s0, s1⟩, ⟨x0, x1⟩, ⟨y0, y1⟩, -, -⟩ := of_size hs
  have hp5 := prod_n x0 x1 y0 y1
  have hxy' : (n : Int) = x * y := by rw [← hzn]; exact hxy
  rw [hzn] at hg
  obtain ⟨bz, oz, rfl, hlt, hcell⟩ := Terr.slice_of h hzn (by omega)
  obtain ⟨I, K, A, X, u, v, h0, h1, h2, h3, spt⟩ := spot s0 s1 x0 x1 y0 y1 hi hxy' hg
  exact spec_heightOf g bz oz n cap I K A X s x y p q u v h0 h1 h2 h3 (.slice b d dap) zs w' spt (hp.on ho') (ho'.lts _ hlt) (fun i hi' => (ho'.cell (p := ⟨bz, oz + i, none⟩) (by exact hlt)).trans (hcell i hi')) (by omega) s0 s1 x0 x1 y0 y1 hi
set_option maxHeartbeats 2000000 in
theorem impl_ProfileOf (s x y : Int) (a b : Option Addr) (n cap d dap : Nat) (zs cs : List Int) (ax ay bx bv j : Int) (w : World) (hzn : zs.length = n) (hcm : cs.length = d) (hn : n ≤ 1048576) (hm : d ≤ 1048576) (h : Ints w (.slice a n cap) zs) (k : Ints w (.slice b d dap) cs) (hcap : n ≤ cap) :
    Calls Try.prog 15 #[.agg #[.int .i64 s, .int .i64 x, .int .i64 y, .slice a n cap, .slice b d dap], .agg #[.int .i64 ax, .int .i64 ay], .agg #[.int .i64 bx, .int .i64 bv], .int .i64 j] w fun e w' => ∃ v, e = .returned (.tuple #[v, .int .i64 (prC s x y ax ay bx bv j zs cs)]) ∧ Own w.heap.size w' v (prL (fun p q => hgt s x y zs p q) s x y ax ay bx bv j zs cs) ∧ On w w' := by
  have HB := Lib.hid (fun w' (hb : On w w') => impl_heights (fun p q => hgt s x y zs p q) s x y a b n cap d dap zs cs ax ay bx bv j w' hzn hcm hn hm (h.below hb) (k.below hb) (fun p q w'' ho hi ho' => prop_height s x y a b n cap d dap zs cs w hzn hcm hn hm h k hcap p q w'' ho hi (On.trans hb ho')))
  clear h k
  go_enter Try.func15, Try.ntmps15
  go_wp2_with fail
  refine (HB.out _ (by repeat (first | with_reducible exact On.refl _ | apply On.alloc))).mono ?_
  rintro e w1 ⟨v1, rfl, ho, h1⟩
  have O1 := Lib.hid (show On w w1 by refine On.trans ?_ h1; repeat (first | with_reducible exact On.refl _ | apply On.alloc))
  have HO := Lib.hid (ho.mono (B' := w.heap.size) (by simp; try omega))
  clear ho h1
  go_wp2_with fail
  go_ret2
  exact ⟨_, rfl, HO.out, O1.out⟩
set_option maxRecDepth 100000 in
set_option maxHeartbeats 4000000 in
theorem spec_ProfileOf (s x y : Int) (a b : Option Addr) (n cap d dap : Nat) (zs cs : List Int) (ax ay bx bv j : Int) (w : World) (hzn : zs.length = n) (hcm : cs.length = d) (hn : n ≤ 1048576) (hm : d ≤ 1048576) (h : Ints w (.slice a n cap) zs) (k : Ints w (.slice b d dap) cs) :
    Calls Try.prog 13 #[.agg #[.int .i64 s, .int .i64 x, .int .i64 y, .slice a n cap, .slice b d dap], .agg #[.int .i64 ax, .int .i64 ay], .agg #[.int .i64 bx, .int .i64 bv], .int .i64 j] w fun e w' => ∃ v, e = .returned (.tuple #[v, .int .i64 (prC s x y ax ay bx bv j zs cs)]) ∧ Ints w' v (prL (fun p q => hgt s x y zs p q) s x y ax ay bx bv j zs cs) ∧ On w w' := by
  have HQ := Lib.hid (fun w' (hb : On w w') hp => spec_ask w.heap.size s x y a b n cap d dap zs cs ax ay bx bv j w' hzn hcm hn hm (h.below hb) (k.below hb) hp)
  by_cases hc : prC s x y ax ay bx bv j zs cs = 0
  · have hx : okT s x y zs cs = true ∧ okB ax ay = true ∧ okB bx bv = true ∧ inB j 2 65 = true ∧ inT s x y ax ay = true ∧ inT s x y bx bv = true := by
      cases ho : okT s x y zs cs with
      | false => rw [prC_0 ho] at hc; omega
      | true =>
        cases oa : okB ax ay with
        | false => rw [prC_1 ho oa] at hc; omega
        | true =>
          cases ob : okB bx bv with
          | false => rw [prC_2 ho ob] at hc; omega
          | true =>
            cases hj : inB j 2 65 with
            | false => rw [prC_3 ho oa ob hj] at hc; omega
            | true =>
              cases ia : inT s x y ax ay with
              | false => rw [prC_4 ho oa ob hj ia] at hc; omega
              | true =>
                cases ib : inT s x y bx bv with
                | false => rw [prC_5 ho oa ob hj ib] at hc; omega
                | true => exact ⟨rfl, rfl, rfl, rfl, rfl, rfl⟩
    obtain ⟨ho, oa, ob, hj, ia, ib⟩ := hx
    obtain ⟨hm2', hm65'⟩ := of_inB hj
    obtain ⟨m, rfl⟩ : ∃ m : Nat, j = (m : Int) := ⟨j.toNat, by omega⟩
    have hm2 : 2 ≤ m := by omega
    have hm65 : m ≤ 65 := by omega
    rw [prL_yes hc, hc]
    rw [hc] at HQ
    have HSP := Lib.hid (fun w' (hb : On w w') hp => spec_prof (fun p q => hgt s x y zs p q) w.heap.size s x y ax ay bx bv m w' oa ob ia ib hm2 hm65 (fun p q w'' hi ho' => sprop_height w.heap.size s x y a b n cap d dap zs cs w' hzn hcm hn hm (h.below hb) (k.below hb) hp ho p q w'' hi ho'))
    clear h k ho oa ob hj ia ib hc
    go_enter Try.func13, Try.ntmps13
    go_wp2_with fail
    refine (HQ.out _ (by repeat (first | with_reducible exact On.refl _ | with_reducible exact Below.refl _ _ | apply On.alloc)) ⟨by simp [go_sem], by simp [go_sem], by simp [go_sem], by simp [go_sem], by simp [go_sem]⟩).mono ?_
    rintro e w1 ⟨rfl, h1⟩
    have T1 : TIn w1 w.heap.size s x y (.slice a n cap) (.slice b d dap) := TIn.on ⟨by simp [go_sem], by simp [go_sem], by simp [go_sem], by simp [go_sem], by simp [go_sem]⟩ h1
    have c0 : w1.cell? ⟨w.heap.size + 1, 0, none⟩ = some (.int .i64 ax) := (h1.cell (by simp; try omega)).trans (by simp [go_sem])
    have c1 : w1.cell? ⟨w.heap.size + 1, 1, none⟩ = some (.int .i64 ay) := (h1.cell (by simp; try omega)).trans (by simp [go_sem])
    have c2 : w1.cell? ⟨w.heap.size + 1 + 1, 0, none⟩ = some (.int .i64 bx) := (h1.cell (by simp)).trans (by simp [go_sem])
    have c3 : w1.cell? ⟨w.heap.size + 1 + 1, 1, none⟩ = some (.int .i64 bv) := (h1.cell (by simp)).trans (by simp [go_sem])
    have O1 := Lib.hid (show On w w1 by refine On.trans ?_ h1; repeat (first | with_reducible exact On.refl _ | apply On.alloc))
    have KT := Lib.hid T1
    clear h1 T1
    go_wp2_with fail
    refine (HSP.out _ O1.out KT.out).mono ?_
    rintro e w2 ⟨v2, rfl, hp2, h2⟩
    have O2 := Lib.hid (On.trans O1.out h2)
    clear h2
    go_wp2_with fail
    go_ret2
    exact ⟨_, rfl, hp2, O2.out⟩
  · rw [prL_no rfl hc]
    have hne : (prC s x y ax ay bx bv j zs cs != 0) = true := by rw [bne, beq_eq_false_iff_ne.2 hc]; rfl
    have hne2 : (prC s x y ax ay bx bv j zs cs == 0) = false := beq_eq_false_iff_ne.2 hc
    generalize prC s x y ax ay bx bv j zs cs = co at *
    clear h k
    go_enter Try.func13, Try.ntmps13
    go_wp2_with fail
    refine (HQ.out _ (by repeat (first | with_reducible exact On.refl _ | with_reducible exact Below.refl _ _ | apply On.alloc)) ⟨by simp [go_sem], by simp [go_sem], by simp [go_sem], by simp [go_sem], by simp [go_sem]⟩).mono ?_
    rintro e w1 ⟨rfl, h1⟩
    have T1 : TIn w1 w.heap.size s x y (.slice a n cap) (.slice b d dap) := TIn.on ⟨by simp [go_sem], by simp [go_sem], by simp [go_sem], by simp [go_sem], by simp [go_sem]⟩ h1
    have c0 : w1.cell? ⟨w.heap.size + 1, 0, none⟩ = some (.int .i64 ax) := (h1.cell (by simp; try omega)).trans (by simp [go_sem])
    have c1 : w1.cell? ⟨w.heap.size + 1, 1, none⟩ = some (.int .i64 ay) := (h1.cell (by simp; try omega)).trans (by simp [go_sem])
    have c2 : w1.cell? ⟨w.heap.size + 1 + 1, 0, none⟩ = some (.int .i64 bx) := (h1.cell (by simp)).trans (by simp [go_sem])
    have c3 : w1.cell? ⟨w.heap.size + 1 + 1, 1, none⟩ = some (.int .i64 bv) := (h1.cell (by simp)).trans (by simp [go_sem])
    have O1 := Lib.hid (show On w w1 by refine On.trans ?_ h1; repeat (first | with_reducible exact On.refl _ | apply On.alloc))
    have KT := Lib.hid T1
    clear h1 T1
    go_wp2_with fail
    go_ret2
    exact ⟨_, rfl, ints_nil _ _ _, O1.out⟩
theorem prop_clutter (s x y : Int) (a b : Option Addr) (n cap d dap : Nat) (zs cs : List Int) (w : World) (hzn : zs.length = n) (hcm : cs.length = d) (hn : n ≤ 1048576) (_hm : d ≤ 1048576) (_h : Ints w (.slice a n cap) zs) (k : Ints w (.slice b d dap) cs) (p q : Int) (w' : World) (ho : okT s x y zs cs = true) (hi : inT s x y p q = true) (ho' : On w w') :
    Calls Try.prog 39 #[.agg #[.int .i64 s, .int .i64 x, .int .i64 y, .slice a n cap, .slice b d dap], .agg #[.int .i64 p, .int .i64 q]] w' fun e w'' => e = .returned (.int .i64 ((fun p q => cs.getD (nearI s x p q).toNat 0) p q)) ∧ On w' w'' := by
  obtain ⟨hs, hxy, hcl, hg⟩ := of_okT ho
  obtain ⟨⟨s0, s1⟩, ⟨x0, x1⟩, ⟨y0, y1⟩, -, -⟩ := of_size hs
  have hp5 := prod_n x0 x1 y0 y1
  have hxy' : (d : Int) = x * y := by rw [← hcm, hcl]; exact hxy
  obtain ⟨bc, oc, rfl, hlt, hcell⟩ := Terr.slice_of k hcm (by omega)
  exact impl_clutter bc oc d dap n cap a s x y p q cs w' (ho'.lts _ hlt) (fun i hi' => (ho'.cell (p := ⟨bc, oc + i, none⟩) (by exact hlt)).trans (hcell i hi')) hxy' s0 s1 x0 x1 y0 y1 hi
theorem sprop_clutter (g : Nat) (s x y : Int) (a b : Option Addr) (n cap d dap : Nat) (zs cs : List Int) (w : World) (hzn : zs.length = n) (hcm : cs.length = d) (hn : n ≤ 1048576) (_hm : d ≤ 1048576) (_h : Ints w (.slice a n cap) zs) (k : Ints w (.slice b d dap) cs) (hp : TIn w g s x y (.slice a n cap) (.slice b d dap)) (ho : okT s x y zs cs = true) (p q : Int) (w' : World) (hi : inT s x y p q = true) (ho' : On w w') :
    Calls Try.prog 38 #[.pointer (some ⟨g, 0, none⟩), .agg #[.int .i64 p, .int .i64 q]] w' fun e w'' => e = .returned (.int .i64 ((fun p q => cs.getD (nearI s x p q).toNat 0) p q)) ∧ On w' w'' := by
  obtain ⟨hs, hxy, hcl, hg⟩ := of_okT ho
  obtain ⟨⟨s0, s1⟩, ⟨x0, x1⟩, ⟨y0, y1⟩, -, -⟩ := of_size hs
  have hp5 := prod_n x0 x1 y0 y1
  have hxy' : (d : Int) = x * y := by rw [← hcm, hcl]; exact hxy
  obtain ⟨bc, oc, rfl, hlt, hcell⟩ := Terr.slice_of k hcm (by omega)
  exact spec_clutter g bc oc d dap s x y p q (.slice a n cap) cs w' (hp.on ho') (ho'.lts _ hlt) (fun i hi' => (ho'.cell (p := ⟨bc, oc + i, none⟩) (by exact hlt)).trans (hcell i hi')) hxy' s0 s1 x0 x1 y0 y1 hi
set_option maxHeartbeats 2000000 in
theorem impl_ProfileClutter (s x y : Int) (a b : Option Addr) (n cap d dap : Nat) (zs cs : List Int) (ax ay bx bv j : Int) (w : World) (hzn : zs.length = n) (hcm : cs.length = d) (hn : n ≤ 1048576) (hm : d ≤ 1048576) (h : Ints w (.slice a n cap) zs) (k : Ints w (.slice b d dap) cs) :
    Calls Try.prog 22 #[.agg #[.int .i64 s, .int .i64 x, .int .i64 y, .slice a n cap, .slice b d dap], .agg #[.int .i64 ax, .int .i64 ay], .agg #[.int .i64 bx, .int .i64 bv], .int .i64 j] w fun e w' => ∃ v, e = .returned (.tuple #[v, .int .i64 (prC s x y ax ay bx bv j zs cs)]) ∧ Own w.heap.size w' v (prL (fun p q => cs.getD (nearI s x p q).toNat 0) s x y ax ay bx bv j zs cs) ∧ On w w' := by
  have HB := Lib.hid (fun w' (hb : On w w') => impl_clutters (fun p q => cs.getD (nearI s x p q).toNat 0) s x y a b n cap d dap zs cs ax ay bx bv j w' hzn hcm hn hm (h.below hb) (k.below hb) (fun p q w'' ho hi ho' => prop_clutter s x y a b n cap d dap zs cs w hzn hcm hn hm h k p q w'' ho hi (On.trans hb ho')))
  clear h k
  go_enter Try.func22, Try.ntmps22
  go_wp2_with fail
  refine (HB.out _ (by repeat (first | with_reducible exact On.refl _ | apply On.alloc))).mono ?_
  rintro e w1 ⟨v1, rfl, ho, h1⟩
  have O1 := Lib.hid (show On w w1 by refine On.trans ?_ h1; repeat (first | with_reducible exact On.refl _ | apply On.alloc))
  have HO := Lib.hid (ho.mono (B' := w.heap.size) (by simp; try omega))
  clear ho h1
  go_wp2_with fail
  go_ret2
  exact ⟨_, rfl, HO.out, O1.out⟩
set_option maxRecDepth 100000 in
set_option maxHeartbeats 4000000 in
theorem spec_ProfileClutter (s x y : Int) (a b : Option Addr) (n cap d dap : Nat) (zs cs : List Int) (ax ay bx bv j : Int) (w : World) (hzn : zs.length = n) (hcm : cs.length = d) (hn : n ≤ 1048576) (hm : d ≤ 1048576) (h : Ints w (.slice a n cap) zs) (k : Ints w (.slice b d dap) cs) :
    Calls Try.prog 21 #[.agg #[.int .i64 s, .int .i64 x, .int .i64 y, .slice a n cap, .slice b d dap], .agg #[.int .i64 ax, .int .i64 ay], .agg #[.int .i64 bx, .int .i64 bv], .int .i64 j] w fun e w' => ∃ v, e = .returned (.tuple #[v, .int .i64 (prC s x y ax ay bx bv j zs cs)]) ∧ Ints w' v (prL (fun p q => cs.getD (nearI s x p q).toNat 0) s x y ax ay bx bv j zs cs) ∧ On w w' := by
  have HQ := Lib.hid (fun w' (hb : On w w') hp => spec_ask w.heap.size s x y a b n cap d dap zs cs ax ay bx bv j w' hzn hcm hn hm (h.below hb) (k.below hb) hp)
  by_cases hc : prC s x y ax ay bx bv j zs cs = 0
  · have hx : okT s x y zs cs = true ∧ okB ax ay = true ∧ okB bx bv = true ∧ inB j 2 65 = true ∧ inT s x y ax ay = true ∧ inT s x y bx bv = true := by
      cases ho : okT s x y zs cs with
      | false => rw [prC_0 ho] at hc; omega
      | true =>
        cases oa : okB ax ay with
        | false => rw [prC_1 ho oa] at hc; omega
        | true =>
          cases ob : okB bx bv with
          | false => rw [prC_2 ho ob] at hc; omega
          | true =>
            cases hj : inB j 2 65 with
            | false => rw [prC_3 ho oa ob hj] at hc; omega
            | true =>
              cases ia : inT s x y ax ay with
              | false => rw [prC_4 ho oa ob hj ia] at hc; omega
              | true =>
                cases ib : inT s x y bx bv with
                | false => rw [prC_5 ho oa ob hj ib] at hc; omega
                | true => exact ⟨rfl, rfl, rfl, rfl, rfl, rfl⟩
    obtain ⟨ho, oa, ob, hj, ia, ib⟩ := hx
    obtain ⟨hm2', hm65'⟩ := of_inB hj
    obtain ⟨m, rfl⟩ : ∃ m : Nat, j = (m : Int) := ⟨j.toNat, by omega⟩
    have hm2 : 2 ≤ m := by omega
    have hm65 : m ≤ 65 := by omega
    rw [prL_yes hc, hc]
    rw [hc] at HQ
    obtain ⟨F, hF⟩ : ∃ F : Int → Int → Int, F = (fun p q => cs.getD (nearI s x p q).toNat 0) := ⟨_, rfl⟩
    have HK0 := fun w' (hb : On w w') hp p q w'' hi ho' => sprop_clutter w.heap.size s x y a b n cap d dap zs cs w' hzn hcm hn hm (h.below hb) (k.below hb) hp ho p q w'' hi ho'
    have HK : ∀ w', On w w' → TIn w' w.heap.size s x y (.slice a n cap) (.slice b d dap) → ∀ (p q : Int) w'', inT s x y p q = true → On w' w'' → Calls Try.prog 38 #[.pointer (some ⟨w.heap.size, 0, none⟩), .agg #[.int .i64 p, .int .i64 q]] w'' fun e w3 => e = .returned (.int .i64 (F p q)) ∧ On w'' w3 := by rw [hF]; exact HK0
    rw [← hF]
    obtain ⟨i0, hi, hz0, hz1, hz2⟩ := info_parts Ints.info
    clear h k ho hj hc HK0 hF
    have HIN := Lib.hid (fun k (hk : k < m) => plc_in (s := s) (x := x) (y := y) hm2 hk ia ib)
    have hpl := plcs_len ax ay bx bv m
    obtain ⟨a0, a1, a2, a3⟩ := Point.of_okB oa
    obtain ⟨b0, b1, b2, b3⟩ := Point.of_okB ob
    have HP := Lib.hid (fun w => spec_places ax ay bx bv m w ⟨a0, a1⟩ ⟨a2, a3⟩ ⟨b0, b1⟩ ⟨b2, b3⟩ hm2 hm65)
    obtain ⟨ps, hps⟩ : ∃ ps, ps = plcs ax ay bx bv m := ⟨_, rfl⟩
    rw [← hps] at HP HIN hpl
    rw [← hps]
    obtain ⟨vs, hvs⟩ : ∃ vs, vs = vals F ps := ⟨_, rfl⟩
    have HVT := Lib.hid (fun k (hk : k < m) => show vs.take (k + 1) = vs.take k ++ [F (ps.getD k (0, 0)).1 (ps.getD k (0, 0)).2] by rw [hvs]; exact vals_take F (by omega))
    have HVL := Lib.hid (show vs.length = m by rw [hvs, vals_len, hpl])
    rw [← hvs]
    have HK2 := Lib.hid HK
    clear HK oa ob ia ib hps hvs a0 a1 a2 a3 b0 b1 b2 b3
    go_enter Try.func21, Try.ntmps21
    go_wp2_with fail
    refine (HQ.out _ (by repeat (first | with_reducible exact On.refl _ | with_reducible exact Below.refl _ _ | apply On.alloc)) ⟨by simp [go_sem], by simp [go_sem], by simp [go_sem], by simp [go_sem], by simp [go_sem]⟩).mono ?_
    rintro e w1 ⟨rfl, h1⟩
    have T1 : TIn w1 w.heap.size s x y (.slice a n cap) (.slice b d dap) := TIn.on ⟨by simp [go_sem], by simp [go_sem], by simp [go_sem], by simp [go_sem], by simp [go_sem]⟩ h1
    have c0 : w1.cell? ⟨w.heap.size + 1, 0, none⟩ = some (.int .i64 ax) := (h1.cell (by simp; try omega)).trans (by simp [go_sem])
    have c1 : w1.cell? ⟨w.heap.size + 1, 1, none⟩ = some (.int .i64 ay) := (h1.cell (by simp; try omega)).trans (by simp [go_sem])
    have c2 : w1.cell? ⟨w.heap.size + 1 + 1, 0, none⟩ = some (.int .i64 bx) := (h1.cell (by simp)).trans (by simp [go_sem])
    have c3 : w1.cell? ⟨w.heap.size + 1 + 1, 1, none⟩ = some (.int .i64 bv) := (h1.cell (by simp)).trans (by simp [go_sem])
    have O1 := Lib.hid (show On w w1 by refine On.trans ?_ h1; repeat (first | with_reducible exact On.refl _ | apply On.alloc))
    have KT := Lib.hid T1
    clear h1 T1
    go_wp2_with fail
    refine (HP.out _).mono ?_
    rintro e w2 ⟨v2, rfl, hp2, h2⟩
    have O2 := Lib.hid h2
    have HK3 := Lib.hid (HK2.out _ O1.out KT.out)
    have OW := O1
    clear h2 HK2 O1
    have HK2 := HK3
    clear HK3 c0 c1 c2 c3 KT
    obtain ⟨a', cap', he, hcc⟩ := hp2
    obtain ⟨q, off, hq, hlt, hcl⟩ := hcc (by rw [hpl]; omega)
    subst he
    subst hq
    rw [hpl] at hcl ⊢
    have HCL := Lib.hid hcl
    clear hcl hcc
    go_wp2_with fail
    go_loopw [12, 13] (fun v i wr => ∃ k : Nat, k ≤ m ∧ i = .int .i64 k ∧ wr.ownsRow w2.heap.size 2 1 v k (intCells (vs.take k)) ∧ On w2 wr) (fun _ i _ => m - (intOf i).toNat)
    case atStart => exact ⟨0, Nat.zero_le _, rfl, lit_i w2 _ rfl, On.alloc (On.refl _) _⟩
    case round =>
      obtain ⟨k, hk, rfl, hown, hb⟩ := hrel
      have HO := Lib.hid hown
      have HB := Lib.hid hb
      have hsz := hb.size
      clear hown hb
      by_cases hlt2 : k < m
      · have hlti : (k : Int) < (m : Int) := by omega
        obtain ⟨px, hpx⟩ : ∃ p, p = (ps.getD k (0, 0)).1 := ⟨_, rfl⟩
        obtain ⟨py, hpy⟩ : ∃ p, p = (ps.getD k (0, 0)).2 := ⟨_, rfl⟩
        have hin := HIN.out k hlt2
        have hv := HVT.out k hlt2
        rw [← hpx, ← hpy] at hin hv
        have p0 : wr.cell? ⟨q, off + k * 2, none⟩ = some (.int .i64 px) := by rw [hpx, ← flat_even]; exact (HB.out.cell (by exact hlt)).trans (HCL.out (k * 2) (by omega))
        have p1 : wr.cell? ⟨q, off + k * 2 + 1, none⟩ = some (.int .i64 py) := by rw [hpy, ← flat_odd]; exact (HB.out.cell (by exact hlt)).trans (HCL.out (k * 2 + 1) (by omega))
        have HKK := Lib.hid (fun w' (ho' : On w1 w') => HK2.out px py w' hin ho')
        have HV2 := Lib.hid hv
        have HOr := Lib.hid (On.trans O2.out HB.out)
        generalize F px py = z at *
        clear hpx hpy hin hv
        go_wp2_with fail
        refine (HKK.out _ HOr.out).mono ?_
        rintro e w5 ⟨rfl, h5⟩
        have HO5 := Lib.hid (own_on HO.out h5)
        have HB5 := Lib.hid (HB.out.trans h5)
        have hsz5 := HB5.out.size
        clear h5
        go_wp2_with (at_builtin; refine wpList_append_own _ rfl (.tmp 32) (.tmp 38) 32 rfl w2.heap.size 2 i0 (.int .i64 0) 1 8 Try.underlying32 hi hz0 hz1 hz2 rfl (by decide) _ k _ rfl (HO5.out.alloc _) ⟨w5.heap.size, 0, none⟩ 1 1 [.int .i64 z] rfl rfl ?c1 ?c2 ?c3 ?c4 ?c5 ?_)
        case c1 => exact cells_one
        case c2 => exact one_cell
        case c3 => unfold maxLen; omega
        case c4 => omega
        case c5 => simp; omega
        intro v' w9 hown' hgrow _
        have hd : intCells (vs.take k) ++ [Value.int .i64 z] = intCells (vs.take (k + 1)) := by rw [HV2.out]; unfold intCells; rw [List.map_append]; rfl
        rw [hd] at hown'
        have HO9 := Lib.hid hown'
        have HB9 := Lib.hid (show On w2 w9 from Below.grown (On.alloc HB5.out _) hgrow (by simp; omega) (fun k hk => (HO5.out.lt k hk).1))
        clear hown' hgrow hd
        go_wp2
        go_roundw
        case rel => first | exact ⟨k + 1, by omega, by go_num, HO9.out, HB9.out⟩ | ((repeat apply Exists.intro); exact ⟨⟨k + 1, by omega, by go_num, HO9.out, HB9.out⟩, rfl⟩)
        case measure => simp [intOf]; omega
      · obtain rfl : k = m := by omega
        have HI := Lib.hid (show Ints wr _ vs from own_row (by have := HO.out; rw [List.take_of_length_le (by rw [HVL.out]; exact Nat.le_refl _)] at this; rw [HVL.out]; exact this))
        go_wp2_with fail
        go_ret2
        exact ⟨_, rfl, HI.out, On.trans OW.out (On.trans O2.out HB.out)⟩
  · rw [prL_no rfl hc]
    have hne : (prC s x y ax ay bx bv j zs cs != 0) = true := by rw [bne, beq_eq_false_iff_ne.2 hc]; rfl
    have hne2 : (prC s x y ax ay bx bv j zs cs == 0) = false := beq_eq_false_iff_ne.2 hc
    generalize prC s x y ax ay bx bv j zs cs = co at *
    clear h k
    go_enter Try.func21, Try.ntmps21
    go_wp2_with fail
    refine (HQ.out _ (by repeat (first | with_reducible exact On.refl _ | with_reducible exact Below.refl _ _ | apply On.alloc)) ⟨by simp [go_sem], by simp [go_sem], by simp [go_sem], by simp [go_sem], by simp [go_sem]⟩).mono ?_
    rintro e w1 ⟨rfl, h1⟩
    have T1 : TIn w1 w.heap.size s x y (.slice a n cap) (.slice b d dap) := TIn.on ⟨by simp [go_sem], by simp [go_sem], by simp [go_sem], by simp [go_sem], by simp [go_sem]⟩ h1
    have c0 : w1.cell? ⟨w.heap.size + 1, 0, none⟩ = some (.int .i64 ax) := (h1.cell (by simp; try omega)).trans (by simp [go_sem])
    have c1 : w1.cell? ⟨w.heap.size + 1, 1, none⟩ = some (.int .i64 ay) := (h1.cell (by simp; try omega)).trans (by simp [go_sem])
    have c2 : w1.cell? ⟨w.heap.size + 1 + 1, 0, none⟩ = some (.int .i64 bx) := (h1.cell (by simp)).trans (by simp [go_sem])
    have c3 : w1.cell? ⟨w.heap.size + 1 + 1, 1, none⟩ = some (.int .i64 bv) := (h1.cell (by simp)).trans (by simp [go_sem])
    have O1 := Lib.hid (show On w w1 by refine On.trans ?_ h1; repeat (first | with_reducible exact On.refl _ | apply On.alloc))
    have KT := Lib.hid T1
    clear h1 T1
    go_wp2_with fail
    go_ret2
    exact ⟨_, rfl, ints_nil _ _ _, O1.out⟩
end Go.Proofs.Ytadoaenmmemjdaa.Prf
