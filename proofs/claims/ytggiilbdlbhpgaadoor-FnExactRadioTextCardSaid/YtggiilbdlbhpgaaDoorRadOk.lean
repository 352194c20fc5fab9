
/-
  When a radio is valid, in the model and in the program. Condition: at most 1048576 modes, and bytes in the name.
-/
import Derived.Test.YtggiilbdlbhpgaaDoorRad0
import Derived.Test.YtggiilbdlbhpgaaDoorArith
import Derived.Test.YtggiilbdlbhpgaaDoorText1
namespace Go.Proofs.YtggiilbdlbhpgaaDoor.Rad
open Go.RowKit
open Plain
open Modes (Pairs)

def at0 (zs : List (Int × Int)) (k : Nat) : Int := (zs.getD k (0, 0)).1
def at1 (zs : List (Int × Int)) (k : Nat) : Int := (zs.getD k (0, 0)).2
/-- Whether a mode is in its bounds, and above the one before. -/
def stepB (zs : List (Int × Int)) (k : Nat) : Bool := inB (at0 zs k) (-50000) 100000 && (inB (at1 zs k) 1 1000000 && (decide (k = 0) || (decide (at0 zs (k - 1) < at0 zs k) && decide (at1 zs (k - 1) < at1 zs k))))
def modesB (zs : List (Int × Int)) : Bool := decide (1 ≤ zs.length ∧ zs.length ≤ 8) && (List.range zs.length).all (stepB zs)
theorem modes_len {zs : List (Int × Int)} (h : ¬ (1 ≤ zs.length ∧ zs.length ≤ 8)) : modesB zs = false := by unfold modesB; rw [decide_eq_false h]; rfl
theorem modes_bad {zs : List (Int × Int)} {k : Nat} (hk : k < zs.length) (h : stepB zs k = false) : modesB zs = false := by
  unfold modesB
  rw [Bool.and_eq_false_iff]
  refine .inr (List.all_eq_false.2 ⟨k, List.mem_range.2 hk, ?_⟩)
  rw [h]; simp
def Upto (zs : List (Int × Int)) (k : Nat) : Prop := ∀ j, j < k → stepB zs j = true
theorem upto_zero (zs : List (Int × Int)) : Upto zs 0 := fun _ h => by omega
theorem upto_succ {zs : List (Int × Int)} {k : Nat} (h : Upto zs k) (hk : stepB zs k = true) : Upto zs (k + 1) := fun j hj => by
  by_cases g : j = k
  · rw [g]; exact hk
  · exact h j (by omega)
theorem modes_all {zs : List (Int × Int)} (h : Upto zs zs.length) : modesB zs = decide (1 ≤ zs.length ∧ zs.length ≤ 8) := by
  unfold modesB
  rw [show (List.range zs.length).all (stepB zs) = true from List.all_eq_true.2 fun j hj => h j (List.mem_range.1 hj), Bool.and_true]
theorem of_modes {zs : List (Int × Int)} (h : modesB zs = true) : (1 ≤ zs.length ∧ zs.length ≤ 8) ∧ Upto zs zs.length := by
  unfold modesB at h
  rw [Bool.and_eq_true] at h
  exact ⟨of_decide_eq_true h.1, fun j hj => List.all_eq_true.1 h.2 j (List.mem_range.2 hj)⟩
theorem step_1 {zs : List (Int × Int)} {k : Nat} {x : Int} (hx : x = at0 zs k) (h : inB x (-50000) 100000 = false) : stepB zs k = false := by unfold stepB; rw [← hx, h]; rfl
theorem step_2 {zs : List (Int × Int)} {k : Nat} {y : Int} (hy : y = at1 zs k) (h : inB y 1 1000000 = false) : stepB zs k = false := by unfold stepB; rw [← hy, h]; simp
theorem step_0 {zs : List (Int × Int)} {x y : Int} (hx : x = at0 zs 0) (hy : y = at1 zs 0) (h : inB x (-50000) 100000 = true) (h2 : inB y 1 1000000 = true) : stepB zs 0 = true := by unfold stepB; rw [← hx, ← hy, h, h2]; rfl
theorem step_3 {zs : List (Int × Int)} {k : Nat} {x u : Int} (hx : x = at0 zs (k + 1)) (hu : u = at0 zs k) (h : x ≤ u) : stepB zs (k + 1) = false := by
  unfold stepB; rw [show k + 1 - 1 = k from rfl, ← hx, ← hu, decide_eq_false (p := u < x) (by omega)]; simp
theorem step_4 {zs : List (Int × Int)} {k : Nat} {y v : Int} (hy : y = at1 zs (k + 1)) (hv : v = at1 zs k) (h : y ≤ v) : stepB zs (k + 1) = false := by
  unfold stepB; rw [show k + 1 - 1 = k from rfl, ← hy, ← hv, decide_eq_false (p := v < y) (by omega)]; simp
theorem step_5 {zs : List (Int × Int)} {k : Nat} {x u y v : Int} (hx : x = at0 zs (k + 1)) (hu : u = at0 zs k) (hy : y = at1 zs (k + 1)) (hv : v = at1 zs k) (h : inB x (-50000) 100000 = true) (h2 : inB y 1 1000000 = true) (h3 : ¬ x ≤ u) (h4 : ¬ y ≤ v) : stepB zs (k + 1) = true := by
  unfold stepB; rw [show k + 1 - 1 = k from rfl, ← hx, ← hu, ← hy, ← hv, h, h2, decide_eq_true (p := u < x) (by omega), decide_eq_true (p := v < y) (by omega)]; simp
def okR (x0 : ByteArray) (x1 x2 x3 x4 : Int) (z5 : List (Int × Int)) : Bool := nameB x0.data.toList && (inB x1 (-100000) 100000 && (inB x2 0 30000 && (inB x3 0 30000 && (inB x4 1 100000 && modesB z5))))

theorem okR_0 {x0 : ByteArray} {x1 x2 x3 x4 : Int} {z5 : List (Int × Int)} (h : nameB x0.data.toList = false) : okR x0 x1 x2 x3 x4 z5 = false := by unfold okR; rw [h]; simp
theorem okR_1 {x0 : ByteArray} {x1 x2 x3 x4 : Int} {z5 : List (Int × Int)} (h : inB x1 (-100000) 100000 = false) : okR x0 x1 x2 x3 x4 z5 = false := by unfold okR; rw [h]; simp
theorem okR_2 {x0 : ByteArray} {x1 x2 x3 x4 : Int} {z5 : List (Int × Int)} (h : inB x2 0 30000 = false) : okR x0 x1 x2 x3 x4 z5 = false := by unfold okR; rw [h]; simp
theorem okR_3 {x0 : ByteArray} {x1 x2 x3 x4 : Int} {z5 : List (Int × Int)} (h : inB x3 0 30000 = false) : okR x0 x1 x2 x3 x4 z5 = false := by unfold okR; rw [h]; simp
theorem okR_4 {x0 : ByteArray} {x1 x2 x3 x4 : Int} {z5 : List (Int × Int)} (h : inB x4 1 100000 = false) : okR x0 x1 x2 x3 x4 z5 = false := by unfold okR; rw [h]; simp
theorem okR_5 {x0 : ByteArray} {x1 x2 x3 x4 : Int} {z5 : List (Int × Int)} (h : modesB z5 = false) : okR x0 x1 x2 x3 x4 z5 = false := by unfold okR; rw [h]; simp
theorem okR_yes {x0 : ByteArray} {x1 x2 x3 x4 : Int} {z5 : List (Int × Int)} (h0 : nameB x0.data.toList = true) (h1 : inB x1 (-100000) 100000 = true) (h2 : inB x2 0 30000 = true) (h3 : inB x3 0 30000 = true) (h4 : inB x4 1 100000 = true) : okR x0 x1 x2 x3 x4 z5 = modesB z5 := by unfold okR; rw [h0, h1, h2, h3, h4]; rfl
theorem of_okR {x0 : ByteArray} {x1 x2 x3 x4 : Int} {z5 : List (Int × Int)} (h : okR x0 x1 x2 x3 x4 z5 = true) : nameB x0.data.toList = true ∧ (-100000 ≤ x1 ∧ x1 ≤ 100000) ∧ (0 ≤ x2 ∧ x2 ≤ 30000) ∧ (0 ≤ x3 ∧ x3 ≤ 30000) ∧ (1 ≤ x4 ∧ x4 ≤ 100000) ∧ modesB z5 = true := by
  unfold okR at h
  rw [Bool.and_eq_true, Bool.and_eq_true, Bool.and_eq_true, Bool.and_eq_true, Bool.and_eq_true] at h
  exact ⟨h.1, of_inB h.2.1, of_inB h.2.2.1, of_inB h.2.2.2.1, of_inB h.2.2.2.2.1, h.2.2.2.2.2⟩
set_option maxRecDepth 100000 in
set_option maxHeartbeats 4000000 in
theorem spec_ok (g : Nat) (x0 : ByteArray) (x1 x2 x3 x4 : Int) (v5 : Value) (z5 : List (Int × Int)) (w : World) (q0 : x0.size ≤ 1048576) (q5 : z5.length ≤ 1048576) (hp : In w g x0 x1 x2 x3 x4 v5) (h5 : Pairs w v5 z5) :
    Calls Tryd.prog 20 #[.pointer (some ⟨g, 0, none⟩)] w fun e w' => e = .returned (.bool (okR x0 x1 x2 x3 x4 z5)) ∧ On w w' := by
  have KP := Lib.hid hp
  obtain ⟨k0, k1, k2, k3, k4, k5⟩ := hp
  have hg := World.block_lt_of_cell? w _ k0
  have HN := Lib.hid (fun w => Text1.spec_l01Name x0 w q0)
  have h5' := h5
  obtain ⟨a5, cap5, rfl, -⟩ := h5
  cases t0 : nameB x0.data.toList with
  | false =>
    have en := Lib.hid (okR_0 (x1 := x1) (x2 := x2) (x3 := x3) (x4 := x4) (z5 := z5) t0)
    clear h5' KP
    rw [t0] at HN
    go_enter Tryd.func20, Tryd.ntmps20
    go_wp2_with (first | (go_at_call 38; refine (HN.out _).mono ?_; rintro e w' ⟨rfl, rfl⟩) | (go_at_call 39; refine (Arith.l00In _ _ _ _).mono ?_; rintro e w' ⟨rfl, rfl⟩))
    go_ret
    exact ⟨ret_bool en.out.symm, On.refl _⟩
  | true =>
    rw [t0] at HN
    cases t1 : inB x1 (-100000) 100000 with
    | false =>
      have en := Lib.hid (okR_1 (x0 := x0) (x2 := x2) (x3 := x3) (x4 := x4) (z5 := z5) t1)
      clear h5' KP
      skip
      go_enter Tryd.func20, Tryd.ntmps20
      go_wp2_with (first | (go_at_call 38; refine (HN.out _).mono ?_; rintro e w' ⟨rfl, rfl⟩) | (go_at_call 39; refine (Arith.l00In _ _ _ _).mono ?_; rintro e w' ⟨rfl, rfl⟩))
      go_ret
      exact ⟨ret_bool en.out.symm, On.refl _⟩
    | true =>
      skip
      cases t2 : inB x2 0 30000 with
      | false =>
        have en := Lib.hid (okR_2 (x0 := x0) (x1 := x1) (x3 := x3) (x4 := x4) (z5 := z5) t2)
        clear h5' KP
        skip
        go_enter Tryd.func20, Tryd.ntmps20
        go_wp2_with (first | (go_at_call 38; refine (HN.out _).mono ?_; rintro e w' ⟨rfl, rfl⟩) | (go_at_call 39; refine (Arith.l00In _ _ _ _).mono ?_; rintro e w' ⟨rfl, rfl⟩))
        go_ret
        exact ⟨ret_bool en.out.symm, On.refl _⟩
      | true =>
        skip
        cases t3 : inB x3 0 30000 with
        | false =>
          have en := Lib.hid (okR_3 (x0 := x0) (x1 := x1) (x2 := x2) (x4 := x4) (z5 := z5) t3)
          clear h5' KP
          skip
          go_enter Tryd.func20, Tryd.ntmps20
          go_wp2_with (first | (go_at_call 38; refine (HN.out _).mono ?_; rintro e w' ⟨rfl, rfl⟩) | (go_at_call 39; refine (Arith.l00In _ _ _ _).mono ?_; rintro e w' ⟨rfl, rfl⟩))
          go_ret
          exact ⟨ret_bool en.out.symm, On.refl _⟩
        | true =>
          skip
          cases t4 : inB x4 1 100000 with
          | false =>
            have en := Lib.hid (okR_4 (x0 := x0) (x1 := x1) (x2 := x2) (x3 := x3) (z5 := z5) t4)
            clear h5' KP
            skip
            go_enter Tryd.func20, Tryd.ntmps20
            go_wp2_with (first | (go_at_call 38; refine (HN.out _).mono ?_; rintro e w' ⟨rfl, rfl⟩) | (go_at_call 39; refine (Arith.l00In _ _ _ _).mono ?_; rintro e w' ⟨rfl, rfl⟩))
            go_ret
            exact ⟨ret_bool en.out.symm, On.refl _⟩
          | true =>
            skip
            have EQ := Lib.hid (okR_yes (z5 := z5) t0 t1 t2 t3 t4)
            by_cases hl : 1 ≤ z5.length ∧ z5.length ≤ 8
            · obtain ⟨b, off, rfl, hb, hcell⟩ := Modes.slice_of h5' (by omega)
              have HC0 := Lib.hid hcell
              obtain ⟨n, hn⟩ : ∃ n, n = z5.length := ⟨_, rfl⟩
              have HL := Lib.hid hn
              have HC := Lib.hid (fun (k : Nat) (hk : k < n) => show w.cell? ⟨b, off + k * 2, none⟩ = some (.int .i64 (at0 z5 k)) ∧ w.cell? ⟨b, off + k * 2 + 1, none⟩ = some (.int .i64 (at1 z5 k)) from HC0.out k (by rw [← HL.out]; exact hk))
              rw [← hn] at hl KP k5
              obtain ⟨n1, n8⟩ := hl
              have n1' : ¬ (n : Int) < 1 := by omega
              have n8' : ¬ (8 : Int) < (n : Int) := by omega
              clear hcell HC0 hn h5'
              go_enter Tryd.func20, Tryd.ntmps20
              go_wp2_with (first | (go_at_call 38; refine (HN.out _).mono ?_; rintro e w' ⟨rfl, rfl⟩) | (go_at_call 39; refine (Arith.l00In _ _ _ _).mono ?_; rintro e w' ⟨rfl, rfl⟩))
              go_loopw [3] (fun i wr => ∃ k : Nat, k ≤ n ∧ i = .int .i64 k ∧ Upto z5 k ∧ On w wr) (fun i _ => n - (intOf i).toNat)
              case atStart => exact ⟨0, Nat.zero_le _, rfl, upto_zero _, On.refl _⟩
              case round =>
                obtain ⟨k, hk, rfl, hall, ho⟩ := hrel
                have HA := Lib.hid hall
                have HO := Lib.hid ho
                have K1 := Lib.hid (KP.out.on ho)
                obtain ⟨k0, k1, k2, k3, k4, k5⟩ := K1.out
                have hg := World.block_lt_of_cell? wr _ k0
                clear hall ho
                by_cases hlt : k < n
                · have hlti : (k : Int) < (n : Int) := by omega
                  obtain ⟨x, hx⟩ : ∃ x, x = at0 z5 k := ⟨_, rfl⟩
                  obtain ⟨y, hy⟩ : ∃ y, y = at1 z5 k := ⟨_, rfl⟩
                  have c1 : wr.cell? ⟨b, off + k * 2, none⟩ = some (.int .i64 x) := by rw [hx]; exact (HO.out.cell (by exact hb)).trans (HC.out k hlt).1
                  have c2 : wr.cell? ⟨b, off + k * 2 + 1, none⟩ = some (.int .i64 y) := by rw [hy]; exact (HO.out.cell (by exact hb)).trans (HC.out k hlt).2
                  have hbr := HO.out.lts _ hb
                  have HX := Lib.hid hx
                  have HY := Lib.hid hy
                  clear hx hy
                  cases hin : inB x (-50000) 100000 with
                  | false =>
                    have en := Lib.hid (modes_bad (k := k) (by rw [← HL.out]; exact hlt) (step_1 HX.out hin))
                    go_wp2_with (go_at_call 39; refine (Arith.l00In _ _ _ _).mono ?_; rintro e w' ⟨rfl, rfl⟩)
                    go_ret
                    exact ⟨ret_bool (en.out.symm.trans EQ.out.symm), HO.out.trans (by repeat (first | with_reducible exact On.refl _ | apply On.alloc))⟩
                  | true =>
                    cases hin2 : inB y 1 1000000 with
                    | false =>
                      have en := Lib.hid (modes_bad (k := k) (by rw [← HL.out]; exact hlt) (step_2 HY.out hin2))
                      go_wp2_with (go_at_call 39; refine (Arith.l00In _ _ _ _).mono ?_; rintro e w' ⟨rfl, rfl⟩)
                      go_ret
                      exact ⟨ret_bool (en.out.symm.trans EQ.out.symm), HO.out.trans (by repeat (first | with_reducible exact On.refl _ | apply On.alloc))⟩
                    | true =>
                      cases k with
                      | zero =>
                        have HS := Lib.hid (upto_succ HA.out (step_0 HX.out HY.out hin hin2))
                        rw [show off + 0 * 2 = off by omega] at c1 c2
                        have z0 : ((0 : Nat) : Int) = 0 := rfl
                        rw [z0] at *
                        go_wp2_with (go_at_call 39; refine (Arith.l00In _ _ _ _).mono ?_; rintro e w' ⟨rfl, rfl⟩)
                        refine wp_region_onh (by kernel_rfl) (by kernel_rfl) ?_
                        repeat (refine rest_step (fun K hK => ?_); go_simp; first | (refine hK _ ?_; clear hK K) | (apply Exists.intro; refine ⟨fun v1 hv1 => ?_, hK _ ?_⟩; (first | with_reducible exact rfl | with_reducible exact ⟨rfl, rfl⟩ | (obtain ⟨hc, hf⟩ := bcell hv1; go_simp; first | with_reducible exact rfl | with_reducible exact ⟨rfl, rfl⟩ | exact rfl | exact ⟨rfl, rfl⟩)); clear hK K))
                        refine rest_nil ?_
                        intro w5 h5
                        have HO5 := Lib.hid (HO.out.trans (On.trans (by repeat (first | with_reducible exact On.refl _ | apply On.alloc)) h5))
                        clear h5
                        go_wp2_with fail
                        go_roundw
                        case rel => exact ⟨1, by omega, by go_num, HS.out, HO5.out⟩
                        case measure => simp [intOf]; omega
                      | succ k =>
                        obtain ⟨u, hu⟩ : ∃ u, u = at0 z5 k := ⟨_, rfl⟩
                        obtain ⟨v, hv⟩ : ∃ v, v = at1 z5 k := ⟨_, rfl⟩
                        have c3 : wr.cell? ⟨b, off + k * 2, none⟩ = some (.int .i64 u) := by rw [hu]; exact (HO.out.cell (by exact hb)).trans (HC.out k (by omega)).1
                        have c4 : wr.cell? ⟨b, off + k * 2 + 1, none⟩ = some (.int .i64 v) := by rw [hv]; exact (HO.out.cell (by exact hb)).trans (HC.out k (by omega)).2
                        have HU := Lib.hid hu
                        have HV := Lib.hid hv
                        clear hu hv
                        have g0 : decide ((0 : Int) < (k : Int) + 1) = true := decide_eq_true (by omega)
                        have g0' : (0 : Int) < (k : Int) + 1 := by omega
                        have wk : IntKind.i64.wrap ((k : Int) + 1 - 1) = (k : Int) := by rw [show (k : Int) + 1 - 1 = (k : Int) by omega]; exact IntWalk.i64_in _ (by omega)
                        have wk' : IntKind.i64.wrap (k : Int) = (k : Int) := IntWalk.i64_in _ (by omega)
                        have kn : (k : Int) < (n : Int) := by omega
                        have kn' : k < n := by omega
                        by_cases h3 : x ≤ u
                        · have d3 : decide (x ≤ u) = true := decide_eq_true h3
                          have en := Lib.hid (modes_bad (k := k + 1) (by rw [← HL.out]; exact hlt) (step_3 HX.out HU.out h3))
                          go_wp2_with (go_at_call 39; refine (Arith.l00In _ _ _ _).mono ?_; rintro e w' ⟨rfl, rfl⟩)
                          refine wp_region_onh (by kernel_rfl) (by kernel_rfl) ?_
                          repeat (refine rest_step (fun K hK => ?_); go_simp; first | (refine hK _ ?_; clear hK K) | (apply Exists.intro; refine ⟨fun v1 hv1 => ?_, hK _ ?_⟩; (first | with_reducible exact rfl | with_reducible exact ⟨rfl, rfl⟩ | (obtain ⟨hc, hf⟩ := bcell hv1; go_simp; first | with_reducible exact rfl | with_reducible exact ⟨rfl, rfl⟩ | exact rfl | exact ⟨rfl, rfl⟩)); clear hK K))
                          refine rest_nil ?_
                          intro w5 h5
                          have HO5 := Lib.hid (HO.out.trans (On.trans (by repeat (first | with_reducible exact On.refl _ | apply On.alloc)) h5))
                          clear h5
                          go_wp2_with fail
                          go_ret
                          exact ⟨ret_bool (en.out.symm.trans EQ.out.symm), HO5.out⟩
                        · have d3 : decide (x ≤ u) = false := decide_eq_false h3
                          by_cases h4 : y ≤ v
                          · have d4 : decide (y ≤ v) = true := decide_eq_true h4
                            have en := Lib.hid (modes_bad (k := k + 1) (by rw [← HL.out]; exact hlt) (step_4 HY.out HV.out h4))
                            go_wp2_with (go_at_call 39; refine (Arith.l00In _ _ _ _).mono ?_; rintro e w' ⟨rfl, rfl⟩)
                            refine wp_region_onh (by kernel_rfl) (by kernel_rfl) ?_
                            repeat (refine rest_step (fun K hK => ?_); go_simp; first | (refine hK _ ?_; clear hK K) | (apply Exists.intro; refine ⟨fun v1 hv1 => ?_, hK _ ?_⟩; (first | with_reducible exact rfl | with_reducible exact ⟨rfl, rfl⟩ | (obtain ⟨hc, hf⟩ := bcell hv1; go_simp; first | with_reducible exact rfl | with_reducible exact ⟨rfl, rfl⟩ | exact rfl | exact ⟨rfl, rfl⟩)); clear hK K))
                            refine rest_nil ?_
                            intro w5 h5
                            have HO5 := Lib.hid (HO.out.trans (On.trans (by repeat (first | with_reducible exact On.refl _ | apply On.alloc)) h5))
                            clear h5
                            go_wp2_with fail
                            go_ret
                            exact ⟨ret_bool (en.out.symm.trans EQ.out.symm), HO5.out⟩
                          · have d4 : decide (y ≤ v) = false := decide_eq_false h4
                            have HS := Lib.hid (upto_succ HA.out (step_5 HX.out HU.out HY.out HV.out hin hin2 h3 h4))
                            go_wp2_with (go_at_call 39; refine (Arith.l00In _ _ _ _).mono ?_; rintro e w' ⟨rfl, rfl⟩)
                            refine wp_region_onh (by kernel_rfl) (by kernel_rfl) ?_
                            repeat (refine rest_step (fun K hK => ?_); go_simp; first | (refine hK _ ?_; clear hK K) | (apply Exists.intro; refine ⟨fun v1 hv1 => ?_, hK _ ?_⟩; (first | with_reducible exact rfl | with_reducible exact ⟨rfl, rfl⟩ | (obtain ⟨hc, hf⟩ := bcell hv1; go_simp; first | with_reducible exact rfl | with_reducible exact ⟨rfl, rfl⟩ | exact rfl | exact ⟨rfl, rfl⟩)); clear hK K))
                            refine rest_nil ?_
                            intro w5 h5
                            have HO5 := Lib.hid (HO.out.trans (On.trans (by repeat (first | with_reducible exact On.refl _ | apply On.alloc)) h5))
                            clear h5
                            go_wp2_with fail
                            go_roundw
                            case rel => exact ⟨k + 2, by omega, by go_num, HS.out, HO5.out⟩
                            case measure => simp [intOf]; omega
                · obtain rfl : k = n := by omega
                  have en := Lib.hid (modes_all (by rw [← HL.out]; exact HA.out))
                  have en2 := Lib.hid (decide_eq_true (p := 1 ≤ z5.length ∧ z5.length ≤ 8) (by rw [← HL.out]; exact ⟨n1, n8⟩))
                  go_wp2_with fail
                  go_ret
                  exact ⟨ret_bool (by rw [EQ.out, en.out, en2.out]), HO.out⟩
            · have en := Lib.hid (modes_len hl)
              obtain ⟨n, hn⟩ : ∃ n, n = z5.length := ⟨_, rfl⟩
              rw [← hn] at hl k5 q5
              clear h5' KP hn
              by_cases n1 : (n : Int) < 1
              · go_enter Tryd.func20, Tryd.ntmps20
                go_wp2_with (first | (go_at_call 38; refine (HN.out _).mono ?_; rintro e w' ⟨rfl, rfl⟩) | (go_at_call 39; refine (Arith.l00In _ _ _ _).mono ?_; rintro e w' ⟨rfl, rfl⟩))
                go_ret
                exact ⟨ret_bool (en.out.symm.trans EQ.out.symm), On.refl _⟩
              · have n8 : (8 : Int) < (n : Int) := by omega
                go_enter Tryd.func20, Tryd.ntmps20
                go_wp2_with (first | (go_at_call 38; refine (HN.out _).mono ?_; rintro e w' ⟨rfl, rfl⟩) | (go_at_call 39; refine (Arith.l00In _ _ _ _).mono ?_; rintro e w' ⟨rfl, rfl⟩))
                go_ret
                exact ⟨ret_bool (en.out.symm.trans EQ.out.symm), On.refl _⟩
set_option maxHeartbeats 4000000 in
theorem impl_modes (v5 : Value) (z5 : List (Int × Int)) (w : World) (q5 : z5.length ≤ 1048576) (h5 : Pairs w v5 z5) :
    Calls Tryd.prog 43 #[v5] w fun e w' => e = .returned (.bool (modesB z5)) ∧ On w w' := by
  have h5' := h5
  obtain ⟨a5, cap5, rfl, -⟩ := h5
  by_cases h0 : 0 < z5.length
  · obtain ⟨b, off, rfl, hb, hcell⟩ := Modes.slice_of h5' h0
    have HC0 := Lib.hid hcell
    obtain ⟨n, hn⟩ : ∃ n, n = z5.length := ⟨_, rfl⟩
    have HL := Lib.hid hn
    have HC := Lib.hid (fun (k : Nat) (hk : k < n) => show w.cell? ⟨b, off + k * 2, none⟩ = some (.int .i64 (at0 z5 k)) ∧ w.cell? ⟨b, off + k * 2 + 1, none⟩ = some (.int .i64 (at1 z5 k)) from HC0.out k (by rw [← HL.out]; exact hk))
    rw [← hn] at q5 h0 ⊢
    clear hcell HC0 hn h5'
    go_enter Tryd.func43, Tryd.ntmps43
    go_wp2_with fail
    go_loopw [7] (fun i wr => ∃ k : Nat, k ≤ n ∧ i = .int .i64 k ∧ Upto z5 k ∧ On w wr) (fun i _ => n - (intOf i).toNat)
    case atStart => exact ⟨0, Nat.zero_le _, rfl, upto_zero _, On.refl _⟩
    case round =>
      obtain ⟨k, hk, rfl, hall, ho⟩ := hrel
      have HA := Lib.hid hall
      have HO := Lib.hid ho
      clear hall ho
      by_cases hlt : k < n
      · have hlti : (k : Int) < (n : Int) := by omega
        obtain ⟨x, hx⟩ : ∃ x, x = at0 z5 k := ⟨_, rfl⟩
        obtain ⟨y, hy⟩ : ∃ y, y = at1 z5 k := ⟨_, rfl⟩
        have c1 : wr.cell? ⟨b, off + k * 2, none⟩ = some (.int .i64 x) := by rw [hx]; exact (HO.out.cell (by exact hb)).trans (HC.out k hlt).1
        have c2 : wr.cell? ⟨b, off + k * 2 + 1, none⟩ = some (.int .i64 y) := by rw [hy]; exact (HO.out.cell (by exact hb)).trans (HC.out k hlt).2
        have hbr := HO.out.lts _ hb
        have HX := Lib.hid hx
        have HY := Lib.hid hy
        clear hx hy
        cases hin : inB x (-50000) 100000 with
        | false =>
          have en := Lib.hid (modes_bad (k := k) (by rw [← HL.out]; exact hlt) (step_1 HX.out hin))
          go_wp2_with (go_at_call 42; refine (Arith.within _ _ _ _).mono ?_; rintro e w' ⟨rfl, rfl⟩)
          go_ret
          exact ⟨ret_bool (en.out.symm), HO.out.trans (by repeat (first | with_reducible exact On.refl _ | apply On.alloc))⟩
        | true =>
          cases hin2 : inB y 1 1000000 with
          | false =>
            have en := Lib.hid (modes_bad (k := k) (by rw [← HL.out]; exact hlt) (step_2 HY.out hin2))
            go_wp2_with (go_at_call 42; refine (Arith.within _ _ _ _).mono ?_; rintro e w' ⟨rfl, rfl⟩)
            go_ret
            exact ⟨ret_bool (en.out.symm), HO.out.trans (by repeat (first | with_reducible exact On.refl _ | apply On.alloc))⟩
          | true =>
            cases k with
            | zero =>
              have HS := Lib.hid (upto_succ HA.out (step_0 HX.out HY.out hin hin2))
              rw [show off + 0 * 2 = off by omega] at c1 c2
              have z0 : ((0 : Nat) : Int) = 0 := rfl
              rw [z0] at *
              go_wp2_with (go_at_call 42; refine (Arith.within _ _ _ _).mono ?_; rintro e w' ⟨rfl, rfl⟩)
              refine wp_region_onh (by kernel_rfl) (by kernel_rfl) ?_
              repeat (refine rest_step (fun K hK => ?_); go_simp; first | (refine hK _ ?_; clear hK K) | (apply Exists.intro; refine ⟨fun v1 hv1 => ?_, hK _ ?_⟩; (first | with_reducible exact rfl | with_reducible exact ⟨rfl, rfl⟩ | (obtain ⟨hc, hf⟩ := bcell hv1; go_simp; first | with_reducible exact rfl | with_reducible exact ⟨rfl, rfl⟩ | exact rfl | exact ⟨rfl, rfl⟩)); clear hK K))
              refine rest_nil ?_
              intro w5 h5
              have HO5 := Lib.hid (HO.out.trans (On.trans (by repeat (first | with_reducible exact On.refl _ | apply On.alloc)) h5))
              clear h5
              go_wp2_with fail
              go_roundw
              case rel => exact ⟨1, by omega, by go_num, HS.out, HO5.out⟩
              case measure => simp [intOf]; omega
            | succ k =>
              obtain ⟨u, hu⟩ : ∃ u, u = at0 z5 k := ⟨_, rfl⟩
              obtain ⟨v, hv⟩ : ∃ v, v = at1 z5 k := ⟨_, rfl⟩
              have c3 : wr.cell? ⟨b, off + k * 2, none⟩ = some (.int .i64 u) := by rw [hu]; exact (HO.out.cell (by exact hb)).trans (HC.out k (by omega)).1
              have c4 : wr.cell? ⟨b, off + k * 2 + 1, none⟩ = some (.int .i64 v) := by rw [hv]; exact (HO.out.cell (by exact hb)).trans (HC.out k (by omega)).2
              have HU := Lib.hid hu
              have HV := Lib.hid hv
              clear hu hv
              have g0 : decide ((0 : Int) < (k : Int) + 1) = true := decide_eq_true (by omega)
              have g0' : (0 : Int) < (k : Int) + 1 := by omega
              have wk : IntKind.i64.wrap ((k : Int) + 1 - 1) = (k : Int) := by rw [show (k : Int) + 1 - 1 = (k : Int) by omega]; exact IntWalk.i64_in _ (by omega)
              have wk' : IntKind.i64.wrap (k : Int) = (k : Int) := IntWalk.i64_in _ (by omega)
              have kn : (k : Int) < (n : Int) := by omega
              have kn' : k < n := by omega
              by_cases h3 : x ≤ u
              · have d3 : decide (x ≤ u) = true := decide_eq_true h3
                have en := Lib.hid (modes_bad (k := k + 1) (by rw [← HL.out]; exact hlt) (step_3 HX.out HU.out h3))
                go_wp2_with (go_at_call 42; refine (Arith.within _ _ _ _).mono ?_; rintro e w' ⟨rfl, rfl⟩)
                refine wp_region_onh (by kernel_rfl) (by kernel_rfl) ?_
                repeat (refine rest_step (fun K hK => ?_); go_simp; first | (refine hK _ ?_; clear hK K) | (apply Exists.intro; refine ⟨fun v1 hv1 => ?_, hK _ ?_⟩; (first | with_reducible exact rfl | with_reducible exact ⟨rfl, rfl⟩ | (obtain ⟨hc, hf⟩ := bcell hv1; go_simp; first | with_reducible exact rfl | with_reducible exact ⟨rfl, rfl⟩ | exact rfl | exact ⟨rfl, rfl⟩)); clear hK K))
                refine rest_nil ?_
                intro w5 h5
                have HO5 := Lib.hid (HO.out.trans (On.trans (by repeat (first | with_reducible exact On.refl _ | apply On.alloc)) h5))
                clear h5
                go_wp2_with fail
                go_ret
                exact ⟨ret_bool (en.out.symm), HO5.out⟩
              · have d3 : decide (x ≤ u) = false := decide_eq_false h3
                by_cases h4 : y ≤ v
                · have d4 : decide (y ≤ v) = true := decide_eq_true h4
                  have en := Lib.hid (modes_bad (k := k + 1) (by rw [← HL.out]; exact hlt) (step_4 HY.out HV.out h4))
                  go_wp2_with (go_at_call 42; refine (Arith.within _ _ _ _).mono ?_; rintro e w' ⟨rfl, rfl⟩)
                  refine wp_region_onh (by kernel_rfl) (by kernel_rfl) ?_
                  repeat (refine rest_step (fun K hK => ?_); go_simp; first | (refine hK _ ?_; clear hK K) | (apply Exists.intro; refine ⟨fun v1 hv1 => ?_, hK _ ?_⟩; (first | with_reducible exact rfl | with_reducible exact ⟨rfl, rfl⟩ | (obtain ⟨hc, hf⟩ := bcell hv1; go_simp; first | with_reducible exact rfl | with_reducible exact ⟨rfl, rfl⟩ | exact rfl | exact ⟨rfl, rfl⟩)); clear hK K))
                  refine rest_nil ?_
                  intro w5 h5
                  have HO5 := Lib.hid (HO.out.trans (On.trans (by repeat (first | with_reducible exact On.refl _ | apply On.alloc)) h5))
                  clear h5
                  go_wp2_with fail
                  go_ret
                  exact ⟨ret_bool (en.out.symm), HO5.out⟩
                · have d4 : decide (y ≤ v) = false := decide_eq_false h4
                  have HS := Lib.hid (upto_succ HA.out (step_5 HX.out HU.out HY.out HV.out hin hin2 h3 h4))
                  go_wp2_with (go_at_call 42; refine (Arith.within _ _ _ _).mono ?_; rintro e w' ⟨rfl, rfl⟩)
                  refine wp_region_onh (by kernel_rfl) (by kernel_rfl) ?_
                  repeat (refine rest_step (fun K hK => ?_); go_simp; first | (refine hK _ ?_; clear hK K) | (apply Exists.intro; refine ⟨fun v1 hv1 => ?_, hK _ ?_⟩; (first | with_reducible exact rfl | with_reducible exact ⟨rfl, rfl⟩ | (obtain ⟨hc, hf⟩ := bcell hv1; go_simp; first | with_reducible exact rfl | with_reducible exact ⟨rfl, rfl⟩ | exact rfl | exact ⟨rfl, rfl⟩)); clear hK K))
                  refine rest_nil ?_
                  intro w5 h5
                  have HO5 := Lib.hid (HO.out.trans (On.trans (by repeat (first | with_reducible exact On.refl _ | apply On.alloc)) h5))
                  clear h5
                  go_wp2_with fail
                  go_roundw
                  case rel => exact ⟨k + 2, by omega, by go_num, HS.out, HO5.out⟩
                  case measure => simp [intOf]; omega
      · obtain rfl : k = n := by omega
        have en := Lib.hid (modes_all (by rw [← HL.out]; exact HA.out))
        have en2 := Lib.hid (show inB (k : Int) 1 8 = decide (1 ≤ z5.length ∧ z5.length ≤ 8) by
          rw [← HL.out]
          unfold inB
          congr 1
          exact propext ⟨fun h => by omega, fun h => by omega⟩)
        go_wp2_with (go_at_call 42; refine (Arith.within _ _ _ _).mono ?_; rintro e w' ⟨rfl, rfl⟩)
        go_ret
        exact ⟨ret_bool (by rw [en.out, ← en2.out]), HO.out⟩
  · obtain rfl : z5 = [] := List.eq_nil_of_length_eq_zero (by omega)
    go_enter Tryd.func43, Tryd.ntmps43
    go_wp2_with fail
    refine wp_loop_rounds 1 ?_
    rw [rounds_succ]
    go_wp2_with (go_at_call 42; refine (Arith.within _ _ _ _).mono ?_; rintro e w' ⟨rfl, rfl⟩)
    go_ret
    exact ⟨rfl, On.refl _⟩
set_option maxHeartbeats 2000000 in
theorem impl_valid (x0 : ByteArray) (x1 x2 x3 x4 : Int) (v5 : Value) (z5 : List (Int × Int)) (w : World) (q0 : x0.size ≤ 1048576) (q5 : z5.length ≤ 1048576) (h5 : Pairs w v5 z5) :
    Calls Tryd.prog 23 #[.agg #[.string x0, .int .i64 x1, .int .i64 x2, .int .i64 x3, .int .i64 x4, v5]] w fun e w' => e = .returned (.bool (okR x0 x1 x2 x3 x4 z5)) ∧ On w w' := by
  have HM := Lib.hid (fun w' (hb : On w w') => impl_modes v5 z5 w' q5 (h5.below hb))
  have HN := Lib.hid (fun w => Text1.impl_isName x0 w q0)
  have h5' := h5
  obtain ⟨a5, cap5, rfl, -⟩ := h5
  cases t0 : nameB x0.data.toList with
  | false =>
    have en := Lib.hid (okR_0 (x1 := x1) (x2 := x2) (x3 := x3) (x4 := x4) (z5 := z5) t0)
    clear h5' 
    rw [t0] at HN
    go_enter Tryd.func23, Tryd.ntmps23
    go_wp2_with (first | (go_at_call 41; refine (HN.out _).mono ?_; rintro e w' ⟨rfl, rfl⟩) | (go_at_call 42; refine (Arith.within _ _ _ _).mono ?_; rintro e w' ⟨rfl, rfl⟩))
    go_ret
    exact ⟨ret_bool en.out.symm, (by repeat (first | with_reducible exact On.refl _ | apply On.alloc))⟩
  | true =>
    rw [t0] at HN
    cases t1 : inB x1 (-100000) 100000 with
    | false =>
      have en := Lib.hid (okR_1 (x0 := x0) (x2 := x2) (x3 := x3) (x4 := x4) (z5 := z5) t1)
      clear h5' 
      skip
      go_enter Tryd.func23, Tryd.ntmps23
      go_wp2_with (first | (go_at_call 41; refine (HN.out _).mono ?_; rintro e w' ⟨rfl, rfl⟩) | (go_at_call 42; refine (Arith.within _ _ _ _).mono ?_; rintro e w' ⟨rfl, rfl⟩))
      go_ret
      exact ⟨ret_bool en.out.symm, (by repeat (first | with_reducible exact On.refl _ | apply On.alloc))⟩
    | true =>
      skip
      cases t2 : inB x2 0 30000 with
      | false =>
        have en := Lib.hid (okR_2 (x0 := x0) (x1 := x1) (x3 := x3) (x4 := x4) (z5 := z5) t2)
        clear h5' 
        skip
        go_enter Tryd.func23, Tryd.ntmps23
        go_wp2_with (first | (go_at_call 41; refine (HN.out _).mono ?_; rintro e w' ⟨rfl, rfl⟩) | (go_at_call 42; refine (Arith.within _ _ _ _).mono ?_; rintro e w' ⟨rfl, rfl⟩))
        go_ret
        exact ⟨ret_bool en.out.symm, (by repeat (first | with_reducible exact On.refl _ | apply On.alloc))⟩
      | true =>
        skip
        cases t3 : inB x3 0 30000 with
        | false =>
          have en := Lib.hid (okR_3 (x0 := x0) (x1 := x1) (x2 := x2) (x4 := x4) (z5 := z5) t3)
          clear h5' 
          skip
          go_enter Tryd.func23, Tryd.ntmps23
          go_wp2_with (first | (go_at_call 41; refine (HN.out _).mono ?_; rintro e w' ⟨rfl, rfl⟩) | (go_at_call 42; refine (Arith.within _ _ _ _).mono ?_; rintro e w' ⟨rfl, rfl⟩))
          go_ret
          exact ⟨ret_bool en.out.symm, (by repeat (first | with_reducible exact On.refl _ | apply On.alloc))⟩
        | true =>
          skip
          cases t4 : inB x4 1 100000 with
          | false =>
            have en := Lib.hid (okR_4 (x0 := x0) (x1 := x1) (x2 := x2) (x3 := x3) (z5 := z5) t4)
            clear h5' 
            skip
            go_enter Tryd.func23, Tryd.ntmps23
            go_wp2_with (first | (go_at_call 41; refine (HN.out _).mono ?_; rintro e w' ⟨rfl, rfl⟩) | (go_at_call 42; refine (Arith.within _ _ _ _).mono ?_; rintro e w' ⟨rfl, rfl⟩))
            go_ret
            exact ⟨ret_bool en.out.symm, (by repeat (first | with_reducible exact On.refl _ | apply On.alloc))⟩
          | true =>
            skip
            have EQ := Lib.hid (okR_yes (z5 := z5) t0 t1 t2 t3 t4)
            clear h5'
            go_enter Tryd.func23, Tryd.ntmps23
            go_wp2_with (first | (go_at_call 41; refine (HN.out _).mono ?_; rintro e w' ⟨rfl, rfl⟩) | (go_at_call 42; refine (Arith.within _ _ _ _).mono ?_; rintro e w' ⟨rfl, rfl⟩))
            refine (HM.out _ (by repeat (first | with_reducible exact On.refl _ | apply On.alloc))).mono ?_
            rintro e w1 ⟨rfl, h1⟩
            go_wp2_with fail
            go_ret
            exact ⟨ret_bool EQ.out.symm, On.trans (by repeat (first | with_reducible exact On.refl _ | apply On.alloc)) h1⟩
end Go.Proofs.YtggiilbdlbhpgaaDoor.Rad
