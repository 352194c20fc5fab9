
/-
  The greatest loss for a mode: the checks, and the model. Condition: at most 1048576 modes in each radio, and bytes in the names.
-/
import Derived.Test.YtknggnchldcghacDoorRadLeast
import Derived.Deep.RegionWith
import Derived.Deep.RegionHeld3
import Derived.Deep.DeepCutAuto
namespace Go.Proofs.YtknggnchldcghacDoor.Rad
open Go.RowKit
open Plain
open Modes (Pairs)
open Err (errV own ErrVar)
open Chk (errIf gainS lossS levelS)
open Ints (Ints)

def lossN (x1 x2 g t v : Int) : Int := x1 - x2 + g + t - v
def greV (ok g : Bool) (v : Int) : Int := if ok = true then (if g = true then (if v < 0 then 0 else v) else 0) else 0
def greC (ok g : Bool) (v : Int) : Int := if ok = true then (if g = true then (if v < 0 then 3 else 0) else 2) else 1
theorem gre_1 {ok g : Bool} {v : Int} (h : ok = false) : greV ok g v = 0 ∧ greC ok g v = 1 := by subst h; exact ⟨rfl, rfl⟩
theorem gre_2 {ok g : Bool} {v : Int} (h : ok = true) (k : g = false) : greV ok g v = 0 ∧ greC ok g v = 2 := by subst h k; exact ⟨rfl, rfl⟩
theorem gre_3 {ok g : Bool} {v : Int} (h : ok = true) (k : g = true) (e : v < 0) : greV ok g v = 0 ∧ greC ok g v = 3 := by subst h k; exact ⟨if_pos e, if_pos e⟩
theorem gre_4 {ok g : Bool} {v : Int} (h : ok = true) (k : g = true) (e : ¬ v < 0) : greV ok g v = v ∧ greC ok g v = 0 := by subst h k; exact ⟨if_neg e, if_neg e⟩
/-- The second one of two radios that lie side by side. -/
def In6 (w : World) (b : Nat) (y0 : ByteArray) (y1 y2 y3 y4 : Int) (u5 : Value) : Prop := w.cell? ⟨b, 6, none⟩ = some (.string y0) ∧ w.cell? ⟨b, 7, none⟩ = some (.int .i64 y1) ∧ w.cell? ⟨b, 8, none⟩ = some (.int .i64 y2) ∧ w.cell? ⟨b, 9, none⟩ = some (.int .i64 y3) ∧ w.cell? ⟨b, 10, none⟩ = some (.int .i64 y4) ∧ w.cell? ⟨b, 11, none⟩ = some u5
theorem In6.on {w w' : World} {b : Nat} {y0 : ByteArray} {y1 y2 y3 y4 : Int} {u5 : Value} (h : In6 w b y0 y1 y2 y3 y4 u5) (ho : On w w') : In6 w' b y0 y1 y2 y3 y4 u5 := by
  have hb := World.block_lt_of_cell? w _ h.1
  exact ⟨(ho.cell (by exact hb)).trans h.1, (ho.cell (by exact hb)).trans h.2.1, (ho.cell (by exact hb)).trans h.2.2.1, (ho.cell (by exact hb)).trans h.2.2.2.1, (ho.cell (by exact hb)).trans h.2.2.2.2.1, (ho.cell (by exact hb)).trans h.2.2.2.2.2⟩
set_option maxRecDepth 100000 in
set_option maxHeartbeats 8000000 in
theorem check_two (b cap : Nat) (x0 : ByteArray) (x1 x2 x3 x4 : Int) (v5 : Value) (z5 : List (Int × Int)) (y0 : ByteArray) (y1 y2 y3 y4 : Int) (u5 : Value) (t5 : List (Int × Int)) (w : World) (q0 : x0.size ≤ 1048576) (q5 : z5.length ≤ 1048576) (p0 : y0.size ≤ 1048576) (p5 : t5.length ≤ 1048576) (h5 : Pairs w v5 z5) (k5 : Pairs w u5 t5) (hp : In w b x0 x1 x2 x3 x4 v5) (hq : In6 w b y0 y1 y2 y3 y4 u5) :
    Calls Tryd.prog 48 #[.slice (some ⟨b, 0, none⟩) 2 cap] w fun e w' => e = .returned (errV (errIf radioS 1 (okR x0 x1 x2 x3 x4 z5 && okR y0 y1 y2 y3 y4 t5))) ∧ On w w' := by
  have HA := Lib.hid (fun w' (hb : On w w') => impl_valid x0 x1 x2 x3 x4 v5 z5 w' q0 q5 (h5.below hb))
  have HB := Lib.hid (fun w' (hb : On w w') => impl_valid y0 y1 y2 y3 y4 u5 t5 w' p0 p5 (k5.below hb))
  obtain ⟨a5, n5, cap5, rfl⟩ := anySlice h5
  obtain ⟨b5, m5, dap5, rfl⟩ := anySlice k5
  have hbl : b < w.heap.size := World.block_lt_of_cell? w _ hp.1
  have HQ := Lib.hid hq
  obtain ⟨k0, k1, k2, k3, k4, k5'⟩ := hp
  obtain ⟨r0, r1, r2, r3, r4, r5⟩ := hq
  cases hoa : okR x0 x1 x2 x3 x4 z5 with
  | false =>
    rw [hoa] at HA
    rw [show (false && okR y0 y1 y2 y3 y4 t5) = false from rfl]
    go_enter Tryd.func48, Tryd.ntmps48
    go_wp2_with fail
    refine wp_loop_rounds 3 ?_
    rw [rounds_succ]
    go_wp2_with fail
    refine (HA.out _ (by repeat (first | with_reducible exact On.refl _ | apply On.alloc))).mono ?_
    rintro e w1 ⟨rfl, h1⟩
    go_wp2_with fail
    go_ret
    exact ⟨rfl, On.trans (by repeat (first | with_reducible exact On.refl _ | apply On.alloc)) h1⟩
  | true =>
    rw [hoa] at HA
    rw [show (true && okR y0 y1 y2 y3 y4 t5) = okR y0 y1 y2 y3 y4 t5 from rfl]
    cases hob : okR y0 y1 y2 y3 y4 t5 with
    | false =>
      rw [hob] at HB
      go_enter Tryd.func48, Tryd.ntmps48
      go_wp2_with fail
      refine wp_loop_rounds 3 ?_
      rw [rounds_succ]
      go_wp2_with fail
      refine (HA.out _ (by repeat (first | with_reducible exact On.refl _ | apply On.alloc))).mono ?_
      rintro e w1 ⟨rfl, h1⟩
      have hO1 : On w w1 := On.trans (by repeat (first | with_reducible exact On.refl _ | apply On.alloc)) h1
      have HO1 := Lib.hid hO1
      have hb1 : b < w1.heap.size := hO1.lts _ hbl
      obtain ⟨s0, s1, s2, s3, s4, s5⟩ := HQ.out.on hO1
      clear h1 hO1
      go_wp2_with fail
      rw [rounds_succ]
      go_wp2_with fail
      refine (HB.out _ (On.trans HO1.out (by repeat (first | with_reducible exact On.refl _ | apply On.alloc)))).mono ?_
      rintro e w2 ⟨rfl, h2⟩
      have HO2 := Lib.hid (show On w w2 from On.trans HO1.out (On.trans (by repeat (first | with_reducible exact On.refl _ | apply On.alloc)) h2))
      clear h2
      go_wp2_with fail
      go_ret
      exact ⟨rfl, HO2.out⟩
    | true =>
      rw [hob] at HB
      go_enter Tryd.func48, Tryd.ntmps48
      go_wp2_with fail
      refine wp_loop_rounds 3 ?_
      rw [rounds_succ]
      go_wp2_with fail
      refine (HA.out _ (by repeat (first | with_reducible exact On.refl _ | apply On.alloc))).mono ?_
      rintro e w1 ⟨rfl, h1⟩
      have hO1 : On w w1 := On.trans (by repeat (first | with_reducible exact On.refl _ | apply On.alloc)) h1
      have HO1 := Lib.hid hO1
      have hb1 : b < w1.heap.size := hO1.lts _ hbl
      obtain ⟨s0, s1, s2, s3, s4, s5⟩ := HQ.out.on hO1
      clear h1 hO1
      go_wp2_with fail
      rw [rounds_succ]
      go_wp2_with fail
      refine (HB.out _ (On.trans HO1.out (by repeat (first | with_reducible exact On.refl _ | apply On.alloc)))).mono ?_
      rintro e w2 ⟨rfl, h2⟩
      have HO2 := Lib.hid (show On w w2 from On.trans HO1.out (On.trans (by repeat (first | with_reducible exact On.refl _ | apply On.alloc)) h2))
      clear h2
      go_wp2_with fail
      rw [rounds_succ]
      go_wp2_with fail
      go_ret
      exact ⟨rfl, HO2.out⟩
/-- What is held while the checks are made: the cells of both radios. -/
theorem held_two {W w' : World} {g : Nat} {x0 : ByteArray} {x1 x2 x3 x4 : Int} {v5 : Value} {y0 : ByteArray} {y1 y2 y3 y4 : Int} {u5 : Value} (P : In W g x0 x1 x2 x3 x4 v5) (Q : In W (g + 1) y0 y1 y2 y3 y4 u5) (h : On W w') :
    On W w' ∧ w'.cell? ⟨g, 0, none⟩ = some (.string x0) ∧ w'.cell? ⟨g, 1, none⟩ = some (.int .i64 x1) ∧ w'.cell? ⟨g, 2, none⟩ = some (.int .i64 x2) ∧ w'.cell? ⟨g, 3, none⟩ = some (.int .i64 x3) ∧ w'.cell? ⟨g, 4, none⟩ = some (.int .i64 x4) ∧ w'.cell? ⟨g, 5, none⟩ = some v5 ∧ w'.cell? ⟨g + 1, 0, none⟩ = some (.string y0) ∧ w'.cell? ⟨g + 1, 1, none⟩ = some (.int .i64 y1) ∧ w'.cell? ⟨g + 1, 2, none⟩ = some (.int .i64 y2) ∧ w'.cell? ⟨g + 1, 3, none⟩ = some (.int .i64 y3) ∧ w'.cell? ⟨g + 1, 4, none⟩ = some (.int .i64 y4) ∧ w'.cell? ⟨g + 1, 5, none⟩ = some u5 := by
  obtain ⟨a0, a1, a2, a3, a4, a5⟩ := P.on h
  obtain ⟨b0, b1, b2, b3, b4, b5⟩ := Q.on h
  exact ⟨h, a0, a1, a2, a3, a4, a5, b0, b1, b2, b3, b4, b5⟩
theorem On.undrew {w w' : World} (h : On w.drew w') : On w w' := by
  have h' : Below w.drew.heap.size w.drew w' := h
  exact ⟨h'.os, h'.tape, h'.output, h'.size, fun k hk => h'.block k hk⟩
theorem On.last {w w' : World} {o : Obj} (h : On (w.alloc o) w') : w.heap.size < w'.heap.size := by
  have := h.size
  simp at this
  omega
set_option maxRecDepth 100000 in
set_option maxHeartbeats 8000000 in
theorem spec_GreatestLoss (x0 : ByteArray) (x1 x2 x3 x4 : Int) (v5 : Value) (z5 : List (Int × Int)) (y0 : ByteArray) (y1 y2 y3 y4 : Int) (u5 : Value) (t5 : List (Int × Int)) (g t mo : Int) (w : World) (q0 : x0.size ≤ 1048576) (q5 : z5.length ≤ 1048576) (p0 : y0.size ≤ 1048576) (p5 : t5.length ≤ 1048576) (h5 : Pairs w v5 z5) (k5 : Pairs w u5 t5) :
    Calls Tryd.prog 35 #[.agg #[.string x0, .int .i64 x1, .int .i64 x2, .int .i64 x3, .int .i64 x4, v5], .int .i64 g, .agg #[.string y0, .int .i64 y1, .int .i64 y2, .int .i64 y3, .int .i64 y4, u5], .int .i64 t, .int .i64 mo] w fun e w' => e = .returned (.tuple #[.int .i64 (greV (okR x0 x1 x2 x3 x4 z5 && okR y0 y1 y2 y3 y4 t5) (gB g && (gB t && moB t5 mo)) (lossN x1 x2 g t (leastV t5 mo y2 y3 y4))), .int .i64 (greC (okR x0 x1 x2 x3 x4 z5 && okR y0 y1 y2 y3 y4 t5) (gB g && (gB t && moB t5 mo)) (lossN x1 x2 g t (leastV t5 mo y2 y3 y4)))]) ∧ On w w' := by
  have HA := Lib.hid (fun w' (hb : On w w') hp => spec_ok w.heap.size x0 x1 x2 x3 x4 v5 z5 w' q0 q5 hp (h5.below hb))
  have HB := Lib.hid (fun w' (hb : On w w') hp => spec_ok (w.heap.size + 1) y0 y1 y2 y3 y4 u5 t5 w' p0 p5 hp (k5.below hb))
  obtain ⟨a5, n5, cap5, rfl⟩ := anySlice h5
  have k5' := k5
  obtain ⟨b5, dap5, rfl, -⟩ := k5
  obtain ⟨m5, hm5⟩ : ∃ n, n = t5.length := ⟨_, rfl⟩
  cases hoa : okR x0 x1 x2 x3 x4 z5 with
  | false =>
    rw [hoa] at HA
    rw [← hm5] at HB ⊢
    have en := Lib.hid (gre_1 (ok := false && okR y0 y1 y2 y3 y4 t5) (g := (gB g && (gB t && moB t5 mo))) (v := lossN x1 x2 g t (leastV t5 mo y2 y3 y4)) rfl)
    clear k5' hm5 HB
    go_enter Tryd.func35, Tryd.ntmps35
    go_wp2_with fail
    refine (HA.out _ (by repeat (first | with_reducible exact On.refl _ | apply On.alloc)) ⟨by simp [go_sem], by simp [go_sem], by simp [go_sem], by simp [go_sem], by simp [go_sem], by simp [go_sem]⟩).mono ?_
    rintro e w1 ⟨rfl, h1⟩
    have P1 : In w1 w.heap.size x0 x1 x2 x3 x4 (.slice a5 n5 cap5) := In.on ⟨by simp [go_sem], by simp [go_sem], by simp [go_sem], by simp [go_sem], by simp [go_sem], by simp [go_sem]⟩ h1
    have Q1 : In w1 (w.heap.size + 1) y0 y1 y2 y3 y4 (.slice b5 m5 dap5) := In.on ⟨by simp [go_sem], by simp [go_sem], by simp [go_sem], by simp [go_sem], by simp [go_sem], by simp [go_sem]⟩ h1
    have HO1 := Lib.hid (On.trans (On.alloc (On.alloc (On.refl w) _) _) h1)
    have HP1 := Lib.hid P1
    have HQ1 := Lib.hid Q1
    obtain ⟨p0', p1, p2, p3, p4, p5'⟩ := P1
    obtain ⟨s0, s1, s2, s3, s4, s5⟩ := Q1
    have z1 : w.heap.size < w1.heap.size := World.block_lt_of_cell? w1 _ p0'
    have z2 : w.heap.size + 1 < w1.heap.size := World.block_lt_of_cell? w1 _ s0
    clear h1
    go_wp2_with fail
    go_ret2
    exact ⟨ret_ii en.out.1.symm en.out.2.symm, HO1.out⟩
  | true =>
    rw [hoa] at HA
    cases hob : okR y0 y1 y2 y3 y4 t5 with
    | false =>
      rw [hob] at HB
      rw [← hm5] at HB ⊢
      have en := Lib.hid (gre_1 (ok := true && false) (g := (gB g && (gB t && moB t5 mo))) (v := lossN x1 x2 g t (leastV t5 mo y2 y3 y4)) rfl)
      clear k5' hm5
      go_enter Tryd.func35, Tryd.ntmps35
      go_wp2_with fail
      refine (HA.out _ (by repeat (first | with_reducible exact On.refl _ | apply On.alloc)) ⟨by simp [go_sem], by simp [go_sem], by simp [go_sem], by simp [go_sem], by simp [go_sem], by simp [go_sem]⟩).mono ?_
      rintro e w1 ⟨rfl, h1⟩
      have P1 : In w1 w.heap.size x0 x1 x2 x3 x4 (.slice a5 n5 cap5) := In.on ⟨by simp [go_sem], by simp [go_sem], by simp [go_sem], by simp [go_sem], by simp [go_sem], by simp [go_sem]⟩ h1
      have Q1 : In w1 (w.heap.size + 1) y0 y1 y2 y3 y4 (.slice b5 m5 dap5) := In.on ⟨by simp [go_sem], by simp [go_sem], by simp [go_sem], by simp [go_sem], by simp [go_sem], by simp [go_sem]⟩ h1
      have HO1 := Lib.hid (On.trans (On.alloc (On.alloc (On.refl w) _) _) h1)
      have HP1 := Lib.hid P1
      have HQ1 := Lib.hid Q1
      obtain ⟨p0', p1, p2, p3, p4, p5'⟩ := P1
      obtain ⟨s0, s1, s2, s3, s4, s5⟩ := Q1
      have z1 : w.heap.size < w1.heap.size := World.block_lt_of_cell? w1 _ p0'
      have z2 : w.heap.size + 1 < w1.heap.size := World.block_lt_of_cell? w1 _ s0
      clear h1
      go_wp2_with fail
      refine (HB.out _ HO1.out HQ1.out).mono ?_
      rintro e w2 ⟨rfl, h2⟩
      have P2 := HP1.out.on h2
      have Q2 := HQ1.out.on h2
      have HO2 := Lib.hid (On.trans HO1.out h2)
      have HP2 := Lib.hid P2
      have HQ2 := Lib.hid Q2
      clear p0' p1 p2 p3 p4 p5' s0 s1 s2 s3 s4 s5 h2
      obtain ⟨p0', p1, p2, p3, p4, p5'⟩ := P2
      obtain ⟨s0, s1, s2, s3, s4, s5⟩ := Q2
      have z3 : w.heap.size < w2.heap.size := World.block_lt_of_cell? w2 _ p0'
      have z4 : w.heap.size + 1 < w2.heap.size := World.block_lt_of_cell? w2 _ s0
      go_wp2_with fail
      go_ret2
      exact ⟨ret_ii en.out.1.symm en.out.2.symm, HO2.out⟩
    | true =>
      rw [hob] at HB
      have hM := fun g' w' hp => spec_mode g' y0 y1 y2 y3 y4 b5 m5 dap5 mo w' (by omega) hp
      rw [show inB mo 0 ((m5 : Int) - 1) = moB t5 mo by rw [hm5]; rfl] at hM
      have HM := Lib.hid hM
      clear hM
      have g1 := fun w => spec_gain g w
      have g2 := fun w => spec_gain t w
      cases d0 : gB g with
      | false =>
        rw [d0] at g1
        have G1 := Lib.hid g1
        have G2 := Lib.hid g2
        have en := Lib.hid (gre_2 (ok := true && true) (g := false && (gB t && moB t5 mo)) (v := lossN x1 x2 g t (leastV t5 mo y2 y3 y4)) rfl rfl)
        rw [← hm5] at HB ⊢
        clear k5' hm5
        go_enter Tryd.func35, Tryd.ntmps35
        go_wp2_with fail
        refine (HA.out _ (by repeat (first | with_reducible exact On.refl _ | apply On.alloc)) ⟨by simp [go_sem], by simp [go_sem], by simp [go_sem], by simp [go_sem], by simp [go_sem], by simp [go_sem]⟩).mono ?_
        rintro e w1 ⟨rfl, h1⟩
        have P1 : In w1 w.heap.size x0 x1 x2 x3 x4 (.slice a5 n5 cap5) := In.on ⟨by simp [go_sem], by simp [go_sem], by simp [go_sem], by simp [go_sem], by simp [go_sem], by simp [go_sem]⟩ h1
        have Q1 : In w1 (w.heap.size + 1) y0 y1 y2 y3 y4 (.slice b5 m5 dap5) := In.on ⟨by simp [go_sem], by simp [go_sem], by simp [go_sem], by simp [go_sem], by simp [go_sem], by simp [go_sem]⟩ h1
        have HO1 := Lib.hid (On.trans (On.alloc (On.alloc (On.refl w) _) _) h1)
        have HP1 := Lib.hid P1
        have HQ1 := Lib.hid Q1
        obtain ⟨p0', p1, p2, p3, p4, p5'⟩ := P1
        obtain ⟨s0, s1, s2, s3, s4, s5⟩ := Q1
        have z1 : w.heap.size < w1.heap.size := World.block_lt_of_cell? w1 _ p0'
        have z2 : w.heap.size + 1 < w1.heap.size := World.block_lt_of_cell? w1 _ s0
        clear h1
        go_wp2_with fail
        refine (HB.out _ HO1.out HQ1.out).mono ?_
        rintro e w2 ⟨rfl, h2⟩
        have P2 := HP1.out.on h2
        have Q2 := HQ1.out.on h2
        have HO2 := Lib.hid (On.trans HO1.out h2)
        have HP2 := Lib.hid P2
        have HQ2 := Lib.hid Q2
        clear p0' p1 p2 p3 p4 p5' s0 s1 s2 s3 s4 s5 h2
        obtain ⟨p0', p1, p2, p3, p4, p5'⟩ := P2
        obtain ⟨s0, s1, s2, s3, s4, s5⟩ := Q2
        have z3 : w.heap.size < w2.heap.size := World.block_lt_of_cell? w2 _ p0'
        have z4 : w.heap.size + 1 < w2.heap.size := World.block_lt_of_cell? w2 _ s0
        go_wp2_with (first | (go_at_call 52; with_reducible refine (G1.out _).mono ?_; rintro e w' ⟨rfl, rfl⟩) | (go_at_call 52; with_reducible refine (G2.out _).mono ?_; rintro e w' ⟨rfl, rfl⟩) | (go_at_call 63; refine (HM.out _ _ HQ2.out).mono ?_; rintro e w' ⟨rfl, rfl⟩))
        go_ret2
        exact ⟨ret_ii en.out.1.symm en.out.2.symm, HO2.out⟩
      | true =>
        rw [d0] at g1
        have G1 := Lib.hid g1
        cases d1 : gB t with
        | false =>
          rw [d1] at g2
          have G2 := Lib.hid g2
          have en := Lib.hid (gre_2 (ok := true && true) (g := true && (false && moB t5 mo)) (v := lossN x1 x2 g t (leastV t5 mo y2 y3 y4)) rfl rfl)
          rw [← hm5] at HB ⊢
          clear k5' hm5
          go_enter Tryd.func35, Tryd.ntmps35
          go_wp2_with fail
          refine (HA.out _ (by repeat (first | with_reducible exact On.refl _ | apply On.alloc)) ⟨by simp [go_sem], by simp [go_sem], by simp [go_sem], by simp [go_sem], by simp [go_sem], by simp [go_sem]⟩).mono ?_
          rintro e w1 ⟨rfl, h1⟩
          have P1 : In w1 w.heap.size x0 x1 x2 x3 x4 (.slice a5 n5 cap5) := In.on ⟨by simp [go_sem], by simp [go_sem], by simp [go_sem], by simp [go_sem], by simp [go_sem], by simp [go_sem]⟩ h1
          have Q1 : In w1 (w.heap.size + 1) y0 y1 y2 y3 y4 (.slice b5 m5 dap5) := In.on ⟨by simp [go_sem], by simp [go_sem], by simp [go_sem], by simp [go_sem], by simp [go_sem], by simp [go_sem]⟩ h1
          have HO1 := Lib.hid (On.trans (On.alloc (On.alloc (On.refl w) _) _) h1)
          have HP1 := Lib.hid P1
          have HQ1 := Lib.hid Q1
          obtain ⟨p0', p1, p2, p3, p4, p5'⟩ := P1
          obtain ⟨s0, s1, s2, s3, s4, s5⟩ := Q1
          have z1 : w.heap.size < w1.heap.size := World.block_lt_of_cell? w1 _ p0'
          have z2 : w.heap.size + 1 < w1.heap.size := World.block_lt_of_cell? w1 _ s0
          clear h1
          go_wp2_with fail
          refine (HB.out _ HO1.out HQ1.out).mono ?_
          rintro e w2 ⟨rfl, h2⟩
          have P2 := HP1.out.on h2
          have Q2 := HQ1.out.on h2
          have HO2 := Lib.hid (On.trans HO1.out h2)
          have HP2 := Lib.hid P2
          have HQ2 := Lib.hid Q2
          clear p0' p1 p2 p3 p4 p5' s0 s1 s2 s3 s4 s5 h2
          obtain ⟨p0', p1, p2, p3, p4, p5'⟩ := P2
          obtain ⟨s0, s1, s2, s3, s4, s5⟩ := Q2
          have z3 : w.heap.size < w2.heap.size := World.block_lt_of_cell? w2 _ p0'
          have z4 : w.heap.size + 1 < w2.heap.size := World.block_lt_of_cell? w2 _ s0
          go_wp2_with (first | (go_at_call 52; with_reducible refine (G1.out _).mono ?_; rintro e w' ⟨rfl, rfl⟩) | (go_at_call 52; with_reducible refine (G2.out _).mono ?_; rintro e w' ⟨rfl, rfl⟩) | (go_at_call 63; refine (HM.out _ _ HQ2.out).mono ?_; rintro e w' ⟨rfl, rfl⟩))
          go_ret2
          exact ⟨ret_ii en.out.1.symm en.out.2.symm, HO2.out⟩
        | true =>
          rw [d1] at g2
          have G2 := Lib.hid g2
          cases d2 : moB t5 mo with
          | false =>
            rw [d2] at HM
            have en := Lib.hid (gre_2 (ok := true && true) (g := true && (true && false)) (v := lossN x1 x2 g t (leastV t5 mo y2 y3 y4)) rfl rfl)
            rw [← hm5] at HB ⊢
            clear k5' hm5
            go_enter Tryd.func35, Tryd.ntmps35
            go_wp2_with fail
            refine (HA.out _ (by repeat (first | with_reducible exact On.refl _ | apply On.alloc)) ⟨by simp [go_sem], by simp [go_sem], by simp [go_sem], by simp [go_sem], by simp [go_sem], by simp [go_sem]⟩).mono ?_
            rintro e w1 ⟨rfl, h1⟩
            have P1 : In w1 w.heap.size x0 x1 x2 x3 x4 (.slice a5 n5 cap5) := In.on ⟨by simp [go_sem], by simp [go_sem], by simp [go_sem], by simp [go_sem], by simp [go_sem], by simp [go_sem]⟩ h1
            have Q1 : In w1 (w.heap.size + 1) y0 y1 y2 y3 y4 (.slice b5 m5 dap5) := In.on ⟨by simp [go_sem], by simp [go_sem], by simp [go_sem], by simp [go_sem], by simp [go_sem], by simp [go_sem]⟩ h1
            have HO1 := Lib.hid (On.trans (On.alloc (On.alloc (On.refl w) _) _) h1)
            have HP1 := Lib.hid P1
            have HQ1 := Lib.hid Q1
            obtain ⟨p0', p1, p2, p3, p4, p5'⟩ := P1
            obtain ⟨s0, s1, s2, s3, s4, s5⟩ := Q1
            have z1 : w.heap.size < w1.heap.size := World.block_lt_of_cell? w1 _ p0'
            have z2 : w.heap.size + 1 < w1.heap.size := World.block_lt_of_cell? w1 _ s0
            clear h1
            go_wp2_with fail
            refine (HB.out _ HO1.out HQ1.out).mono ?_
            rintro e w2 ⟨rfl, h2⟩
            have P2 := HP1.out.on h2
            have Q2 := HQ1.out.on h2
            have HO2 := Lib.hid (On.trans HO1.out h2)
            have HP2 := Lib.hid P2
            have HQ2 := Lib.hid Q2
            clear p0' p1 p2 p3 p4 p5' s0 s1 s2 s3 s4 s5 h2
            obtain ⟨p0', p1, p2, p3, p4, p5'⟩ := P2
            obtain ⟨s0, s1, s2, s3, s4, s5⟩ := Q2
            have z3 : w.heap.size < w2.heap.size := World.block_lt_of_cell? w2 _ p0'
            have z4 : w.heap.size + 1 < w2.heap.size := World.block_lt_of_cell? w2 _ s0
            go_wp2_with (first | (go_at_call 52; with_reducible refine (G1.out _).mono ?_; rintro e w' ⟨rfl, rfl⟩) | (go_at_call 52; with_reducible refine (G2.out _).mono ?_; rintro e w' ⟨rfl, rfl⟩) | (go_at_call 63; refine (HM.out _ _ HQ2.out).mono ?_; rintro e w' ⟨rfl, rfl⟩))
            go_ret2
            exact ⟨ret_ii en.out.1.symm en.out.2.symm, HO2.out⟩
          | true =>
            rw [d2] at HM
            obtain ⟨k, rfl, hk, hkk⟩ := mo_nat d2
            obtain ⟨-, ⟨c1, c2⟩, ⟨c3, c4⟩, -, -, -⟩ := of_okR hoa
            obtain ⟨-, -, ⟨f1, f2⟩, ⟨r1, r2⟩, ⟨y1', y2'⟩, hm⟩ := of_okR hob
            obtain ⟨b, off, rfl, hb, hc⟩ := Modes.slice_of k5' (by omega)
            have e1 := (get_at0 rfl hc hk).1
            obtain ⟨n1, n2⟩ := need_bd hm hk
            obtain ⟨j1, j2⟩ := floor_bd (x4 := y4) r1 r2 y2'
            have n8 := (of_modes hm).1.2
            obtain ⟨i1, i2⟩ := of_inB d0
            obtain ⟨i3, i4⟩ := of_inB d1
            have EV := Lib.hid (show leastV t5 (k : Int) y2 y3 y4 = at0 t5 k + floorV y3 y4 + y2 by rw [← hkk]; rfl)
            have HL := Lib.hid (fun w' (h : On w w') hp => spec_least (w.heap.size + 1) y0 y1 y2 y3 y4 b off m5 dap5 k (at0 t5 k) w' (by omega) (by omega) (h.lts _ hb) ((h.cell (by exact hb)).trans e1) n1 n2 f1 f2 r1 r2 y1' y2' hp)
            have EV3 := fun (h : lossN x1 x2 g t (leastV t5 (k : Int) y2 y3 y4) < 0) => gre_3 (ok := true && true) (g := true && (true && true)) rfl rfl h
            have EV4 := fun (h : ¬ lossN x1 x2 g t (leastV t5 (k : Int) y2 y3 y4) < 0) => gre_4 (ok := true && true) (g := true && (true && true)) rfl rfl h
            rw [EV.out] at EV3 EV4
            rw [EV.out]
            have vb : -244000 ≤ at0 t5 k + floorV y3 y4 + y2 ∧ at0 t5 k + floorV y3 y4 + y2 ≤ 250000 := by omega
            generalize at0 t5 k + floorV y3 y4 + y2 = v at *
            have w1' : IntKind.i64.wrap (x1 - x2) = x1 - x2 := IntWalk.i64_in _ (by omega)
            have w2' : IntKind.i64.wrap (x1 - x2 + g) = x1 - x2 + g := IntWalk.i64_in _ (by omega)
            have w3' : IntKind.i64.wrap (x1 - x2 + g + t) = x1 - x2 + g + t := IntWalk.i64_in _ (by omega)
            have w4' : IntKind.i64.wrap (x1 - x2 + g + t - v) = x1 - x2 + g + t - v := IntWalk.i64_in _ (by omega)
            rw [← hm5] at HB ⊢
            clear hc k5' hm5 e1 hm EV
            by_cases hneg : x1 - x2 + g + t - v < 0
            · have en := Lib.hid (EV3 hneg)
              clear EV3 EV4
              go_enter Tryd.func35, Tryd.ntmps35
              go_wp2_with fail
              refine (HA.out _ (by repeat (first | with_reducible exact On.refl _ | apply On.alloc)) ⟨by simp [go_sem], by simp [go_sem], by simp [go_sem], by simp [go_sem], by simp [go_sem], by simp [go_sem]⟩).mono ?_
              rintro e w1 ⟨rfl, h1⟩
              have P1 : In w1 w.heap.size x0 x1 x2 x3 x4 (.slice a5 n5 cap5) := In.on ⟨by simp [go_sem], by simp [go_sem], by simp [go_sem], by simp [go_sem], by simp [go_sem], by simp [go_sem]⟩ h1
              have Q1 : In w1 (w.heap.size + 1) y0 y1 y2 y3 y4 (.slice (some ⟨b, off, none⟩) m5 dap5) := In.on ⟨by simp [go_sem], by simp [go_sem], by simp [go_sem], by simp [go_sem], by simp [go_sem], by simp [go_sem]⟩ h1
              have HO1 := Lib.hid (On.trans (On.alloc (On.alloc (On.refl w) _) _) h1)
              have HP1 := Lib.hid P1
              have HQ1 := Lib.hid Q1
              obtain ⟨p0', p1, p2, p3, p4, p5'⟩ := P1
              obtain ⟨s0, s1, s2, s3, s4, s5⟩ := Q1
              have z1 : w.heap.size < w1.heap.size := World.block_lt_of_cell? w1 _ p0'
              have z2 : w.heap.size + 1 < w1.heap.size := World.block_lt_of_cell? w1 _ s0
              clear h1
              go_wp2_with fail
              refine (HB.out _ HO1.out HQ1.out).mono ?_
              rintro e w2 ⟨rfl, h2⟩
              have P2 := HP1.out.on h2
              have Q2 := HQ1.out.on h2
              have HO2 := Lib.hid (On.trans HO1.out h2)
              have HP2 := Lib.hid P2
              have HQ2 := Lib.hid Q2
              clear p0' p1 p2 p3 p4 p5' s0 s1 s2 s3 s4 s5 h2
              obtain ⟨p0', p1, p2, p3, p4, p5'⟩ := P2
              obtain ⟨s0, s1, s2, s3, s4, s5⟩ := Q2
              have z3 : w.heap.size < w2.heap.size := World.block_lt_of_cell? w2 _ p0'
              have z4 : w.heap.size + 1 < w2.heap.size := World.block_lt_of_cell? w2 _ s0
              go_wp2_with (first | (go_at_call 52; with_reducible refine (G1.out _).mono ?_; rintro e w' ⟨rfl, rfl⟩) | (go_at_call 52; with_reducible refine (G2.out _).mono ?_; rintro e w' ⟨rfl, rfl⟩) | (go_at_call 63; refine (HM.out _ _ HQ2.out).mono ?_; rintro e w' ⟨rfl, rfl⟩))
              refine wp_region_onh (by kernel_rfl) (by kernel_rfl) ?_
              repeat (refine rest_step (fun K hK => ?_); go_simp; first | (refine hK _ ?_; clear hK K) | (apply Exists.intro; refine ⟨fun v1 hv1 => ?_, hK _ ?_⟩; (first | with_reducible exact rfl | with_reducible exact ⟨rfl, rfl⟩ | with_reducible exact Calls.on hv1 (HL.out _ (HO2.out.trans hv1) (HQ2.out.on hv1)) | (obtain ⟨hc, hf⟩ := bcell hv1; go_simp; first | with_reducible exact rfl | with_reducible exact ⟨rfl, rfl⟩ | exact rfl | exact ⟨rfl, rfl⟩)); clear hK K))
              refine rest_nil ?_
              intro w7 h7
              go_wp2_with fail
              go_ret2
              exact ⟨ret_ii en.out.1.symm en.out.2.symm, HO2.out.trans h7⟩
            · have en := Lib.hid (EV4 hneg)
              clear EV3 EV4
              go_enter Tryd.func35, Tryd.ntmps35
              go_wp2_with fail
              refine (HA.out _ (by repeat (first | with_reducible exact On.refl _ | apply On.alloc)) ⟨by simp [go_sem], by simp [go_sem], by simp [go_sem], by simp [go_sem], by simp [go_sem], by simp [go_sem]⟩).mono ?_
              rintro e w1 ⟨rfl, h1⟩
              have P1 : In w1 w.heap.size x0 x1 x2 x3 x4 (.slice a5 n5 cap5) := In.on ⟨by simp [go_sem], by simp [go_sem], by simp [go_sem], by simp [go_sem], by simp [go_sem], by simp [go_sem]⟩ h1
              have Q1 : In w1 (w.heap.size + 1) y0 y1 y2 y3 y4 (.slice (some ⟨b, off, none⟩) m5 dap5) := In.on ⟨by simp [go_sem], by simp [go_sem], by simp [go_sem], by simp [go_sem], by simp [go_sem], by simp [go_sem]⟩ h1
              have HO1 := Lib.hid (On.trans (On.alloc (On.alloc (On.refl w) _) _) h1)
              have HP1 := Lib.hid P1
              have HQ1 := Lib.hid Q1
              obtain ⟨p0', p1, p2, p3, p4, p5'⟩ := P1
              obtain ⟨s0, s1, s2, s3, s4, s5⟩ := Q1
              have z1 : w.heap.size < w1.heap.size := World.block_lt_of_cell? w1 _ p0'
              have z2 : w.heap.size + 1 < w1.heap.size := World.block_lt_of_cell? w1 _ s0
              clear h1
              go_wp2_with fail
              refine (HB.out _ HO1.out HQ1.out).mono ?_
              rintro e w2 ⟨rfl, h2⟩
              have P2 := HP1.out.on h2
              have Q2 := HQ1.out.on h2
              have HO2 := Lib.hid (On.trans HO1.out h2)
              have HP2 := Lib.hid P2
              have HQ2 := Lib.hid Q2
              clear p0' p1 p2 p3 p4 p5' s0 s1 s2 s3 s4 s5 h2
              obtain ⟨p0', p1, p2, p3, p4, p5'⟩ := P2
              obtain ⟨s0, s1, s2, s3, s4, s5⟩ := Q2
              have z3 : w.heap.size < w2.heap.size := World.block_lt_of_cell? w2 _ p0'
              have z4 : w.heap.size + 1 < w2.heap.size := World.block_lt_of_cell? w2 _ s0
              go_wp2_with (first | (go_at_call 52; with_reducible refine (G1.out _).mono ?_; rintro e w' ⟨rfl, rfl⟩) | (go_at_call 52; with_reducible refine (G2.out _).mono ?_; rintro e w' ⟨rfl, rfl⟩) | (go_at_call 63; refine (HM.out _ _ HQ2.out).mono ?_; rintro e w' ⟨rfl, rfl⟩))
              refine wp_region_onh (by kernel_rfl) (by kernel_rfl) ?_
              repeat (refine rest_step (fun K hK => ?_); go_simp; first | (refine hK _ ?_; clear hK K) | (apply Exists.intro; refine ⟨fun v1 hv1 => ?_, hK _ ?_⟩; (first | with_reducible exact rfl | with_reducible exact ⟨rfl, rfl⟩ | with_reducible exact Calls.on hv1 (HL.out _ (HO2.out.trans hv1) (HQ2.out.on hv1)) | (obtain ⟨hc, hf⟩ := bcell hv1; go_simp; first | with_reducible exact rfl | with_reducible exact ⟨rfl, rfl⟩ | exact rfl | exact ⟨rfl, rfl⟩)); clear hK K))
              refine rest_nil ?_
              intro w7 h7
              go_wp2_with fail
              go_ret2
              exact ⟨ret_ii en.out.1.symm en.out.2.symm, HO2.out.trans h7⟩
end Go.Proofs.YtknggnchldcghacDoor.Rad
