
/-
  A profile with higher ends, in the model and in the program, each of its own memory. Condition: at most 1048576 heights.
-/
import Derived.Test.YtmmhekakihimfaaDrop
import Derived.Test.YtmmhekakihimfaaNu
import Derived.Test.YtmmhekakihimfaaTurnP
import Derived.Deep.RegionHeld3
import Derived.Deep.DeepCutAuto
namespace Go.Proofs.Ytmmhekakihimfaa.Nu
open Go.RowKit
open Plain
open Ints (Ints Own)
open Prof (PIn okP of_okP slice_of)

def rX (C x : Int) : Int := if C = 0 then x else 0
def rZ (C : Int) (zs : List Int) : List Int := if C = 0 then zs else []
theorem rZ_len {C : Int} {zs : List Int} (h : zs.length ≤ 1048576) : (rZ C zs).length ≤ 1048576 := by unfold rZ; split; exact h; simp
/-- RaiseEnds' code. -/
def rsC (d f l by_ : Int) (zs : List Int) : Int := if okP d f l zs = true then (if inB by_ 0 90000 = true then (if okP d (f + by_) (l + by_) zs = true then 0 else 6) else 2) else 1
theorem rs_1 {d f l by_ : Int} {zs : List Int} (h : okP d f l zs = false) : rsC d f l by_ zs = 1 := by unfold rsC; rw [h]; rfl
theorem rs_2 {d f l by_ : Int} {zs : List Int} (h : okP d f l zs = true) (g : inB by_ 0 90000 = false) : rsC d f l by_ zs = 2 := by unfold rsC; rw [h, g]; rfl
theorem rs_6 {d f l by_ : Int} {zs : List Int} (h : okP d f l zs = true) (g : inB by_ 0 90000 = true) (k : okP d (f + by_) (l + by_) zs = false) : rsC d f l by_ zs = 6 := by unfold rsC; rw [h, g, k]; rfl
theorem rs_0 {d f l by_ : Int} {zs : List Int} (h : okP d f l zs = true) (g : inB by_ 0 90000 = true) (k : okP d (f + by_) (l + by_) zs = true) : rsC d f l by_ zs = 0 := by unfold rsC; rw [h, g, k]; rfl
theorem held_at {B : Nat} {W w' : World} {g : Nat} {x0 x1 x2 : Int} {v3 : Value} (P : PRec.In W g x0 x1 x2 v3) (hg : g < B) (h : Below B W w') :
    Below B W w' ∧ w'.cell? ⟨g, 0, none⟩ = some (.int .i64 x0) ∧ w'.cell? ⟨g, 1, none⟩ = some (.int .i64 x1) ∧ w'.cell? ⟨g, 2, none⟩ = some (.int .i64 x2) ∧ w'.cell? ⟨g, 3, none⟩ = some v3 := by
  obtain ⟨a0, a1, a2, a3⟩ := P.keep (fun i => h.cell (p := ⟨g, i, none⟩) (by exact hg))
  exact ⟨h, a0, a1, a2, a3⟩
theorem rX_no {C x : Int} (h : C ≠ 0) : rX C x = 0 := if_neg h
theorem rZ_no {C : Int} {zs : List Int} (h : C ≠ 0) : rZ C zs = [] := if_neg h
set_option maxRecDepth 100000 in
set_option maxHeartbeats 4000000 in
theorem impl_raise (d f l by_ : Int) (v : Value) (zs : List Int) (w : World) (hn : zs.length ≤ 1048576) (h : Ints w v zs) :
    Calls Try.prog 40 #[.agg #[.int .i64 d, .int .i64 f, .int .i64 l, v], .int .i64 by_] w fun e w' => ∃ a c, e = .returned (.tuple #[.agg #[.int .i64 (rX (rsC d f l by_ zs) d), .int .i64 (rX (rsC d f l by_ zs) (f + by_)), .int .i64 (rX (rsC d f l by_ zs) (l + by_)), .slice a (rZ (rsC d f l by_ zs) zs).length c], .int .i64 (rsC d f l by_ zs)]) ∧ PRec.OwnR w.heap.size w' a (rZ (rsC d f l by_ zs) zs).length c (rZ (rsC d f l by_ zs) zs) ∧ On w w' := by
  obtain ⟨a, cap, rfl, -⟩ := id h
  have HV := Lib.hid (fun w' (hb : On w w') => Prof.impl_valid d f l a cap zs w' hn (h.below hb))
  cases hok : okP d f l zs with
  | false =>
    rw [hok] at HV
    rw [rs_1 hok]
    clear h
    go_enter_defers Try.func40, Try.ntmps40
    go_wp2_with fail
    refine (HV.out _ (by repeat (first | with_reducible exact On.refl _ | apply On.alloc))).mono ?_
    rintro e w1 ⟨rfl, h1⟩
    have HO := Lib.hid (show On w w1 by refine On.trans ?_ h1; repeat (first | with_reducible exact On.refl _ | apply On.alloc))
    have HP := Lib.hid (show PRec.In w1 w.heap.size d f l (.slice a zs.length cap) from PRec.In.on ⟨by simp [go_sem], by simp [go_sem], by simp [go_sem], by simp [go_sem]⟩ h1)
    have HR := Lib.hid (show PIn w1 (w.heap.size + 1) 0 0 0 (.slice none 0 0) from PIn.on ⟨by simp [go_sem], by simp [go_sem], by simp [go_sem], by simp [go_sem]⟩ h1)
    have pc : w1.cell? ⟨w.heap.size + 1 + 1, 0, none⟩ = some (.int .i64 0) := (h1.cell (by simp)).trans (by simp [go_sem])
    have HF := Lib.hid (show ∀ i, w1.frozen? ⟨w.heap.size + 1, i, none⟩ = false from fun i => (h1.frozen (by simp)).trans (by simp [go_sem]))
    have kc : w1.frozen? ⟨w.heap.size + 1 + 1, 0, none⟩ = false := (h1.frozen (by simp)).trans (by simp [go_sem])
    have hg := World.block_lt_of_cell? w1 _ pc
    have k0 := HF.out 0
    have k1 := HF.out 1
    have k2 := HF.out 2
    have k3 := HF.out 3
    obtain ⟨p0, p1, p2, p3⟩ := HP.out
    obtain ⟨r0, r1, r2, r3⟩ := HR.out
    clear h1
    go_wp2_with fail
    refine ⟨.tuple #[.agg #[.int .i64 0, .int .i64 0, .int .i64 0, .slice none 0 0], .int .i64 1], by simp [results, Try.results40, go_sem, r0, r1, r2, r3, pc], none, 0, rfl, ⟨rfl, Own.empty _ _ _ _⟩, ?_⟩
    repeat (first | with_reducible exact HO.out | refine On.setCell ?_ (by (try simp) <;> omega) _)
  | true =>
    rw [hok] at HV
    obtain ⟨-, ⟨n2, n65⟩, -⟩ := of_okP hok
    obtain ⟨b, off, rfl, hb, hc⟩ := slice_of h (by omega)
    have HC := Lib.hid (fun w' (hb2 : On w w') => Clone.lib_clone b off cap zs w' (by omega) hn (hb2.lts _ hb) (fun i hi => (hb2.cell (by exact hb)).trans (hc i hi)))
    cases hin : inB by_ 0 90000 with
    | false =>
      rw [rs_2 hok hin]
      clear h hc
      go_enter_defers Try.func40, Try.ntmps40
      go_wp2_with fail
      refine (HV.out _ (by repeat (first | with_reducible exact On.refl _ | apply On.alloc))).mono ?_
      rintro e w1 ⟨rfl, h1⟩
      have HO := Lib.hid (show On w w1 by refine On.trans ?_ h1; repeat (first | with_reducible exact On.refl _ | apply On.alloc))
      have HP := Lib.hid (show PRec.In w1 w.heap.size d f l (.slice (some ⟨b, off, none⟩) zs.length cap) from PRec.In.on ⟨by simp [go_sem], by simp [go_sem], by simp [go_sem], by simp [go_sem]⟩ h1)
      have HR := Lib.hid (show PIn w1 (w.heap.size + 1) 0 0 0 (.slice none 0 0) from PIn.on ⟨by simp [go_sem], by simp [go_sem], by simp [go_sem], by simp [go_sem]⟩ h1)
      have pc : w1.cell? ⟨w.heap.size + 1 + 1, 0, none⟩ = some (.int .i64 0) := (h1.cell (by simp)).trans (by simp [go_sem])
      have HF := Lib.hid (show ∀ i, w1.frozen? ⟨w.heap.size + 1, i, none⟩ = false from fun i => (h1.frozen (by simp)).trans (by simp [go_sem]))
      have kc : w1.frozen? ⟨w.heap.size + 1 + 1, 0, none⟩ = false := (h1.frozen (by simp)).trans (by simp [go_sem])
      have hg := World.block_lt_of_cell? w1 _ pc
      have k0 := HF.out 0
      have k1 := HF.out 1
      have k2 := HF.out 2
      have k3 := HF.out 3
      obtain ⟨p0, p1, p2, p3⟩ := HP.out
      obtain ⟨r0, r1, r2, r3⟩ := HR.out
      clear h1
      go_wp2_with fail
      refine (Arith.within _ _ _ _).mono ?_
      rintro e w' ⟨rfl, rfl⟩
      rw [hin]
      go_wp2_with fail
      refine ⟨.tuple #[.agg #[.int .i64 0, .int .i64 0, .int .i64 0, .slice none 0 0], .int .i64 2], by simp [results, Try.results40, go_sem, r0, r1, r2, r3, pc], none, 0, rfl, ⟨rfl, Own.empty _ _ _ _⟩, ?_⟩
      repeat (first | with_reducible exact HO.out | refine On.setCell ?_ (by (try simp) <;> omega) _)
    | true =>
      obtain ⟨b0, b1⟩ := of_inB hin
      obtain ⟨-, -, hall, ⟨f0, f1⟩, ⟨l0, l1⟩⟩ := of_okP hok
      have hz0 := (of_inB (hall 0 (by omega))).1
      have hz1 := (of_inB (hall (zs.length - 1) (by omega))).1
      have e1 : IntKind.i64.wrap (f + by_) = f + by_ := IntWalk.i64_in _ (by omega)
      have e2 : IntKind.i64.wrap (l + by_) = l + by_ := IntWalk.i64_in _ (by omega)
      clear hall hz0 hz1
      have HOK := Lib.hid hok
      have HIN := Lib.hid hin
      clear h hc
      go_enter_defers Try.func40, Try.ntmps40
      go_wp2_with fail
      refine (HV.out _ (by repeat (first | with_reducible exact On.refl _ | apply On.alloc))).mono ?_
      rintro e w1 ⟨rfl, h1⟩
      have HO := Lib.hid (show On w w1 by refine On.trans ?_ h1; repeat (first | with_reducible exact On.refl _ | apply On.alloc))
      have HP := Lib.hid (show PRec.In w1 w.heap.size d f l (.slice (some ⟨b, off, none⟩) zs.length cap) from PRec.In.on ⟨by simp [go_sem], by simp [go_sem], by simp [go_sem], by simp [go_sem]⟩ h1)
      have HR := Lib.hid (show PIn w1 (w.heap.size + 1) 0 0 0 (.slice none 0 0) from PIn.on ⟨by simp [go_sem], by simp [go_sem], by simp [go_sem], by simp [go_sem]⟩ h1)
      have pc : w1.cell? ⟨w.heap.size + 1 + 1, 0, none⟩ = some (.int .i64 0) := (h1.cell (by simp)).trans (by simp [go_sem])
      have HF := Lib.hid (show ∀ i, w1.frozen? ⟨w.heap.size + 1, i, none⟩ = false from fun i => (h1.frozen (by simp)).trans (by simp [go_sem]))
      have kc : w1.frozen? ⟨w.heap.size + 1 + 1, 0, none⟩ = false := (h1.frozen (by simp)).trans (by simp [go_sem])
      have hg := World.block_lt_of_cell? w1 _ pc
      have k0 := HF.out 0
      have k1 := HF.out 1
      have k2 := HF.out 2
      have k3 := HF.out 3
      obtain ⟨p0, p1, p2, p3⟩ := HP.out
      obtain ⟨r0, r1, r2, r3⟩ := HR.out
      clear h1
      go_wp2_with fail
      refine (Arith.within _ _ _ _).mono ?_
      rintro e w' ⟨rfl, rfl⟩
      rw [hin]
      have hgR : w.heap.size + 1 < w1.heap.size := by omega
      go_upto_region 6 with fail
      go_region_held3 (fun w' => Below (w.heap.size + 1) w1 w' ∧ w'.cell? ⟨w.heap.size, 0, none⟩ = some (.int .i64 d) ∧ w'.cell? ⟨w.heap.size, 1, none⟩ = some (.int .i64 f) ∧ w'.cell? ⟨w.heap.size, 2, none⟩ = some (.int .i64 l) ∧ w'.cell? ⟨w.heap.size, 3, none⟩ = some (.slice (some ⟨b, off, none⟩) zs.length cap))
        ((refine held_at HP.out (Nat.lt_succ_self _) ?_; repeat (first | with_reducible exact Below.refl _ _ | with_reducible assumption | apply Below.drew | (obtain ⟨hOW, _⟩ := ‹Below _ w1 _ ∧ _›; exact hOW) | (refine Below.setCell ?_ (by (try simp) <;> omega) _))))
        (first
          | (go_at_call 63; refine (HC.out _ (On.trans HO.out (by repeat (first | with_reducible exact On.refl _ | with_reducible assumption | apply On.alloc | apply On.drew | (obtain ⟨hOW, _⟩ := ‹On w1 _ ∧ _›; exact hOW) | (refine On.trans ?_ (by assumption)))))).mono ?_; rintro e w' ⟨a', c', rfl, hown, hcall⟩; (try (with_reducible replace hcall := PRec.On.undrew hcall)); (have hx : On w1 w' := hcall); (have hxB : Below (w.heap.size + 1) w1 w' := Below.mono hx (by omega)); obtain ⟨z0, z1, z2, z3⟩ := HR.out.on hx; (have zc := (hx.cell (p := ⟨w.heap.size + 1 + 1, 0, none⟩) (by exact hg)).trans pc); (have y0 := (hx.frozen (p := ⟨w.heap.size + 1, 0, none⟩) (by exact hgR)).trans k0); (have y1 := (hx.frozen (p := ⟨w.heap.size + 1, 1, none⟩) (by exact hgR)).trans k1); (have y2 := (hx.frozen (p := ⟨w.heap.size + 1, 2, none⟩) (by exact hgR)).trans k2); (have y3 := (hx.frozen (p := ⟨w.heap.size + 1, 3, none⟩) (by exact hgR)).trans k3); (have yc := (hx.frozen (p := ⟨w.heap.size + 1 + 1, 0, none⟩) (by exact hg)).trans kc); have hsz := hcall.size; (try simp at hsz)))
      all_goals
        go_wp2_with fail
        obtain ⟨WX, hWX⟩ : ∃ WX, WX = (((((w'.setCell ⟨w.heap.size + 1, 0, none⟩ (.int .i64 d)).setCell ⟨w.heap.size + 1, 1, none⟩ (.int .i64 (f + by_))).setCell ⟨w.heap.size + 1, 2, none⟩ (.int .i64 (l + by_))).setCell ⟨w.heap.size + 1, 3, none⟩ (.slice a' zs.length c')).setCell ⟨w.heap.size + 1 + 1, 0, none⟩ (.int .i64 0)) := ⟨_, rfl⟩
        rw [← hWX]
        have HD : PIn WX (w.heap.size + 1) d (f + by_) (l + by_) (.slice a' zs.length c') := by rw [hWX]; exact ⟨by simp [go_sem, z0], by simp [go_sem, z1], by simp [go_sem, z2], by simp [go_sem, z3]⟩
        have HW1 : Own w1.heap.size WX (.slice a' zs.length c') zs := by rw [hWX]; repeat (first | with_reducible exact hown | exact hown | refine Own.setCell ?_ (by (try simp) <;> omega) _)
        have HCc : WX.cell? ⟨w.heap.size + 1 + 1, 0, none⟩ = some (.int .i64 0) := by rw [hWX]; simp [go_sem, zc]
        have HFr : ∀ i, WX.frozen? ⟨w.heap.size + 1, i, none⟩ = false := fun i => by rw [hWX]; simp only [World.frozen?_setCell]; exact (hx.frozen (p := ⟨w.heap.size + 1, i, none⟩) (by exact hgR)).trans (HF.out i)
        have HFc : WX.frozen? ⟨w.heap.size + 1 + 1, 0, none⟩ = false := by rw [hWX]; simp only [World.frozen?_setCell]; exact yc
        have HOX : On w WX := by rw [hWX]; repeat (first | with_reducible exact On.trans HO.out hx | refine On.setCell ?_ (by (try simp) <;> omega) _)
        clear hWX
        by_cases hk : okP d (f + by_) (l + by_) zs = true
        · rw [rs_0 HOK.out HIN.out hk]
          refine leaves_cons (f := 60) (args := #[.pointer (some ⟨w.heap.size + 1, 0, none⟩), .pointer (some ⟨w.heap.size + 1 + 1, 0, none⟩)]) (by simp) (by simp [go_sem]) ?_
          refine (drop_ok (w.heap.size + 1) (w.heap.size + 1 + 1) d (f + by_) (l + by_) a' c' zs .returning _ hn HD HW1.ints hk).mono ?_
          rintro e u' w'' ⟨rfl, rfl, h2⟩
          obtain ⟨d0, d1, d2, d3⟩ := HD.on h2
          have dc := (h2.cell (p := ⟨w.heap.size + 1 + 1, 0, none⟩) (by exact World.block_lt_of_cell? _ _ HCc)).trans HCc
          refine ⟨.tuple #[.agg #[.int .i64 d, .int .i64 (f + by_), .int .i64 (l + by_), .slice a' zs.length c'], .int .i64 0], by simp [results, Try.results40, go_sem, d0, d1, d2, d3, dc], a', c', rfl, ⟨rfl, ?_⟩, HOX.trans h2⟩
          exact (HW1.below h2).mono (by omega)
        · have hk := Bool.not_eq_true _ ▸ hk
          rw [rs_6 HOK.out HIN.out hk]
          refine leaves_cons (f := 60) (args := #[.pointer (some ⟨w.heap.size + 1, 0, none⟩), .pointer (some ⟨w.heap.size + 1 + 1, 0, none⟩)]) (by simp) (by simp [go_sem]) ?_
          refine (drop_no (w.heap.size + 1) (w.heap.size + 1 + 1) w.heap.size d (f + by_) (l + by_) 0 a' c' zs .returning _ hn HD HW1.ints hk HCc HFr HFc (by omega) (by omega) (by omega)).mono ?_
          rintro e u' w'' ⟨rfl, rfl, ⟨d0, d1, d2, d3⟩, dc, h2⟩
          refine ⟨.tuple #[.agg #[.int .i64 0, .int .i64 0, .int .i64 0, .slice none 0 0], .int .i64 6], by simp [results, Try.results40, go_sem, d0, d1, d2, d3, dc], none, 0, rfl, ⟨rfl, Own.empty _ _ _ _⟩, Below.trans HOX h2⟩
end Go.Proofs.Ytmmhekakihimfaa.Nu
