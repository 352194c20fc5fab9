
/-
  A profile from the other end, in the program. Condition: at most 1048576 heights.
-/
import Derived.Test.YtmmhekakihimfaaReverse
import Derived.Test.YtmmhekakihimfaaProfOk2
import Derived.Test.YtmmhekakihimfaaPRecOwn
import Derived.Deep.RegionHeld3
import Derived.Deep.DeepCutAuto
namespace Go.Proofs.Ytmmhekakihimfaa.PRec
open Go.RowKit
open Ints (Ints Own)

def tD (ok : Bool) (x : Int) : Int := if ok = true then x else 0
def tZ (ok : Bool) (zs : List Int) : List Int := if ok = true then zs.reverse else []
def tC (ok : Bool) : Int := if ok = true then 0 else 1
theorem On.undrew {w w' : World} (h : On w.drew w') : On w w' := by
  have h' : Below w.drew.heap.size w.drew w' := h
  exact ⟨h'.os, h'.tape, h'.output, h'.size, fun k hk => h'.block k hk⟩
theorem On.last {w w' : World} {o : Obj} (h : On (w.alloc o) w') : w.heap.size < w'.heap.size := by
  have := h.size
  simp at this
  omega
theorem held_one {W w' : World} {g : Nat} {x0 x1 x2 : Int} {v3 : Value} (P : In W g x0 x1 x2 v3) (h : On W w') :
    On W w' ∧ w'.cell? ⟨g, 0, none⟩ = some (.int .i64 x0) ∧ w'.cell? ⟨g, 1, none⟩ = some (.int .i64 x1) ∧ w'.cell? ⟨g, 2, none⟩ = some (.int .i64 x2) ∧ w'.cell? ⟨g, 3, none⟩ = some v3 := by
  obtain ⟨a0, a1, a2, a3⟩ := P.on h
  exact ⟨h, a0, a1, a2, a3⟩
set_option maxRecDepth 100000 in
set_option maxHeartbeats 2000000 in
theorem impl_turned (d f l : Int) (v : Value) (zs : List Int) (w : World) (hn : zs.length ≤ 1048576) (h : Ints w v zs) :
    Calls Try.prog 93 #[.agg #[.int .i64 d, .int .i64 f, .int .i64 l, v]] w fun e w' => ∃ a c, e = .returned (.tuple #[.agg #[.int .i64 (tD (Prof.okP d f l zs) d), .int .i64 (tD (Prof.okP d f l zs) l), .int .i64 (tD (Prof.okP d f l zs) f), .slice a (tZ (Prof.okP d f l zs) zs).length c], .int .i64 (tC (Prof.okP d f l zs))]) ∧ OwnR w.heap.size w' a (tZ (Prof.okP d f l zs) zs).length c (tZ (Prof.okP d f l zs) zs) ∧ On w w' := by
  obtain ⟨a, cap, rfl, -⟩ := id h
  have HV := Lib.hid (fun w' (hb : On w w') => Prof.impl_valid d f l a cap zs w' hn (h.below hb))
  cases hok : Prof.okP d f l zs with
  | false =>
    rw [hok] at HV
    clear h
    go_enter Try.func93, Try.ntmps93
    go_wp2_with fail
    refine (HV.out _ (by repeat (first | with_reducible exact On.refl _ | apply On.alloc))).mono ?_
    rintro e w1 ⟨rfl, h1⟩
    have hO1 : On w w1 := by refine On.trans ?_ h1; repeat (first | with_reducible exact On.refl _ | apply On.alloc)
    have P1 : In w1 (w.heap.size + 1) 0 0 0 (.slice none 0 0) := In.on ⟨by simp [go_sem], by simp [go_sem], by simp [go_sem], by simp [go_sem]⟩ h1
    have f1 : ∀ i, w1.frozen? ⟨w.heap.size + 1, i, none⟩ = false := fun i => (h1.frozen (by simp)).trans (by simp [go_sem])
    have f1' := f1 0
    have f1'' := f1 1
    have f1''' := f1 2
    have f1'''' := f1 3
    have y1 := World.block_lt_of_cell? _ _ P1.1
    obtain ⟨p0, p1, p2, p3⟩ := P1
    have HO := Lib.hid hO1
    clear h1 hO1 f1
    go_wp2_with fail
    refine bodyPost_ret (v := .tuple #[.agg #[.int .i64 0, .int .i64 0, .int .i64 0, .slice none 0 0], .int .i64 1]) (by simp [results, Try.results93, go_sem, p0, p1, p2, p3]) rfl ⟨none, 0, rfl, ⟨rfl, Own.empty _ _ _ _⟩, ?_⟩
    repeat (first | with_reducible exact HO.out | refine On.setCell ?_ (by (try simp) <;> omega) _)
  | true =>
    rw [hok] at HV
    obtain ⟨-, ⟨n2, n65⟩, -⟩ := Prof.of_okP hok
    obtain ⟨b, off, rfl, hb, hc⟩ := Prof.slice_of h (by omega)
    have HC := Lib.hid (fun w' (hb2 : On w w') => Clone.lib_clone b off cap zs w' (by omega) hn (hb2.lts _ hb) (fun i hi => (hb2.cell (by exact hb)).trans (hc i hi)))
    have HL := Lib.hid (show (tZ true zs).length = zs.length by unfold tZ; rw [if_pos rfl, List.length_reverse])
    have HZ := Lib.hid (show tZ true zs = zs.reverse from rfl)
    clear h hc
    go_enter Try.func93, Try.ntmps93
    go_wp2_with fail
    refine (HV.out _ (by repeat (first | with_reducible exact On.refl _ | apply On.alloc))).mono ?_
    rintro e W ⟨rfl, h1⟩
    have HO := Lib.hid (show On w W by refine On.trans ?_ h1; repeat (first | with_reducible exact On.refl _ | apply On.alloc))
    have HP := Lib.hid (show In W w.heap.size d f l (.slice (some ⟨b, off, none⟩) zs.length cap) from In.on ⟨by simp [go_sem], by simp [go_sem], by simp [go_sem], by simp [go_sem]⟩ h1)
    have HR := Lib.hid (show In W (w.heap.size + 1) 0 0 0 (.slice none 0 0) from In.on ⟨by simp [go_sem], by simp [go_sem], by simp [go_sem], by simp [go_sem]⟩ h1)
    have HF := Lib.hid (show ∀ i, W.frozen? ⟨w.heap.size + 1, i, none⟩ = false from fun i => (h1.frozen (by simp)).trans (by simp [go_sem]))
    clear h1
    go_upto_region 3 with fail
    go_cut [4] (fun sa wx => ∃ g a' c', sa = .pointer (some ⟨g, 0, none⟩) ∧ W.heap.size ≤ g ∧ In wx g d l f (.slice a' zs.length c') ∧ Own W.heap.size wx (.slice a' zs.length c') zs ∧ (∀ q, a' = some q → q.block ≠ g) ∧ On W wx)
    case first =>
      go_region_held3 (fun w' => On W w' ∧ w'.cell? ⟨w.heap.size, 0, none⟩ = some (.int .i64 d) ∧ w'.cell? ⟨w.heap.size, 1, none⟩ = some (.int .i64 f) ∧ w'.cell? ⟨w.heap.size, 2, none⟩ = some (.int .i64 l) ∧ w'.cell? ⟨w.heap.size, 3, none⟩ = some (.slice (some ⟨b, off, none⟩) zs.length cap))
        ((refine held_one HP.out ?_; repeat (first | with_reducible exact On.refl _ | with_reducible assumption | apply On.alloc | apply On.drew | (obtain ⟨hOW, _⟩ := ‹On W _ ∧ _›; exact hOW) | (refine On.setCell ?_ (by (try simp) <;> omega) _) | (refine On.trans ?_ (by assumption)))))
        (first
          | (go_at_call 63; refine (HC.out _ (On.trans HO.out (by repeat (first | with_reducible exact On.refl _ | with_reducible assumption | apply On.alloc | apply On.drew | (obtain ⟨hOW, _⟩ := ‹On W _ ∧ _›; exact hOW) | (refine On.trans ?_ (by assumption)))))).mono ?_; rintro e w' ⟨a', c', rfl, hown, hcall⟩; (try (with_reducible replace hcall := On.undrew hcall)); obtain ⟨hc, hf⟩ := bcell hcall; have hgr := hcall.lts; (try (have hl1 := hgr _ (by assumption))); (try (have hl0 := On.last hcall)); have hsz := hcall.size; (try simp at hsz)))
      all_goals
        go_wp2_with fail
        go_meet
        refine ⟨_, a', c', rfl, ?_, ?_, ?_, ?_, ?_⟩
        · (try simp) <;> omega
        · refine ⟨?_, ?_, ?_, ?_⟩ <;> first | (simp [go_sem]; done) | (go_simp; done) | simp [go_sem, hc]
        · first | exact (hown.below (On.alloc (On.refl _) _)).mono (by simp) | exact ((((hown.setCell (by simp) _).setCell (by simp) _).setCell (by simp) _).setCell (by simp) _).mono (by simp)
        · intro q hq
          have e1 := own_block rfl hown (by omega) q hq
          have e2 := own_ge rfl hown (by omega) q hq
          simp at e1 e2 ⊢
          omega
        · obtain ⟨hOW, _⟩ := ‹On W _ ∧ _›
          exact hOW
    case rest =>
      obtain ⟨g, a', c', rfl, hg, hI, ho, hap, hO⟩ := hcut
      obtain ⟨a2, cap2, he, hh⟩ := ho
      cases he
      obtain ⟨b2, o2, rfl, hB2, hlt2, hfz2, hcell2⟩ := hh (by omega)
      have hgb : g ≠ b2 := fun e => hap _ rfl e.symm
      have HRv := Lib.hid (Reverse.rev_some b2 o2 c' zs _ (by omega) hn hfz2 hcell2)
      have hW1 : w.heap.size + 1 < W.heap.size := World.block_lt_of_cell? _ _ HR.out.1
      have hgl := World.block_lt_of_cell? _ _ hI.1
      have hI' := hI
      obtain ⟨i0, i1, i2, i3⟩ := hI'
      have HI := Lib.hid hI
      have HOx := Lib.hid hO
      have HRx := Lib.hid (HR.out.on hO)
      have HFx := Lib.hid (fun i => (hO.frozen (p := ⟨w.heap.size + 1, i, none⟩) (by exact hW1)).trans (HF.out i))
      have HFZ := Lib.hid hfz2
      clear hh hcell2 hI hO hap hfz2
      go_wp2_with fail
      refine HRv.out.mono ?_
      rintro e w2 ⟨rfl, hb2, hf2, hcl2, hx2⟩
      have I2 := HI.out.keep (fun i => hx2 ⟨g, i, none⟩ hgb)
      have hlo : w.heap.size + 1 < b2 := by omega
      have R2 := HRx.out.keep (fun i => hb2.cell (p := ⟨w.heap.size + 1, i, none⟩) (by exact hlo))
      have F2 := fun i => (hf2 ⟨w.heap.size + 1, i, none⟩).trans (HFx.out i)
      have f0 := F2 0
      have f1 := F2 1
      have f2 := F2 2
      have f3 := F2 3
      obtain ⟨j0, j1, j2, j3⟩ := I2
      obtain ⟨r0, r1, r2, r3⟩ := R2
      have hne : g ≠ w.heap.size + 1 := by omega
      have HO2 := Lib.hid (show On w w2 from Below.trans (HO.out.trans HOx.out) (Below.mono hb2 (by omega)))
      have HWN := Lib.hid (show Own W.heap.size w2 (.slice (some ⟨b2, o2, none⟩) zs.reverse.length c') zs.reverse from ⟨_, c', rfl, fun _ => ⟨b2, o2, rfl, hB2, Nat.lt_of_lt_of_le hlt2 hb2.size, fun i hi => by rw [List.length_reverse] at hi; exact (hf2 _).trans (HFZ.out i hi), fun i hi => by rw [List.length_reverse] at hi; exact hcl2 i hi⟩⟩)
      clear hb2 hf2 hcl2 hx2 F2
      go_wp2_with fail
      refine bodyPost_ret (v := .tuple #[.agg #[.int .i64 d, .int .i64 l, .int .i64 f, .slice (some ⟨b2, o2, none⟩) zs.length c'], .int .i64 0]) (by simp [results, Try.results93, go_sem, r0, r1, r2, r3]) rfl ⟨some ⟨b2, o2, none⟩, c', by rw [HL.out]; rfl, ⟨rfl, ?_⟩, ?_⟩
      · rw [HZ.out]
        refine Own.mono (B := W.heap.size) ?_ (by omega)
        repeat (first | with_reducible exact HWN.out | refine Own.setCell ?_ (by (try simp) <;> omega) _)
      · repeat (first | with_reducible exact HO2.out | refine On.setCell ?_ (by (try simp) <;> omega) _)
end Go.Proofs.Ytmmhekakihimfaa.PRec
