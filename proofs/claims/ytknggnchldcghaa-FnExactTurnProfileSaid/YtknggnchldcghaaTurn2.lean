
/-
  A profile from the other end, whole, in the model. Condition: at most 1048576 heights.
-/
import Derived.Test.YtknggnchldcghaaTurnS
import Derived.Deep.RegionWith
namespace Go.Proofs.Ytknggnchldcghaa.PRec
open Go.RowKit
open Ints (Ints Own)

theorem tZ_len {ok : Bool} {zs : List Int} {n : Nat} (h : zs.length ≤ n) : (tZ ok zs).length ≤ n := by cases ok <;> simp [tZ] <;> omega
set_option maxRecDepth 100000 in
set_option maxHeartbeats 2000000 in
theorem spec_turned (d f l : Int) (v : Value) (zs : List Int) (w : World) (hn : zs.length ≤ 1048576) (h : Ints w v zs) :
    Calls Try.prog 22 #[.agg #[.int .i64 d, .int .i64 f, .int .i64 l, v]] w fun e w' => ∃ a c, e = .returned (.tuple #[.agg #[.int .i64 (tD (Prof.okP d f l zs) d), .int .i64 (tD (Prof.okP d f l zs) l), .int .i64 (tD (Prof.okP d f l zs) f), .slice a (tZ (Prof.okP d f l zs) zs).length c], .int .i64 (tC (Prof.okP d f l zs))]) ∧ Ints w' (.slice a (tZ (Prof.okP d f l zs) zs).length c) (tZ (Prof.okP d f l zs) zs) ∧ On w w' := by
  obtain ⟨a, cap, rfl, -⟩ := id h
  have HV := Lib.hid (fun w' (hb : On w w') (hp : Prof.PIn w' w.heap.size d f l (.slice a zs.length cap)) => show Calls Try.prog 60 #[.pointer (some ⟨w.heap.size, 0, none⟩)] w' (fun e w'' => e = .returned (.bool (Prof.okP d f l zs)) ∧ On w' w'') from (Prof.spec_ok w.heap.size d f l a cap zs w' hn hp (h.below hb)).mono (fun e w'' ⟨he, n, hw⟩ => ⟨he, by rw [hw]; exact On.drewN (On.refl _) n⟩))
  cases hok : Prof.okP d f l zs with
  | false =>
    rw [hok] at HV
    clear h
    go_enter Try.func22, Try.ntmps22
    go_wp2_with fail
    refine (HV.out _ (by repeat (first | with_reducible exact On.refl _ | apply On.alloc)) ⟨by simp [go_sem], by simp [go_sem], by simp [go_sem], by simp [go_sem]⟩).mono ?_
    rintro e w1 ⟨rfl, h1⟩
    have R1 : In w1 (w.heap.size + 1) 0 0 0 (.slice none 0 0) := In.on ⟨by simp [go_sem], by simp [go_sem], by simp [go_sem], by simp [go_sem]⟩ h1
    have FR := fun i => (h1.frozen (p := ⟨w.heap.size + 1, i, none⟩) (by simp)).trans (show _ = false by simp [go_sem])
    have fr0 := FR 0
    have fr1 := FR 1
    have fr2 := FR 2
    have fr3 := FR 3
    obtain ⟨r0, r1, r2, r3⟩ := R1
    have HO1 := Lib.hid (show On w w1 by refine On.trans ?_ h1; repeat (first | with_reducible exact On.refl _ | apply On.alloc))
    clear h1 FR
    go_wp2_with fail
    refine bodyPost_ret (v := .tuple #[.agg #[.int .i64 0, .int .i64 0, .int .i64 0, .slice none 0 0], .int .i64 1]) (by simp [results, Try.results22, go_sem, r0, r1, r2, r3]) rfl ⟨none, 0, rfl, (Own.empty 0 _ _ _).ints, ?_⟩
    repeat (first | with_reducible exact HO1.out | refine On.setCell ?_ (by (try simp) <;> omega) _)
  | true =>
    rw [hok] at HV
    obtain ⟨-, ⟨n2, n65⟩, -⟩ := Prof.of_okP hok
    obtain ⟨b, off, rfl, hb, hc⟩ := Prof.slice_of h (by omega)
    have HT := Lib.hid (fun w' (h2 : On w w') hp => spec_turn_some w.heap.size d f l b off cap zs.length zs w' rfl n65 (by omega) (h2.lts _ hb) (fun i hi => (h2.cell (by exact hb)).trans (hc i hi)) hp)
    have HL := Lib.hid (show (tZ true zs).length = zs.length by unfold tZ; rw [if_pos rfl, List.length_reverse])
    have HZ := Lib.hid (show tZ true zs = zs.reverse from rfl)
    clear h hc
    go_enter Try.func22, Try.ntmps22
    go_wp2_with fail
    refine (HV.out _ (by repeat (first | with_reducible exact On.refl _ | apply On.alloc)) ⟨by simp [go_sem], by simp [go_sem], by simp [go_sem], by simp [go_sem]⟩).mono ?_
    rintro e w1 ⟨rfl, h1⟩
    have HP1 := Lib.hid (show In w1 w.heap.size d f l (.slice (some ⟨b, off, none⟩) zs.length cap) from In.on ⟨by simp [go_sem], by simp [go_sem], by simp [go_sem], by simp [go_sem]⟩ h1)
    have HR1 := Lib.hid (show In w1 (w.heap.size + 1) 0 0 0 (.slice none 0 0) from In.on ⟨by simp [go_sem], by simp [go_sem], by simp [go_sem], by simp [go_sem]⟩ h1)
    have HF1 := Lib.hid (show ∀ i, w1.frozen? ⟨w.heap.size + 1, i, none⟩ = false from fun i => (h1.frozen (by simp)).trans (by simp [go_sem]))
    have HO1 := Lib.hid (show On w w1 by refine On.trans ?_ h1; repeat (first | with_reducible exact On.refl _ | apply On.alloc))
    clear h1
    go_wp2_with fail
    refine (HT.out _ HO1.out HP1.out).mono ?_
    rintro e w2 ⟨a', c', rfl, hi2, h2⟩
    have hlt : w.heap.size + 1 < w1.heap.size := World.block_lt_of_cell? _ _ HR1.out.1
    have R2 := HR1.out.on h2
    have FR := fun i => (h2.frozen (p := ⟨w.heap.size + 1, i, none⟩) (by exact hlt)).trans (HF1.out i)
    have fr0 := FR 0
    have fr1 := FR 1
    have fr2 := FR 2
    have fr3 := FR 3
    obtain ⟨r0, r1, r2, r3⟩ := R2
    have HO2 := Lib.hid (HO1.out.trans h2)
    have HI2 := Lib.hid hi2
    clear h2 hi2 FR
    go_wp2_with fail
    refine bodyPost_ret (v := .tuple #[.agg #[.int .i64 d, .int .i64 l, .int .i64 f, .slice a' zs.length c'], .int .i64 0]) (by simp [results, Try.results22, go_sem, r0, r1, r2, r3]) rfl ⟨a', c', by rw [HL.out]; rfl, ?_, ?_⟩
    · rw [HL.out, HZ.out]
      refine Own.ints (B := w1.heap.size) ?_
      repeat (first | with_reducible exact HI2.out | refine Own.setCell ?_ (by (try simp) <;> omega) _)
    · repeat (first | with_reducible exact HO2.out | refine On.setCell ?_ (by (try simp) <;> omega) _)
end Go.Proofs.Ytknggnchldcghaa.PRec
