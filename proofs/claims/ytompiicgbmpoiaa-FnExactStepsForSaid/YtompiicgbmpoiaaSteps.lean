
/-
  The least index of a table with a number, in the model and in the program. Condition: at most 1048576 numbers.
-/
import Derived.Test.YtompiicgbmpoiaaTable
namespace Go.Proofs.Ytompiicgbmpoiaa.Table
open Go.RowKit
open Plain
open Ints (Ints Own)
open Msk
set_option maxHeartbeats 2000000 in
theorem spec_StepsFor (v : Value) (ts : List Int) (need : Int) (w : World) (q : ts.length ≤ 1048576) (h : Ints w v ts) :
    Calls Try.prog 15 #[v, .int .i64 need] w fun e w' => e = .returned (.tuple #[.int .i64 (stepsV ts need), .int .i64 (stepsC ts need)]) ∧ On w w' := by
  have HT := Lib.hid (fun w' (hb : On w w') => spec_table v ts w' q (h.below hb))
  have HS := Lib.hid (fun w' (hb : On w w') => spec_steps v ts need w' q (h.below hb))
  obtain ⟨a, cap, rfl, -⟩ := h
  cases hok : okT ts with
  | false =>
    rw [hok] at HT
    have en := Lib.hid (steps_bad (need := need) hok)
    go_enter Try.func15, Try.ntmps15
    go_wp2_with fail
    refine (HT.out _ (by repeat (first | with_reducible exact On.refl _ | apply On.alloc))).mono ?_
    rintro e w1 ⟨rfl, h1⟩
    go_wp2_with fail
    go_ret2
    exact ⟨ret_ii en.out.1.symm en.out.2.symm, by repeat (first | with_reducible exact On.refl _ | with_reducible exact h1 | apply On.alloc | apply On.drewN)⟩
  | true =>
    rw [hok] at HT
    by_cases e : steps ts need = ts.length
    · have en := Lib.hid (steps_none hok e)
      rw [e] at HS
      obtain ⟨n, hn⟩ : ∃ n, n = ts.length := ⟨_, rfl⟩
      rw [← hn] at HT HS q ⊢
      obtain ⟨nn, nn'⟩ := eq_b (x := ((n : Nat) : Int)) (y := ((n : Nat) : Int)) rfl
      clear e hn hok
      go_enter Try.func15, Try.ntmps15
      go_wp2_with fail
      refine (HT.out _ (by repeat (first | with_reducible exact On.refl _ | apply On.alloc))).mono ?_
      rintro e w1 ⟨rfl, h1⟩
      go_wp2_with fail
      refine (HS.out _ h1).mono ?_
      rintro e w2 ⟨rfl, h2⟩
      have HO2 := Lib.hid (On.trans h1 h2)
      go_wp2_with fail
      go_ret2
      exact ⟨ret_ii en.out.1.symm en.out.2.symm, HO2.out⟩
    · have en := Lib.hid (steps_some hok e)
      have hle := steps_le ts need
      obtain ⟨k, hk⟩ : ∃ k, k = steps ts need := ⟨_, rfl⟩
      obtain ⟨n, hn⟩ : ∃ n, n = ts.length := ⟨_, rfl⟩
      rw [← hk] at HS en e hle
      rw [← hn] at HT HS q e hle ⊢
      obtain ⟨nn, nn'⟩ := ne_b (x := ((k : Nat) : Int)) (y := ((n : Nat) : Int)) (by omega)
      clear e hn hok hk
      go_enter Try.func15, Try.ntmps15
      go_wp2_with fail
      refine (HT.out _ (by repeat (first | with_reducible exact On.refl _ | apply On.alloc))).mono ?_
      rintro e w1 ⟨rfl, h1⟩
      go_wp2_with fail
      refine (HS.out _ h1).mono ?_
      rintro e w2 ⟨rfl, h2⟩
      have HO2 := Lib.hid (On.trans h1 h2)
      go_wp2_with fail
      go_ret2
      exact ⟨ret_ii en.out.1.symm en.out.2.symm, HO2.out⟩
/-- What the closure holds on to. -/
def Clo (w : World) (g : Nat) (v : Value) (need : Int) : Prop := w.cell? ⟨g, 0, none⟩ = some v ∧ w.cell? ⟨g + 1, 0, none⟩ = some (.int .i64 need)
theorem Clo.on {w w' : World} {g : Nat} {v : Value} {need : Int} (h : Clo w g v need) (ho : On w w') : Clo w' g v need :=
  ⟨(ho.cell (World.block_lt_of_cell? w _ h.1)).trans h.1, (ho.cell (World.block_lt_of_cell? w _ h.2)).trans h.2⟩
theorem not_less {ts : List Int} {need y : Int} {k : Nat} (hy : y = ts.getD k 0) : decide (need ≤ y) = !lessAt ts need k := by
  unfold lessAt
  rw [← hy]
  by_cases h : y < need
  · rw [decide_eq_true h, decide_eq_false (by omega)]; rfl
  · rw [decide_eq_false h, decide_eq_true (by omega)]; rfl
set_option maxRecDepth 100000 in
set_option maxHeartbeats 2000000 in
theorem impl_closure (g b off n cap k : Nat) (ts : List Int) (need : Int) (w : World) (hk : k < n) (_ : b < w.heap.size) (hc : ∀ k, k < n → w.cell? ⟨b, off + k, none⟩ = some (.int .i64 (ts.getD k 0))) (hp : Clo w g (.slice (some ⟨b, off, none⟩) n cap) need) :
    Calls Try.prog 42 #[.int .i64 k, .pointer (some ⟨g, 0, none⟩), .pointer (some ⟨g + 1, 0, none⟩)] w fun e w' => e = .returned (.bool (!lessAt ts need k)) ∧ On w w' := by
  obtain ⟨k0, k1⟩ := hp
  have hg : g < w.heap.size := World.block_lt_of_cell? w _ k0
  have hg1 : g + 1 < w.heap.size := World.block_lt_of_cell? w _ k1
  have hc1 := hc k hk
  have hki : (k : Int) < (n : Int) := by omega
  obtain ⟨y, hy⟩ : ∃ y, y = ts.getD k 0 := ⟨_, rfl⟩
  rw [← hy] at hc1
  have en := Lib.hid (not_less (need := need) hy)
  clear hc hy
  go_enter Try.func42, Try.ntmps42
  go_wp2_with fail
  go_quiet (fail)
  go_wp2_with fail
  go_ret
  exact ⟨ret_bool en.out, by repeat (first | with_reducible exact On.refl _ | apply On.drewN)⟩
set_option maxHeartbeats 4000000 in
theorem impl_StepsFor (v : Value) (ts : List Int) (need : Int) (w : World) (q : ts.length ≤ 1048576) (h : Ints w v ts) :
    Calls Try.prog 17 #[v, .int .i64 need] w fun e w' => e = .returned (.tuple #[.int .i64 (stepsV ts need), .int .i64 (stepsC ts need)]) ∧ On w w' := by
  have HT := Lib.hid (fun w' (hb : On w w') => impl_isTable v ts w' q (h.below hb))
  have h' := h
  obtain ⟨a, cap, rfl, -⟩ := h
  cases hok : okT ts with
  | false =>
    rw [hok] at HT
    have en := Lib.hid (steps_bad (need := need) hok)
    clear h'
    go_enter Try.func17, Try.ntmps17
    go_wp2_with fail
    refine (HT.out _ (by repeat (first | with_reducible exact On.refl _ | apply On.alloc))).mono ?_
    rintro e w1 ⟨rfl, h1⟩
    go_wp2_with fail
    go_ret2
    exact ⟨ret_ii en.out.1.symm en.out.2.symm, by repeat (first | with_reducible exact On.refl _ | refine On.trans ?_ h1 | apply On.alloc | apply On.drewN)⟩
  | true =>
    rw [hok] at HT
    obtain ⟨⟨n1, n64⟩, hcl⟩ := of_okT hok
    have hmono := mono_less (need := need) hcl
    have hle := steps_le ts need
    obtain ⟨n, hn⟩ : ∃ n, n = ts.length := ⟨_, rfl⟩
    have HN := Lib.hid hn
    rw [← hn] at h' HT q n1 n64 hmono hle ⊢
    obtain ⟨b, off, rfl, hb, hc⟩ := slice_of h' hn.symm (by omega)
    have HB := Lib.hid hb
    have HSE := Lib.hid (fun g w1 (h : On w w1) hp => Search.steps (.pointer (some ⟨g, 0, none⟩)) (.pointer (some ⟨g + 1, 0, none⟩)) (lessAt ts need) n w1 (by omega) hmono
      (fun k hk w2 ho => impl_closure g b off n cap k ts need w2 hk ((h.trans ho).lts _ hb) (fun k hk => ((h.trans ho).cell (by exact hb)).trans (hc k hk)) (Clo.on hp ho)))
    obtain ⟨k, hk⟩ : ∃ k, k = steps ts need := ⟨_, rfl⟩
    have HK := Lib.hid (show leadN (lessAt ts need) n = k by rw [hk, hn]; rfl)
    rw [HK.out] at HSE
    rw [← hk] at hle
    by_cases e : k = n
    · have en := Lib.hid (steps_none (need := need) hok (by rw [← hk, e, hn]))
      obtain ⟨nn, nn'⟩ := eq_b (x := ((k : Nat) : Int)) (y := ((n : Nat) : Int)) (by omega)
      clear hc hn hk e hok hmono hcl h' hb
      go_enter Try.func17, Try.ntmps17
      go_wp2_with fail
      refine (HT.out _ (by repeat (first | with_reducible exact On.refl _ | apply On.alloc))).mono ?_
      rintro e w1 ⟨rfl, h1⟩
      have HO1 := Lib.hid (show On w w1 by refine On.trans ?_ h1; repeat (first | with_reducible exact On.refl _ | apply On.alloc))
      have C1 : Clo w1 w.heap.size (.slice (some ⟨b, off, none⟩) n cap) need := Clo.on ⟨by simp [go_sem], by simp [go_sem]⟩ h1
      have HC1 := Lib.hid C1
      obtain ⟨p0, p1⟩ := C1
      have z1 : w.heap.size < w1.heap.size := World.block_lt_of_cell? w1 _ p0
      have z2 : w.heap.size + 1 < w1.heap.size := World.block_lt_of_cell? w1 _ p1
      clear h1
      go_wp2_with fail
      refine (HSE.out _ _ HO1.out HC1.out).mono ?_
      rintro e w2 ⟨rfl, h2⟩
      have HO2 := Lib.hid (HO1.out.trans h2)
      obtain ⟨r0, r1⟩ := HC1.out.on h2
      have y1 : w.heap.size < w2.heap.size := World.block_lt_of_cell? w2 _ r0
      clear h2
      go_wp2_with fail
      go_ret2
      exact ⟨ret_ii en.out.1.symm en.out.2.symm, by repeat (first | with_reducible exact HO2.out | apply On.drewN)⟩
    · have en := Lib.hid (steps_some (need := need) hok (by rw [← hk]; omega))
      rw [← hk] at en
      obtain ⟨nn, nn'⟩ := ne_b (x := ((k : Nat) : Int)) (y := ((n : Nat) : Int)) (by omega)
      clear hc hn hk e hok hmono hcl h' hb
      go_enter Try.func17, Try.ntmps17
      go_wp2_with fail
      refine (HT.out _ (by repeat (first | with_reducible exact On.refl _ | apply On.alloc))).mono ?_
      rintro e w1 ⟨rfl, h1⟩
      have HO1 := Lib.hid (show On w w1 by refine On.trans ?_ h1; repeat (first | with_reducible exact On.refl _ | apply On.alloc))
      have C1 : Clo w1 w.heap.size (.slice (some ⟨b, off, none⟩) n cap) need := Clo.on ⟨by simp [go_sem], by simp [go_sem]⟩ h1
      have HC1 := Lib.hid C1
      obtain ⟨p0, p1⟩ := C1
      have z1 : w.heap.size < w1.heap.size := World.block_lt_of_cell? w1 _ p0
      have z2 : w.heap.size + 1 < w1.heap.size := World.block_lt_of_cell? w1 _ p1
      clear h1
      go_wp2_with fail
      refine (HSE.out _ _ HO1.out HC1.out).mono ?_
      rintro e w2 ⟨rfl, h2⟩
      have HO2 := Lib.hid (HO1.out.trans h2)
      obtain ⟨r0, r1⟩ := HC1.out.on h2
      have y1 : w.heap.size < w2.heap.size := World.block_lt_of_cell? w2 _ r0
      clear h2
      go_wp2_with fail
      go_ret2
      exact ⟨ret_ii en.out.1.symm en.out.2.symm, by repeat (first | with_reducible exact HO2.out | apply On.drewN)⟩
end Go.Proofs.Ytompiicgbmpoiaa.Table
