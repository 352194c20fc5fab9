
/-
  'every' over lists of numbers and over lists of such lists: what it returns of a function value that looks at one. Conditions: each theorem's own.
-/
import Derived.Test.YtofoffdmhekceaaMats
import Derived.Test.YtofoffdmhekceaaOnH
import Derived.Deep.QuietTactic
import Derived.BigQuiet
import Derived.IntWalk
namespace Go.Proofs.Ytofoffdmhekceaa.EvI
open Go.RowKit

theorem all_upto_ints {p : Int → Bool} {zs : List Int} (h : ∀ i, i < zs.length → p (zs.getD i 0) = true) : zs.all p = true := by
  rw [List.all_eq_true]
  intro x hx
  obtain ⟨i, hi, rfl⟩ := List.getElem_of_mem hx
  have := h i hi
  rw [show zs.getD i 0 = zs[i] from by simp [hi]] at this
  exact this
theorem all_bad_ints {p : Int → Bool} {zs : List Int} {k : Nat} (hk : k < zs.length) (h : p (zs.getD k 0) = false) : zs.all p = false := by
  rw [List.all_eq_false]
  refine ⟨zs[k], List.getElem_mem hk, ?_⟩
  rw [show zs.getD k 0 = zs[k] from by simp [hk]] at h
  simp [h]
set_option maxRecDepth 100000 in
set_option maxHeartbeats 2000000 in
theorem index_ints (g : Nat) (p : Int → Bool) (b off cap : Nat) (zs : List Int) (w : World) (hn : zs.length ≤ 1048576) (hlt : b < w.heap.size)
    (hcell : ∀ i, i < zs.length → w.cell? ⟨b, off + i, none⟩ = some (.int .i64 (zs.getD i 0)))
    (hc : ∀ k, k < zs.length → ∀ w1, On w w1 → Calls Try.prog 80 #[.int .i64 (zs.getD k 0), .pointer (some ⟨g, 0, none⟩)] w1 fun e w2 => e = .returned (.bool (!p (zs.getD k 0))) ∧ On w1 w2) :
    Calls Try.prog 77 #[.slice (some ⟨b, off, none⟩) zs.length cap, .func (Fn.func 80) #[] #[.pointer (some ⟨g, 0, none⟩)]] w fun e w' => ∃ r : Int, e = .returned (.int .i64 r) ∧ decide (0 ≤ r) = !(zs.all p) ∧ On w w' := by
  have HC := Lib.hid hcell
  have HCL := Lib.hid hc
  clear hcell hc
  go_enter Try.func77, Try.ntmps77
  go_wp2_with fail
  go_loopw [8] (fun i wr => ∃ k : Nat, k ≤ zs.length ∧ i = .int .i64 k ∧ (∀ j, j < k → p (zs.getD j 0) = true) ∧ On w wr) (fun i _ => zs.length - (intOf i).toNat)
  case atStart => exact ⟨0, Nat.zero_le _, rfl, fun j hj => absurd hj (by omega), On.refl _⟩
  case round =>
    obtain ⟨k, hk, rfl, hall, ho⟩ := hrel
    have HA := Lib.hid hall
    have HB := Lib.hid ho
    clear hall
    by_cases hlt2 : k < zs.length
    · have hlti : (k : Int) < (zs.length : Int) := by omega
      obtain ⟨z, hz⟩ : ∃ z, z = zs.getD k 0 := ⟨_, rfl⟩
      have HM0 := HCL.out k hlt2 _ ho
      have c0 : wr.cell? ⟨b, off + k, none⟩ = some (.int .i64 (zs.getD k 0)) := (HB.out.cell (by exact hlt)).trans (HC.out k hlt2)
      rw [← hz] at HM0 c0
      have HM := Lib.hid HM0
      clear HM0
      have g3 := ho.lts _ hlt
      cases hp : p (z) with
      | true =>
        rw [hp] at HM
        have HS := Lib.hid (fun j (hj : j < k + 1) => show p (zs.getD j 0) = true by
          by_cases e : j = k
          · rw [e, ← hz]; exact hp
          · exact HA.out j (by omega))
        clear hp ho hz
        go_wp2_with fail
        refine HM.out.mono ?_
        rintro e w1 ⟨rfl, h1⟩
        go_wp2_with fail
        go_roundw
        case rel => exact ⟨k + 1, by omega, by go_num, HS.out, HB.out.trans h1⟩
        case measure => simp [intOf]; omega
      | false =>
        rw [hp] at HM
        have en := Lib.hid (all_bad_ints (p := p) hlt2 (by rw [← hz]; exact hp))
        clear hp ho hz
        go_wp2_with fail
        refine HM.out.mono ?_
        rintro e w1 ⟨rfl, h1⟩
        go_wp2_with fail
        go_ret
        exact ⟨_, rfl, by rw [en.out]; simp, HB.out.trans h1⟩
    · obtain rfl : k = zs.length := by omega
      have en := Lib.hid (all_upto_ints HA.out)
      go_wp2_with fail
      go_ret
      exact ⟨-1, rfl, by rw [en.out]; rfl, HB.out⟩
theorem contains_ints (g : Nat) (p : Int → Bool) (b off cap : Nat) (zs : List Int) (w : World) (hn : zs.length ≤ 1048576) (hlt : b < w.heap.size)
    (hcell : ∀ i, i < zs.length → w.cell? ⟨b, off + i, none⟩ = some (.int .i64 (zs.getD i 0)))
    (hc : ∀ k, k < zs.length → ∀ w1, On w w1 → Calls Try.prog 80 #[.int .i64 (zs.getD k 0), .pointer (some ⟨g, 0, none⟩)] w1 fun e w2 => e = .returned (.bool (!p (zs.getD k 0))) ∧ On w1 w2) :
    Calls Try.prog 79 #[.slice (some ⟨b, off, none⟩) zs.length cap, .func (Fn.func 80) #[] #[.pointer (some ⟨g, 0, none⟩)]] w fun e w' => e = .returned (.bool (!(zs.all p))) ∧ On w w' := by
  have HI := Lib.hid (index_ints g p b off cap zs w hn hlt hcell hc)
  clear hcell hc
  go_enter Try.func79, Try.ntmps79
  go_wp2_with fail
  refine HI.out.mono ?_
  rintro e w1 ⟨r, rfl, hr, h1⟩
  have HR := Lib.hid hr
  clear hr
  go_wp2_with fail
  go_ret
  exact ⟨ret_bool HR.out, h1⟩
theorem all_upto_rows {p : List Int → Bool} {zs : List (List Int)} (h : ∀ i, i < zs.length → p (zs.getD i []) = true) : zs.all p = true := by
  rw [List.all_eq_true]
  intro x hx
  obtain ⟨i, hi, rfl⟩ := List.getElem_of_mem hx
  have := h i hi
  rw [show zs.getD i [] = zs[i] from by simp [hi]] at this
  exact this
theorem all_bad_rows {p : List Int → Bool} {zs : List (List Int)} {k : Nat} (hk : k < zs.length) (h : p (zs.getD k []) = false) : zs.all p = false := by
  rw [List.all_eq_false]
  refine ⟨zs[k], List.getElem_mem hk, ?_⟩
  rw [show zs.getD k [] = zs[k] from by simp [hk]] at h
  simp [h]
set_option maxRecDepth 100000 in
set_option maxHeartbeats 2000000 in
theorem index_rows (g : Nat) (p : List Int → Bool) (b off cap : Nat) (zs : List (List Int)) (w : World) (hn : zs.length ≤ 1048576) (hlt : b < w.heap.size)
    (hcell : ∀ i, i < zs.length → ∃ u, w.cell? ⟨b, off + i, none⟩ = some u ∧ Ints.Ints w u (zs.getD i []))
    (hc : ∀ k u w1, k < zs.length → On w w1 → Ints.Ints w1 u (zs.getD k []) → Calls Try.prog 83 #[u, .pointer (some ⟨g, 0, none⟩)] w1 fun e w2 => e = .returned (.bool (!p (zs.getD k []))) ∧ On w1 w2) :
    Calls Try.prog 88 #[.slice (some ⟨b, off, none⟩) zs.length cap, .func (Fn.func 83) #[] #[.pointer (some ⟨g, 0, none⟩)]] w fun e w' => ∃ r : Int, e = .returned (.int .i64 r) ∧ decide (0 ≤ r) = !(zs.all p) ∧ On w w' := by
  have HC := Lib.hid hcell
  have HCL := Lib.hid hc
  clear hcell hc
  go_enter Try.func88, Try.ntmps88
  go_wp2_with fail
  go_loopw [8] (fun i wr => ∃ k : Nat, k ≤ zs.length ∧ i = .int .i64 k ∧ (∀ j, j < k → p (zs.getD j []) = true) ∧ On w wr) (fun i _ => zs.length - (intOf i).toNat)
  case atStart => exact ⟨0, Nat.zero_le _, rfl, fun j hj => absurd hj (by omega), On.refl _⟩
  case round =>
    obtain ⟨k, hk, rfl, hall, ho⟩ := hrel
    have HA := Lib.hid hall
    have HB := Lib.hid ho
    clear hall
    by_cases hlt2 : k < zs.length
    · have hlti : (k : Int) < (zs.length : Int) := by omega
      obtain ⟨u, hu, hz⟩ := HC.out k hlt2
      have c0 : wr.cell? ⟨b, off + k, none⟩ = some u := (HB.out.cell (by exact hlt)).trans hu
      have HM := Lib.hid (HCL.out k u _ hlt2 ho (Ints.Ints.below hz ho))
      obtain ⟨n1, hn1⟩ : ∃ n, n = (zs.getD k []).length := ⟨_, rfl⟩
      obtain ⟨a1, cap1, hu1, -⟩ := hz
      rw [← hn1] at hu1
      subst hu1
      have g3 := ho.lts _ hlt
      clear hn1 hu
      cases hp : p (zs.getD k []) with
      | true =>
        rw [hp] at HM
        have HS := Lib.hid (fun j (hj : j < k + 1) => show p (zs.getD j []) = true by
          by_cases e : j = k
          · rw [e]; exact hp
          · exact HA.out j (by omega))
        clear hp ho
        go_wp2_with fail
        refine HM.out.mono ?_
        rintro e w1 ⟨rfl, h1⟩
        go_wp2_with fail
        go_roundw
        case rel => exact ⟨k + 1, by omega, by go_num, HS.out, HB.out.trans h1⟩
        case measure => simp [intOf]; omega
      | false =>
        rw [hp] at HM
        have en := Lib.hid (all_bad_rows (p := p) hlt2 hp)
        clear hp ho
        go_wp2_with fail
        refine HM.out.mono ?_
        rintro e w1 ⟨rfl, h1⟩
        go_wp2_with fail
        go_ret
        exact ⟨_, rfl, by rw [en.out]; simp, HB.out.trans h1⟩
    · obtain rfl : k = zs.length := by omega
      have en := Lib.hid (all_upto_rows HA.out)
      go_wp2_with fail
      go_ret
      exact ⟨-1, rfl, by rw [en.out]; rfl, HB.out⟩
theorem contains_rows (g : Nat) (p : List Int → Bool) (b off cap : Nat) (zs : List (List Int)) (w : World) (hn : zs.length ≤ 1048576) (hlt : b < w.heap.size)
    (hcell : ∀ i, i < zs.length → ∃ u, w.cell? ⟨b, off + i, none⟩ = some u ∧ Ints.Ints w u (zs.getD i []))
    (hc : ∀ k u w1, k < zs.length → On w w1 → Ints.Ints w1 u (zs.getD k []) → Calls Try.prog 83 #[u, .pointer (some ⟨g, 0, none⟩)] w1 fun e w2 => e = .returned (.bool (!p (zs.getD k []))) ∧ On w1 w2) :
    Calls Try.prog 82 #[.slice (some ⟨b, off, none⟩) zs.length cap, .func (Fn.func 83) #[] #[.pointer (some ⟨g, 0, none⟩)]] w fun e w' => e = .returned (.bool (!(zs.all p))) ∧ On w w' := by
  have HI := Lib.hid (index_rows g p b off cap zs w hn hlt hcell hc)
  clear hcell hc
  go_enter Try.func82, Try.ntmps82
  go_wp2_with fail
  refine HI.out.mono ?_
  rintro e w1 ⟨r, rfl, hr, h1⟩
  have HR := Lib.hid hr
  clear hr
  go_wp2_with fail
  go_ret
  exact ⟨ret_bool HR.out, h1⟩
theorem clo_asg (u : Int) (q : Bool) (g : Nat) (w : World) (hcell : w.cell? ⟨g, 0, none⟩ = some (.func (Fn.func 63) #[] #[]))
    (hk : Calls Try.prog 63 #[.int .i64 u] w fun e w2 => e = .returned (.bool q) ∧ On w w2) :
    Calls Try.prog 80 #[.int .i64 u, .pointer (some ⟨g, 0, none⟩)] w fun e w2 => e = .returned (.bool (!q)) ∧ On w w2 := by
  have HK := Lib.hid hk
  clear hk
  go_enter Try.func80, Try.ntmps80
  go_wp2_with fail
  refine HK.out.mono ?_
  rintro e w1 ⟨rfl, h1⟩
  go_wp2_with fail
  go_ret
  exact ⟨rfl, h1⟩
set_option maxHeartbeats 1000000 in
theorem every_asg (p : Int → Bool) (b off cap : Nat) (zs : List Int) (w : World) (hn : zs.length ≤ 1048576) (hlt : b < w.heap.size)
    (hcell : ∀ i, i < zs.length → w.cell? ⟨b, off + i, none⟩ = some (.int .i64 (zs.getD i 0)))
    (hk : ∀ k, k < zs.length → ∀ w1, On w w1 → Calls Try.prog 63 #[.int .i64 (zs.getD k 0)] w1 fun e w2 => e = .returned (.bool (p (zs.getD k 0))) ∧ On w1 w2) :
    Calls Try.prog 62 #[.slice (some ⟨b, off, none⟩) zs.length cap, .func (Fn.func 63) #[] #[]] w fun e w' => e = .returned (.bool (zs.all p)) ∧ On w w' := by
  have HC := Lib.hid hcell
  have HK := Lib.hid hk
  have HO := Lib.hid (On.alloc (On.refl w) (.cells #[.func (Fn.func 63) #[] #[]] 56 (0, 0)))
  have HN := Lib.hid hn
  have HI := Lib.hid (contains_ints w.heap.size p b off cap zs (w.alloc (.cells #[.func (Fn.func 63) #[] #[]] 56 (0, 0))) hn (HO.out.lts _ hlt) (fun i hi => (HO.out.cell (by exact hlt)).trans (HC.out i hi)) (fun k hk2 w1 h1 => clo_asg  (zs.getD k 0) (p (zs.getD k 0)) w.heap.size w1 ((h1.cell (by simp)).trans (by simp [go_sem])) (HK.out k hk2 w1 (HO.out.trans h1))))
  clear hcell hk
  go_enter Try.func62, Try.ntmps62
  go_wp2_with fail
  refine HI.out.mono ?_
  rintro e w1 ⟨rfl, h1⟩
  go_wp2_with fail
  go_ret
  exact ⟨rfl, HO.out.trans h1⟩
theorem clo_apt (u : Int) (q : Bool) (g : Nat) (w : World) (hcell : w.cell? ⟨g, 0, none⟩ = some (.func (Fn.func 40) #[] #[]))
    (hk : Calls Try.prog 40 #[.int .i64 u] w fun e w2 => e = .returned (.bool q) ∧ On w w2) :
    Calls Try.prog 80 #[.int .i64 u, .pointer (some ⟨g, 0, none⟩)] w fun e w2 => e = .returned (.bool (!q)) ∧ On w w2 := by
  have HK := Lib.hid hk
  clear hk
  go_enter Try.func80, Try.ntmps80
  go_wp2_with fail
  refine HK.out.mono ?_
  rintro e w1 ⟨rfl, h1⟩
  go_wp2_with fail
  go_ret
  exact ⟨rfl, h1⟩
set_option maxHeartbeats 1000000 in
theorem every_apt (p : Int → Bool) (b off cap : Nat) (zs : List Int) (w : World) (hn : zs.length ≤ 1048576) (hlt : b < w.heap.size)
    (hcell : ∀ i, i < zs.length → w.cell? ⟨b, off + i, none⟩ = some (.int .i64 (zs.getD i 0)))
    (hk : ∀ k, k < zs.length → ∀ w1, On w w1 → Calls Try.prog 40 #[.int .i64 (zs.getD k 0)] w1 fun e w2 => e = .returned (.bool (p (zs.getD k 0))) ∧ On w1 w2) :
    Calls Try.prog 62 #[.slice (some ⟨b, off, none⟩) zs.length cap, .func (Fn.func 40) #[] #[]] w fun e w' => e = .returned (.bool (zs.all p)) ∧ On w w' := by
  have HC := Lib.hid hcell
  have HK := Lib.hid hk
  have HO := Lib.hid (On.alloc (On.refl w) (.cells #[.func (Fn.func 40) #[] #[]] 56 (0, 0)))
  have HN := Lib.hid hn
  have HI := Lib.hid (contains_ints w.heap.size p b off cap zs (w.alloc (.cells #[.func (Fn.func 40) #[] #[]] 56 (0, 0))) hn (HO.out.lts _ hlt) (fun i hi => (HO.out.cell (by exact hlt)).trans (HC.out i hi)) (fun k hk2 w1 h1 => clo_apt  (zs.getD k 0) (p (zs.getD k 0)) w.heap.size w1 ((h1.cell (by simp)).trans (by simp [go_sem])) (HK.out k hk2 w1 (HO.out.trans h1))))
  clear hcell hk
  go_enter Try.func62, Try.ntmps62
  go_wp2_with fail
  refine HI.out.mono ?_
  rintro e w1 ⟨rfl, h1⟩
  go_wp2_with fail
  go_ret
  exact ⟨rfl, HO.out.trans h1⟩
theorem clo_dom (u : Value) (q : Bool) (g : Nat) (w : World) (hcell : w.cell? ⟨g, 0, none⟩ = some (.func (Fn.func 70) #[] #[]))
    (hk : Calls Try.prog 70 #[u] w fun e w2 => e = .returned (.bool q) ∧ On w w2) :
    Calls Try.prog 83 #[u, .pointer (some ⟨g, 0, none⟩)] w fun e w2 => e = .returned (.bool (!q)) ∧ On w w2 := by
  have HK := Lib.hid hk
  clear hk
  go_enter Try.func83, Try.ntmps83
  go_wp2_with fail
  refine HK.out.mono ?_
  rintro e w1 ⟨rfl, h1⟩
  go_wp2_with fail
  go_ret
  exact ⟨rfl, h1⟩
set_option maxHeartbeats 1000000 in
theorem every_dom (p : List Int → Bool) (b off cap : Nat) (zs : List (List Int)) (w : World) (hn : zs.length ≤ 1048576) (hlt : b < w.heap.size)
    (hcell : ∀ i, i < zs.length → ∃ u, w.cell? ⟨b, off + i, none⟩ = some u ∧ Ints.Ints w u (zs.getD i []))
    (hk : ∀ k u w1, k < zs.length → On w w1 → Ints.Ints w1 u (zs.getD k []) → Calls Try.prog 70 #[u] w1 fun e w2 => e = .returned (.bool (p (zs.getD k []))) ∧ On w1 w2) :
    Calls Try.prog 69 #[.slice (some ⟨b, off, none⟩) zs.length cap, .func (Fn.func 70) #[] #[]] w fun e w' => e = .returned (.bool (zs.all p)) ∧ On w w' := by
  have HC := Lib.hid hcell
  have HK := Lib.hid hk
  have HO := Lib.hid (On.alloc (On.refl w) (.cells #[.func (Fn.func 70) #[] #[]] 50 (0, 0)))
  have HN := Lib.hid hn
  have HI := Lib.hid (contains_rows w.heap.size p b off cap zs (w.alloc (.cells #[.func (Fn.func 70) #[] #[]] 50 (0, 0))) hn (HO.out.lts _ hlt) (fun i hi => by obtain ⟨u, hu, hz⟩ := HC.out i hi; exact ⟨u, (HO.out.cell (by exact hlt)).trans hu, hz.below HO.out⟩) (fun k u w1 hk2 h1 hz => clo_dom  u (p (zs.getD k [])) w.heap.size w1 ((h1.cell (by simp)).trans (by simp [go_sem])) (HK.out k u w1 hk2 (HO.out.trans h1) hz)))
  clear hcell hk
  go_enter Try.func69, Try.ntmps69
  go_wp2_with fail
  refine HI.out.mono ?_
  rintro e w1 ⟨rfl, h1⟩
  go_wp2_with fail
  go_ret
  exact ⟨rfl, HO.out.trans h1⟩
theorem clo_sq (g1 g2 : Nat) (u : Value) (q : Bool) (g : Nat) (w : World) (hcell : w.cell? ⟨g, 0, none⟩ = some (.func (Fn.func 71) #[] #[.pointer (some ⟨g1, 0, none⟩), .pointer (some ⟨g2, 0, none⟩)]))
    (hk : Calls Try.prog 71 #[u, .pointer (some ⟨g1, 0, none⟩), .pointer (some ⟨g2, 0, none⟩)] w fun e w2 => e = .returned (.bool q) ∧ On w w2) :
    Calls Try.prog 83 #[u, .pointer (some ⟨g, 0, none⟩)] w fun e w2 => e = .returned (.bool (!q)) ∧ On w w2 := by
  have HK := Lib.hid hk
  clear hk
  go_enter Try.func83, Try.ntmps83
  go_wp2_with fail
  refine HK.out.mono ?_
  rintro e w1 ⟨rfl, h1⟩
  go_wp2_with fail
  go_ret
  exact ⟨rfl, h1⟩
set_option maxHeartbeats 1000000 in
theorem every_sq (g1 g2 : Nat) (p : List Int → Bool) (b off cap : Nat) (zs : List (List Int)) (w : World) (hn : zs.length ≤ 1048576) (hlt : b < w.heap.size)
    (hcell : ∀ i, i < zs.length → ∃ u, w.cell? ⟨b, off + i, none⟩ = some u ∧ Ints.Ints w u (zs.getD i []))
    (hk : ∀ k u w1, k < zs.length → On w w1 → Ints.Ints w1 u (zs.getD k []) → Calls Try.prog 71 #[u, .pointer (some ⟨g1, 0, none⟩), .pointer (some ⟨g2, 0, none⟩)] w1 fun e w2 => e = .returned (.bool (p (zs.getD k []))) ∧ On w1 w2) :
    Calls Try.prog 69 #[.slice (some ⟨b, off, none⟩) zs.length cap, .func (Fn.func 71) #[] #[.pointer (some ⟨g1, 0, none⟩), .pointer (some ⟨g2, 0, none⟩)]] w fun e w' => e = .returned (.bool (zs.all p)) ∧ On w w' := by
  have HC := Lib.hid hcell
  have HK := Lib.hid hk
  have HO := Lib.hid (On.alloc (On.refl w) (.cells #[.func (Fn.func 71) #[] #[.pointer (some ⟨g1, 0, none⟩), .pointer (some ⟨g2, 0, none⟩)]] 50 (0, 0)))
  have HN := Lib.hid hn
  have HI := Lib.hid (contains_rows w.heap.size p b off cap zs (w.alloc (.cells #[.func (Fn.func 71) #[] #[.pointer (some ⟨g1, 0, none⟩), .pointer (some ⟨g2, 0, none⟩)]] 50 (0, 0))) hn (HO.out.lts _ hlt) (fun i hi => by obtain ⟨u, hu, hz⟩ := HC.out i hi; exact ⟨u, (HO.out.cell (by exact hlt)).trans hu, hz.below HO.out⟩) (fun k u w1 hk2 h1 hz => clo_sq g1 g2 u (p (zs.getD k [])) w.heap.size w1 ((h1.cell (by simp)).trans (by simp [go_sem])) (HK.out k u w1 hk2 (HO.out.trans h1) hz)))
  clear hcell hk
  go_enter Try.func69, Try.ntmps69
  go_wp2_with fail
  refine HI.out.mono ?_
  rintro e w1 ⟨rfl, h1⟩
  go_wp2_with fail
  go_ret
  exact ⟨rfl, HO.out.trans h1⟩
end Go.Proofs.Ytofoffdmhekceaa.EvI
