
/-
  The fastest mode for a ratio, and the rate for a level, in the model and in the program. Condition: at most 1048576 modes, and bytes in the name.
-/
import Derived.Test.YtknggnchldcghacDoorRadFun2
namespace Go.Proofs.YtknggnchldcghacDoor.Rad
open Go.RowKit
open Plain
open Modes (Pairs)
open Err (errV own ErrVar)
open Chk (errIf gainS lossS levelS)
open Ints (Ints)

def leadFrom (p : Nat → Bool) : Nat → Nat → Nat
  | 0, k => k
  | f + 1, k => if p k = true then leadFrom p f (k + 1) else k
/-- How many of the first n numbers from 0 on have p, up to the first one that has not. -/
def lead (p : Nat → Bool) (n : Nat) : Nat := leadFrom p n 0
theorem leadFrom_at (p : Nat → Bool) (g : Nat) : ∀ (d k : Nat), (∀ j, k ≤ j → j < k + d → p j = true) → (g = 0 ∨ p (k + d) = false) → leadFrom p (d + g) k = k + d
  | 0, k, _, e => by
    rcases e with rfl | e
    · rfl
    · cases g with
      | zero => rfl
      | succ g => rw [Nat.zero_add, leadFrom, if_neg (by rw [Nat.add_zero] at e; rw [e]; decide)]; rfl
  | d + 1, k, h, e => by
    have h1 := leadFrom_at p g d (k + 1) (fun j hj hj2 => h j (by omega) (by omega)) (by rw [show k + 1 + d = k + (d + 1) by omega]; exact e)
    rw [show d + 1 + g = (d + g) + 1 by omega, leadFrom, if_pos (h k (Nat.le_refl _) (by omega)), h1]
    omega
theorem lead_at {p : Nat → Bool} {n k : Nat} (hk : k ≤ n) (h : ∀ j, j < k → p j = true) (e : k = n ∨ p k = false) : lead p n = k := by
  have := leadFrom_at p (n - k) k 0 (fun j _ hj => h j (by omega)) (by rcases e with e | e; exact .inl (by omega); exact .inr (by rw [Nat.zero_add]; exact e))
  rw [show k + (n - k) = n by omega, Nat.zero_add] at this
  exact this
theorem leadFrom_le (p : Nat → Bool) : ∀ (f k : Nat), leadFrom p f k ≤ k + f
  | 0, k => Nat.le_refl _
  | f + 1, k => by
    rw [leadFrom]
    have := leadFrom_le p f (k + 1)
    split <;> omega
theorem lead_le (p : Nat → Bool) (n : Nat) : lead p n ≤ n := by have := leadFrom_le p n 0; unfold lead; omega
/-- Whether a mode needs at most a ratio. -/
def fit (zs : List (Int × Int)) (s : Int) (k : Nat) : Bool := decide (at0 zs k ≤ s)
/-- How many modes need at most a ratio. -/
def cnt (zs : List (Int × Int)) (s : Int) : Nat := lead (fit zs s) zs.length
theorem cnt_le (zs : List (Int × Int)) (s : Int) : cnt zs s ≤ zs.length := lead_le _ _
theorem rises {zs : List (Int × Int)} (h : Upto zs zs.length) : ∀ {i : Nat} (d : Nat), i + d + 1 < zs.length → at0 zs i < at0 zs (i + d + 1)
  | i, d, hd => by
    have h1 : at0 zs (i + d) < at0 zs (i + d + 1) := by
      have := h (i + d + 1) hd
      unfold stepB at this
      rw [Bool.and_eq_true, Bool.and_eq_true, Bool.or_eq_true, Bool.and_eq_true] at this
      obtain ⟨-, -, this⟩ := this
      rcases this with e | ⟨e, -⟩
      · exact absurd (of_decide_eq_true e) (by omega)
      · exact of_decide_eq_true e
    cases d with
    | zero => exact h1
    | succ d => exact Int.lt_trans (rises h d (by omega)) h1
theorem up_of {zs : List (Int × Int)} (h : Upto zs zs.length) {i j : Nat} (h1 : i < j) (h2 : j < zs.length) : at0 zs i < at0 zs j := by
  have := rises h (i := i) (j - i - 1) (by omega)
  rwa [show i + (j - i - 1) + 1 = j by omega] at this
/-- m of the first k modes need at most the ratio. -/
def St (zs : List (Int × Int)) (s : Int) (k m : Nat) : Prop := m ≤ k ∧ (∀ j, j < m → fit zs s j = true) ∧ (m = k ∨ fit zs s m = false)
theorem st_zero (zs : List (Int × Int)) (s : Int) : St zs s 0 0 := ⟨Nat.le_refl _, fun j h => by omega, .inl rfl⟩
theorem st_yes {zs : List (Int × Int)} {s : Int} {k m : Nat} (hu : Upto zs zs.length) (hk : k < zs.length) (h : St zs s k m) (hf : at0 zs k ≤ s) : m = k ∧ St zs s (k + 1) (k + 1) := by
  obtain ⟨h1, h2, h3⟩ := h
  have hm : m = k := by
    rcases h3 with h3 | h3
    · exact h3
    · by_cases g : m = k
      · exact g
      · have := up_of hu (i := m) (j := k) (by omega) hk
        have e := of_decide_eq_false h3
        omega
  subst hm
  refine ⟨rfl, Nat.le_refl _, fun j hj => ?_, .inl rfl⟩
  by_cases g : j = m
  · subst g; exact decide_eq_true hf
  · exact h2 j (by omega)
theorem st_no {zs : List (Int × Int)} {s : Int} {k m : Nat} (h : St zs s k m) (hf : ¬ at0 zs k ≤ s) : St zs s (k + 1) m := by
  obtain ⟨h1, h2, h3⟩ := h
  refine ⟨by omega, h2, .inr ?_⟩
  rcases h3 with rfl | h3
  · exact decide_eq_false hf
  · exact h3
theorem st_end {zs : List (Int × Int)} {s : Int} {m : Nat} (h : St zs s zs.length m) : cnt zs s = m := lead_at h.1 h.2.1 h.2.2
/-- What the search holds. -/
def Sb (zs : List (Int × Int)) (s : Int) (i j : Nat) : Prop := i ≤ j ∧ j ≤ zs.length ∧ (∀ k, k < i → fit zs s k = true) ∧ (j = zs.length ∨ fit zs s j = false)
theorem sb_hi {zs : List (Int × Int)} {s : Int} {i j m : Nat} (h : Sb zs s i j) (h1 : i ≤ m) (h2 : m < j) (e : fit zs s m = false) : Sb zs s i m := ⟨h1, by have := h.2.1; omega, h.2.2.1, .inr e⟩
theorem sb_lo {zs : List (Int × Int)} {s : Int} {i j m : Nat} (hu : Upto zs zs.length) (h : Sb zs s i j) (_h1 : i ≤ m) (h2 : m < j) (e : fit zs s m = true) : Sb zs s (m + 1) j := by
  refine ⟨h2, h.2.1, fun k hk => ?_, h.2.2.2⟩
  by_cases g : k = m
  · subst g; exact e
  · have := up_of hu (i := k) (j := m) (by omega) (by have := h.2.1; omega)
    have e' := of_decide_eq_true e
    exact decide_eq_true (by omega)
theorem sb_end {zs : List (Int × Int)} {s : Int} {i : Nat} (h : Sb zs s i i) : cnt zs s = i := lead_at h.2.1 h.2.2.1 h.2.2.2
theorem get_at0 {w : World} {b off : Nat} {zs : List (Int × Int)} {n : Nat} (hn : zs.length = n) (hc : ∀ k, k < zs.length → w.cell? ⟨b, off + k * 2, none⟩ = some (.int .i64 (zs.getD k (0, 0)).1) ∧ w.cell? ⟨b, off + k * 2 + 1, none⟩ = some (.int .i64 (zs.getD k (0, 0)).2)) {k : Nat} (hk : k < n) : w.cell? ⟨b, off + k * 2, none⟩ = some (.int .i64 (at0 zs k)) ∧ w.cell? ⟨b, off + k * 2 + 1, none⟩ = some (.int .i64 (at1 zs k)) := hc k (by omega)
set_option maxRecDepth 100000 in
set_option maxHeartbeats 2000000 in
theorem spec_best (g : Nat) (x0 : ByteArray) (x1 x2 x3 x4 : Int) (v5 : Value) (z5 : List (Int × Int)) (s : Int) (w : World) (hm : modesB z5 = true) (h5 : Pairs w v5 z5) (hp : In w g x0 x1 x2 x3 x4 v5) :
    Calls Tryd.prog 60 #[.pointer (some ⟨g, 0, none⟩), .int .i64 s] w fun e w' => e = .returned (.int .i64 ((cnt z5 s : Nat) - 1 : Int)) ∧ On w w' := by
  obtain ⟨⟨n1, n8⟩, hu⟩ := of_modes hm
  have hg : g < w.heap.size := World.block_lt_of_cell? w _ hp.1
  have h5' := h5
  obtain ⟨a5, cap5, rfl, -⟩ := h5
  obtain ⟨b, off, rfl, hb, hc⟩ := Modes.slice_of h5' (by omega)
  obtain ⟨n, hn⟩ : ∃ n, n = z5.length := ⟨_, rfl⟩
  have HC := Lib.hid (fun k (hk : k < n) => get_at0 hn.symm hc hk)
  have HP := Lib.hid hp
  have HU := Lib.hid hu
  have HN := Lib.hid hn
  rw [← hn] at HP n8
  clear hc hp hu h5' hm n1
  clear hn
  go_enter Tryd.func60, Tryd.ntmps60
  go_wp2_with fail
  go_loopw [5, 6] (fun x i wr => ∃ k m : Nat, k ≤ n ∧ i = .int .i64 k ∧ x = .int .i64 ((m : Int) - 1) ∧ St z5 s k m ∧ On w wr) (fun _ i _ => n - (intOf i).toNat)
  case atStart => exact ⟨0, 0, Nat.zero_le _, rfl, by go_num, st_zero _ _, On.refl _⟩
  case round =>
    obtain ⟨k, m, hk, rfl, rfl, hs, ho⟩ := hrel
    have HO := Lib.hid ho
    have HS := Lib.hid hs
    obtain ⟨k0, k1, k2, k3, k4, k5⟩ := HP.out.on ho
    have hb' := ho.lts _ hb
    have hg' := ho.lts _ hg
    by_cases hlt : k < n
    · have hlti : (k : Int) < (n : Int) := by omega
      obtain ⟨y, hy⟩ : ∃ y, y = at0 z5 k := ⟨_, rfl⟩
      have hc1 : wr.cell? ⟨b, off + k * 2, none⟩ = some (.int .i64 y) := by rw [hy]; exact (ho.cell (by exact hb)).trans (HC.out k hlt).1
      by_cases hf : y ≤ s
      · have HS1 := Lib.hid (st_yes HU.out (by rw [← HN.out]; exact hlt) HS.out (by rw [← hy]; exact hf))
        clear hs ho hy
        go_wp2_with fail
        go_roundw
        case rel => exact ⟨k + 1, k + 1, by omega, by go_num, by go_num, HS1.out.2, HO.out⟩
        case measure => simp [intOf]; omega
      · have HS1 := Lib.hid (st_no HS.out (by rw [← hy]; exact hf))
        clear hs ho hy
        go_wp2_with fail
        go_roundw
        case rel => exact ⟨k + 1, m, by omega, by go_num, rfl, HS1.out, HO.out⟩
        case measure => simp [intOf]; omega
    · obtain rfl : k = n := by omega
      have en := Lib.hid (st_end (m := m) (by rw [← HN.out]; exact HS.out))
      clear hs ho
      go_wp2_with fail
      go_ret
      exact ⟨ret_int (by rw [en.out]), HO.out⟩
/-- What the closure holds on to. -/
def Clo (w : World) (g : Nat) (s x2 x3 x4 : Int) (v : Value) : Prop := w.cell? ⟨g, 0, none⟩ = some (.int .i64 x2) ∧ w.cell? ⟨g, 1, none⟩ = some (.int .i64 x3) ∧ w.cell? ⟨g, 2, none⟩ = some (.int .i64 x4) ∧ w.cell? ⟨g, 3, none⟩ = some v ∧ w.cell? ⟨g + 1, 0, none⟩ = some (.int .i64 s)
theorem Clo.on {w w' : World} {g : Nat} {s x2 x3 x4 : Int} {v : Value} (h : Clo w g s x2 x3 x4 v) (ho : On w w') : Clo w' g s x2 x3 x4 v :=
  ⟨(ho.cell (World.block_lt_of_cell? w _ h.1)).trans h.1, (ho.cell (World.block_lt_of_cell? w _ h.2.1)).trans h.2.1, (ho.cell (World.block_lt_of_cell? w _ h.2.2.1)).trans h.2.2.1, (ho.cell (World.block_lt_of_cell? w _ h.2.2.2.1)).trans h.2.2.2.1, (ho.cell (World.block_lt_of_cell? w _ h.2.2.2.2)).trans h.2.2.2.2⟩
theorem not_fit {zs : List (Int × Int)} {s y : Int} {k : Nat} (hy : y = at0 zs k) : decide (s < y) = !fit zs s k := by
  unfold fit
  rw [← hy]
  by_cases h : y ≤ s
  · rw [decide_eq_true h, decide_eq_false (by omega)]; rfl
  · rw [decide_eq_false h, decide_eq_true (by omega)]; rfl
set_option maxRecDepth 100000 in
set_option maxHeartbeats 2000000 in
theorem impl_closure (g : Nat) (s x2 x3 x4 : Int) (b off n cap5 k : Nat) (z5 : List (Int × Int)) (w : World) (hn : z5.length = n) (hk : k < n) (hb : b < w.heap.size) (hc : ∀ k, k < z5.length → w.cell? ⟨b, off + k * 2, none⟩ = some (.int .i64 (z5.getD k (0, 0)).1) ∧ w.cell? ⟨b, off + k * 2 + 1, none⟩ = some (.int .i64 (z5.getD k (0, 0)).2)) (hp : Clo w g s x2 x3 x4 (.slice (some ⟨b, off, none⟩) n cap5)) :
    Calls Tryd.prog 95 #[.int .i64 k, .pointer (some ⟨g, 0, none⟩), .pointer (some ⟨g + 1, 0, none⟩)] w fun e w' => e = .returned (.bool (!fit z5 s k)) ∧ On w w' := by
  obtain ⟨k0, k1, k2, k3, k4⟩ := hp
  have hg : g < w.heap.size := World.block_lt_of_cell? w _ k0
  have hg1 : g + 1 < w.heap.size := World.block_lt_of_cell? w _ k4
  have hc1 := (get_at0 hn hc hk).1
  have hki : (k : Int) < (n : Int) := by omega
  obtain ⟨y, hy⟩ : ∃ y, y = at0 z5 k := ⟨_, rfl⟩
  rw [← hy] at hc1
  have en := Lib.hid (not_fit (s := s) hy)
  clear hc hy hn
  go_enter Tryd.func95, Tryd.ntmps95
  go_wp2_with fail
  refine wp_region_onh (by kernel_rfl) (by kernel_rfl) ?_
  repeat (refine rest_step (fun K hK => ?_); go_simp; first | (refine hK _ ?_; clear hK K) | (apply Exists.intro; refine ⟨fun v1 hv1 => ?_, hK _ ?_⟩; (first | with_reducible exact rfl | with_reducible exact ⟨rfl, rfl⟩ | (obtain ⟨hc, hf⟩ := bcell hv1; go_simp; first | with_reducible exact rfl | with_reducible exact ⟨rfl, rfl⟩ | exact rfl | exact ⟨rfl, rfl⟩)); clear hK K))
  refine rest_nil ?_
  intro w5 h5
  go_wp2_with fail
  go_ret
  exact ⟨ret_bool en.out, h5⟩
set_option maxRecDepth 100000 in
set_option maxHeartbeats 2000000 in
theorem impl_search (g : Nat) (s x2 x3 x4 : Int) (b off n cap5 : Nat) (z5 : List (Int × Int)) (w : World) (hn : z5.length = n) (hu : Upto z5 z5.length) (n8 : n ≤ 8) (hb : b < w.heap.size) (hc : ∀ k, k < z5.length → w.cell? ⟨b, off + k * 2, none⟩ = some (.int .i64 (z5.getD k (0, 0)).1) ∧ w.cell? ⟨b, off + k * 2 + 1, none⟩ = some (.int .i64 (z5.getD k (0, 0)).2)) (hp : Clo w g s x2 x3 x4 (.slice (some ⟨b, off, none⟩) n cap5)) :
    Calls Tryd.prog 94 #[.int .i64 n, .func (Fn.func 95) #[] #[.pointer (some ⟨g, 0, none⟩), .pointer (some ⟨g + 1, 0, none⟩)]] w fun e w' => e = .returned (.int .i64 (cnt z5 s : Nat)) ∧ On w w' := by
  have HCL := Lib.hid (fun (k : Nat) (hk : k < n) (w1 : World) (h : On w w1) => impl_closure g s x2 x3 x4 b off n cap5 k z5 w1 hn hk (h.lts _ hb) (fun k hk => ⟨(h.cell (by exact hb)).trans (hc k hk).1, (h.cell (by exact hb)).trans (hc k hk).2⟩) (hp.on h))
  have HU := Lib.hid hu
  have HN := Lib.hid hn
  have HB0 := Lib.hid (show Sb z5 s 0 n from ⟨Nat.zero_le _, by omega, fun k h => by omega, .inl hn.symm⟩)
  clear hc hp hu hb hn
  go_enter Tryd.func94, Tryd.ntmps94
  go_wp2_with fail
  go_loopw [5, 6] (fun x y wr => ∃ i j : Nat, x = .int .i64 i ∧ y = .int .i64 j ∧ j ≤ n ∧ i ≤ j ∧ Sb z5 s i j ∧ On w wr) (fun x y _ => (intOf y - intOf x).toNat)
  case atStart => exact ⟨0, n, rfl, rfl, Nat.le_refl _, Nat.zero_le _, HB0.out, On.refl _⟩
  case round =>
    obtain ⟨i, j, rfl, rfl, hj, hij, hs, ho⟩ := hrel
    have HS := Lib.hid hs
    clear hs
    by_cases hlt : i < j
    · obtain ⟨m, hm⟩ : ∃ m, m = (i + j) / 2 := ⟨_, rfl⟩
      have m1 : i ≤ m := by omega
      have m2 : m < j := by omega
      have hmi : ((i : Int) + j) / 2 = m := by omega
      have HMI := Lib.hid hmi
      clear hm hmi
      cases hq : fit z5 s m with
      | false =>
        have HB := Lib.hid (sb_hi HS.out m1 m2 hq)
        have HM := Lib.hid (HCL.out m (by omega) _ ho)
        rw [hq] at HM
        clear hq
        go_wp2_with fail
        rw [HMI.out]
        refine HM.out.mono ?_
        rintro x w1 ⟨rfl, h1⟩
        go_wp2_with fail
        go_roundw
        case rel => exact ⟨i, m, rfl, by rw [← HMI.out], by omega, by omega, HB.out, ho.trans h1⟩
        case measure => simp [intOf]; omega
      | true =>
        have HB := Lib.hid (sb_lo HU.out HS.out m1 m2 hq)
        have HM := Lib.hid (HCL.out m (by omega) _ ho)
        rw [hq] at HM
        clear hq
        go_wp2_with fail
        rw [HMI.out]
        refine HM.out.mono ?_
        rintro x w1 ⟨rfl, h1⟩
        go_wp2_with fail
        go_roundw
        case rel => exact ⟨m + 1, j, by go_num, rfl, by omega, by omega, HB.out, ho.trans h1⟩
        case measure => simp [intOf]; omega
    · obtain rfl : i = j := by omega
      have en := Lib.hid (sb_end HS.out)
      go_wp2_with fail
      go_ret
      exact ⟨ret_int (by rw [en.out]), ho⟩
set_option maxRecDepth 100000 in
set_option maxHeartbeats 2000000 in
theorem impl_modesFor (s x2 x3 x4 : Int) (v5 : Value) (z5 : List (Int × Int)) (w : World) (hm : modesB z5 = true) (h5 : Pairs w v5 z5) :
    Calls Tryd.prog 61 #[.agg #[.int .i64 x2, .int .i64 x3, .int .i64 x4, v5], .int .i64 s] w fun e w' => e = .returned (.int .i64 (cnt z5 s : Nat)) ∧ On w w' := by
  obtain ⟨⟨n1, n8⟩, hu⟩ := of_modes hm
  have h5' := h5
  obtain ⟨a5, cap5, rfl, -⟩ := h5
  obtain ⟨b, off, rfl, hb, hc⟩ := Modes.slice_of h5' (by omega)
  obtain ⟨n, hn⟩ : ∃ n, n = z5.length := ⟨_, rfl⟩
  have HS := Lib.hid (fun g w1 (h : On w w1) hp => impl_search g s x2 x3 x4 b off n cap5 z5 w1 hn.symm hu (by omega) (h.lts _ hb) (fun k hk => ⟨(h.cell (by exact hb)).trans (hc k hk).1, (h.cell (by exact hb)).trans (hc k hk).2⟩) hp)
  rw [← hn]
  clear hc hu h5' hm n1 n8 hn
  go_enter Tryd.func61, Tryd.ntmps61
  go_wp2_with fail
  refine (HS.out _ _ (by repeat (first | with_reducible exact On.refl _ | apply On.alloc)) ⟨by simp [go_sem], by simp [go_sem], by simp [go_sem], by simp [go_sem], by simp [go_sem]⟩).mono ?_
  rintro e w1 ⟨rfl, h1⟩
  go_wp2_with fail
  go_ret
  exact ⟨rfl, On.trans (by repeat (first | with_reducible exact On.refl _ | apply On.alloc)) h1⟩
/-- The fastest mode for a ratio, and its error. -/
def bestV (ok : Bool) (zs : List (Int × Int)) (s : Int) : Int := if ok = true then (if cnt zs s = 0 then 0 else (cnt zs s : Int) - 1) else 0
def bestC (ok : Bool) (zs : List (Int × Int)) (s : Int) : Int := if ok = true then (if cnt zs s = 0 then 3 else 0) else 1
theorem best_0 {zs : List (Int × Int)} {s : Int} (h : cnt zs s = 0) : bestV true zs s = 0 ∧ bestC true zs s = 3 := by unfold bestV bestC; rw [if_pos rfl, if_pos rfl, if_pos h, if_pos h]; exact ⟨rfl, rfl⟩
theorem best_1 {zs : List (Int × Int)} {s : Int} {k : Nat} (h : cnt zs s = k + 1) : bestV true zs s = (k : Int) ∧ bestC true zs s = 0 := by
  unfold bestV bestC; rw [if_pos rfl, if_pos rfl, if_neg (by omega), if_neg (by omega), h]; exact ⟨by omega, rfl⟩
set_option maxRecDepth 100000 in
set_option maxHeartbeats 4000000 in
theorem spec_BestMode (x0 : ByteArray) (x1 x2 x3 x4 : Int) (v5 : Value) (z5 : List (Int × Int)) (s : Int) (w : World) (q0 : x0.size ≤ 1048576) (q5 : z5.length ≤ 1048576) (h5 : Pairs w v5 z5) :
    Calls Tryd.prog 27 #[.agg #[.string x0, .int .i64 x1, .int .i64 x2, .int .i64 x3, .int .i64 x4, v5], .int .i64 s] w fun e w' => e = .returned (.tuple #[.int .i64 (bestV (okR x0 x1 x2 x3 x4 z5) z5 s), .int .i64 (bestC (okR x0 x1 x2 x3 x4 z5) z5 s)]) ∧ On w w' := by
  have HO := Lib.hid (fun w' (hb : On w w') hp => spec_ok w.heap.size x0 x1 x2 x3 x4 v5 z5 w' q0 q5 hp (h5.below hb))
  have h5' := h5
  obtain ⟨a5, cap5, rfl, -⟩ := h5
  cases hok : okR x0 x1 x2 x3 x4 z5 with
  | false =>
    rw [hok] at HO
    have en := Lib.hid (show bestV false z5 s = 0 ∧ bestC false z5 s = 1 from ⟨rfl, rfl⟩)
    clear h5'
    go_enter Tryd.func27, Tryd.ntmps27
    go_wp2_with fail
    refine (HO.out _ (by repeat (first | with_reducible exact On.refl _ | apply On.alloc)) ⟨by simp [go_sem], by simp [go_sem], by simp [go_sem], by simp [go_sem], by simp [go_sem], by simp [go_sem]⟩).mono ?_
    rintro e w1 ⟨rfl, h1⟩
    have P1 : In w1 w.heap.size x0 x1 x2 x3 x4 (.slice a5 z5.length cap5) := In.on ⟨by simp [go_sem], by simp [go_sem], by simp [go_sem], by simp [go_sem], by simp [go_sem], by simp [go_sem]⟩ h1
    have HO1 := Lib.hid (On.trans (On.alloc (On.refl w) _) h1)
    have HP1 := Lib.hid P1
    obtain ⟨p0, p1, p2, p3, p4, p5⟩ := P1
    have z1 : w.heap.size < w1.heap.size := World.block_lt_of_cell? w1 _ p0
    clear h1
    go_wp2_with fail
    go_ret2
    exact ⟨ret_ii en.out.1.symm en.out.2.symm, HO1.out⟩
  | true =>
    rw [hok] at HO
    have hm := (of_okR hok).2.2.2.2.2
    have HB := Lib.hid (fun w' (h : On w w') hp => spec_best w.heap.size x0 x1 x2 x3 x4 (.slice a5 z5.length cap5) z5 s w' hm (h5'.below h) hp)
    clear h5' hm
    by_cases hz : cnt z5 s = 0
    · have en := Lib.hid (best_0 hz)
      rw [hz] at HB
      go_enter Tryd.func27, Tryd.ntmps27
      go_wp2_with fail
      refine (HO.out _ (by repeat (first | with_reducible exact On.refl _ | apply On.alloc)) ⟨by simp [go_sem], by simp [go_sem], by simp [go_sem], by simp [go_sem], by simp [go_sem], by simp [go_sem]⟩).mono ?_
      rintro e w1 ⟨rfl, h1⟩
      have P1 : In w1 w.heap.size x0 x1 x2 x3 x4 (.slice a5 z5.length cap5) := In.on ⟨by simp [go_sem], by simp [go_sem], by simp [go_sem], by simp [go_sem], by simp [go_sem], by simp [go_sem]⟩ h1
      have HO1 := Lib.hid (On.trans (On.alloc (On.refl w) _) h1)
      have HP1 := Lib.hid P1
      obtain ⟨p0, p1, p2, p3, p4, p5⟩ := P1
      have z1 : w.heap.size < w1.heap.size := World.block_lt_of_cell? w1 _ p0
      clear h1
      go_wp2_with fail
      refine (HB.out _ HO1.out HP1.out).mono ?_
      rintro e w2 ⟨rfl, h2⟩
      have HO2 := Lib.hid (HO1.out.trans h2)
      go_wp2_with fail
      go_ret2
      exact ⟨ret_ii en.out.1.symm en.out.2.symm, HO2.out⟩
    · obtain ⟨k, hk⟩ : ∃ k, cnt z5 s = k + 1 := ⟨cnt z5 s - 1, by omega⟩
      have en := Lib.hid (best_1 hk)
      rw [hk] at HB
      have e1 : (((k + 1 : Nat) : Int) - 1) = (k : Int) := by omega
      rw [e1] at HB
      have k0 : ¬ (k : Int) < 0 := by omega
      clear hk hz e1
      go_enter Tryd.func27, Tryd.ntmps27
      go_wp2_with fail
      refine (HO.out _ (by repeat (first | with_reducible exact On.refl _ | apply On.alloc)) ⟨by simp [go_sem], by simp [go_sem], by simp [go_sem], by simp [go_sem], by simp [go_sem], by simp [go_sem]⟩).mono ?_
      rintro e w1 ⟨rfl, h1⟩
      have P1 : In w1 w.heap.size x0 x1 x2 x3 x4 (.slice a5 z5.length cap5) := In.on ⟨by simp [go_sem], by simp [go_sem], by simp [go_sem], by simp [go_sem], by simp [go_sem], by simp [go_sem]⟩ h1
      have HO1 := Lib.hid (On.trans (On.alloc (On.refl w) _) h1)
      have HP1 := Lib.hid P1
      obtain ⟨p0, p1, p2, p3, p4, p5⟩ := P1
      have z1 : w.heap.size < w1.heap.size := World.block_lt_of_cell? w1 _ p0
      clear h1
      go_wp2_with fail
      refine (HB.out _ HO1.out HP1.out).mono ?_
      rintro e w2 ⟨rfl, h2⟩
      have HO2 := Lib.hid (HO1.out.trans h2)
      go_wp2_with fail
      go_ret2
      exact ⟨ret_ii en.out.1.symm en.out.2.symm, HO2.out⟩
set_option maxRecDepth 100000 in
set_option maxHeartbeats 4000000 in
theorem impl_BestMode (x0 : ByteArray) (x1 x2 x3 x4 : Int) (v5 : Value) (z5 : List (Int × Int)) (s : Int) (w : World) (q0 : x0.size ≤ 1048576) (q5 : z5.length ≤ 1048576) (h5 : Pairs w v5 z5) (hg : ErrVar w) :
    Calls Tryd.prog 28 #[.agg #[.string x0, .int .i64 x1, .int .i64 x2, .int .i64 x3, .int .i64 x4, v5], .int .i64 s] w fun e w' => e = .returned (.tuple #[.int .i64 (bestV (okR x0 x1 x2 x3 x4 z5) z5 s), .int .i64 (bestC (okR x0 x1 x2 x3 x4 z5) z5 s)]) ∧ On w w' := by
  have CR := Lib.hid (fun b cap w' (hb : On w w') hp => check_radios b cap x0 x1 x2 x3 x4 v5 z5 w' q0 q5 (h5.below hb) hp)
  have h5' := h5
  obtain ⟨a5, cap5, rfl, -⟩ := h5
  have f63 := field63
  clear q0 q5
  cases hok : okR x0 x1 x2 x3 x4 z5 with
  | false =>
    rw [hok] at CR
    have CR1 := Lib.hid (fun b cap w' hb hp => show Calls Tryd.prog 48 #[.slice (some ⟨b, 0, none⟩) 1 cap] w' fun e w'' => e = .returned (own radioS 1) ∧ On w' w'' from CR.out b cap w' hb hp)
    have en := Lib.hid (show bestV false z5 s = 0 ∧ bestC false z5 s = 1 from ⟨rfl, rfl⟩)
    clear h5'
    unfold own radioS at *
    go_enter Tryd.func28, Tryd.ntmps28
    go_wp2_with fail
    refine (CR1.out _ _ _ (by repeat (first | with_reducible exact On.refl _ | apply On.alloc)) ⟨by simp [go_sem], by simp [go_sem], by simp [go_sem], by simp [go_sem], by simp [go_sem], by simp [go_sem]⟩).mono ?_
    rintro e w1 ⟨rfl, h1⟩
    have l1 : w.heap.size < w1.heap.size := by have := h1.size; simp at this; omega
    have P1 : In w1 w.heap.size x0 x1 x2 x3 x4 (.slice a5 z5.length cap5) := In.on ⟨by simp [go_sem], by simp [go_sem], by simp [go_sem], by simp [go_sem], by simp [go_sem], by simp [go_sem]⟩ h1
    have HO1 := Lib.hid (On.trans (On.alloc (On.alloc (On.refl w) _) _) h1)
    have HP1 := Lib.hid P1
    clear P1 h1
    go_wp2_with fail
    refine (Err.first_E _ _ radioS 1 _ (hg.on (HO1.out.trans (by repeat (first | with_reducible exact On.refl _ | apply On.alloc)))) (by simp [go_sem, own, radioS])).mono ?_
    rintro e wc ⟨rfl, hc⟩
    have HOc := Lib.hid (HO1.out.trans (On.trans (by repeat (first | with_reducible exact On.refl _ | apply On.alloc)) hc))
    have Pc := HP1.out.on (On.trans (by repeat (first | with_reducible exact On.refl _ | apply On.alloc)) hc)
    have HPc := Lib.hid Pc
    obtain ⟨p0, p1, p2, p3, p4, p5⟩ := Pc
    clear hc
    go_wp2_with fail
    go_ret2
    exact ⟨ret_ii en.out.1.symm en.out.2.symm, HOc.out⟩
  | true =>
    rw [hok] at CR
    have CR1 := Lib.hid (fun b cap w' hb hp => show Calls Tryd.prog 48 #[.slice (some ⟨b, 0, none⟩) 1 cap] w' fun e w'' => e = .returned .nilIface ∧ On w' w'' from CR.out b cap w' hb hp)
    have hm := (of_okR hok).2.2.2.2.2
    have HB := Lib.hid (fun w' (h : On w w') => impl_modesFor s x2 x3 x4 (.slice a5 z5.length cap5) z5 w' hm (h5'.below h))
    clear h5'
    by_cases hz : cnt z5 s = 0
    · have en := Lib.hid (best_0 hz)
      rw [hz] at HB
      go_enter Tryd.func28, Tryd.ntmps28
      go_wp2_with fail
      refine (CR1.out _ _ _ (by repeat (first | with_reducible exact On.refl _ | apply On.alloc)) ⟨by simp [go_sem], by simp [go_sem], by simp [go_sem], by simp [go_sem], by simp [go_sem], by simp [go_sem]⟩).mono ?_
      rintro e w1 ⟨rfl, h1⟩
      have l1 : w.heap.size < w1.heap.size := by have := h1.size; simp at this; omega
      have P1 : In w1 w.heap.size x0 x1 x2 x3 x4 (.slice a5 z5.length cap5) := In.on ⟨by simp [go_sem], by simp [go_sem], by simp [go_sem], by simp [go_sem], by simp [go_sem], by simp [go_sem]⟩ h1
      have HO1 := Lib.hid (On.trans (On.alloc (On.alloc (On.refl w) _) _) h1)
      have HP1 := Lib.hid P1
      clear P1 h1
      go_wp2_with fail
      refine (Err.first_N _ _ _ (by simp [go_sem])).mono ?_
      rintro e wc ⟨rfl, hc⟩
      have HOc := Lib.hid (HO1.out.trans (On.trans (by repeat (first | with_reducible exact On.refl _ | apply On.alloc)) hc))
      have Pc := HP1.out.on (On.trans (by repeat (first | with_reducible exact On.refl _ | apply On.alloc)) hc)
      have HPc := Lib.hid Pc
      obtain ⟨p0, p1, p2, p3, p4, p5⟩ := Pc
      clear hc
      go_wp2_with fail
      refine (parts _ _ _ _ _ _ _ _ _).mono ?_
      rintro e wd ⟨rfl, hd⟩
      have HOd := Lib.hid (HOc.out.trans hd)
      go_wp2_with fail
      refine (HB.out _ HOd.out).mono ?_
      rintro e we ⟨rfl, he⟩
      go_wp2_with fail
      go_ret2
      exact ⟨ret_ii en.out.1.symm en.out.2.symm, HOd.out.trans he⟩
    · obtain ⟨k, hk⟩ : ∃ k, cnt z5 s = k + 1 := ⟨cnt z5 s - 1, by omega⟩
      have en := Lib.hid (best_1 hk)
      have hk8 := cnt_le z5 s
      have hm8 := (of_modes hm).1.2
      rw [hk] at HB hk8
      have k0 : ¬ (((k + 1 : Nat) : Int) = 0) := by omega
      have k1 : IntKind.i64.wrap (((k + 1 : Nat) : Int) - 1) = (k : Int) := by rw [show (((k + 1 : Nat) : Int) - 1) = (k : Int) by omega]; exact IntWalk.i64_in _ (by omega)
      obtain ⟨u, hu⟩ : ∃ u : Int, u = ((k + 1 : Nat) : Int) := ⟨_, rfl⟩
      rw [← hu] at HB k0 k1
      have k2 : (u == 0) = false := beq_eq_false_iff_ne.2 k0
      clear hk hz hu hk8 hm8 hm
      go_enter Tryd.func28, Tryd.ntmps28
      go_wp2_with fail
      refine (CR1.out _ _ _ (by repeat (first | with_reducible exact On.refl _ | apply On.alloc)) ⟨by simp [go_sem], by simp [go_sem], by simp [go_sem], by simp [go_sem], by simp [go_sem], by simp [go_sem]⟩).mono ?_
      rintro e w1 ⟨rfl, h1⟩
      have l1 : w.heap.size < w1.heap.size := by have := h1.size; simp at this; omega
      have P1 : In w1 w.heap.size x0 x1 x2 x3 x4 (.slice a5 z5.length cap5) := In.on ⟨by simp [go_sem], by simp [go_sem], by simp [go_sem], by simp [go_sem], by simp [go_sem], by simp [go_sem]⟩ h1
      have HO1 := Lib.hid (On.trans (On.alloc (On.alloc (On.refl w) _) _) h1)
      have HP1 := Lib.hid P1
      clear P1 h1
      go_wp2_with fail
      refine (Err.first_N _ _ _ (by simp [go_sem])).mono ?_
      rintro e wc ⟨rfl, hc⟩
      have HOc := Lib.hid (HO1.out.trans (On.trans (by repeat (first | with_reducible exact On.refl _ | apply On.alloc)) hc))
      have Pc := HP1.out.on (On.trans (by repeat (first | with_reducible exact On.refl _ | apply On.alloc)) hc)
      have HPc := Lib.hid Pc
      obtain ⟨p0, p1, p2, p3, p4, p5⟩ := Pc
      clear hc
      go_wp2_with fail
      refine (parts _ _ _ _ _ _ _ _ _).mono ?_
      rintro e wd ⟨rfl, hd⟩
      have HOd := Lib.hid (HOc.out.trans hd)
      go_wp2_with fail
      refine (HB.out _ HOd.out).mono ?_
      rintro e we ⟨rfl, he⟩
      go_wp2_with fail
      go_ret2
      exact ⟨ret_ii en.out.1.symm en.out.2.symm, HOd.out.trans he⟩
/-- The rate for a ratio. -/
def rateN (zs : List (Int × Int)) (s : Int) : Int := if cnt zs s = 0 then 0 else at1 zs (cnt zs s - 1)
theorem rate_0 {zs : List (Int × Int)} {s : Int} (h : cnt zs s = 0) : rateN zs s = 0 := if_pos h
theorem rate_1 {zs : List (Int × Int)} {s : Int} {k : Nat} (h : cnt zs s = k + 1) : rateN zs s = at1 zs k := by unfold rateN; rw [if_neg (by omega), h]; rfl
set_option maxRecDepth 100000 in
set_option maxHeartbeats 2000000 in
theorem spec_rate (g : Nat) (x0 : ByteArray) (x1 x2 x3 x4 : Int) (v5 : Value) (z5 : List (Int × Int)) (s : Int) (w : World) (hm : modesB z5 = true) (h5 : Pairs w v5 z5) (hp : In w g x0 x1 x2 x3 x4 v5) :
    Calls Tryd.prog 62 #[.pointer (some ⟨g, 0, none⟩), .int .i64 s] w fun e w' => e = .returned (.int .i64 (rateN z5 s)) ∧ On w w' := by
  have HB := Lib.hid (spec_best g x0 x1 x2 x3 x4 v5 z5 s w hm h5 hp)
  have HP := Lib.hid hp
  obtain ⟨⟨n1, n8⟩, -⟩ := of_modes hm
  have hg : g < w.heap.size := World.block_lt_of_cell? w _ hp.1
  have h5' := h5
  obtain ⟨a5, cap5, rfl, -⟩ := h5
  obtain ⟨b, off, rfl, hb, hc⟩ := Modes.slice_of h5' (by omega)
  have hl := cnt_le z5 s
  by_cases hz : cnt z5 s = 0
  · have en := Lib.hid (rate_0 hz)
    rw [hz] at HB
    clear hp h5' hc
    go_enter Tryd.func62, Tryd.ntmps62
    go_wp2_with fail
    refine HB.out.mono ?_
    rintro e w1 ⟨rfl, h1⟩
    go_wp2_with fail
    go_ret
    exact ⟨ret_int en.out.symm, h1⟩
  · obtain ⟨k, hk⟩ : ∃ k, cnt z5 s = k + 1 := ⟨cnt z5 s - 1, by omega⟩
    have en := Lib.hid (rate_1 hk)
    have c1 := (get_at0 rfl hc (k := k) (by omega)).2
    obtain ⟨n, hn⟩ : ∃ n, n = z5.length := ⟨_, rfl⟩
    have hkn : (k : Int) < (n : Int) := by omega
    rw [hk] at HB
    have e1 : (((k + 1 : Nat) : Int) - 1) = (k : Int) := by omega
    rw [e1] at HB
    rw [← hn] at HP
    have k0 : ¬ (k : Int) < 0 := by omega
    have k0' : (0 : Int) ≤ (k : Int) := by omega
    generalize at1 z5 k = y at *
    clear hp h5' hc hk hz e1 hn hl n1 n8 hm
    go_enter Tryd.func62, Tryd.ntmps62
    go_wp2_with fail
    refine HB.out.mono ?_
    rintro e w1 ⟨rfl, h1⟩
    obtain ⟨k0, k1, k2, k3, k4, k5⟩ := HP.out.on h1
    have c1' := (h1.cell (p := ⟨b, off + k * 2 + 1, none⟩) (by exact hb)).trans c1
    have hg' := h1.lts _ hg
    have hb' := h1.lts _ hb
    go_wp2_with fail
    go_ret
    exact ⟨ret_int en.out.symm, h1⟩
set_option maxRecDepth 100000 in
set_option maxHeartbeats 4000000 in
theorem spec_RateAt (x0 : ByteArray) (x1 x2 x3 x4 : Int) (v5 : Value) (z5 : List (Int × Int)) (l : Int) (w : World) (q0 : x0.size ≤ 1048576) (q5 : z5.length ≤ 1048576) (h5 : Pairs w v5 z5) :
    Calls Tryd.prog 29 #[.agg #[.string x0, .int .i64 x1, .int .i64 x2, .int .i64 x3, .int .i64 x4, v5], .int .i64 l] w fun e w' => e = .returned (.int .i64 (v2 (okR x0 x1 x2 x3 x4 z5) (lvB l) (rateN z5 (l - x2 - floorV x3 x4)))) ∧ On w w' := by
  have HO := Lib.hid (fun w' (hb : On w w') hp => spec_ok w.heap.size x0 x1 x2 x3 x4 v5 z5 w' q0 q5 hp (h5.below hb))
  have h5' := h5
  obtain ⟨a5, cap5, rfl, -⟩ := h5
  cases hok : okR x0 x1 x2 x3 x4 z5 with
  | false =>
    rw [hok] at HO
    have en := Lib.hid (show v2 false (lvB l) (rateN z5 (l - x2 - floorV x3 x4)) = 0 from rfl)
    clear h5'
    go_enter Tryd.func29, Tryd.ntmps29
    go_wp2_with fail
    refine (HO.out _ (by repeat (first | with_reducible exact On.refl _ | apply On.alloc)) ⟨by simp [go_sem], by simp [go_sem], by simp [go_sem], by simp [go_sem], by simp [go_sem], by simp [go_sem]⟩).mono ?_
    rintro e w1 ⟨rfl, h1⟩
    have P1 : In w1 w.heap.size x0 x1 x2 x3 x4 (.slice a5 z5.length cap5) := In.on ⟨by simp [go_sem], by simp [go_sem], by simp [go_sem], by simp [go_sem], by simp [go_sem], by simp [go_sem]⟩ h1
    have HO1 := Lib.hid (On.trans (On.alloc (On.refl w) _) h1)
    have HP1 := Lib.hid P1
    obtain ⟨p0, p1, p2, p3, p4, p5⟩ := P1
    have z1 : w.heap.size < w1.heap.size := World.block_lt_of_cell? w1 _ p0
    clear h1
    go_wp2_with fail
    go_ret
    exact ⟨ret_int en.out.symm, HO1.out⟩
  | true =>
    rw [hok] at HO
    have BD := of_okR hok
    cases d0 : lvB l with
    | false =>
      have en := Lib.hid (show v2 true false (rateN z5 (l - x2 - floorV x3 x4)) = 0 from rfl)
      clear h5'
      go_enter Tryd.func29, Tryd.ntmps29
      go_wp2_with fail
      refine (HO.out _ (by repeat (first | with_reducible exact On.refl _ | apply On.alloc)) ⟨by simp [go_sem], by simp [go_sem], by simp [go_sem], by simp [go_sem], by simp [go_sem], by simp [go_sem]⟩).mono ?_
      rintro e w1 ⟨rfl, h1⟩
      have P1 : In w1 w.heap.size x0 x1 x2 x3 x4 (.slice a5 z5.length cap5) := In.on ⟨by simp [go_sem], by simp [go_sem], by simp [go_sem], by simp [go_sem], by simp [go_sem], by simp [go_sem]⟩ h1
      have HO1 := Lib.hid (On.trans (On.alloc (On.refl w) _) h1)
      have HP1 := Lib.hid P1
      obtain ⟨p0, p1, p2, p3, p4, p5⟩ := P1
      have z1 : w.heap.size < w1.heap.size := World.block_lt_of_cell? w1 _ p0
      clear h1
      go_wp2_with (first | (go_at_call 55; with_reducible refine (spec_level l _).mono ?_; rintro e w' ⟨rfl, rfl⟩))
      go_ret
      exact ⟨ret_int en.out.symm, HO1.out⟩
    | true =>
      obtain ⟨-, ⟨b1, b2⟩, ⟨f1, f2⟩, ⟨r1, r2⟩, ⟨y1, y2⟩, hm⟩ := BD
      obtain ⟨e0, g0⟩ := of_inB d0
      obtain ⟨u1, u2⟩ := floor_bd (x4 := x4) r1 r2 y2
      have HF := Lib.hid (fun w' hp => spec_floor w.heap.size x0 x1 x2 x3 x4 (.slice a5 z5.length cap5) w' r1 r2 y1 y2 hp)
      have HR := Lib.hid (fun w' (h : On w w') hp => spec_rate w.heap.size x0 x1 x2 x3 x4 (.slice a5 z5.length cap5) z5 (l - x2 - floorV x3 x4) w' hm (h5'.below h) hp)
      have en := Lib.hid (show v2 true true (rateN z5 (l - x2 - floorV x3 x4)) = rateN z5 (l - x2 - floorV x3 x4) from rfl)
      generalize rateN z5 (l - x2 - floorV x3 x4) = ra at *
      generalize floorV x3 x4 = v at *
      have wr0 : IntKind.i64.wrap (l - x2) = l - x2 := IntWalk.i64_in _ (by omega)
      have wr1 : IntKind.i64.wrap (l - x2 - v) = l - x2 - v := IntWalk.i64_in _ (by omega)
      clear h5' hm
      go_enter Tryd.func29, Tryd.ntmps29
      go_wp2_with fail
      refine (HO.out _ (by repeat (first | with_reducible exact On.refl _ | apply On.alloc)) ⟨by simp [go_sem], by simp [go_sem], by simp [go_sem], by simp [go_sem], by simp [go_sem], by simp [go_sem]⟩).mono ?_
      rintro e w1 ⟨rfl, h1⟩
      have P1 : In w1 w.heap.size x0 x1 x2 x3 x4 (.slice a5 z5.length cap5) := In.on ⟨by simp [go_sem], by simp [go_sem], by simp [go_sem], by simp [go_sem], by simp [go_sem], by simp [go_sem]⟩ h1
      have HO1 := Lib.hid (On.trans (On.alloc (On.refl w) _) h1)
      have HP1 := Lib.hid P1
      obtain ⟨p0, p1, p2, p3, p4, p5⟩ := P1
      have z1 : w.heap.size < w1.heap.size := World.block_lt_of_cell? w1 _ p0
      clear h1
      go_wp2_with (first | (go_at_call 55; with_reducible refine (spec_level l _).mono ?_; rintro e w' ⟨rfl, rfl⟩))
      refine wp_region_onh (by kernel_rfl) (by kernel_rfl) ?_
      repeat (refine rest_step (fun K hK => ?_); go_simp; first | (refine hK _ ?_; clear hK K) | (apply Exists.intro; refine ⟨fun v1 hv1 => ?_, hK _ ?_⟩; (first | with_reducible exact rfl | with_reducible exact ⟨rfl, rfl⟩ | with_reducible exact Calls.on hv1 (HF.out _ (HP1.out.on hv1)) | with_reducible exact Calls.on hv1 (HR.out _ (HO1.out.trans hv1) (HP1.out.on hv1)) | (obtain ⟨hc, hf⟩ := bcell hv1; go_simp; first | with_reducible exact rfl | with_reducible exact ⟨rfl, rfl⟩ | exact rfl | exact ⟨rfl, rfl⟩)); clear hK K))
      refine rest_nil ?_
      intro w2 h2
      go_wp2_with fail
      go_ret
      exact ⟨ret_int en.out.symm, HO1.out.trans h2⟩
theorem c2_bad {ok g : Bool} (h : (ok && g) = false) : c2 ok g = 1 ∨ c2 ok g = 2 := by cases ok <;> cases g <;> simp [c2] at *
theorem v2_bad {ok g : Bool} {v : Int} (h : (ok && g) = false) : v2 ok g v = 0 := by cases ok <;> cases g <;> simp [v2] at *
set_option maxRecDepth 100000 in
set_option maxHeartbeats 4000000 in
theorem impl_RateAt (x0 : ByteArray) (x1 x2 x3 x4 : Int) (v5 : Value) (z5 : List (Int × Int)) (l : Int) (w : World) (q0 : x0.size ≤ 1048576) (q5 : z5.length ≤ 1048576) (h5 : Pairs w v5 z5) (hg : ErrVar w) :
    Calls Tryd.prog 30 #[.agg #[.string x0, .int .i64 x1, .int .i64 x2, .int .i64 x3, .int .i64 x4, v5], .int .i64 l] w fun e w' => e = .returned (.int .i64 (v2 (okR x0 x1 x2 x3 x4 z5) (lvB l) (rateN z5 (l - x2 - floorV x3 x4)))) ∧ On w w' := by
  have HS := Lib.hid (fun w' (hb : On w w') => impl_SnrOf x0 x1 x2 x3 x4 v5 z5 l w' q0 q5 (h5.below hb) (hg.on hb))
  have HB := Lib.hid (fun s w' (hb : On w w') => impl_BestMode x0 x1 x2 x3 x4 v5 z5 s w' q0 q5 (h5.below hb) (hg.on hb))
  have h5' := h5
  obtain ⟨a5, cap5, rfl, -⟩ := h5
  cases hb : okR x0 x1 x2 x3 x4 z5 && lvB l with
  | false =>
    have en := Lib.hid (v2_bad (v := rateN z5 (l - x2 - floorV x3 x4)) hb)
    have hc := c2_bad hb
    generalize c2 (okR x0 x1 x2 x3 x4 z5) (lvB l) = c at *
    have c0 : ¬ c = 0 := by omega
    have c0' : (c == 0) = false := beq_eq_false_iff_ne.2 c0
    have c0'' : (c != 0) = true := by rw [bne, c0']; rfl
    generalize v2 (okR x0 x1 x2 x3 x4 z5) (lvB l) (l - x2 - floorV x3 x4) = y at *
    clear h5' hc HB
    go_enter Tryd.func30, Tryd.ntmps30
    go_wp2_with fail
    refine (HS.out _ (by repeat (first | with_reducible exact On.refl _ | apply On.alloc))).mono ?_
    rintro e w1 ⟨rfl, h1⟩
    have HO1 := Lib.hid (On.trans (On.alloc (On.refl w) _) h1)
    go_wp2_with fail
    go_ret
    exact ⟨ret_int en.out.symm, HO1.out⟩
  | true =>
    rw [Bool.and_eq_true] at hb
    obtain ⟨hok, d0⟩ := hb
    have hm := (of_okR hok).2.2.2.2.2
    obtain ⟨⟨n1, n8⟩, -⟩ := of_modes hm
    obtain ⟨b, off, rfl, hbb, hc⟩ := Modes.slice_of h5' (by omega)
    rw [hok, d0] at HS
    rw [hok] at HB
    have HS1 := Lib.hid (fun w' hb => show Calls Tryd.prog 22 #[.agg #[.string x0, .int .i64 x1, .int .i64 x2, .int .i64 x3, .int .i64 x4, .slice (some ⟨b, off, none⟩) z5.length cap5], .int .i64 l] w' fun e w'' => e = .returned (.tuple #[.int .i64 (l - x2 - floorV x3 x4), .int .i64 (0)]) ∧ On w' w'' from HS.out w' hb)
    rw [hok, d0]
    have en := Lib.hid (show v2 true true (rateN z5 (l - x2 - floorV x3 x4)) = rateN z5 (l - x2 - floorV x3 x4) from rfl)
    have hl := cnt_le z5 (l - x2 - floorV x3 x4)
    generalize l - x2 - floorV x3 x4 = s at *
    by_cases hz : cnt z5 s = 0
    · have e1 := Lib.hid (en.out.trans (rate_0 hz))
      obtain ⟨b1, b2⟩ := best_0 hz
      have HB1 := Lib.hid (HB.out s)
      rw [b1, b2] at HB1
      clear hc h5' HB HS b1 b2 hz
      go_enter Tryd.func30, Tryd.ntmps30
      go_wp2_with fail
      refine (HS1.out _ (by repeat (first | with_reducible exact On.refl _ | apply On.alloc))).mono ?_
      rintro e w1 ⟨rfl, h1⟩
      have P1 : In w1 w.heap.size x0 x1 x2 x3 x4 (.slice (some ⟨b, off, none⟩) z5.length cap5) := In.on ⟨by simp [go_sem], by simp [go_sem], by simp [go_sem], by simp [go_sem], by simp [go_sem], by simp [go_sem]⟩ h1
      have HO1 := Lib.hid (On.trans (On.alloc (On.refl w) _) h1)
      obtain ⟨p0, p1, p2, p3, p4, p5⟩ := P1
      go_wp2_with fail
      refine (HB1.out _ HO1.out).mono ?_
      rintro e w2 ⟨rfl, h2⟩
      go_wp2_with fail
      go_ret
      exact ⟨ret_int e1.out.symm, HO1.out.trans h2⟩
    · obtain ⟨k, hk⟩ : ∃ k, cnt z5 s = k + 1 := ⟨cnt z5 s - 1, by omega⟩
      have e1 := Lib.hid (en.out.trans (rate_1 hk))
      obtain ⟨b1, b2⟩ := best_1 hk
      have HB1 := Lib.hid (HB.out s)
      rw [b1, b2] at HB1
      have c1 := (get_at0 rfl hc (k := k) (by omega)).2
      obtain ⟨n, hn⟩ : ∃ n, n = z5.length := ⟨_, rfl⟩
      have hkn : (k : Int) < (n : Int) := by omega
      have k0' : (0 : Int) ≤ (k : Int) := by omega
      rw [← hn] at HB1 HS1
      rw [← hn]
      generalize at1 z5 k = y at *
      clear hc h5' HB HS b1 b2 hz hk hn hl n1 n8 hm hok d0 q5
      go_enter Tryd.func30, Tryd.ntmps30
      go_wp2_with fail
      refine (HS1.out _ (by repeat (first | with_reducible exact On.refl _ | apply On.alloc))).mono ?_
      rintro e w1 ⟨rfl, h1⟩
      have P1 : In w1 w.heap.size x0 x1 x2 x3 x4 (.slice (some ⟨b, off, none⟩) n cap5) := In.on ⟨by simp [go_sem], by simp [go_sem], by simp [go_sem], by simp [go_sem], by simp [go_sem], by simp [go_sem]⟩ h1
      have HO1 := Lib.hid (On.trans (On.alloc (On.refl w) _) h1)
      have HP1 := Lib.hid P1
      obtain ⟨p0, p1, p2, p3, p4, p5⟩ := P1
      go_wp2_with fail
      refine (HB1.out _ HO1.out).mono ?_
      rintro e w2 ⟨rfl, h2⟩
      have HO2 := Lib.hid (HO1.out.trans h2)
      obtain ⟨p0', p1', p2', p3', p4', p5'⟩ := HP1.out.on h2
      have c1' := (HO2.out.cell (p := ⟨b, off + k * 2 + 1, none⟩) (by exact hbb)).trans c1
      have hb' := HO2.out.lts _ hbb
      clear p0 p1 p2 p3 p4 p5
      go_wp2_with fail
      go_ret
      exact ⟨ret_int e1.out.symm, HO2.out⟩
end Go.Proofs.YtknggnchldcghacDoor.Rad
