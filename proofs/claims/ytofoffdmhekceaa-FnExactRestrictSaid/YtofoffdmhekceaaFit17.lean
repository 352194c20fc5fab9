
/-
  Whether a list gives a channel of its domain to each item, in the model and in the program. Condition: at most 1048576 numbers in each list.
-/
import Derived.Test.YtofoffdmhekceaaConR
import Derived.Test.YtofoffdmhekceaaAll
namespace Go.Proofs.Ytofoffdmhekceaa.Asg
open Go.RowKit
open Plain
open Ints (Ints)
open Prb (T)
open Con

theorem mem_iff {z : List Int} {x : Int} : x ∈ z ↔ ∃ k, k < z.length ∧ z.getD k 0 = x := by
  constructor
  · intro h
    obtain ⟨i, hi, rfl⟩ := List.getElem_of_mem h
    exact ⟨i, hi, by simp [hi]⟩
  · rintro ⟨k, hk, rfl⟩
    rw [show z.getD k 0 = z[k] from by simp [hk]]
    exact List.getElem_mem hk
def hasB (z : List Int) (x : Int) : Bool := decide (x ∈ z)
theorem has_yes {z : List Int} {x : Int} {k : Nat} (hk : k < z.length) (h : z.getD k 0 = x) : hasB z x = true := decide_eq_true (mem_iff.2 ⟨k, hk, h⟩)
theorem has_no {z : List Int} {x : Int} (h : ∀ k, k < z.length → z.getD k 0 ≠ x) : hasB z x = false := decide_eq_false (fun g => by obtain ⟨k, hk, e⟩ := mem_iff.1 g; exact h k hk e)
set_option maxHeartbeats 2000000 in
theorem spec_has (v : Value) (z : List Int) (x : Int) (w : World) (hz : z.length ≤ 1048576) (h : Ints w v z) :
    Calls Try.prog 54 #[v, .int .i64 x] w fun e w' => e = .returned (.bool (hasB z x)) ∧ w = w' := by
  obtain ⟨a, cap, rfl, hc⟩ := h
  obtain ⟨n, hn⟩ : ∃ n, n = z.length := ⟨_, rfl⟩
  have HC := Lib.hid hc
  have HN := Lib.hid hn
  rw [← hn] at hz ⊢
  clear hc hn
  go_enter Try.func54, Try.ntmps54
  go_wp2_with fail
  go_loop [5] (fun i => ∃ k : Nat, k ≤ n ∧ i = .int .i64 k ∧ ∀ j, j < k → z.getD j 0 ≠ x) (fun i => n - (intOf i).toNat)
  case atStart => exact ⟨0, Nat.zero_le _, rfl, fun j hj => absurd hj (by omega)⟩
  case round =>
    obtain ⟨k, hk, rfl, hall⟩ := hrel
    have HA := Lib.hid hall
    clear hall
    by_cases hlt : k < n
    · have hlti : (k : Int) < (n : Int) := by omega
      obtain ⟨b, off, rfl, hb, hcell⟩ := HC.out (by rw [← HN.out]; omega)
      obtain ⟨y, hy⟩ : ∃ y, y = z.getD k 0 := ⟨_, rfl⟩
      have c1 : w.cell? ⟨b, off + k, none⟩ = some (.int .i64 y) := by rw [hy]; exact hcell k (by rw [← HN.out]; exact hlt)
      by_cases hq : y = x
      · have en := Lib.hid (has_yes (z := z) (x := x) (by rw [← HN.out]; exact hlt) (by rw [← hy]; exact hq))
        clear hy hcell
        subst hq
        go_wp2_with fail
        go_ret
        exact ⟨ret_bool en.out.symm, rfl⟩
      · have HS := Lib.hid (fun j (hj : j < k + 1) => show z.getD j 0 ≠ x by
          by_cases g : j = k
          · rw [g, ← hy]; exact hq
          · exact HA.out j (by omega))
        have z1 : (y == x) = false := beq_eq_false_iff_ne.2 hq
        clear hy hcell
        go_wp2_with fail
        go_round
        case rel => exact ⟨k + 1, by omega, by go_num, HS.out⟩
        case measure => simp [intOf]; omega
    · obtain rfl : k = n := by omega
      have en := Lib.hid (has_no (z := z) (x := x) (by rw [← HN.out]; exact HA.out))
      go_wp2_with fail
      go_ret
      exact ⟨ret_bool en.out.symm, rfl⟩
set_option maxHeartbeats 2000000 in
theorem lib_index (v : Value) (z : List Int) (x : Int) (w : World) (hz : z.length ≤ 1048576) (h : Ints w v z) :
    Calls Try.prog 78 #[v, .int .i64 x] w fun e w' => ∃ r : Int, e = .returned (.int .i64 r) ∧ decide (0 ≤ r) = hasB z x ∧ w = w' := by
  obtain ⟨a, cap, rfl, hc⟩ := h
  obtain ⟨n, hn⟩ : ∃ n, n = z.length := ⟨_, rfl⟩
  have HC := Lib.hid hc
  have HN := Lib.hid hn
  rw [← hn] at hz ⊢
  clear hc hn
  go_enter Try.func78, Try.ntmps78
  go_wp2_with fail
  go_loop [8] (fun i => ∃ k : Nat, k ≤ n ∧ i = .int .i64 k ∧ ∀ j, j < k → z.getD j 0 ≠ x) (fun i => n - (intOf i).toNat)
  case atStart => exact ⟨0, Nat.zero_le _, rfl, fun j hj => absurd hj (by omega)⟩
  case round =>
    obtain ⟨k, hk, rfl, hall⟩ := hrel
    have HA := Lib.hid hall
    clear hall
    by_cases hlt : k < n
    · have hlti : (k : Int) < (n : Int) := by omega
      obtain ⟨b, off, rfl, hb, hcell⟩ := HC.out (by rw [← HN.out]; omega)
      obtain ⟨y, hy⟩ : ∃ y, y = z.getD k 0 := ⟨_, rfl⟩
      have c1 : w.cell? ⟨b, off + k, none⟩ = some (.int .i64 y) := by rw [hy]; exact hcell k (by rw [← HN.out]; exact hlt)
      by_cases hq : y = x
      · have en := Lib.hid (has_yes (z := z) (x := x) (by rw [← HN.out]; exact hlt) (by rw [← hy]; exact hq))
        clear hy hcell
        subst hq
        go_wp2_with fail
        go_ret
        exact ⟨_, rfl, by rw [en.out]; simp, rfl⟩
      · have HS := Lib.hid (fun j (hj : j < k + 1) => show z.getD j 0 ≠ x by
          by_cases g : j = k
          · rw [g, ← hy]; exact hq
          · exact HA.out j (by omega))
        have z1 : (x == y) = false := beq_eq_false_iff_ne.2 (fun h => hq h.symm)
        clear hy hcell
        go_wp2_with fail
        go_round
        case rel => exact ⟨k + 1, by omega, by go_num, HS.out⟩
        case measure => simp [intOf]; omega
    · obtain rfl : k = n := by omega
      have en := Lib.hid (has_no (z := z) (x := x) (by rw [← HN.out]; exact HA.out))
      go_wp2_with fail
      go_ret
      exact ⟨-1, rfl, by rw [en.out]; rfl, rfl⟩
theorem lib_has (v : Value) (z : List Int) (x : Int) (w : World) (hz : z.length ≤ 1048576) (h : Ints w v z) :
    Calls Try.prog 58 #[v, .int .i64 x] w fun e w' => e = .returned (.bool (hasB z x)) ∧ w = w' := by
  have HI := Lib.hid (lib_index v z x w hz h)
  obtain ⟨a, cap, rfl, -⟩ := h
  go_enter Try.func58, Try.ntmps58
  go_wp2_with fail
  refine HI.out.mono ?_
  rintro e w1 ⟨r, rfl, hr, rfl⟩
  have HR := Lib.hid hr
  clear hr
  go_wp2_with fail
  go_ret
  exact ⟨ret_bool HR.out, rfl⟩
def fitAt (N : T) (zs : List Int) (i : Nat) : Bool := hasB (N.f0.getD i []) (zs.getD i 0)
def fitsB (N : T) (zs : List Int) : Bool := decide (zs.length = N.f0.length) && allN (fitAt N zs) zs.length
theorem fits_len {N : T} {zs : List Int} (h : zs.length ≠ N.f0.length) : fitsB N zs = false := by unfold fitsB; rw [decide_eq_false h]; rfl
theorem fits_bad {N : T} {zs : List Int} {i : Nat} (hi : i < zs.length) (h : fitAt N zs i = false) : fitsB N zs = false := by unfold fitsB; rw [allN_bad hi h, Bool.and_false]
theorem fits_yes {N : T} {zs : List Int} (h : zs.length = N.f0.length) (h2 : AllN (fitAt N zs) zs.length) : fitsB N zs = true := by unfold fitsB; rw [decide_eq_true h, allN_all h2]; rfl
theorem of_fits {N : T} {zs : List Int} (h : fitsB N zs = true) : zs.length = N.f0.length ∧ ∀ i, i < zs.length → zs.getD i 0 ∈ N.f0.getD i [] := by
  unfold fitsB at h
  rw [Bool.and_eq_true] at h
  exact ⟨of_decide_eq_true h.1, fun i hi => of_decide_eq_true (of_allN h.2 i hi)⟩
theorem of_dom {z : List Int} (h : domB z = true) : (1 ≤ z.length ∧ z.length ≤ 32) ∧ (∀ k, k < z.length → 0 ≤ z.getD k 0 ∧ z.getD k 0 ≤ 999) ∧ ∀ k, k + 1 < z.length → z.getD k 0 < z.getD (k + 1) 0 := by
  unfold domB at h
  rw [Bool.and_eq_true] at h
  obtain ⟨h1, h2⟩ := h
  have := of_inB h1
  have h3 := of_allN h2
  refine ⟨by omega, fun k hk => ?_, fun k hk => ?_⟩
  · have := h3 k hk
    unfold riseAt at this
    rw [Bool.and_eq_true] at this
    exact of_inB this.1
  · have := h3 (k + 1) hk
    unfold riseAt at this
    rw [Bool.and_eq_true] at this
    exact of_decide_eq_true this.2 (by omega)
theorem fits_bd {N : T} {zs : List Int} (hk : Ok N) (h : fitsB N zs = true) : zs.length = N.f0.length ∧ ∀ i, i < N.f0.length → 0 ≤ zs.getD i 0 ∧ zs.getD i 0 ≤ 999 := by
  obtain ⟨h1, h2⟩ := of_fits h
  refine ⟨h1, fun i hi => ?_⟩
  obtain ⟨k, hk2, e⟩ := mem_iff.1 (h2 i (by omega))
  rw [← e]
  exact (of_dom (hk.dom i hi)).2.1 k hk2
set_option maxHeartbeats 4000000 in
theorem spec_fits (g : Nat) (N : T) (a0 a1 : Option Addr) (c0 c1 : Nat) (v : Value) (zs : List Int) (w : World) (hs : N.Small 1048576) (hz : zs.length ≤ 1048576) (h : At w g N a0 a1 c0 c1) (hl : Ints w v zs) :
    Calls Try.prog 45 #[.pointer (some ⟨g, 0, none⟩), v] w fun e w' => e = .returned (.bool (fitsB N zs)) ∧ On w w' := by
  have hlt := h.lt
  have k0 := h.k0
  obtain ⟨a, cap, rfl, hc⟩ := hl
  obtain ⟨n, hn⟩ : ∃ n, n = N.f0.length := ⟨_, rfl⟩
  obtain ⟨m, hm⟩ : ∃ m, m = zs.length := ⟨_, rfl⟩
  have hn2 : n ≤ 1048576 := by rw [hn]; exact hs.1.1
  by_cases he : m = n
  case neg =>
    have en := Lib.hid (fits_len (N := N) (zs := zs) (by rw [← hm, ← hn]; exact he))
    have b1 : ((m : Int) == (n : Int)) = false := beq_eq_false_iff_ne.2 (by omega)
    have b2 : ((m : Int) != (n : Int)) = true := by rw [bne, b1]; rfl
    have b3 : (m == n) = false := beq_eq_false_iff_ne.2 he
    rw [← hn] at k0
    rw [← hm] at hz ⊢
    clear hm hn h hc hs
    go_enter Try.func45, Try.ntmps45
    go_wp2_with fail
    go_ret
    exact ⟨ret_bool en.out.symm, On.refl _⟩
  subst he
  have HN := Lib.hid hn
  have HM := Lib.hid hm
  have HC := Lib.hid hc
  have HR := Lib.hid (fun h0 => lists_at h.r0 h0)
  have HS := Lib.hid hs.1.2
  rw [← hn] at k0
  rw [← hm] at hz ⊢
  clear hm hn h hc hs
  go_enter Try.func45, Try.ntmps45
  go_wp2_with fail
  go_loopw [5] (fun i wr => ∃ k : Nat, k ≤ m ∧ i = .int .i64 k ∧ AllN (fitAt N zs) k ∧ On w wr) (fun i _ => m - (intOf i).toNat)
  case atStart => exact ⟨0, Nat.zero_le _, rfl, allN_zero _, On.refl _⟩
  case round =>
    obtain ⟨k, hk, rfl, hall, ho⟩ := hrel
    have HA := Lib.hid hall
    have HO := Lib.hid ho
    clear hall
    by_cases hlt2 : k < m
    · have hlti : (k : Int) < (m : Int) := by omega
      obtain ⟨b, off, rfl, hb, hcell⟩ := HC.out (by rw [← HM.out]; omega)
      obtain ⟨b0, o0, rfl, hb0, hrow⟩ := HR.out (by rw [← HN.out]; omega)
      obtain ⟨d, e, hu, hi⟩ := hrow k (by rw [← HN.out]; exact hlt2)
      obtain ⟨x, hx⟩ : ∃ x, x = zs.getD k 0 := ⟨_, rfl⟩
      have q0 : wr.cell? ⟨g, 0, none⟩ = some (.slice (some ⟨b0, o0, none⟩) m c0) := (ho.cell (by exact hlt)).trans k0
      have q1 : wr.cell? ⟨b0, o0 + k, none⟩ = some (.slice d (N.f0.getD k []).length e) := (ho.cell (by exact hb0)).trans hu
      have q2 : wr.cell? ⟨b, off + k, none⟩ = some (.int .i64 x) := (ho.cell (by exact hb)).trans (by rw [hx]; exact hcell k (by rw [← HM.out]; exact hlt2))
      have s0 := ho.lts _ hlt
      have s1 := ho.lts _ hb0
      have s2 := ho.lts _ hb
      have HL := Lib.hid (fun w' (h : On wr w') => spec_has _ (N.f0.getD k []) x w' (HS.out k (by rw [← HN.out]; exact hlt2)) (hi.below (HO.out.trans h)))
      obtain ⟨q, hq⟩ : ∃ q, q = hasB (N.f0.getD k []) x := ⟨_, rfl⟩
      have HQ := Lib.hid (show fitAt N zs k = q by rw [hq, hx]; rfl)
      rw [← hq] at HL
      obtain ⟨l, hl⟩ : ∃ l, l = (N.f0.getD k []).length := ⟨_, rfl⟩
      rw [← hl] at q1 HL
      clear hx hcell hu hi hrow hq hl ho
      cases q with
      | true =>
        have HS2 := Lib.hid (allN_succ HA.out HQ.out)
        go_wp2_with fail
        refine wp_region_onh (by kernel_rfl) (by kernel_rfl) ?_
        repeat (refine rest_step (fun K hK => ?_); go_simp; first | (refine hK _ ?_; clear hK K) | (apply Exists.intro; refine ⟨fun v1 hv1 => ?_, hK _ ?_⟩; (first | with_reducible exact rfl | with_reducible exact ⟨rfl, rfl⟩ | with_reducible exact Calls.on_same hv1 (HL.out _ hv1) | (obtain ⟨hc, hf⟩ := bcell hv1; go_simp; first | with_reducible exact rfl | with_reducible exact ⟨rfl, rfl⟩ | exact rfl | exact ⟨rfl, rfl⟩)); clear hK K))
        refine rest_nil ?_
        intro w9 hw9
        go_wp2_with fail
        go_roundw
        case rel => exact ⟨k + 1, by omega, by go_num, HS2.out, HO.out.trans hw9⟩
        case measure => simp [intOf]; omega
      | false =>
        have en := Lib.hid (fits_bad (N := N) (by rw [← HM.out]; exact hlt2) HQ.out)
        go_wp2_with fail
        refine wp_region_onh (by kernel_rfl) (by kernel_rfl) ?_
        repeat (refine rest_step (fun K hK => ?_); go_simp; first | (refine hK _ ?_; clear hK K) | (apply Exists.intro; refine ⟨fun v1 hv1 => ?_, hK _ ?_⟩; (first | with_reducible exact rfl | with_reducible exact ⟨rfl, rfl⟩ | with_reducible exact Calls.on_same hv1 (HL.out _ hv1) | (obtain ⟨hc, hf⟩ := bcell hv1; go_simp; first | with_reducible exact rfl | with_reducible exact ⟨rfl, rfl⟩ | exact rfl | exact ⟨rfl, rfl⟩)); clear hK K))
        refine rest_nil ?_
        intro w9 hw9
        go_wp2_with fail
        go_ret
        exact ⟨ret_bool en.out.symm, HO.out.trans hw9⟩
    · obtain rfl : k = m := by omega
      have en := Lib.hid (fits_yes (N := N) (zs := zs) (by rw [← HM.out, ← HN.out]) (by rw [← HM.out]; exact HA.out))
      clear ho
      go_wp2_with fail
      go_ret
      exact ⟨ret_bool en.out.symm, HO.out⟩
set_option maxHeartbeats 4000000 in
theorem impl_fits (u : Value) (N : T) (v : Value) (zs : List Int) (w : World) (hs : N.Small 1048576) (hz : zs.length ≤ 1048576) (h : Prb.Is w u N) (hl : Ints w v zs) :
    Calls Try.prog 47 #[u, v] w fun e w' => e = .returned (.bool (fitsB N zs)) ∧ On w w' := by
  obtain ⟨a0, a1, c0, c1, rfl, r0, -⟩ := Is.shape h
  obtain ⟨a, cap, rfl, hc⟩ := hl
  obtain ⟨n, hn⟩ : ∃ n, n = N.f0.length := ⟨_, rfl⟩
  obtain ⟨m, hm⟩ : ∃ m, m = zs.length := ⟨_, rfl⟩
  have hn2 : n ≤ 1048576 := by rw [hn]; exact hs.1.1
  by_cases he : m = n
  case neg =>
    have en := Lib.hid (fits_len (N := N) (zs := zs) (by rw [← hm, ← hn]; exact he))
    have b1 : ((m : Int) == (n : Int)) = false := beq_eq_false_iff_ne.2 (by omega)
    have b2 : ((m : Int) != (n : Int)) = true := by rw [bne, b1]; rfl
    have b3 : (m == n) = false := beq_eq_false_iff_ne.2 he
    rw [← hn]
    rw [← hm] at hz ⊢
    generalize N.f1.length = n1 at *
    clear hm hn h hc hs r0
    go_enter Try.func47, Try.ntmps47
    go_wp2_with fail
    go_ret
    exact ⟨ret_bool en.out.symm, by repeat (first | with_reducible exact On.refl _ | with_reducible apply On.alloc)⟩
  subst he
  have HN := Lib.hid hn
  have HM := Lib.hid hm
  have HC := Lib.hid hc
  have HR := Lib.hid (fun h0 => lists_at r0 h0)
  have HS := Lib.hid hs.1.2
  rw [← hn]
  rw [← hm] at hz ⊢
  generalize N.f1.length = n1 at *
  clear hm hn h hc hs r0
  go_enter Try.func47, Try.ntmps47
  go_wp2_with fail
  generalize hW0 : w.alloc (.cells #[.slice a0 m c0, .slice a1 n1 c1] 27) = w0
  have HO0 := Lib.hid (show On w w0 by rw [← hW0]; exact On.alloc (On.refl _) _)
  have k0 : w0.cell? ⟨w.heap.size, 0, none⟩ = some (.slice a0 m c0) := by rw [← hW0]; simp [go_sem]
  have hlt : w.heap.size < w0.heap.size := by rw [← hW0]; simp
  clear hW0
  go_loopw [15] (fun i wr => ∃ k : Nat, k ≤ m ∧ i = .int .i64 k ∧ AllN (fitAt N zs) k ∧ On w0 wr) (fun i _ => m - (intOf i).toNat)
  case atStart => exact ⟨0, Nat.zero_le _, rfl, allN_zero _, On.refl _⟩
  case round =>
    obtain ⟨k, hk, rfl, hall, ho⟩ := hrel
    have HA := Lib.hid hall
    have HO := Lib.hid ho
    clear hall
    by_cases hlt2 : k < m
    · have hlti : (k : Int) < (m : Int) := by omega
      obtain ⟨b, off, rfl, hb, hcell⟩ := HC.out (by rw [← HM.out]; omega)
      obtain ⟨b0, o0, rfl, hb0, hrow⟩ := HR.out (by rw [← HN.out]; omega)
      obtain ⟨d, e, hu, hi⟩ := hrow k (by rw [← HN.out]; exact hlt2)
      obtain ⟨x, hx⟩ : ∃ x, x = zs.getD k 0 := ⟨_, rfl⟩
      have hoo := HO0.out.trans ho
      have q0 : wr.cell? ⟨w.heap.size, 0, none⟩ = some (.slice (some ⟨b0, o0, none⟩) m c0) := (ho.cell (by exact hlt)).trans k0
      have q1 : wr.cell? ⟨b0, o0 + k, none⟩ = some (.slice d (N.f0.getD k []).length e) := (hoo.cell (by exact hb0)).trans hu
      have q2 : wr.cell? ⟨b, off + k, none⟩ = some (.int .i64 x) := (hoo.cell (by exact hb)).trans (by rw [hx]; exact hcell k (by rw [← HM.out]; exact hlt2))
      have s0 := ho.lts _ hlt
      have s1 := hoo.lts _ hb0
      have s2 := hoo.lts _ hb
      have HL := Lib.hid (lib_has _ (N.f0.getD k []) x wr (HS.out k (by rw [← HN.out]; exact hlt2)) (hi.below hoo))
      obtain ⟨q, hq⟩ : ∃ q, q = hasB (N.f0.getD k []) x := ⟨_, rfl⟩
      have HQ := Lib.hid (show fitAt N zs k = q by rw [hq, hx]; rfl)
      rw [← hq] at HL
      obtain ⟨l, hl⟩ : ∃ l, l = (N.f0.getD k []).length := ⟨_, rfl⟩
      rw [← hl] at q1 HL
      clear hx hcell hu hi hrow hq hl ho hoo
      cases q with
      | true =>
        have HS2 := Lib.hid (allN_succ HA.out HQ.out)
        go_wp2_with fail
        refine HL.out.mono ?_
        rintro e w9 ⟨rfl, rfl⟩
        go_wp2_with fail
        go_roundw
        case rel => exact ⟨k + 1, by omega, by go_num, HS2.out, HO.out⟩
        case measure => simp [intOf]; omega
      | false =>
        have en := Lib.hid (fits_bad (N := N) (by rw [← HM.out]; exact hlt2) HQ.out)
        go_wp2_with fail
        refine HL.out.mono ?_
        rintro e w9 ⟨rfl, rfl⟩
        go_wp2_with fail
        go_ret
        exact ⟨ret_bool en.out.symm, HO0.out.trans HO.out⟩
    · obtain rfl : k = m := by omega
      have en := Lib.hid (fits_yes (N := N) (zs := zs) (by rw [← HM.out, ← HN.out]) (by rw [← HM.out]; exact HA.out))
      clear ho
      go_wp2_with fail
      go_ret
      exact ⟨ret_bool en.out.symm, HO0.out.trans HO.out⟩
end Go.Proofs.Ytofoffdmhekceaa.Asg
