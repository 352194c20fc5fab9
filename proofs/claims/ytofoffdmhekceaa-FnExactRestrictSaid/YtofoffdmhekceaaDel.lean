
/-
  The library's striking of numbers out of a slice, by a function value over a list of numbers. Conditions: each theorem's own.
-/
import Derived.Test.YtofoffdmhekceaaFit17
import Derived.Test.YtofoffdmhekceaaGrow
import Derived.Lib.SliceRun
import Derived.Lib.SlBuf
namespace Go.Proofs.Ytofoffdmhekceaa.Del
open Go.RowKit
open Plain
open Ints (Ints)

/-- What is kept of the first k numbers. -/
def kept (p : Int → Bool) (z : List Int) : Nat → List Int
  | 0 => []
  | k + 1 => if p (z.getD k 0) = true then kept p z k ++ [z.getD k 0] else kept p z k
theorem kept_len (p : Int → Bool) (z : List Int) : ∀ k, (kept p z k).length ≤ k
  | 0 => by simp [kept]
  | k + 1 => by
    have := kept_len p z k
    simp only [kept]
    split
    · simp; omega
    · omega
theorem kept_all {p : Int → Bool} {z : List Int} : ∀ k, (∀ j, j < k → p (z.getD j 0) = true) → (kept p z k).length = k ∧ ∀ j, j < k → (kept p z k).getD j 0 = z.getD j 0
  | 0, _ => ⟨rfl, fun j hj => by omega⟩
  | k + 1, h => by
    obtain ⟨h1, h2⟩ := kept_all k (fun j hj => h j (by omega))
    simp only [kept]
    rw [if_pos (h k (by omega))]
    refine ⟨by simp [h1], fun j hj => ?_⟩
    by_cases g : j = k
    · subst g
      rw [List.getD_eq_getElem?_getD, List.getElem?_append_right (by omega), h1]
      simp
    · rw [List.getD_eq_getElem?_getD, List.getElem?_append_left (by omega), ← List.getD_eq_getElem?_getD]
      exact h2 j (by omega)
theorem kept_lt {p : Int → Bool} {z : List Int} {k0 : Nat} (h : p (z.getD k0 0) = false) : ∀ k, k0 < k → (kept p z k).length < k
  | 0, h0 => by omega
  | k + 1, h0 => by
    simp only [kept]
    by_cases g : k = k0
    · subst g
      rw [if_neg (by rw [h]; simp)]
      have := kept_len p z k
      omega
    · have := kept_lt h k (by omega)
      split
      · simp; omega
      · omega
theorem kept_yes {p : Int → Bool} {z : List Int} {k : Nat} (h : p (z.getD k 0) = true) : kept p z (k + 1) = kept p z k ++ [z.getD k 0] := by simp only [kept]; rw [if_pos h]
theorem kept_no {p : Int → Bool} {z : List Int} {k : Nat} (h : p (z.getD k 0) = false) : kept p z (k + 1) = kept p z k := by simp only [kept]; rw [if_neg (by rw [h]; simp)]
theorem ret_sl1 {a : Option Addr} {n m c : Nat} (h : n = m) : Ending.returned (.slice a n c) = .returned (.slice a m c) := by rw [h]
/-- The world w1 is w but for the cells of the block b. -/
structure Bt (b : Nat) (w w1 : World) : Prop where
  below : Below b w w1
  size : w1.heap.size = w.heap.size
  frz : ∀ p, w1.frozen? p = w.frozen? p
  cell : ∀ p : Addr, p.block ≠ b → w1.cell? p = w.cell? p
theorem setCells_size (b : Nat) : ∀ (vs : List Value) (o : Nat) (w : World), (w.setCells b o vs).heap.size = w.heap.size
  | [], _, _ => rfl
  | v :: r, o, w => by rw [World.setCells, setCells_size b r]; simp
theorem Bt.refl (b : Nat) (w : World) : Bt b w w := ⟨Below.refl _ _, rfl, fun _ => rfl, fun _ _ => rfl⟩
theorem Bt.set {b : Nat} {w w1 : World} (h : Bt b w w1) (o : Nat) (v : Value) : Bt b w (w1.setCell ⟨b, o, none⟩ v) where
  below := h.below.setCell (by exact Nat.le_refl _) v
  size := by simpa using h.size
  frz := fun p => by rw [World.frozen?_setCell]; exact h.frz p
  cell := fun p hp => (World.cell?_setCell_other (h := fun e => hp (by rw [← e])) ..).trans (h.cell p hp)
set_option maxRecDepth 100000 in
set_option maxHeartbeats 2000000 in
theorem index_del (gp : Nat) (p : Int → Bool) (b off n cap : Nat) (z : List Int) (w : World) (hn : n ≤ 1048576)
    (hcell : ∀ i, i < n → w.cell? ⟨b, off + i, none⟩ = some (.int .i64 (z.getD i 0)))
    (hc : ∀ x, Calls Try.prog 57 #[.int .i64 x, .pointer (some ⟨gp, 0, none⟩)] w fun e w2 => e = .returned (.bool (!p x)) ∧ w = w2) :
    Calls Try.prog 77 #[.slice (some ⟨b, off, none⟩) n cap, .func (Fn.func 57) #[] #[.pointer (some ⟨gp, 0, none⟩)]] w
      fun e w' => ∃ r : Int, e = .returned (.int .i64 r) ∧ ((r = -1 ∧ ∀ j, j < n → p (z.getD j 0) = true) ∨ ∃ k : Nat, k < n ∧ r = k ∧ p (z.getD k 0) = false ∧ ∀ j, j < k → p (z.getD j 0) = true) ∧ w = w' := by
  have HC := Lib.hid hcell
  have HCL := Lib.hid hc
  clear hcell hc
  go_enter Try.func77, Try.ntmps77
  go_wp2_with fail
  go_loop [8] (fun i => ∃ k : Nat, k ≤ n ∧ i = .int .i64 k ∧ ∀ j, j < k → p (z.getD j 0) = true) (fun i => n - (intOf i).toNat)
  case atStart => exact ⟨0, Nat.zero_le _, rfl, fun j hj => absurd hj (by omega)⟩
  case round =>
    obtain ⟨k, hk, rfl, hall⟩ := hrel
    have HA := Lib.hid hall
    clear hall
    by_cases hlt2 : k < n
    · have hlti : (k : Int) < (n : Int) := by omega
      obtain ⟨x, hx⟩ : ∃ x, x = z.getD k 0 := ⟨_, rfl⟩
      have c0 : w.cell? ⟨b, off + k, none⟩ = some (.int .i64 x) := by rw [hx]; exact HC.out k hlt2
      have HM := Lib.hid (HCL.out x)
      have HX := Lib.hid hx
      cases hp : p x with
      | true =>
        rw [hp] at HM
        have HS := Lib.hid (fun j (hj : j < k + 1) => show p (z.getD j 0) = true by
          by_cases e : j = k
          · rw [e, ← hx]; exact hp
          · exact HA.out j (by omega))
        clear hp hx
        go_wp2_with fail
        refine HM.out.mono ?_
        rintro e w1 ⟨rfl, rfl⟩
        go_wp2_with fail
        go_round
        case rel => exact ⟨k + 1, by omega, by go_num, HS.out⟩
        case measure => simp [intOf]; omega
      | false =>
        rw [hp] at HM
        have HP := Lib.hid (show p (z.getD k 0) = false by rw [← hx]; exact hp)
        clear hp hx
        go_wp2_with fail
        refine HM.out.mono ?_
        rintro e w1 ⟨rfl, rfl⟩
        go_wp2_with fail
        go_ret
        exact ⟨_, rfl, .inr ⟨k, hlt2, rfl, HP.out, HA.out⟩, rfl⟩
    · obtain rfl : k = n := by omega
      go_wp2_with fail
      go_ret
      exact ⟨-1, rfl, .inl ⟨rfl, HA.out⟩, rfl⟩
set_option maxRecDepth 100000 in
set_option maxHeartbeats 4000000 in
theorem lib_delete (gp : Nat) (p : Int → Bool) (b off n cap : Nat) (z : List Int) (w : World) (hn : n ≤ 1048576) (hnc : n ≤ cap) (h0 : 0 < n)
    (hcell : ∀ i, i < n → w.cell? ⟨b, off + i, none⟩ = some (.int .i64 (z.getD i 0))) (hf : ∀ i, i < n → w.frozen? ⟨b, off + i, none⟩ = false)
    (hc : ∀ w1, Bt b w w1 → ∀ x, Calls Try.prog 57 #[.int .i64 x, .pointer (some ⟨gp, 0, none⟩)] w1 fun e w2 => e = .returned (.bool (!p x)) ∧ w1 = w2) :
    Calls Try.prog 56 #[.slice (some ⟨b, off, none⟩) n cap, .func (Fn.func 57) #[] #[.pointer (some ⟨gp, 0, none⟩)]] w
      fun e w' => e = .returned (.slice (some ⟨b, off, none⟩) (kept p z n).length cap) ∧ Bt b w w' ∧ ∀ i, i < (kept p z n).length → w'.cell? ⟨b, off + i, none⟩ = some (.int .i64 ((kept p z n).getD i 0)) := by
  have HI := Lib.hid (index_del gp p b off n cap z w hn hcell (hc w (Bt.refl _ _)))
  have HC := Lib.hid hcell
  have HF := Lib.hid hf
  have HCL := Lib.hid hc
  obtain ⟨i0, hi, hz0, hz1, hz2⟩ := info_parts Ints.info
  clear hcell hc hf
  go_enter Try.func56, Try.ntmps56
  go_wp2_with fail
  refine HI.out.mono ?_
  rintro e w1 ⟨r, rfl, hr, rfl⟩
  rcases hr with ⟨rfl, hall⟩ | ⟨k0, hk0, rfl, hk1, hk2⟩
  · obtain ⟨e1, e2⟩ := kept_all (p := p) (z := z) n hall
    have E1 := Lib.hid e1
    have E2 := Lib.hid e2
    clear hall e1 e2
    go_wp2_with fail
    go_ret
    exact ⟨ret_sl1 E1.out.symm, Bt.refl _ _, fun i hi => by rw [E1.out] at hi; rw [E2.out i hi]; exact HC.out i hi⟩
  · have HK1 := Lib.hid hk1
    obtain ⟨e1, e2⟩ := kept_all (p := p) (z := z) k0 hk2
    have E0 := Lib.hid (kept_no hk1)
    have E1 := Lib.hid e1
    have E2 := Lib.hid e2
    have hkm : ((k0 : Int) == -1) = false := beq_eq_false_iff_ne.2 (by omega)
    clear hk1 hk2 e1 e2
    go_wp2_with fail
    go_loopw [5, 6] (fun i j wr => ∃ q : Nat, k0 < q ∧ q ≤ n ∧ j = .int .i64 q ∧ i = .int .i64 ((kept p z q).length : Nat) ∧ Bt b w wr ∧ (∀ t, t < (kept p z q).length → wr.cell? ⟨b, off + t, none⟩ = some (.int .i64 ((kept p z q).getD t 0))) ∧ ∀ t, (kept p z q).length ≤ t → t < n → (q ≤ t → wr.cell? ⟨b, off + t, none⟩ = some (.int .i64 (z.getD t 0))) ∧ ∃ y, wr.cell? ⟨b, off + t, none⟩ = some (.int .i64 y)) (fun _ j _ => n - (intOf j).toNat)
    case atStart =>
      refine ⟨k0 + 1, by omega, by omega, by go_num, by rw [E0.out, E1.out], Bt.refl _ _, fun t ht => ?_, fun t ht1 ht2 => ⟨fun _ => HC.out t ht2, _, HC.out t ht2⟩⟩
      rw [E0.out, E1.out] at ht
      rw [E0.out, E2.out t ht]
      exact HC.out t (by omega)
    case round =>
      obtain ⟨q, hq0, hq, rfl, rfl, hbt, hlo, hhi⟩ := hrel
      have BT := Lib.hid hbt
      have LO := Lib.hid hlo
      have HH := Lib.hid hhi
      have hlen := kept_lt HK1.out q hq0
      obtain ⟨l, hl⟩ : ∃ l, l = (kept p z q).length := ⟨_, rfl⟩
      have HL := Lib.hid hl
      rw [← hl] at hlen ⊢
      clear hlo hhi
      by_cases hlt : q < n
      · have hlti : (q : Int) < (n : Int) := by omega
        have hlni : (l : Int) < (n : Int) := by omega
        obtain ⟨x, hx⟩ : ∃ x, x = z.getD q 0 := ⟨_, rfl⟩
        have c1 : wr.cell? ⟨b, off + q, none⟩ = some (.int .i64 x) := by rw [hx]; exact (HH.out q (by rw [← hl]; omega) hlt).1 (Nat.le_refl _)
        obtain ⟨y, hy⟩ := (HH.out l (by rw [← hl]; exact Nat.le_refl _) (by omega)).2
        have f1 : wr.frozen? ⟨b, off + l, none⟩ = false := (hbt.frz _).trans (HF.out l (by omega))
        have HM := Lib.hid (HCL.out wr hbt x)
        have HX := Lib.hid hx
        clear hbt hl
        cases hp : p x with
        | true =>
          rw [hp] at HM
          have E := Lib.hid (kept_yes (p := p) (z := z) (k := q) (by rw [← hx]; exact hp))
          clear hp hx
          go_wp2_with fail
          refine HM.out.mono ?_
          rintro e w2 ⟨rfl, rfl⟩
          go_wp2_with fail
          go_roundw
          case rel =>
            have el : (kept p z (q + 1)).length = l + 1 := by rw [E.out, List.length_append, ← HL.out]; rfl
            refine ⟨q + 1, by omega, by omega, by go_num, by rw [el]; go_num, BT.out.set _ _, fun t ht => ?_, fun t ht1 ht2 => ?_⟩
            · rw [el] at ht
              by_cases g : t = l
              · subst g
                rw [World.cell?_setCell_same _ _ _ hy]
                rw [E.out, List.getD_eq_getElem?_getD, List.getElem?_append_right (by rw [← HL.out]; exact Nat.le_refl _), ← HL.out, HX.out]
                simp
              · rw [World.cell?_setCell_other (h := by intro e; injection e with e1 e2; omega)]
                rw [E.out, List.getD_eq_getElem?_getD, List.getElem?_append_left (by rw [← HL.out]; omega), ← List.getD_eq_getElem?_getD]
                exact LO.out t (by rw [← HL.out]; omega)
            · rw [el] at ht1
              rw [World.cell?_setCell_other (h := by intro e; injection e with e1 e2; omega)]
              have := HH.out t (by rw [← HL.out]; omega) ht2
              exact ⟨fun h => this.1 (by omega), this.2⟩
          case measure => simp [intOf]; omega
        | false =>
          rw [hp] at HM
          have E := Lib.hid (kept_no (p := p) (z := z) (k := q) (by rw [← hx]; exact hp))
          clear hp hx
          go_wp2_with fail
          refine HM.out.mono ?_
          rintro e w2 ⟨rfl, rfl⟩
          go_wp2_with fail
          go_roundw
          case rel =>
            refine ⟨q + 1, by omega, by omega, by go_num, by rw [E.out, ← HL.out], BT.out, fun t ht => ?_, fun t ht1 ht2 => ?_⟩
            · rw [E.out] at ht ⊢; exact LO.out t ht
            · rw [E.out] at ht1
              have := HH.out t ht1 ht2
              exact ⟨fun h => this.1 (by omega), this.2⟩
          case measure => simp [intOf]; omega
      · obtain rfl : q = n := by omega
        have hcs : ∀ j, j < q - l → (wr.cell? ⟨b, off + l + j, none⟩).isSome = true := fun j hj => by
          obtain ⟨y, hy⟩ := (HH.out (l + j) (by rw [← HL.out]; omega) (by omega)).2
          rw [show off + l + j = off + (l + j) by omega, hy]; rfl
        have hfs : ∀ j, j < q - l → wr.frozen? ⟨b, off + l + j, none⟩ = false := fun j hj => by
          rw [show off + l + j = off + (l + j) by omega]
          exact (BT.out.frz _).trans (HF.out _ (by omega))
        have hclr : ∀ ty, (Builtin.clear_ #[32] ty #[.slice (some ⟨b, off + l, none⟩) (q - l) (cap - l)]).run Try.prog wr = .ok (.tuple #[]) (wr.setCells b (off + l) (List.replicate (q - l) (.int .i64 0))) := fun ty =>
          Lib.run_clear_slice wr 32 2 ty (.int .i64 0) Try.underlying32 (fun _ => by kernel_rfl) rfl rfl b (off + l) (q - l) (cap - l) (by omega) hcs hfs
        have hlni : (l : Int) ≤ (q : Int) := by omega
        have hlnc : (l : Int) ≤ (cap : Int) := by omega
        have hlt' : l < q := by omega
        have HBT := Lib.hid (show Bt b w (wr.setCells b (off + l) (List.replicate (q - l) (.int .i64 0))) from
          ⟨Lib.below_setCells b (Nat.le_refl _) _ _ BT.out.below, by rw [setCells_size]; exact BT.out.size, fun p => by rw [World.frozen?_setCells]; exact BT.out.frz p, fun p hp => by rw [World.cell?_setCells_out b _ _ _ _ (fun e => absurd e hp)]; exact BT.out.cell p hp⟩)
        have HCL2 := Lib.hid (show ∀ i, i < l → (wr.setCells b (off + l) (List.replicate (q - l) (.int .i64 0))).cell? ⟨b, off + i, none⟩ = some (.int .i64 ((kept p z q).getD i 0)) from fun i hi => by
          rw [World.cell?_setCells_out b _ _ _ _ (fun _ _ => Or.inl (by show off + i < off + l; omega))]
          exact LO.out i (by rw [← HL.out]; exact hi))
        clear hcs hfs hbt hl
        go_wp2_with fail
        go_ret
        exact ⟨ret_sl1 HL.out, HBT.out, fun i hi => HCL2.out i (by rw [HL.out]; exact hi)⟩
end Go.Proofs.Ytofoffdmhekceaa.Del
