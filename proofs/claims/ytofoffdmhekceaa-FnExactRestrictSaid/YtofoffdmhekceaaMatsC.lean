
/-
  Slices of slices of numbers: what the laws' copy, comparison and count of them return. Condition: at most 1048576 lists of at most 1048576 numbers.
-/
import Derived.Test.YtofoffdmhekceaaMats
import Derived.Test.YtofoffdmhekceaaOnH
import Derived.Deep.QuietTactic
import Derived.BigQuiet
import Derived.IntWalk
namespace Go.Proofs.Ytofoffdmhekceaa.Mats
open Go.RowKit

theorem infoS : (Try.prog.info? 32).map (fun i => (i.zero, i.size, i.bytes)) = some (some (.slice none 0 0), 1, 24) := by kernel_rfl
/-- The value v is a slice of slices that reads as the lists zss, all of it in memory from block B on, none of it frozen; the outer row lies in a block that no inner one lies in. -/
def Own (B : Nat) (w : World) (v : Value) (zss : List (List Int)) : Prop :=
  ∃ a cap, v = .slice a zss.length cap ∧ (0 < zss.length → ∃ b off, a = some ⟨b, off, none⟩ ∧ B ≤ b ∧ b < w.heap.size ∧ ∀ i, i < zss.length → w.frozen? ⟨b, off + i, none⟩ = false ∧ ∃ u, w.cell? ⟨b, off + i, none⟩ = some u ∧ Ints.Own B w u (zss.getD i []))
theorem Own.rows {B : Nat} {w : World} {v : Value} {zss : List (List Int)} (h : Own B w v zss) : Rows w v zss := by
  obtain ⟨a, cap, hv, hc⟩ := h
  refine ⟨a, cap, hv, fun h0 => ?_⟩
  obtain ⟨b, off, ha, _, hlt, hcell⟩ := hc h0
  exact ⟨b, off, ha, hlt, fun i hi => by obtain ⟨_, u, hu, hz⟩ := hcell i hi; exact ⟨u, hu, hz.ints⟩⟩
theorem Own.below {B : Nat} {w w' : World} {v : Value} {zss : List (List Int)} (h : Own B w v zss) (hb : On w w') : Own B w' v zss := by
  obtain ⟨a, cap, hv, hc⟩ := h
  refine ⟨a, cap, hv, fun h0 => ?_⟩
  obtain ⟨b, off, ha, hB, hlt, hcell⟩ := hc h0
  refine ⟨b, off, ha, hB, hb.lts _ hlt, fun i hi => ?_⟩
  obtain ⟨hf, u, hu, hz⟩ := hcell i hi
  exact ⟨(hb.frozen (by exact hlt)).trans hf, u, (hb.cell (by exact hlt)).trans hu, hz.below hb⟩
theorem Own.mono {B B' : Nat} {w : World} {v : Value} {zss : List (List Int)} (h : Own B w v zss) (hb : B' ≤ B) : Own B' w v zss := by
  obtain ⟨a, cap, hv, hc⟩ := h
  refine ⟨a, cap, hv, fun h0 => ?_⟩
  obtain ⟨b, off, ha, hB, hlt, hcell⟩ := hc h0
  refine ⟨b, off, ha, by omega, hlt, fun i hi => ?_⟩
  obtain ⟨hf, u, hu, hz⟩ := hcell i hi
  exact ⟨hf, u, hu, hz.mono hb⟩
theorem snoc_at (us : List Value) (v d : Value) (i : Nat) : (us ++ [v]).getD i d = if i = us.length then v else us.getD i d := by
  by_cases h : i = us.length
  · subst h; simp
  · rw [if_neg h]
    by_cases h2 : i < us.length
    · simp [List.getD_eq_getElem?_getD, List.getElem?_append_left h2]
    · rw [List.getD_eq_getElem?_getD, List.getD_eq_getElem?_getD, List.getElem?_append_right (show us.length ≤ i by omega), List.getElem?_eq_none (by simp; omega), List.getElem?_eq_none (by omega)]
set_option maxHeartbeats 2000000 in
theorem copy_some (b off cap : Nat) (zss : List (List Int)) (w : World) (hn : zss.length ≤ 1048576) (hr : ∀ i, i < zss.length → (zss.getD i []).length ≤ 1048576) (hlt : b < w.heap.size)
    (hcell : ∀ i, i < zss.length → ∃ u, w.cell? ⟨b, off + i, none⟩ = some u ∧ Ints.Ints w u (zss.getD i [])) :
    Calls Try.prog 37 #[.slice (some ⟨b, off, none⟩) zss.length cap] w fun e w' => ∃ a cap, e = .returned (.slice a zss.length cap) ∧ Own w.heap.size w' (.slice a zss.length cap) zss ∧ On w w' := by
  have hmk := fun w => run_make_row' (P := Try.prog) 22 32 (.slice none 0 0) 24 Try.underlying22 infoS rfl .i64 .i64 zss.length (by omega) (by omega) w
  have HC := Lib.hid hcell
  have HR := Lib.hid hr
  clear hcell hr
  go_enter Try.func37, Try.ntmps37
  go_wp2_with fail
  clear hmk
  go_loopw [4] (fun i wr => ∃ (k : Nat) (us : List Value), k ≤ zss.length ∧ us.length = k ∧ i = .int .i64 k ∧ wr.rowIs w.heap.size 32 zss.length (fun j => us.getD j (.slice none 0 0)) ∧ (∀ j, j < k → Ints.Own (w.heap.size + 1) wr (us.getD j (.slice none 0 0)) (zss.getD j [])) ∧ On w wr) (fun i _ => zss.length - (intOf i).toNat)
  case atStart =>
    refine ⟨0, [], Nat.zero_le _, rfl, rfl, ?_, fun j hj => absurd hj (by omega), On.alloc (On.refl _) _⟩
    exact (World.rowIs_made w (.slice none 0 0) zss.length _).congr fun i _ => by simp
  case round =>
    obtain ⟨k, us, hk, hus, rfl, hrow, hown, hb⟩ := hrel
    have HRW := Lib.hid hrow
    have HO := Lib.hid hown
    have HB := Lib.hid hb
    have HU := Lib.hid hus
    clear hrow hown hb hus
    by_cases hlt2 : k < zss.length
    · have hlti : (k : Int) < (zss.length : Int) := by omega
      obtain ⟨u, hu, hz⟩ := HC.out k hlt2
      have hz1 := Ints.Ints.below hz HB.out
      have hc1 : wr.cell? ⟨b, off + k, none⟩ = some u := (HB.out.cell (by exact hlt)).trans hu
      have HZ := Lib.hid hz1
      obtain ⟨a1, cap1, hu1, -⟩ := hz
      obtain ⟨n1, hn1⟩ : ∃ n, n = (zss.getD k []).length := ⟨_, rfl⟩
      rw [← hn1] at hu1
      subst hu1
      have hbr : b < wr.heap.size := HB.out.lts _ hlt
      have HN1 := Lib.hid hn1
      clear hz1 hu hn1
      go_wp2_with fail
      refine (Ints.copyOwn _ _ _ (HR.out k hlt2) HZ.out).mono ?_
      rintro e w1 ⟨v1, rfl, ho1, hb1⟩
      have ho1' := ho1
      obtain ⟨av, cv, hv1, -⟩ := ho1'
      obtain ⟨n2, hn2⟩ : ∃ n, n = (zss.getD k []).length := ⟨_, rfl⟩
      rw [← hn2] at hv1
      subst hv1
      clear hn2
      have hb1' : On wr w1 := hb1
      have hR1 := HRW.out.of_block (hb1.block _ HRW.out.lt)
      have HR1 := Lib.hid hR1
      have HO1 := Lib.hid (HB.out.trans hb1')
      have hsz := HB.out.size
      have hlt0 := HRW.out.lt
      have HV := Lib.hid (Ints.Own.mono (B' := w.heap.size + 1) ho1 (by omega))
      have HS := Lib.hid hb1'
      have d0 : w1.cell? ⟨w.heap.size, k, none⟩ = some (.slice none 0 0) := by
        have := hR1.cell (i := k) hlt2
        rw [show us.getD k (.slice none 0 0) = .slice none 0 0 by rw [List.getD_eq_getElem?_getD, List.getElem?_eq_none (by rw [HU.out]; exact Nat.le_refl _)]; rfl] at this
        exact this
      have f0 : w1.frozen? ⟨w.heap.size, k, none⟩ = false := hR1.frozen _
      clear hb1 hb1' hR1 ho1
      go_wp2_with fail
      go_roundw
      case rel =>
        refine ⟨k + 1, us ++ [.slice av n2 cv], by omega, by simp [HU.out], by go_num, (HR1.out.set k _).congr fun j hj => ?_, fun j hj => ?_, HO1.out.setCell (by exact Nat.le_refl _) _⟩
        · rw [snoc_at, HU.out]
        · rw [snoc_at, HU.out]
          by_cases h1 : j = k
          · subst h1; rw [if_pos rfl]; exact HV.out.setCell (by show w.heap.size < w.heap.size + 1; omega) _
          · rw [if_neg h1]; exact (Ints.Own.below (HO.out j (by omega)) HS.out).setCell (by show w.heap.size < w.heap.size + 1; omega) _
      case measure => simp [intOf]; omega
    · obtain rfl : k = zss.length := by omega
      have HF := Lib.hid (show Own w.heap.size wr (.slice (some ⟨w.heap.size, 0, none⟩) zss.length zss.length) zss from
        ⟨_, _, rfl, fun _ => ⟨_, 0, rfl, Nat.le_refl _, HRW.out.lt, fun i hi => ⟨HRW.out.frozen _, _, by rw [Nat.zero_add]; exact HRW.out.cell hi, (HO.out i hi).mono (Nat.le_succ _)⟩⟩⟩)
      go_wp2_with fail
      go_ret
      exact ⟨_, _, rfl, HF.out, HB.out⟩
theorem copy_none (a : Option Addr) (cap : Nat) (w : World) :
    Calls Try.prog 37 #[.slice a 0 cap] w fun e w' => ∃ a cap, e = .returned (.slice a 0 cap) ∧ Own w.heap.size w' (.slice a 0 cap) [] ∧ On w w' := by
  have hmk : ∀ w, (Instr.makeSlice 22 (.int .i64 0) (.int .i64 0)).run Try.prog w = .ok (.slice (some ⟨w.heap.size, 0, none⟩) 0 0) (w.alloc (.cells #[] 32)) := fun _ => by kernel_rfl
  go_enter Try.func37, Try.ntmps37
  go_wp2
  refine wp_loop_rounds 1 ?_
  rw [rounds_succ]
  go_wp2
  go_ret
  exact ⟨_, _, rfl, ⟨_, _, rfl, fun h => by simp at h⟩, (Below.refl _ _).alloc (Nat.le_refl _) _⟩
/-- The copy. -/
theorem copyS (v : Value) (zss : List (List Int)) (w : World) (hn : zss.length ≤ 1048576) (hr : ∀ i, i < zss.length → (zss.getD i []).length ≤ 1048576) (h : Rows w v zss) :
    Calls Try.prog 37 #[v] w fun e w' => ∃ a cap, e = .returned (.slice a zss.length cap) ∧ Own w.heap.size w' (.slice a zss.length cap) zss ∧ On w w' := by
  have h' := h
  obtain ⟨a, cap, rfl, -⟩ := h
  by_cases h0 : 0 < zss.length
  · obtain ⟨b, off, rfl, hlt, hcell⟩ := slice_of h' h0
    exact copy_some b off cap zss w hn hr hlt hcell
  · have : zss = [] := List.eq_nil_of_length_eq_zero (by omega)
    subst this
    exact copy_none a cap w

set_option maxHeartbeats 2000000 in
theorem eq_some (b off cap b2 off2 cap2 : Nat) (zss : List (List Int)) (w : World) (hn : zss.length ≤ 1048576) (hr : ∀ i, i < zss.length → (zss.getD i []).length ≤ 1048576) (hl1 : b < w.heap.size) (hl2 : b2 < w.heap.size)
    (hcell : ∀ i, i < zss.length → ∃ u, w.cell? ⟨b, off + i, none⟩ = some u ∧ Ints.Ints w u (zss.getD i []))
    (hcell2 : ∀ i, i < zss.length → ∃ u, w.cell? ⟨b2, off2 + i, none⟩ = some u ∧ Ints.Ints w u (zss.getD i [])) :
    Calls Try.prog 23 #[.slice (some ⟨b, off, none⟩) zss.length cap, .slice (some ⟨b2, off2, none⟩) zss.length cap2] w fun e w' => e = .returned (.bool true) ∧ On w w' := by
  have HC := Lib.hid hcell
  have HC2 := Lib.hid hcell2
  have HR := Lib.hid hr
  clear hcell hcell2 hr
  go_enter Try.func23, Try.ntmps23
  go_wp2_with fail
  go_loopw [5] (fun i wr => ∃ k : Nat, k ≤ zss.length ∧ i = .int .i64 k ∧ On w wr) (fun i _ => zss.length - (intOf i).toNat)
  case atStart => exact ⟨0, Nat.zero_le _, rfl, On.refl _⟩
  case round =>
    obtain ⟨k, hk, rfl, ho⟩ := hrel
    have HB := Lib.hid ho
    by_cases hlt2 : k < zss.length
    · have hlti : (k : Int) < (zss.length : Int) := by omega
      obtain ⟨u, hu, hz⟩ := HC.out k hlt2
      obtain ⟨u2, hu2, hz2⟩ := HC2.out k hlt2
      have c0 : wr.cell? ⟨b, off + k, none⟩ = some u := (HB.out.cell (by exact hl1)).trans hu
      have c1 : wr.cell? ⟨b2, off2 + k, none⟩ = some u2 := (HB.out.cell (by exact hl2)).trans hu2
      have g1 := ho.lts _ hl1
      have g2 := ho.lts _ hl2
      have HE := Lib.hid (fun w' (h : On wr w') => Ints.eq u u2 _ w' (HR.out k hlt2) (hz.below (HB.out.trans h)) (hz2.below (HB.out.trans h)))
      obtain ⟨a1, cap1, hu1, -⟩ := hz
      obtain ⟨a2, cap2', hu12, -⟩ := hz2
      obtain ⟨n1, hn1⟩ : ∃ n, n = (zss.getD k []).length := ⟨_, rfl⟩
      rw [← hn1] at hu1 hu12
      subst hu1 hu12
      clear hn1 hu hu2 ho
      go_wp2_with fail
      refine wp_region_onh (by kernel_rfl) (by kernel_rfl) ?_
      repeat (refine rest_step (fun K hK => ?_); go_simp; first | (refine hK _ ?_; clear hK K) | (apply Exists.intro; refine ⟨fun v1 hv1 => ?_, hK _ ?_⟩; (first | with_reducible exact rfl | with_reducible exact ⟨rfl, rfl⟩ | with_reducible exact Calls.on_drew hv1 (HE.out _ hv1) | (obtain ⟨hc, hf⟩ := bcell hv1; go_simp; first | with_reducible exact rfl | with_reducible exact ⟨rfl, rfl⟩ | exact rfl | exact ⟨rfl, rfl⟩)); clear hK K))
      refine rest_nil ?_
      intro w1 h1
      have HO1 := Lib.hid (HB.out.trans h1)
      clear h1
      go_wp2_with fail
      go_roundw
      case rel => exact ⟨k + 1, by omega, by go_num, HO1.out⟩
      case measure => simp [intOf]; omega
    · go_wp2_with fail
      go_ret
      exact ⟨rfl, HB.out⟩
theorem eq_none (a a2 : Option Addr) (cap cap2 : Nat) (w : World) :
    Calls Try.prog 23 #[.slice a 0 cap, .slice a2 0 cap2] w fun e w' => e = .returned (.bool true) ∧ On w w' := by
  go_enter Try.func23, Try.ntmps23
  go_wp2
  refine wp_loop_rounds 1 ?_
  rw [rounds_succ]
  go_wp2
  go_ret
  exact ⟨rfl, On.refl _⟩
/-- The comparison of two that read alike. -/
theorem eqS (v v2 : Value) (zss : List (List Int)) (w : World) (hn : zss.length ≤ 1048576) (hr : ∀ i, i < zss.length → (zss.getD i []).length ≤ 1048576) (h : Rows w v zss) (h2 : Rows w v2 zss) :
    Calls Try.prog 23 #[v, v2] w fun e w' => e = .returned (.bool true) ∧ On w w' := by
  have h' := h
  have h2' := h2
  obtain ⟨a, cap, rfl, -⟩ := h
  obtain ⟨a2, cap2, rfl, -⟩ := h2
  by_cases h0 : 0 < zss.length
  · obtain ⟨b, off, rfl, hlt, hcell⟩ := slice_of h' h0
    obtain ⟨b2, off2, rfl, hlt2, hcell2⟩ := slice_of h2' h0
    exact eq_some b off cap b2 off2 cap2 zss w hn hr hlt hlt2 hcell hcell2
  · have : zss = [] := List.eq_nil_of_length_eq_zero (by omega)
    subst this
    exact eq_none a a2 cap cap2 w

def rest (left len : Nat) : Int := if len ≤ left then (left : Int) - len else -1
theorem rest_yes {left len : Nat} (h : len ≤ left) : rest left len = ((left - len : Nat) : Int) := by unfold rest; rw [if_pos h]; omega
theorem rest_no {left len : Nat} (h : ¬ len ≤ left) : rest left len = -1 := if_neg h
theorem szInts (left len : Nat) (a : Option Addr) (cap : Nat) (w : World) (h : left ≤ 1048576) (hl : len ≤ maxLen) :
    Calls Try.prog 66 #[.slice a len cap, .int .i64 left] w fun e w' => e = .returned (.int .i64 (rest left len)) ∧ w = w' := by
  unfold maxLen at hl
  by_cases hle : len ≤ left
  · have en := Lib.hid (show (left : Int) - (len : Int) = rest left len by rw [rest_yes hle]; omega)
    have h0 : ¬ (left : Int) - (len : Int) < 0 := by omega
    go_enter Try.func66, Try.ntmps66
    go_wp2_with fail
    go_ret
    exact ⟨ret_int en.out, rfl⟩
  · have en := Lib.hid (show (-1 : Int) = rest left len from (rest_no hle).symm)
    have h0 : (left : Int) - (len : Int) < 0 := by omega
    go_enter Try.func66, Try.ntmps66
    go_wp2_with fail
    go_ret
    exact ⟨ret_int en.out, rfl⟩
set_option maxHeartbeats 4000000 in
/-- The count, from whatever is left. -/
theorem szFrom (m0 : Nat) (v : Value) (zss : List (List Int)) (w : World) (hm0 : m0 ≤ 1048576) (hm : zss.length ≤ maxLen) (hall : ∀ i, i < zss.length → (zss.getD i []).length ≤ maxLen) (h : Rows w v zss) :
    Calls Try.prog 35 #[v, .int .i64 m0] w fun e w' => ∃ r : Int, e = .returned (.int .i64 r) ∧ On w w' ∧ (r < 0 ∨ (0 ≤ r ∧ r ≤ 1048576 ∧ zss.length ≤ 1048576 ∧ ∀ i, i < zss.length → (zss.getD i []).length ≤ 1048576)) := by
  unfold maxLen at hm
  have HALL := Lib.hid hall
  clear hall
  have h' := h
  obtain ⟨a, cap, rfl, -⟩ := h
  by_cases hle : zss.length ≤ m0
  · obtain ⟨m, hmd⟩ : ∃ m, m = m0 - zss.length := ⟨_, rfl⟩
    have g0 : ¬ (m0 : Int) - (zss.length : Int) < 0 := by omega
    have g1 : (m0 : Int) - (zss.length : Int) = (m : Int) := by omega
    have g2 : ¬ (m : Int) < 0 := by omega
    have hmb : m ≤ 1048576 := by omega
    by_cases h0 : 0 < zss.length
    · obtain ⟨b, off, rfl, hlt, hcell⟩ := slice_of h' h0
      have HC := Lib.hid hcell
      clear hcell h' hmd h0
      go_enter Try.func35, Try.ntmps35
      go_wp2_with fail
      go_loopw [1, 5] (fun u i wr => ∃ k c : Nat, k ≤ zss.length ∧ i = .int .i64 k ∧ u = .int .i64 c ∧ c ≤ 1048576 ∧ (∀ j, j < k → (zss.getD j []).length ≤ 1048576) ∧ On w wr) (fun _ i _ => zss.length - (intOf i).toNat)
      case atStart => exact ⟨0, m, Nat.zero_le _, rfl, rfl, hmb, fun j h => by omega, On.refl _⟩
      case round =>
        obtain ⟨k, c, hk, rfl, rfl, hc, hpre, ho⟩ := hrel
        have HB := Lib.hid ho
        have HPRE := Lib.hid hpre
        clear hpre
        by_cases hlt2 : k < zss.length
        · have hlti : (k : Int) < (zss.length : Int) := by omega
          obtain ⟨u, hu, hz⟩ := HC.out k hlt2
          have c0 : wr.cell? ⟨b, off + k, none⟩ = some u := (HB.out.cell (by exact hlt)).trans hu
          have g3 := ho.lts _ hlt
          obtain ⟨n1, hn1⟩ : ∃ n, n = (zss.getD k []).length := ⟨_, rfl⟩
          have hx := HALL.out k hlt2
          obtain ⟨a1, cap1, hu1, -⟩ := hz
          rw [← hn1] at hu1 hx
          subst hu1
          by_cases hr0 : n1 ≤ c
          · have HCN := Lib.hid (fun w => show Calls Try.prog 66 #[.slice a1 n1 cap1, .int .i64 c] w fun e w' => e = .returned (.int .i64 ((c - n1 : Nat) : Int)) ∧ w = w' from by have := szInts c n1 a1 cap1 w hc hx; rw [rest_yes hr0] at this; exact this)
            obtain ⟨d, hd⟩ : ∃ d : Nat, d = c - n1 := ⟨_, rfl⟩
            rw [← hd] at HCN
            have g4 : ¬ (d : Int) < 0 := by omega
            have hd2 : d ≤ 1048576 := by omega
            have HPRE2 := Lib.hid (fun j (hj : j < k + 1) => show (zss.getD j []).length ≤ 1048576 by
              by_cases g : j = k
              · subst g; rw [← hn1]; omega
              · exact HPRE.out j (by omega))
            clear hn1 hd hu ho
            go_wp2_with fail
            refine (HCN.out _).mono ?_
            rintro e w1 ⟨rfl, rfl⟩
            go_wp2_with fail
            go_roundw
            case rel => exact ⟨k + 1, d, by omega, by go_num, rfl, hd2, HPRE2.out, HB.out⟩
            case measure => simp [intOf]; omega
          · have HCN := Lib.hid (fun w => show Calls Try.prog 66 #[.slice a1 n1 cap1, .int .i64 c] w fun e w' => e = .returned (.int .i64 (-1)) ∧ w = w' from by have := szInts c n1 a1 cap1 w hc hx; rw [rest_no hr0] at this; exact this)
            clear hn1 hu ho
            go_wp2_with fail
            refine (HCN.out _).mono ?_
            rintro e w1 ⟨rfl, rfl⟩
            go_wp2_with fail
            go_ret
            exact ⟨-1, rfl, HB.out, .inl (by decide)⟩
        · obtain rfl : k = zss.length := by omega
          have hn3 : zss.length ≤ 1048576 := by omega
          go_wp2_with fail
          go_ret
          exact ⟨_, rfl, HB.out, .inr ⟨by omega, by omega, hn3, HPRE.out⟩⟩
    · have : zss = [] := List.eq_nil_of_length_eq_zero (by omega)
      subst this
      clear hmd g1 g0 HALL hm hle h0
      have g5 : ¬ (m0 : Int) < 0 := by omega
      go_enter Try.func35, Try.ntmps35
      go_wp2
      refine wp_loop_rounds 1 ?_
      rw [rounds_succ]
      go_wp2
      go_ret
      exact ⟨_, rfl, On.refl _, .inr ⟨by omega, by omega, by simp, fun i hi => by simp at hi⟩⟩
  · have g0 : (m0 : Int) - (zss.length : Int) < 0 := by omega
    go_enter Try.func35, Try.ntmps35
    go_wp2_with fail
    go_ret
    exact ⟨-1, rfl, On.refl _, .inl (by decide)⟩
end Go.Proofs.Ytofoffdmhekceaa.Mats

