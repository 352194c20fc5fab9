
/-
  The height at a point of a terrain, whole, in the model and in the program. Conditions: each theorem's own.
-/
import Derived.Test.YtcdmijldkmmgmabTerrHI
import Derived.Test.YtcdmijldkmmgmabFit
namespace Go.Proofs.Ytcdmijldkmmgmab.Terr
open Go.RowKit
open Plain
open Ints (Ints Own)

/-- The height that is returned. -/
def hgtV (s x y : Int) (zs cs : List Int) (px py : Int) : Int := if atC s x y zs cs px py = 0 then hgt s x y zs px py else 0
set_option maxHeartbeats 2000000 in
theorem valueAt_heightOf (s x y px py : Int) (a b : Option Addr) (n cap m dap : Nat) (zs cs : List Int) (w : World) (hzn : zs.length = n) (hcm : cs.length = m) (hn : n ≤ 1048576) (hm : m ≤ 1048576) (h : Ints w (.slice a n cap) zs) (k : Ints w (.slice b m dap) cs) (val : Int) (hv : atC s x y zs cs px py ≠ 0 → val = 0)
    (hK : atC s x y zs cs px py = 0 → ∀ w', On w w' → Calls Try.prog 49 #[.agg #[.int .i64 s, .int .i64 x, .int .i64 y, .slice a n cap, .slice b m dap], .agg #[.int .i64 px, .int .i64 py]] w' fun e w'' => e = .returned (.int .i64 val) ∧ On w' w'') :
    Calls Try.prog 48 #[.agg #[.int .i64 s, .int .i64 x, .int .i64 y, .slice a n cap, .slice b m dap], .agg #[.int .i64 px, .int .i64 py], .func (Fn.func 49) #[.agg #[.int .i64 s, .int .i64 x, .int .i64 y, .slice a n cap, .slice b m dap]] #[]] w fun e w' => e = .returned (.tuple #[.int .i64 val, .int .i64 (atC s x y zs cs px py)]) ∧ On w w' := by
  have HV := Lib.hid (fun w' (hb : On w w') => impl_validT s x y a b n cap m dap zs cs w' hzn hcm hn hm (h.below hb) (k.below hb))
  clear h k
  cases ho : okT s x y zs cs with
  | false =>
    have hc := at_no (px := px) (py := py) ho
    have en := Lib.hid (hv (by omega))
    have HC := Lib.hid hc
    clear hc hv hK
    go_enter Try.func48, Try.ntmps48
    go_wp2_with fail
    refine (HV.out _ (by repeat (first | with_reducible exact On.refl _ | with_reducible exact Below.refl _ _ | apply On.alloc))).mono ?_
    rintro e w1 ⟨rfl, h1⟩
    go_wp2_with fail
    go_ret2
    exact ⟨ret_ii en.out.symm HC.out.symm, by repeat (first | with_reducible exact On.refl _ | apply On.alloc | refine On.trans ?_ h1)⟩
  | true =>
    obtain ⟨hs, -⟩ := of_okT ho
    obtain ⟨⟨s0, s1⟩, ⟨x0, x1⟩, ⟨y0, y1⟩, -, -⟩ := of_size hs
    have HG := Lib.hid (fun w => impl_grid s x y a b n cap m dap w)
    have HI := Lib.hid (fun w => impl_contains s x y px py w s0 s1 x0 x1 y0 y1)
    cases hi : inT s x y px py with
    | false =>
      have hc := at_far ho hi
      have en := Lib.hid (hv (by omega))
      have HC := Lib.hid hc
      clear hc hv hK hs
      go_enter Try.func48, Try.ntmps48
      go_wp2_with fail
      refine (HV.out _ (by repeat (first | with_reducible exact On.refl _ | with_reducible exact Below.refl _ _ | apply On.alloc))).mono ?_
      rintro e w1 ⟨rfl, h1⟩
      obtain ⟨hc1, hf1⟩ := bcell h1
      obtain ⟨y1', y2'⟩ : w.heap.size < w1.heap.size ∧ w.heap.size + 1 < w1.heap.size := by have := h1.size; simp at this; omega
      go_wp2_with fail
      refine wp_region_onh (by kernel_rfl) (by kernel_rfl) ?_
      repeat (refine rest_step (fun K hK => ?_); go_simp; first | (refine hK _ ?_; clear hK K) | (apply Exists.intro; refine ⟨fun v1 hv1 => ?_, hK _ ?_⟩; (first | with_reducible exact rfl | with_reducible exact ⟨rfl, rfl⟩ | with_reducible exact Calls.on hv1 (HG.out _) | with_reducible exact Calls.on hv1 (HI.out _) | (obtain ⟨hc, hf⟩ := bcell hv1; go_simp; first | with_reducible exact rfl | with_reducible exact ⟨rfl, rfl⟩ | exact rfl | exact ⟨rfl, rfl⟩)); clear hK K))
      refine rest_nil ?_
      intro w2 h2
      go_wp2_with fail
      go_ret2
      exact ⟨ret_ii en.out.symm HC.out.symm, by repeat (first | with_reducible exact On.refl _ | apply On.alloc | refine On.trans ?_ h2 | refine On.trans ?_ h1)⟩
    | true =>
      have hc := at_ok ho hi
      have HC := Lib.hid hc
      have HK := Lib.hid (hK hc)
      clear hc hv hK hs
      go_enter Try.func48, Try.ntmps48
      go_wp2_with fail
      refine (HV.out _ (by repeat (first | with_reducible exact On.refl _ | with_reducible exact Below.refl _ _ | apply On.alloc))).mono ?_
      rintro e w1 ⟨rfl, h1⟩
      obtain ⟨hc1, hf1⟩ := bcell h1
      obtain ⟨y1', y2'⟩ : w.heap.size < w1.heap.size ∧ w.heap.size + 1 < w1.heap.size := by have := h1.size; simp at this; omega
      have hO1 : On w w1 := by repeat (first | with_reducible exact On.refl _ | apply On.alloc | refine On.trans ?_ h1)
      go_wp2_with fail
      refine wp_region_onh (by kernel_rfl) (by kernel_rfl) ?_
      repeat (refine rest_step (fun K hK => ?_); go_simp; first | (refine hK _ ?_; clear hK K) | (apply Exists.intro; refine ⟨fun v1 hv1 => ?_, hK _ ?_⟩; (first | with_reducible exact rfl | with_reducible exact ⟨rfl, rfl⟩ | with_reducible exact Calls.on hv1 (HG.out _) | with_reducible exact Calls.on hv1 (HI.out _) | (obtain ⟨hc, hf⟩ := bcell hv1; go_simp; first | with_reducible exact rfl | with_reducible exact ⟨rfl, rfl⟩ | exact rfl | exact ⟨rfl, rfl⟩)); clear hK K))
      refine rest_nil ?_
      intro w2 h2
      obtain ⟨hc2, hf2⟩ := bcell h2
      obtain ⟨y3', y4'⟩ : w.heap.size < w2.heap.size ∧ w.heap.size + 1 < w2.heap.size := by have := h2.size; omega
      have hO2 : On w w2 := hO1.trans h2
      go_wp2_with fail
      refine (HK.out _ hO2).mono ?_
      rintro e w3 ⟨rfl, h3⟩
      go_wp2_with fail
      go_ret2
      exact ⟨ret_ii rfl HC.out.symm, hO2.trans h3⟩
set_option maxHeartbeats 2000000 in
theorem impl_heightAt (s x y px py : Int) (a b : Option Addr) (n cap m dap : Nat) (zs cs : List Int) (w : World) (hzn : zs.length = n) (hcm : cs.length = m) (hn : n ≤ 1048576) (hm : m ≤ 1048576) (hcap : n ≤ cap) (h : Ints w (.slice a n cap) zs) (k : Ints w (.slice b m dap) cs) :
    Calls Try.prog 20 #[.agg #[.int .i64 s, .int .i64 x, .int .i64 y, .slice a n cap, .slice b m dap], .agg #[.int .i64 px, .int .i64 py]] w fun e w' => e = .returned (.tuple #[.int .i64 (hgtV s x y zs cs px py), .int .i64 (atC s x y zs cs px py)]) ∧ On w w' := by
  have HV := Lib.hid (fun w' (hb : On w w') => valueAt_heightOf s x y px py a b n cap m dap zs cs w' hzn hcm hn hm (h.below hb) (k.below hb) (hgtV s x y zs cs px py) (fun hc => if_neg hc) (fun hc w'' hb' => by
    obtain ⟨hi, ⟨s0, s1⟩, ⟨x0, x1⟩, ⟨y0, y1⟩, hnn, -, n0, -, hg⟩ := at_cells hzn hcm hc
    obtain ⟨bz, oz, rfl, hlt, hcell⟩ := slice_of h hzn n0
    obtain ⟨I, K, A, X, u, v, h0, h1, h2, h3, sp⟩ := spot s0 s1 x0 x1 y0 y1 hi hnn hg
    have hp5 := prod_n x0 x1 y0 y1
    rw [show hgtV s x y zs cs px py = hgt s x y zs px py from if_pos hc]
    exact impl_heightOf bz oz n cap I K A X m dap b s x y px py u v h0 h1 h2 h3 zs w'' sp (hb'.lts _ (hb.lts _ hlt)) (fun i hi' => ((hb.trans hb').cell (p := ⟨bz, oz + i, none⟩) (by exact hlt)).trans (hcell i hi')) (by omega) hnn hcap s0 s1 x0 x1 y0 y1 hi))
  clear h k
  go_enter Try.func20, Try.ntmps20
  go_wp2_with fail
  refine (HV.out _ (by repeat (first | with_reducible exact On.refl _ | with_reducible exact Below.refl _ _ | apply On.alloc))).mono ?_
  rintro e w1 ⟨rfl, h1⟩
  go_wp2_with fail
  go_ret2
  exact ⟨rfl, by repeat (first | with_reducible exact On.refl _ | apply On.alloc | refine On.trans ?_ h1)⟩
set_option maxHeartbeats 2000000 in
theorem spec_heightAt (s x y px py : Int) (a b : Option Addr) (n cap m dap : Nat) (zs cs : List Int) (w : World) (hzn : zs.length = n) (hcm : cs.length = m) (hn : n ≤ 1048576) (hm : m ≤ 1048576) (h : Ints w (.slice a n cap) zs) (k : Ints w (.slice b m dap) cs) :
    Calls Try.prog 19 #[.agg #[.int .i64 s, .int .i64 x, .int .i64 y, .slice a n cap, .slice b m dap], .agg #[.int .i64 px, .int .i64 py]] w fun e w' => e = .returned (.tuple #[.int .i64 (hgtV s x y zs cs px py), .int .i64 (atC s x y zs cs px py)]) ∧ On w w' := by
  have HO := Lib.hid (fun w' (hb : On w w') hp => spec_okT w.heap.size n cap m dap s x y a b zs cs w' hzn hcm hn hm hp (h.below hb) (k.below hb))
  cases ho : okT s x y zs cs with
  | false =>
    have hc := at_no (px := px) (py := py) ho
    have en := Lib.hid (show hgtV s x y zs cs px py = 0 from if_neg (by omega))
    have HC := Lib.hid hc
    clear hc h k
    go_enter Try.func19, Try.ntmps19
    go_wp2_with fail
    refine (HO.out _ (by repeat (first | with_reducible exact On.refl _ | with_reducible exact Below.refl _ _ | apply On.alloc)) ⟨by simp [go_sem], by simp [go_sem], by simp [go_sem], by simp [go_sem], by simp [go_sem]⟩).mono ?_
    rintro e w1 ⟨rfl, h1⟩
    go_wp2_with fail
    go_ret2
    exact ⟨ret_ii en.out.symm HC.out.symm, by repeat (first | with_reducible exact On.refl _ | apply On.alloc | refine On.trans ?_ h1)⟩
  | true =>
    obtain ⟨hs, -⟩ := of_okT ho
    obtain ⟨⟨s0, s1⟩, ⟨x0, x1⟩, ⟨y0, y1⟩, -, -⟩ := of_size hs
    have HI := Lib.hid (fun w' hp => spec_in w.heap.size s x y px py (.slice a n cap) (.slice b m dap) w' hp s0 s1 x0 x1 y0 y1)
    cases hi : inT s x y px py with
    | false =>
      have hc := at_far ho hi
      have en := Lib.hid (show hgtV s x y zs cs px py = 0 from if_neg (by omega))
      have HC := Lib.hid hc
      clear hc h k hs
      go_enter Try.func19, Try.ntmps19
      go_wp2_with fail
      refine (HO.out _ (by repeat (first | with_reducible exact On.refl _ | with_reducible exact Below.refl _ _ | apply On.alloc)) ⟨by simp [go_sem], by simp [go_sem], by simp [go_sem], by simp [go_sem], by simp [go_sem]⟩).mono ?_
      rintro e w1 ⟨rfl, h1⟩
      have HT := Lib.hid (show TIn w1 w.heap.size s x y (.slice a n cap) (.slice b m dap) from TIn.on ⟨by simp [go_sem], by simp [go_sem], by simp [go_sem], by simp [go_sem], by simp [go_sem]⟩ h1)
      have r0 : w1.cell? ⟨w.heap.size + 1, 0, none⟩ = some (.int .i64 px) := (h1.cell (by simp)).trans (by simp [go_sem])
      have r1 : w1.cell? ⟨w.heap.size + 1, 1, none⟩ = some (.int .i64 py) := (h1.cell (by simp)).trans (by simp [go_sem])
      go_wp2_with fail
      refine (HI.out _ HT.out).mono ?_
      rintro e w2 ⟨rfl, h2⟩
      go_wp2_with fail
      go_ret2
      exact ⟨ret_ii en.out.symm HC.out.symm, by repeat (first | with_reducible exact On.refl _ | apply On.alloc | refine On.trans ?_ h2 | refine On.trans ?_ h1)⟩
    | true =>
      have hc := at_ok ho hi
      obtain ⟨-, -, -, -, hnn, -, n0, -, hg⟩ := at_cells hzn hcm hc
      obtain ⟨bz, oz, rfl, hlt, hcell⟩ := slice_of h hzn n0
      obtain ⟨I, K, A, X, u, v, h0, h1, h2, h3, sp⟩ := spot s0 s1 x0 x1 y0 y1 hi hnn hg
      have hp5 := prod_n x0 x1 y0 y1
      have he : hgtV s x y zs cs px py = hgt s x y zs px py := if_pos hc
      have HV := Lib.hid (fun w' (hb : On w w') hp => spec_heightOf w.heap.size bz oz n cap I K A X s x y px py u v h0 h1 h2 h3 (.slice b m dap) zs w' sp hp (hb.lts _ hlt) (fun i hi' => (hb.cell (p := ⟨bz, oz + i, none⟩) (by exact hlt)).trans (hcell i hi')) (by omega) s0 s1 x0 x1 y0 y1 hi)
      have en := Lib.hid he
      have HC := Lib.hid hc
      clear hc h k hs he sp hg
      go_enter Try.func19, Try.ntmps19
      go_wp2_with fail
      refine (HO.out _ (by repeat (first | with_reducible exact On.refl _ | with_reducible exact Below.refl _ _ | apply On.alloc)) ⟨by simp [go_sem], by simp [go_sem], by simp [go_sem], by simp [go_sem], by simp [go_sem]⟩).mono ?_
      rintro e w1 ⟨rfl, h1⟩
      have HT := Lib.hid (show TIn w1 w.heap.size s x y (.slice (some ⟨bz, oz, none⟩) n cap) (.slice b m dap) from TIn.on ⟨by simp [go_sem], by simp [go_sem], by simp [go_sem], by simp [go_sem], by simp [go_sem]⟩ h1)
      have hO1 : On w w1 := by repeat (first | with_reducible exact On.refl _ | apply On.alloc | refine On.trans ?_ h1)
      have r0 : w1.cell? ⟨w.heap.size + 1, 0, none⟩ = some (.int .i64 px) := (h1.cell (by simp)).trans (by simp [go_sem])
      have r1 : w1.cell? ⟨w.heap.size + 1, 1, none⟩ = some (.int .i64 py) := (h1.cell (by simp)).trans (by simp [go_sem])
      go_wp2_with fail
      refine (HI.out _ HT.out).mono ?_
      rintro e w2 ⟨rfl, h2⟩
      have r2 := (h2.cell (p := ⟨w.heap.size + 1, 0, none⟩) (by exact World.block_lt_of_cell? w1 _ r0)).trans r0
      have r3 := (h2.cell (p := ⟨w.heap.size + 1, 1, none⟩) (by exact World.block_lt_of_cell? w1 _ r1)).trans r1
      go_wp2_with fail
      refine (HV.out _ (hO1.trans h2) (HT.out.on h2)).mono ?_
      rintro e w3 ⟨rfl, h3⟩
      go_wp2_with fail
      go_ret2
      exact ⟨ret_ii en.out.symm HC.out.symm, (hO1.trans h2).trans h3⟩
end Go.Proofs.Ytcdmijldkmmgmab.Terr
