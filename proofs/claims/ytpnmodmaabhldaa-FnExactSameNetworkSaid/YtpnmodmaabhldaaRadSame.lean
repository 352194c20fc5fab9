
/-
  Whether two radios are equal, in the model, in the program and in the library. Condition: at most 1048576 modes in each.
-/
import Derived.Test.YtpnmodmaabhldaaRadOk
import Derived.Deep.DeepCutAuto
import Derived.Deep.RegionWith
namespace Go.Proofs.Ytpnmodmaabhldaa.Rad
open Go.RowKit
open Plain
open Modes (Pairs)

def sameR (x0 : ByteArray) (x1 x2 x3 x4 : Int) (zs : List (Int × Int)) (y0 : ByteArray) (y1 y2 y3 y4 : Int) (ys : List (Int × Int)) : Bool := x0.toList == y0.toList && (x1 == y1 && (x2 == y2 && (x3 == y3 && (x4 == y4 && decide (zs = ys)))))
theorem cells_of {w : World} {a : Option Addr} {cap n : Nat} {zs : List (Int × Int)} (hn : zs.length = n) (h : Pairs w (.slice a n cap) zs) (h0 : 0 < n) : ∃ b off, a = some ⟨b, off, none⟩ ∧ b < w.heap.size ∧ ∀ k, k < n → w.cell? ⟨b, off + k * 2, none⟩ = some (.int .i64 (zs.getD k (0, 0)).1) ∧ w.cell? ⟨b, off + k * 2 + 1, none⟩ = some (.int .i64 (zs.getD k (0, 0)).2) := by
  subst hn
  exact Modes.slice_of h h0
theorem ne_of_at {zs ys : List (Int × Int)} {k : Nat} (h : zs.getD k (0, 0) ≠ ys.getD k (0, 0)) : decide (zs = ys) = false := decide_eq_false fun e => h (by rw [e])
theorem eq_of_all {zs ys : List (Int × Int)} {n : Nat} (hz : zs.length = n) (hy : ys.length = n) (h : ∀ j, j < n → zs.getD j (0, 0) = ys.getD j (0, 0)) : decide (zs = ys) = true := decide_eq_true (List.ext_getElem (by rw [hz, hy]) fun j h1 h2 => by
  have := h j (by rw [← hz]; exact h1)
  simpa [h1, h2] using this)
set_option maxHeartbeats 2000000 in
theorem lib_some (b off cap b2 off2 cap2 : Nat) (zs ys : List (Int × Int)) (w : World) (n : Nat) (hz : zs.length = n) (hy : ys.length = n) (hn : n ≤ 1048576) (hb : b < w.heap.size) (hb2 : b2 < w.heap.size) (hcell : ∀ k, k < n → w.cell? ⟨b, off + k * 2, none⟩ = some (.int .i64 (zs.getD k (0, 0)).1) ∧ w.cell? ⟨b, off + k * 2 + 1, none⟩ = some (.int .i64 (zs.getD k (0, 0)).2)) (hcell2 : ∀ k, k < n → w.cell? ⟨b2, off2 + k * 2, none⟩ = some (.int .i64 (ys.getD k (0, 0)).1) ∧ w.cell? ⟨b2, off2 + k * 2 + 1, none⟩ = some (.int .i64 (ys.getD k (0, 0)).2)) :
    Calls Try.prog 93 #[.slice (some ⟨b, off, none⟩) n cap, .slice (some ⟨b2, off2, none⟩) n cap2] w fun e w' => e = .returned (.bool (decide (zs = ys))) ∧ On w w' := by
  have HC := Lib.hid hcell
  have HC2 := Lib.hid hcell2
  have HZ := Lib.hid hz
  have HY := Lib.hid hy
  clear hcell hcell2 hz hy
  go_enter Try.func93, Try.ntmps93
  go_wp2_with fail
  go_loopw [13] (fun i wr => ∃ k : Nat, k ≤ n ∧ i = .int .i64 k ∧ (∀ j, j < k → zs.getD j (0, 0) = ys.getD j (0, 0)) ∧ On w wr) (fun i _ => n - (intOf i).toNat)
  case atStart => exact ⟨0, Nat.zero_le _, rfl, fun j h => by omega, (by repeat (first | with_reducible exact On.refl _ | apply On.alloc | apply On.drewN | apply On.drew))⟩
  case round =>
    obtain ⟨k, hk, rfl, hall, ho⟩ := hrel
    have HA := Lib.hid hall
    have HO := Lib.hid ho
    clear hall
    by_cases hlt : k < n
    · have hlti : (k : Int) < (n : Int) := by omega
      obtain ⟨x, hx⟩ : ∃ x, x = (zs.getD k (0, 0)).1 := ⟨_, rfl⟩
      obtain ⟨y, hy⟩ : ∃ y, y = (zs.getD k (0, 0)).2 := ⟨_, rfl⟩
      obtain ⟨u, hu⟩ : ∃ u, u = (ys.getD k (0, 0)).1 := ⟨_, rfl⟩
      obtain ⟨v, hv⟩ : ∃ v, v = (ys.getD k (0, 0)).2 := ⟨_, rfl⟩
      have hc1 : wr.cell? ⟨b, off + k * 2, none⟩ = some (.int .i64 x) := by rw [hx]; exact (ho.cell (by exact hb)).trans (HC.out k hlt).1
      have hc2 : wr.cell? ⟨b, off + k * 2 + 1, none⟩ = some (.int .i64 y) := by rw [hy]; exact (ho.cell (by exact hb)).trans (HC.out k hlt).2
      have hc3 : wr.cell? ⟨b2, off2 + k * 2, none⟩ = some (.int .i64 u) := by rw [hu]; exact (ho.cell (by exact hb2)).trans (HC2.out k hlt).1
      have hc4 : wr.cell? ⟨b2, off2 + k * 2 + 1, none⟩ = some (.int .i64 v) := by rw [hv]; exact (ho.cell (by exact hb2)).trans (HC2.out k hlt).2
      have hb' := ho.lts _ hb
      have hb2' := ho.lts _ hb2
      by_cases hxu : x = u
      · by_cases hyv : y = v
        · have HN := Lib.hid (fun j (hj : j < k + 1) => show zs.getD j (0, 0) = ys.getD j (0, 0) by
            by_cases g : j = k
            · rw [g]; exact Prod.ext (by rw [← hx, ← hu]; exact hxu) (by rw [← hy, ← hv]; exact hyv)
            · exact HA.out j (by omega))
          clear hx hy hu hv ho
          subst hxu hyv
          go_wp2_with fail
          go_quiet (fail)
          go_wp2_with fail
          go_roundw
          case rel => exact ⟨k + 1, by omega, by go_num, HN.out, HO.out.trans (by repeat (first | with_reducible exact On.refl _ | apply On.alloc | apply On.drewN | apply On.drew))⟩
          case measure => simp [intOf]; omega
        · have en := Lib.hid (ne_of_at (k := k) (zs := zs) (ys := ys) (fun e => hyv (by rw [hy, hv, e])))
          have hb3 : (y == v) = false := beq_eq_false_iff_ne.2 hyv
          have hb4 : (y != v) = true := by rw [bne, hb3]; rfl
          clear hx hy hu hv ho
          subst hxu
          go_wp2_with fail
          go_quiet (fail)
          go_wp2_with fail
          go_ret
          exact ⟨ret_bool en.out.symm, HO.out.trans (by repeat (first | with_reducible exact On.refl _ | apply On.alloc | apply On.drewN | apply On.drew))⟩
      · have en := Lib.hid (ne_of_at (k := k) (zs := zs) (ys := ys) (fun e => hxu (by rw [hx, hu, e])))
        have hb3 : (x == u) = false := beq_eq_false_iff_ne.2 hxu
        have hb4 : (x != u) = true := by rw [bne, hb3]; rfl
        clear hx hy hu hv ho
        go_wp2_with fail
        go_quiet (fail)
        go_wp2_with fail
        go_ret
        exact ⟨ret_bool en.out.symm, HO.out.trans (by repeat (first | with_reducible exact On.refl _ | apply On.alloc | apply On.drewN | apply On.drew))⟩
    · obtain rfl : k = n := by omega
      have en := Lib.hid (eq_of_all HZ.out HY.out HA.out)
      go_wp2_with fail
      go_ret
      exact ⟨ret_bool en.out.symm, HO.out.trans (by repeat (first | with_reducible exact On.refl _ | apply On.alloc | apply On.drewN | apply On.drew))⟩
theorem lib_none (a a2 : Option Addr) (cap cap2 : Nat) (w : World) :
    Calls Try.prog 93 #[.slice a 0 cap, .slice a2 0 cap2] w fun e w' => e = .returned (.bool true) ∧ On w w' := by
  go_enter Try.func93, Try.ntmps93
  go_wp2
  refine wp_loop_rounds 1 ?_
  rw [rounds_succ]
  go_wp2
  go_ret
  exact ⟨rfl, On.refl _⟩
theorem lib_len (a a2 : Option Addr) (n m cap cap2 : Nat) (w : World) (h : n ≠ m) :
    Calls Try.prog 93 #[.slice a n cap, .slice a2 m cap2] w fun e w' => e = .returned (.bool false) ∧ On w w' := by
  have b1 : ((n : Int) == (m : Int)) = false := beq_eq_false_iff_ne.2 (by omega)
  have b2 : ((n : Int) != (m : Int)) = true := by rw [bne, b1]; rfl
  go_enter Try.func93, Try.ntmps93
  go_wp2
  go_ret
  exact ⟨rfl, On.refl _⟩
theorem lib (v v2 : Value) (zs ys : List (Int × Int)) (w : World) (hn : zs.length ≤ 1048576) (h : Pairs w v zs) (h2 : Pairs w v2 ys) :
    Calls Try.prog 93 #[v, v2] w fun e w' => e = .returned (.bool (decide (zs = ys))) ∧ On w w' := by
  have h' := h
  have h2' := h2
  obtain ⟨a, cap, rfl, -⟩ := h
  obtain ⟨a2, cap2, rfl, -⟩ := h2
  by_cases hl : zs.length = ys.length
  · by_cases h0 : 0 < zs.length
    · obtain ⟨b, off, rfl, hlt, hcell⟩ := cells_of rfl h' h0
      obtain ⟨b2, off2, rfl, hlt2, hcell2⟩ := cells_of rfl h2' (by omega)
      rw [← hl] at hcell2 ⊢
      exact lib_some b off cap b2 off2 cap2 zs ys w zs.length rfl hl.symm hn hlt hlt2 hcell hcell2
    · have e1 : zs = [] := List.eq_nil_of_length_eq_zero (by omega)
      have e2 : ys = [] := List.eq_nil_of_length_eq_zero (by omega)
      subst e1 e2
      exact lib_none a a2 cap cap2 w
  · rw [decide_eq_false (fun h => hl (by rw [h]))]
    exact lib_len a a2 _ _ cap cap2 w hl
theorem sameR_all {x0 : ByteArray} {x1 x2 x3 x4 : Int} {zs : List (Int × Int)} {y0 : ByteArray} {y1 y2 y3 y4 : Int} {ys : List (Int × Int)} {b : Bool} (e0 : (x0.toList == y0.toList) = true) (e1 : (x1 == y1) = true) (e2 : (x2 == y2) = true) (e3 : (x3 == y3) = true) (e4 : (x4 == y4) = true) (e : decide (zs = ys) = b) : sameR x0 x1 x2 x3 x4 zs y0 y1 y2 y3 y4 ys = b := by unfold sameR; rw [e0, e1, e2, e3, e4, e]; rfl
set_option maxHeartbeats 2000000 in
theorem spec_some (x0 : ByteArray) (x1 x2 x3 x4 : Int) (y0 : ByteArray) (y1 y2 y3 y4 : Int) (b off cap b2 off2 cap2 : Nat) (zs ys : List (Int × Int)) (w : World) (n : Nat) (e0 : (x0.toList == y0.toList) = true) (e1 : (x1 == y1) = true) (e2 : (x2 == y2) = true) (e3 : (x3 == y3) = true) (e4 : (x4 == y4) = true) (hz : zs.length = n) (hy : ys.length = n) (hn : n ≤ 1048576) (hb : b < w.heap.size) (hb2 : b2 < w.heap.size) (hcell : ∀ k, k < n → w.cell? ⟨b, off + k * 2, none⟩ = some (.int .i64 (zs.getD k (0, 0)).1) ∧ w.cell? ⟨b, off + k * 2 + 1, none⟩ = some (.int .i64 (zs.getD k (0, 0)).2)) (hcell2 : ∀ k, k < n → w.cell? ⟨b2, off2 + k * 2, none⟩ = some (.int .i64 (ys.getD k (0, 0)).1) ∧ w.cell? ⟨b2, off2 + k * 2 + 1, none⟩ = some (.int .i64 (ys.getD k (0, 0)).2)) :
    Calls Try.prog 50 #[.agg #[.string x0, .int .i64 x1, .int .i64 x2, .int .i64 x3, .int .i64 x4, .slice (some ⟨b, off, none⟩) n cap], .agg #[.string y0, .int .i64 y1, .int .i64 y2, .int .i64 y3, .int .i64 y4, .slice (some ⟨b2, off2, none⟩) n cap2]] w fun e w' => e = .returned (.bool (decide (zs = ys))) ∧ On w w' := by
  have HC := Lib.hid hcell
  have HC2 := Lib.hid hcell2
  have HZ := Lib.hid hz
  have HY := Lib.hid hy
  clear hcell hcell2 hz hy
  have p0 : x0.toList = y0.toList := eq_of_beq e0
  have f0 : (x0.toList != y0.toList) = false := by rw [bne, e0]; rfl
  have f1 : (x1 != y1) = false := by rw [bne, e1]; rfl
  have f2 : (x2 != y2) = false := by rw [bne, e2]; rfl
  have f3 : (x3 != y3) = false := by rw [bne, e3]; rfl
  have f4 : (x4 != y4) = false := by rw [bne, e4]; rfl
  go_enter Try.func50, Try.ntmps50
  go_wp2_with fail
  go_loopw [5] (fun i wr => ∃ k : Nat, k ≤ n ∧ i = .int .i64 k ∧ (∀ j, j < k → zs.getD j (0, 0) = ys.getD j (0, 0)) ∧ In wr w.heap.size x0 x1 x2 x3 x4 (.slice (some ⟨b, off, none⟩) n cap) ∧ In wr (w.heap.size + 1) y0 y1 y2 y3 y4 (.slice (some ⟨b2, off2, none⟩) n cap2) ∧ On w wr) (fun i _ => n - (intOf i).toNat)
  case atStart => exact ⟨0, Nat.zero_le _, rfl, fun j h => by omega, ⟨by simp [go_sem], by simp [go_sem], by simp [go_sem], by simp [go_sem], by simp [go_sem], by simp [go_sem]⟩, ⟨by simp [go_sem], by simp [go_sem], by simp [go_sem], by simp [go_sem], by simp [go_sem], by simp [go_sem]⟩, (by repeat (first | with_reducible exact On.refl _ | apply On.alloc | apply On.drewN | apply On.drew))⟩
  case round =>
    obtain ⟨k, hk, rfl, hall, hp, hq, ho⟩ := hrel
    have HA := Lib.hid hall
    have HO := Lib.hid ho
    have HP := Lib.hid hp
    have HQ := Lib.hid hq
    obtain ⟨p0, p1, p2, p3, p4, p5⟩ := hp
    obtain ⟨q0', q1, q2, q3, q4, q5'⟩ := hq
    clear hall
    by_cases hlt : k < n
    · have hlti : (k : Int) < (n : Int) := by omega
      obtain ⟨x, hx⟩ : ∃ x, x = (zs.getD k (0, 0)).1 := ⟨_, rfl⟩
      obtain ⟨y, hy⟩ : ∃ y, y = (zs.getD k (0, 0)).2 := ⟨_, rfl⟩
      obtain ⟨u, hu⟩ : ∃ u, u = (ys.getD k (0, 0)).1 := ⟨_, rfl⟩
      obtain ⟨v, hv⟩ : ∃ v, v = (ys.getD k (0, 0)).2 := ⟨_, rfl⟩
      have hc1 : wr.cell? ⟨b, off + k * 2, none⟩ = some (.int .i64 x) := by rw [hx]; exact (ho.cell (by exact hb)).trans (HC.out k hlt).1
      have hc2 : wr.cell? ⟨b, off + k * 2 + 1, none⟩ = some (.int .i64 y) := by rw [hy]; exact (ho.cell (by exact hb)).trans (HC.out k hlt).2
      have hc3 : wr.cell? ⟨b2, off2 + k * 2, none⟩ = some (.int .i64 u) := by rw [hu]; exact (ho.cell (by exact hb2)).trans (HC2.out k hlt).1
      have hc4 : wr.cell? ⟨b2, off2 + k * 2 + 1, none⟩ = some (.int .i64 v) := by rw [hv]; exact (ho.cell (by exact hb2)).trans (HC2.out k hlt).2
      have hb' := ho.lts _ hb
      have hb2' := ho.lts _ hb2
      by_cases hxu : x = u
      · by_cases hyv : y = v
        · have HN := Lib.hid (fun j (hj : j < k + 1) => show zs.getD j (0, 0) = ys.getD j (0, 0) by
            by_cases g : j = k
            · rw [g]; exact Prod.ext (by rw [← hx, ← hu]; exact hxu) (by rw [← hy, ← hv]; exact hyv)
            · exact HA.out j (by omega))
          clear hx hy hu hv ho
          subst hxu hyv
          go_wp2_with fail
          go_quiet (fail)
          go_wp2_with fail
          go_roundw
          case rel => exact ⟨k + 1, by omega, by go_num, HN.out, HP.out.on (by repeat (first | with_reducible exact On.refl _ | apply On.alloc | apply On.drewN | apply On.drew)), HQ.out.on (by repeat (first | with_reducible exact On.refl _ | apply On.alloc | apply On.drewN | apply On.drew)), HO.out.trans (by repeat (first | with_reducible exact On.refl _ | apply On.alloc | apply On.drewN | apply On.drew))⟩
          case measure => simp [intOf]; omega
        · have en := Lib.hid (ne_of_at (k := k) (zs := zs) (ys := ys) (fun e => hyv (by rw [hy, hv, e])))
          have hb3 : (y == v) = false := beq_eq_false_iff_ne.2 hyv
          have hb4 : (y != v) = true := by rw [bne, hb3]; rfl
          clear hx hy hu hv ho
          subst hxu
          go_wp2_with fail
          go_quiet (fail)
          go_wp2_with fail
          go_ret
          exact ⟨ret_bool en.out.symm, HO.out.trans (by repeat (first | with_reducible exact On.refl _ | apply On.alloc | apply On.drewN | apply On.drew))⟩
      · have en := Lib.hid (ne_of_at (k := k) (zs := zs) (ys := ys) (fun e => hxu (by rw [hx, hu, e])))
        have hb3 : (x == u) = false := beq_eq_false_iff_ne.2 hxu
        have hb4 : (x != u) = true := by rw [bne, hb3]; rfl
        clear hx hy hu hv ho
        go_wp2_with fail
        go_quiet (fail)
        go_wp2_with fail
        go_ret
        exact ⟨ret_bool en.out.symm, HO.out.trans (by repeat (first | with_reducible exact On.refl _ | apply On.alloc | apply On.drewN | apply On.drew))⟩
    · obtain rfl : k = n := by omega
      have en := Lib.hid (eq_of_all HZ.out HY.out HA.out)
      go_wp2_with fail
      go_ret
      exact ⟨ret_bool en.out.symm, HO.out.trans (by repeat (first | with_reducible exact On.refl _ | apply On.alloc | apply On.drewN | apply On.drew))⟩
set_option maxHeartbeats 2000000 in
theorem spec_none (x0 : ByteArray) (x1 x2 x3 x4 : Int) (y0 : ByteArray) (y1 y2 y3 y4 : Int) (a a2 : Option Addr) (cap cap2 : Nat) (w : World) (e0 : (x0.toList == y0.toList) = true) (e1 : (x1 == y1) = true) (e2 : (x2 == y2) = true) (e3 : (x3 == y3) = true) (e4 : (x4 == y4) = true) :
    Calls Try.prog 50 #[.agg #[.string x0, .int .i64 x1, .int .i64 x2, .int .i64 x3, .int .i64 x4, .slice a 0 cap], .agg #[.string y0, .int .i64 y1, .int .i64 y2, .int .i64 y3, .int .i64 y4, .slice a2 0 cap2]] w fun e w' => e = .returned (.bool true) ∧ On w w' := by
  have p0 : x0.toList = y0.toList := eq_of_beq e0
  have f0 : (x0.toList != y0.toList) = false := by rw [bne, e0]; rfl
  have f1 : (x1 != y1) = false := by rw [bne, e1]; rfl
  have f2 : (x2 != y2) = false := by rw [bne, e2]; rfl
  have f3 : (x3 != y3) = false := by rw [bne, e3]; rfl
  have f4 : (x4 != y4) = false := by rw [bne, e4]; rfl
  go_enter Try.func50, Try.ntmps50
  go_wp2_with fail
  refine wp_loop_rounds 1 ?_
  rw [rounds_succ]
  go_wp2_with fail
  go_ret
  exact ⟨rfl, (by repeat (first | with_reducible exact On.refl _ | apply On.alloc | apply On.drewN | apply On.drew))⟩
set_option maxHeartbeats 2000000 in
theorem spec_len (x0 : ByteArray) (x1 x2 x3 x4 : Int) (y0 : ByteArray) (y1 y2 y3 y4 : Int) (a a2 : Option Addr) (n m cap cap2 : Nat) (w : World) (h : n ≠ m) (e0 : (x0.toList == y0.toList) = true) (e1 : (x1 == y1) = true) (e2 : (x2 == y2) = true) (e3 : (x3 == y3) = true) (e4 : (x4 == y4) = true) :
    Calls Try.prog 50 #[.agg #[.string x0, .int .i64 x1, .int .i64 x2, .int .i64 x3, .int .i64 x4, .slice a n cap], .agg #[.string y0, .int .i64 y1, .int .i64 y2, .int .i64 y3, .int .i64 y4, .slice a2 m cap2]] w fun e w' => e = .returned (.bool false) ∧ On w w' := by
  have p0 : x0.toList = y0.toList := eq_of_beq e0
  have f0 : (x0.toList != y0.toList) = false := by rw [bne, e0]; rfl
  have f1 : (x1 != y1) = false := by rw [bne, e1]; rfl
  have f2 : (x2 != y2) = false := by rw [bne, e2]; rfl
  have f3 : (x3 != y3) = false := by rw [bne, e3]; rfl
  have f4 : (x4 != y4) = false := by rw [bne, e4]; rfl
  have g1 : ((n : Int) == (m : Int)) = false := beq_eq_false_iff_ne.2 (by omega)
  have g2 : ((n : Int) != (m : Int)) = true := by rw [bne, g1]; rfl
  go_enter Try.func50, Try.ntmps50
  go_wp2_with fail
  go_ret
  exact ⟨rfl, (by repeat (first | with_reducible exact On.refl _ | apply On.alloc | apply On.drewN | apply On.drew))⟩
set_option maxHeartbeats 2000000 in
theorem spec_same (x0 : ByteArray) (x1 x2 x3 x4 : Int) (v5 : Value) (zs : List (Int × Int)) (y0 : ByteArray) (y1 y2 y3 y4 : Int) (u5 : Value) (ys : List (Int × Int)) (w : World) (_ : x0.size ≤ 1048576) (q5 : zs.length ≤ 1048576) (_ : y0.size ≤ 1048576) (_ : ys.length ≤ 1048576) (h : Pairs w v5 zs) (h2 : Pairs w u5 ys) :
    Calls Try.prog 50 #[.agg #[.string x0, .int .i64 x1, .int .i64 x2, .int .i64 x3, .int .i64 x4, v5], .agg #[.string y0, .int .i64 y1, .int .i64 y2, .int .i64 y3, .int .i64 y4, u5]] w fun e w' => e = .returned (.bool (sameR x0 x1 x2 x3 x4 zs y0 y1 y2 y3 y4 ys)) ∧ On w w' := by
  have h' := h
  have h2' := h2
  obtain ⟨a, cap, rfl, -⟩ := h
  obtain ⟨a2, cap2, rfl, -⟩ := h2
  cases e0 : x0.toList == y0.toList with
  | false =>
    have en := Lib.hid (show sameR x0 x1 x2 x3 x4 zs y0 y1 y2 y3 y4 ys = false by unfold sameR; rw [e0]; rfl)
    have p0 : ¬ x0.toList = y0.toList := ne_of_beq_false e0
    have f0 : (x0.toList != y0.toList) = true := by rw [bne, e0]; rfl
    clear h' h2'
    go_enter Try.func50, Try.ntmps50
    go_wp2_with fail
    go_ret
    exact ⟨ret_bool en.out.symm, (by repeat (first | with_reducible exact On.refl _ | apply On.alloc | apply On.drewN | apply On.drew))⟩
  | true =>
    cases e1 : x1 == y1 with
    | false =>
      have en := Lib.hid (show sameR x0 x1 x2 x3 x4 zs y0 y1 y2 y3 y4 ys = false by unfold sameR; rw [e0, e1]; simp)
      have p0 : x0.toList = y0.toList := eq_of_beq e0
      have f0 : (x0.toList != y0.toList) = false := by rw [bne, e0]; rfl
      have f1 : (x1 != y1) = true := by rw [bne, e1]; rfl
      clear h' h2'
      go_enter Try.func50, Try.ntmps50
      go_wp2_with fail
      go_ret
      exact ⟨ret_bool en.out.symm, (by repeat (first | with_reducible exact On.refl _ | apply On.alloc | apply On.drewN | apply On.drew))⟩
    | true =>
      cases e2 : x2 == y2 with
      | false =>
        have en := Lib.hid (show sameR x0 x1 x2 x3 x4 zs y0 y1 y2 y3 y4 ys = false by unfold sameR; rw [e0, e1, e2]; simp)
        have p0 : x0.toList = y0.toList := eq_of_beq e0
        have f0 : (x0.toList != y0.toList) = false := by rw [bne, e0]; rfl
        have f1 : (x1 != y1) = false := by rw [bne, e1]; rfl
        have f2 : (x2 != y2) = true := by rw [bne, e2]; rfl
        clear h' h2'
        go_enter Try.func50, Try.ntmps50
        go_wp2_with fail
        go_ret
        exact ⟨ret_bool en.out.symm, (by repeat (first | with_reducible exact On.refl _ | apply On.alloc | apply On.drewN | apply On.drew))⟩
      | true =>
        cases e3 : x3 == y3 with
        | false =>
          have en := Lib.hid (show sameR x0 x1 x2 x3 x4 zs y0 y1 y2 y3 y4 ys = false by unfold sameR; rw [e0, e1, e2, e3]; simp)
          have p0 : x0.toList = y0.toList := eq_of_beq e0
          have f0 : (x0.toList != y0.toList) = false := by rw [bne, e0]; rfl
          have f1 : (x1 != y1) = false := by rw [bne, e1]; rfl
          have f2 : (x2 != y2) = false := by rw [bne, e2]; rfl
          have f3 : (x3 != y3) = true := by rw [bne, e3]; rfl
          clear h' h2'
          go_enter Try.func50, Try.ntmps50
          go_wp2_with fail
          go_ret
          exact ⟨ret_bool en.out.symm, (by repeat (first | with_reducible exact On.refl _ | apply On.alloc | apply On.drewN | apply On.drew))⟩
        | true =>
          cases e4 : x4 == y4 with
          | false =>
            have en := Lib.hid (show sameR x0 x1 x2 x3 x4 zs y0 y1 y2 y3 y4 ys = false by unfold sameR; rw [e0, e1, e2, e3, e4]; simp)
            have p0 : x0.toList = y0.toList := eq_of_beq e0
            have f0 : (x0.toList != y0.toList) = false := by rw [bne, e0]; rfl
            have f1 : (x1 != y1) = false := by rw [bne, e1]; rfl
            have f2 : (x2 != y2) = false := by rw [bne, e2]; rfl
            have f3 : (x3 != y3) = false := by rw [bne, e3]; rfl
            have f4 : (x4 != y4) = true := by rw [bne, e4]; rfl
            clear h' h2'
            go_enter Try.func50, Try.ntmps50
            go_wp2_with fail
            go_ret
            exact ⟨ret_bool en.out.symm, (by repeat (first | with_reducible exact On.refl _ | apply On.alloc | apply On.drewN | apply On.drew))⟩
          | true =>
            by_cases hl : zs.length = ys.length
            · by_cases h0 : 0 < zs.length
              · obtain ⟨b, off, rfl, hlt, hcell⟩ := cells_of rfl h' h0
                obtain ⟨b2, off2, rfl, hlt2, hcell2⟩ := cells_of rfl h2' (by omega)
                rw [← hl] at hcell2 ⊢
                rw [sameR_all e0 e1 e2 e3 e4 rfl]
                exact spec_some x0 x1 x2 x3 x4 y0 y1 y2 y3 y4 b off cap b2 off2 cap2 zs ys w zs.length e0 e1 e2 e3 e4 rfl hl.symm q5 hlt hlt2 hcell hcell2
              · have d1 : zs = [] := List.eq_nil_of_length_eq_zero (by omega)
                have d2 : ys = [] := List.eq_nil_of_length_eq_zero (by omega)
                subst d1 d2
                rw [sameR_all e0 e1 e2 e3 e4 (decide_eq_true rfl)]
                exact spec_none x0 x1 x2 x3 x4 y0 y1 y2 y3 y4 a a2 cap cap2 w e0 e1 e2 e3 e4
            · rw [sameR_all e0 e1 e2 e3 e4 (decide_eq_false (fun h => hl (by rw [h])))]
              exact spec_len x0 x1 x2 x3 x4 y0 y1 y2 y3 y4 a a2 _ _ cap cap2 w hl e0 e1 e2 e3 e4
set_option maxHeartbeats 2000000 in
theorem impl_same (x0 : ByteArray) (x1 x2 x3 x4 : Int) (v5 : Value) (zs : List (Int × Int)) (y0 : ByteArray) (y1 y2 y3 y4 : Int) (u5 : Value) (ys : List (Int × Int)) (w : World) (_ : x0.size ≤ 1048576) (q5 : zs.length ≤ 1048576) (_ : y0.size ≤ 1048576) (_ : ys.length ≤ 1048576) (h : Pairs w v5 zs) (h2 : Pairs w u5 ys) :
    Calls Try.prog 56 #[.agg #[.string x0, .int .i64 x1, .int .i64 x2, .int .i64 x3, .int .i64 x4, v5], .agg #[.string y0, .int .i64 y1, .int .i64 y2, .int .i64 y3, .int .i64 y4, u5]] w fun e w' => e = .returned (.bool (sameR x0 x1 x2 x3 x4 zs y0 y1 y2 y3 y4 ys)) ∧ On w w' := by
  have h' := h
  have h2' := h2
  have HC := Lib.hid (fun w' (hb : On w w') => lib _ _ zs ys w' q5 (h.below hb) (h2.below hb))
  obtain ⟨a, cap, rfl, -⟩ := h
  obtain ⟨a2, cap2, rfl, -⟩ := h2
  cases e0 : x0.toList == y0.toList with
  | false =>
    have en := Lib.hid (show sameR x0 x1 x2 x3 x4 zs y0 y1 y2 y3 y4 ys = false by unfold sameR; rw [e0]; rfl)
    have p0 : ¬ x0.toList = y0.toList := ne_of_beq_false e0
    have f0 : (x0.toList != y0.toList) = true := by rw [bne, e0]; rfl
    clear h' h2'
    go_enter Try.func56, Try.ntmps56
    go_wp2_with fail
    go_ret
    exact ⟨ret_bool en.out.symm, (by repeat (first | with_reducible exact On.refl _ | apply On.alloc | apply On.drewN | apply On.drew))⟩
  | true =>
    cases e1 : x1 == y1 with
    | false =>
      have en := Lib.hid (show sameR x0 x1 x2 x3 x4 zs y0 y1 y2 y3 y4 ys = false by unfold sameR; rw [e0, e1]; simp)
      have p0 : x0.toList = y0.toList := eq_of_beq e0
      have f0 : (x0.toList != y0.toList) = false := by rw [bne, e0]; rfl
      have f1 : (x1 != y1) = true := by rw [bne, e1]; rfl
      clear h' h2'
      go_enter Try.func56, Try.ntmps56
      go_wp2_with fail
      go_ret
      exact ⟨ret_bool en.out.symm, (by repeat (first | with_reducible exact On.refl _ | apply On.alloc | apply On.drewN | apply On.drew))⟩
    | true =>
      cases e2 : x2 == y2 with
      | false =>
        have en := Lib.hid (show sameR x0 x1 x2 x3 x4 zs y0 y1 y2 y3 y4 ys = false by unfold sameR; rw [e0, e1, e2]; simp)
        have p0 : x0.toList = y0.toList := eq_of_beq e0
        have f0 : (x0.toList != y0.toList) = false := by rw [bne, e0]; rfl
        have f1 : (x1 != y1) = false := by rw [bne, e1]; rfl
        have f2 : (x2 != y2) = true := by rw [bne, e2]; rfl
        clear h' h2'
        go_enter Try.func56, Try.ntmps56
        go_wp2_with fail
        go_ret
        exact ⟨ret_bool en.out.symm, (by repeat (first | with_reducible exact On.refl _ | apply On.alloc | apply On.drewN | apply On.drew))⟩
      | true =>
        cases e3 : x3 == y3 with
        | false =>
          have en := Lib.hid (show sameR x0 x1 x2 x3 x4 zs y0 y1 y2 y3 y4 ys = false by unfold sameR; rw [e0, e1, e2, e3]; simp)
          have p0 : x0.toList = y0.toList := eq_of_beq e0
          have f0 : (x0.toList != y0.toList) = false := by rw [bne, e0]; rfl
          have f1 : (x1 != y1) = false := by rw [bne, e1]; rfl
          have f2 : (x2 != y2) = false := by rw [bne, e2]; rfl
          have f3 : (x3 != y3) = true := by rw [bne, e3]; rfl
          clear h' h2'
          go_enter Try.func56, Try.ntmps56
          go_wp2_with fail
          go_ret
          exact ⟨ret_bool en.out.symm, (by repeat (first | with_reducible exact On.refl _ | apply On.alloc | apply On.drewN | apply On.drew))⟩
        | true =>
          cases e4 : x4 == y4 with
          | false =>
            have en := Lib.hid (show sameR x0 x1 x2 x3 x4 zs y0 y1 y2 y3 y4 ys = false by unfold sameR; rw [e0, e1, e2, e3, e4]; simp)
            have p0 : x0.toList = y0.toList := eq_of_beq e0
            have f0 : (x0.toList != y0.toList) = false := by rw [bne, e0]; rfl
            have f1 : (x1 != y1) = false := by rw [bne, e1]; rfl
            have f2 : (x2 != y2) = false := by rw [bne, e2]; rfl
            have f3 : (x3 != y3) = false := by rw [bne, e3]; rfl
            have f4 : (x4 != y4) = true := by rw [bne, e4]; rfl
            clear h' h2'
            go_enter Try.func56, Try.ntmps56
            go_wp2_with fail
            go_ret
            exact ⟨ret_bool en.out.symm, (by repeat (first | with_reducible exact On.refl _ | apply On.alloc | apply On.drewN | apply On.drew))⟩
          | true =>
            have p0 : x0.toList = y0.toList := eq_of_beq e0
            have en := Lib.hid (sameR_all (zs := zs) (ys := ys) e0 e1 e2 e3 e4 rfl)
            generalize decide (zs = ys) = dd at *
            go_enter Try.func56, Try.ntmps56
            go_wp2_with fail
            refine (HC.out _ (by repeat (first | with_reducible exact On.refl _ | apply On.alloc))).mono ?_
            rintro e w1 ⟨rfl, h1⟩
            cases dd <;>
            · go_wp2_with fail
              go_ret
              exact ⟨ret_bool en.out.symm, On.trans (by repeat (first | with_reducible exact On.refl _ | apply On.alloc)) h1⟩
end Go.Proofs.Ytpnmodmaabhldaa.Rad
