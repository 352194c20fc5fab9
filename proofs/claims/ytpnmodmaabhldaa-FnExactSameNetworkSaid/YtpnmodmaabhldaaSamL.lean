
/-
  Whether two lists of records are equal, in the program (slices.Equal, slices.EqualFunc). Condition: at most 1048576 elements, and numbers and bytes in each.
-/
import Derived.Test.YtpnmodmaabhldaaNetI
import Derived.Test.YtpnmodmaabhldaaAntSame
import Derived.Test.YtpnmodmaabhldaaRadSame
namespace Go.Proofs.Ytpnmodmaabhldaa
open Go.RowKit

def Sites.same (z y : Sites.Z) : Bool := z.x0.toList == y.x0.toList && (z.x1.toList == y.x1.toList && (z.x2 == y.x2 && z.x3 == y.x3))
/-- The k-th of both are the same. -/
def Sites.sameAt (zs ys : List Sites.Z) (k : Nat) : Bool := Sites.same (zs.getD k Sites.d0) (ys.getD k Sites.d0)
def Sites.sameL (zs ys : List Sites.Z) : Bool := decide (zs.length = ys.length) && Nam.allTo (Sites.sameAt zs ys) zs.length
def Secs.same (z y : Secs.Z) : Bool := z.x0.toList == y.x0.toList && (z.x1.toList == y.x1.toList && (z.x2.toList == y.x2.toList && (z.x3.toList == y.x3.toList && (z.x4.toList == y.x4.toList && (z.x5 == y.x5 && (z.x6 == y.x6 && (z.x7 == y.x7 && z.x8 == y.x8)))))))
/-- The k-th of both are the same. -/
def Secs.sameAt (zs ys : List Secs.Z) (k : Nat) : Bool := Secs.same (zs.getD k Secs.d0) (ys.getD k Secs.d0)
def Secs.sameL (zs ys : List Secs.Z) : Bool := decide (zs.length = ys.length) && Nam.allTo (Secs.sameAt zs ys) zs.length
def Ants.same (z y : Ants.Z) : Bool := Ant.sameA z.x0 z.x1 z.x2 z.x3 y.x0 y.x1 y.x2 y.x3
/-- The k-th of both are the same. -/
def Ants.sameAt (zs ys : List Ants.Z) (k : Nat) : Bool := Ants.same (zs.getD k Ants.d0) (ys.getD k Ants.d0)
def Ants.sameL (zs ys : List Ants.Z) : Bool := decide (zs.length = ys.length) && Nam.allTo (Ants.sameAt zs ys) zs.length
def Rads.same (z y : Rads.Z) : Bool := Rad.sameR z.x0 z.x1 z.x2 z.x3 z.x4 z.x5 y.x0 y.x1 y.x2 y.x3 y.x4 y.x5
/-- The k-th of both are the same. -/
def Rads.sameAt (zs ys : List Rads.Z) (k : Nat) : Bool := Rads.same (zs.getD k Rads.d0) (ys.getD k Rads.d0)
def Rads.sameL (zs ys : List Rads.Z) : Bool := decide (zs.length = ys.length) && Nam.allTo (Rads.sameAt zs ys) zs.length
namespace Sites
set_option maxHeartbeats 4000000 in
theorem lib_some (b1 off1 cap b2_ off2 cap2 : Nat) (zs ys : List Z) (w : World) (hn : zs.length ≤ 1048576) (hl : zs.length = ys.length) (hlt1 : b1 < w.heap.size) (hlt2 : b2_ < w.heap.size)
    (hcell : ∀ k, k < zs.length → El w b1 (off1 + k * 4) (zs.getD k d0)) (hcell2 : ∀ k, k < ys.length → El w b2_ (off2 + k * 4) (ys.getD k d0)) :
    Calls Try.prog 51 #[.slice (some ⟨b1, off1, none⟩) zs.length cap, .slice (some ⟨b2_, off2, none⟩) ys.length cap2] w fun e w' => e = .returned (.bool (sameL zs ys)) ∧ On w w' := by
  have HC := Lib.hid hcell
  have HC2 := Lib.hid hcell2
  obtain ⟨n, hnn⟩ : ∃ n, n = zs.length := ⟨_, rfl⟩
  have HL := Lib.hid hnn
  have HM := Lib.hid (hnn.trans hl)
  rw [← hl, ← hnn]
  rw [← hnn] at hn
  have HE := Lib.hid hl
  clear hcell hcell2 hl hnn
  go_enter Try.func51, Try.ntmps51
  go_wp2_with fail
  go_loopw [13] (fun i wr => ∃ k : Nat, k ≤ n ∧ i = .int .i64 k ∧ Nam.Upto (Sites.sameAt zs ys) k ∧ On w wr) (fun i _ => n - (intOf i).toNat)
  case atStart => exact ⟨0, Nat.zero_le _, rfl, Nam.upto_zero _, On.refl _⟩
  case round =>
    obtain ⟨k, hk, rfl, hall, ho⟩ := hrel
    have HA := Lib.hid hall
    have HB := Lib.hid ho
    have hb1r : b1 < wr.heap.size := ho.lts _ hlt1
    have hb2r : b2_ < wr.heap.size := ho.lts _ hlt2
    clear hall ho
    by_cases hlt0 : k < n
    · have hlti : (k : Int) < (n : Int) := by omega
      obtain ⟨z, hz⟩ : ∃ z : Z, z = zs.getD k d0 := ⟨_, rfl⟩
      obtain ⟨y, hy⟩ : ∃ y : Z, y = ys.getD k d0 := ⟨_, rfl⟩
      have HZ := Lib.hid hz
      have HY := Lib.hid hy
      have E : El wr b1 (off1 + k * 4) z := by rw [hz]; exact (HC.out k (by rw [← HL.out]; exact hlt0)).on HB.out
      have E2 : El wr b2_ (off2 + k * 4) y := by rw [hy]; exact (HC2.out k (by rw [← HM.out]; exact hlt0)).on HB.out
      have c0 := E.c0
      have c1 := E.c1
      have c2 := E.c2
      have c3 := E.c3
      have d0 := E2.c0
      have d1 := E2.c1
      have d2 := E2.c2
      have d3 := E2.c3
      clear hz hy E E2
      cases e0 : z.x0.toList == y.x0.toList with
      | false =>
        have p0 : ¬ z.x0.toList = y.x0.toList := ne_of_beq_false e0
        have q0 : (z.x0.toList != y.x0.toList) = true := by rw [bne, e0]; rfl
        have hs0 : Sites.same z y = false := by unfold Sites.same; rw [e0]; simp
        have en := Lib.hid (show Sites.sameL zs ys = false by unfold Sites.sameL; rw [Nam.all_bad (p := Sites.sameAt zs ys) (k := k) (by rw [← HL.out]; exact hlt0) (by unfold Sites.sameAt; rw [← HZ.out, ← HY.out]; exact hs0), Bool.and_false])
        clear hs0
        go_wp2_with fail
        refine wp_region_onh (by kernel_rfl) (by kernel_rfl) ?_
        repeat (refine rest_step (fun K hK => ?_); go_simp; first | (refine hK _ ?_; clear hK K) | (apply Exists.intro; refine ⟨fun v1 hv1 => ?_, hK _ ?_⟩; (first | with_reducible exact rfl | with_reducible exact ⟨rfl, rfl⟩ | (obtain ⟨hc, hf⟩ := bcell hv1; go_simp; first | with_reducible exact rfl | with_reducible exact ⟨rfl, rfl⟩ | exact rfl | exact ⟨rfl, rfl⟩)); clear hK K))
        refine rest_nil ?_
        intro w1 h1
        go_wp2_with fail
        go_ret
        exact ⟨ret_bool en.out.symm, by repeat (first | with_reducible exact On.refl _ | with_reducible apply On.alloc | with_reducible apply On.drewN | with_reducible apply On.drew | with_reducible refine On.setCell ?_ (by (try simp) <;> omega) _ | refine On.trans ?_ h1 | refine On.trans ?_ HB.out)⟩
      | true =>
        have p0 : z.x0.toList = y.x0.toList := eq_of_beq e0
        cases e1 : z.x1.toList == y.x1.toList with
        | false =>
          have p1 : ¬ z.x1.toList = y.x1.toList := ne_of_beq_false e1
          have q1 : (z.x1.toList != y.x1.toList) = true := by rw [bne, e1]; rfl
          have hs0 : Sites.same z y = false := by unfold Sites.same; rw [e0, e1]; simp
          have en := Lib.hid (show Sites.sameL zs ys = false by unfold Sites.sameL; rw [Nam.all_bad (p := Sites.sameAt zs ys) (k := k) (by rw [← HL.out]; exact hlt0) (by unfold Sites.sameAt; rw [← HZ.out, ← HY.out]; exact hs0), Bool.and_false])
          clear hs0
          go_wp2_with fail
          refine wp_region_onh (by kernel_rfl) (by kernel_rfl) ?_
          repeat (refine rest_step (fun K hK => ?_); go_simp; first | (refine hK _ ?_; clear hK K) | (apply Exists.intro; refine ⟨fun v1 hv1 => ?_, hK _ ?_⟩; (first | with_reducible exact rfl | with_reducible exact ⟨rfl, rfl⟩ | (obtain ⟨hc, hf⟩ := bcell hv1; go_simp; first | with_reducible exact rfl | with_reducible exact ⟨rfl, rfl⟩ | exact rfl | exact ⟨rfl, rfl⟩)); clear hK K))
          refine rest_nil ?_
          intro w1 h1
          go_wp2_with fail
          go_ret
          exact ⟨ret_bool en.out.symm, by repeat (first | with_reducible exact On.refl _ | with_reducible apply On.alloc | with_reducible apply On.drewN | with_reducible apply On.drew | with_reducible refine On.setCell ?_ (by (try simp) <;> omega) _ | refine On.trans ?_ h1 | refine On.trans ?_ HB.out)⟩
        | true =>
          have p1 : z.x1.toList = y.x1.toList := eq_of_beq e1
          cases e2 : z.x2 == y.x2 with
          | false =>
            have p2 : ¬ z.x2 = y.x2 := ne_of_beq_false e2
            have q2 : (z.x2 != y.x2) = true := by rw [bne, e2]; rfl
            have hs0 : Sites.same z y = false := by unfold Sites.same; rw [e0, e1, e2]; simp
            have en := Lib.hid (show Sites.sameL zs ys = false by unfold Sites.sameL; rw [Nam.all_bad (p := Sites.sameAt zs ys) (k := k) (by rw [← HL.out]; exact hlt0) (by unfold Sites.sameAt; rw [← HZ.out, ← HY.out]; exact hs0), Bool.and_false])
            clear hs0
            go_wp2_with fail
            refine wp_region_onh (by kernel_rfl) (by kernel_rfl) ?_
            repeat (refine rest_step (fun K hK => ?_); go_simp; first | (refine hK _ ?_; clear hK K) | (apply Exists.intro; refine ⟨fun v1 hv1 => ?_, hK _ ?_⟩; (first | with_reducible exact rfl | with_reducible exact ⟨rfl, rfl⟩ | (obtain ⟨hc, hf⟩ := bcell hv1; go_simp; first | with_reducible exact rfl | with_reducible exact ⟨rfl, rfl⟩ | exact rfl | exact ⟨rfl, rfl⟩)); clear hK K))
            refine rest_nil ?_
            intro w1 h1
            go_wp2_with fail
            go_ret
            exact ⟨ret_bool en.out.symm, by repeat (first | with_reducible exact On.refl _ | with_reducible apply On.alloc | with_reducible apply On.drewN | with_reducible apply On.drew | with_reducible refine On.setCell ?_ (by (try simp) <;> omega) _ | refine On.trans ?_ h1 | refine On.trans ?_ HB.out)⟩
          | true =>
            have p2 : z.x2 = y.x2 := eq_of_beq e2
            cases e3 : z.x3 == y.x3 with
            | false =>
              have p3 : ¬ z.x3 = y.x3 := ne_of_beq_false e3
              have q3 : (z.x3 != y.x3) = true := by rw [bne, e3]; rfl
              have hs0 : Sites.same z y = false := by unfold Sites.same; rw [e0, e1, e2, e3]; simp
              have en := Lib.hid (show Sites.sameL zs ys = false by unfold Sites.sameL; rw [Nam.all_bad (p := Sites.sameAt zs ys) (k := k) (by rw [← HL.out]; exact hlt0) (by unfold Sites.sameAt; rw [← HZ.out, ← HY.out]; exact hs0), Bool.and_false])
              clear hs0
              go_wp2_with fail
              refine wp_region_onh (by kernel_rfl) (by kernel_rfl) ?_
              repeat (refine rest_step (fun K hK => ?_); go_simp; first | (refine hK _ ?_; clear hK K) | (apply Exists.intro; refine ⟨fun v1 hv1 => ?_, hK _ ?_⟩; (first | with_reducible exact rfl | with_reducible exact ⟨rfl, rfl⟩ | (obtain ⟨hc, hf⟩ := bcell hv1; go_simp; first | with_reducible exact rfl | with_reducible exact ⟨rfl, rfl⟩ | exact rfl | exact ⟨rfl, rfl⟩)); clear hK K))
              refine rest_nil ?_
              intro w1 h1
              go_wp2_with fail
              go_ret
              exact ⟨ret_bool en.out.symm, by repeat (first | with_reducible exact On.refl _ | with_reducible apply On.alloc | with_reducible apply On.drewN | with_reducible apply On.drew | with_reducible refine On.setCell ?_ (by (try simp) <;> omega) _ | refine On.trans ?_ h1 | refine On.trans ?_ HB.out)⟩
            | true =>
              have p3 : z.x3 = y.x3 := eq_of_beq e3
              have hs0 : Sites.same z y = true := by unfold Sites.same; rw [e0, e1, e2, e3]; rfl
              have HU2 := Lib.hid (Nam.upto_succ HA.out (show Sites.sameAt zs ys k = true by unfold Sites.sameAt; rw [← HZ.out, ← HY.out]; exact hs0))
              clear hs0
              go_wp2_with fail
              refine wp_region_onh (by kernel_rfl) (by kernel_rfl) ?_
              repeat (refine rest_step (fun K hK => ?_); go_simp; first | (refine hK _ ?_; clear hK K) | (apply Exists.intro; refine ⟨fun v1 hv1 => ?_, hK _ ?_⟩; (first | with_reducible exact rfl | with_reducible exact ⟨rfl, rfl⟩ | (obtain ⟨hc, hf⟩ := bcell hv1; go_simp; first | with_reducible exact rfl | with_reducible exact ⟨rfl, rfl⟩ | exact rfl | exact ⟨rfl, rfl⟩)); clear hK K))
              refine rest_nil ?_
              intro w1 h1
              have HO1 := Lib.hid (show On w w1 from by repeat (first | with_reducible exact On.refl _ | with_reducible apply On.alloc | with_reducible apply On.drewN | with_reducible apply On.drew | with_reducible refine On.setCell ?_ (by (try simp) <;> omega) _ | refine On.trans ?_ h1 | refine On.trans ?_ HB.out))
              clear h1
              go_wp2_with fail
              go_roundw
              case rel => first | exact ⟨_, hlt0, by go_num, HU2.out, HO1.out⟩ | ((repeat apply Exists.intro); exact ⟨hlt0, by go_num, HU2.out, HO1.out⟩)
              case measure => simp [intOf]; omega
    · obtain rfl : n = k := by omega
      have hlti : ¬ (n : Int) < (n : Int) := by omega
      have en := Lib.hid (show Sites.sameL zs ys = true by unfold Sites.sameL; rw [decide_eq_true HE.out, Nam.all_all (by rw [← HL.out]; exact HA.out)]; rfl)
      go_wp2
      go_ret
      exact ⟨ret_bool en.out.symm, HB.out⟩
theorem lib_len (a a2 : Option Addr) (cap cap2 : Nat) (zs ys : List Z) (w : World) (hl : zs.length ≠ ys.length) :
    Calls Try.prog 51 #[.slice a zs.length cap, .slice a2 ys.length cap2] w fun e w' => e = .returned (.bool (sameL zs ys)) ∧ On w w' := by
  have en := Lib.hid (show sameL zs ys = false by unfold sameL; rw [decide_eq_false hl]; rfl)
  have b1 : ((zs.length : Int) == (ys.length : Int)) = false := beq_eq_false_iff_ne.2 (by omega)
  have b2 : ((zs.length : Int) != (ys.length : Int)) = true := by rw [bne, b1]; rfl
  clear hl
  go_enter Try.func51, Try.ntmps51
  go_wp2_with fail
  go_ret
  exact ⟨ret_bool en.out.symm, On.refl _⟩
theorem lib_none (a a2 : Option Addr) (cap cap2 : Nat) (w : World) :
    Calls Try.prog 51 #[.slice a 0 cap, .slice a2 0 cap2] w fun e w' => e = .returned (.bool (sameL [] [])) ∧ On w w' := by
  go_enter Try.func51, Try.ntmps51
  go_wp2
  refine wp_loop_rounds 1 ?_
  rw [rounds_succ]
  go_wp2
  go_ret
  exact ⟨rfl, On.refl _⟩
theorem lib_same (v u : Value) (zs ys : List Z) (w : World) (hn : zs.length ≤ 1048576) (h : Rows w v zs) (h2 : Rows w u ys) :
    Calls Try.prog 51 #[v, u] w fun e w' => e = .returned (.bool (sameL zs ys)) ∧ On w w' := by
  have h' := h
  have h2' := h2
  obtain ⟨a, cap, rfl, -⟩ := h
  obtain ⟨a2, cap2, rfl, -⟩ := h2
  by_cases hl : zs.length = ys.length
  · by_cases h0 : 0 < zs.length
    · obtain ⟨b, off, rfl, hlt, hcell⟩ := slice_of h' h0
      obtain ⟨b2, off2, rfl, hlt2, hcell2⟩ := slice_of h2' (by omega)
      exact lib_some b off cap b2 off2 cap2 zs ys w hn hl hlt hlt2 hcell hcell2
    · have e1 : zs = [] := List.eq_nil_of_length_eq_zero (by omega)
      have e2 : ys = [] := List.eq_nil_of_length_eq_zero (by omega)
      subst e1 e2
      exact lib_none a a2 cap cap2 w
  · exact lib_len a a2 cap cap2 zs ys w hl
end Sites
namespace Secs
set_option maxHeartbeats 4000000 in
theorem lib_some (b1 off1 cap b2_ off2 cap2 : Nat) (zs ys : List Z) (w : World) (hn : zs.length ≤ 1048576) (hl : zs.length = ys.length) (hlt1 : b1 < w.heap.size) (hlt2 : b2_ < w.heap.size)
    (hcell : ∀ k, k < zs.length → El w b1 (off1 + k * 9) (zs.getD k d0)) (hcell2 : ∀ k, k < ys.length → El w b2_ (off2 + k * 9) (ys.getD k d0)) :
    Calls Try.prog 52 #[.slice (some ⟨b1, off1, none⟩) zs.length cap, .slice (some ⟨b2_, off2, none⟩) ys.length cap2] w fun e w' => e = .returned (.bool (sameL zs ys)) ∧ On w w' := by
  have HC := Lib.hid hcell
  have HC2 := Lib.hid hcell2
  obtain ⟨n, hnn⟩ : ∃ n, n = zs.length := ⟨_, rfl⟩
  have HL := Lib.hid hnn
  have HM := Lib.hid (hnn.trans hl)
  rw [← hl, ← hnn]
  rw [← hnn] at hn
  have HE := Lib.hid hl
  clear hcell hcell2 hl hnn
  go_enter Try.func52, Try.ntmps52
  go_wp2_with fail
  go_loopw [13] (fun i wr => ∃ k : Nat, k ≤ n ∧ i = .int .i64 k ∧ Nam.Upto (Secs.sameAt zs ys) k ∧ On w wr) (fun i _ => n - (intOf i).toNat)
  case atStart => exact ⟨0, Nat.zero_le _, rfl, Nam.upto_zero _, On.refl _⟩
  case round =>
    obtain ⟨k, hk, rfl, hall, ho⟩ := hrel
    have HA := Lib.hid hall
    have HB := Lib.hid ho
    have hb1r : b1 < wr.heap.size := ho.lts _ hlt1
    have hb2r : b2_ < wr.heap.size := ho.lts _ hlt2
    clear hall ho
    by_cases hlt0 : k < n
    · have hlti : (k : Int) < (n : Int) := by omega
      obtain ⟨z, hz⟩ : ∃ z : Z, z = zs.getD k d0 := ⟨_, rfl⟩
      obtain ⟨y, hy⟩ : ∃ y : Z, y = ys.getD k d0 := ⟨_, rfl⟩
      have HZ := Lib.hid hz
      have HY := Lib.hid hy
      have E : El wr b1 (off1 + k * 9) z := by rw [hz]; exact (HC.out k (by rw [← HL.out]; exact hlt0)).on HB.out
      have E2 : El wr b2_ (off2 + k * 9) y := by rw [hy]; exact (HC2.out k (by rw [← HM.out]; exact hlt0)).on HB.out
      have c0 := E.c0
      have c1 := E.c1
      have c2 := E.c2
      have c3 := E.c3
      have c4 := E.c4
      have c5 := E.c5
      have c6 := E.c6
      have c7 := E.c7
      have c8 := E.c8
      have d0 := E2.c0
      have d1 := E2.c1
      have d2 := E2.c2
      have d3 := E2.c3
      have d4 := E2.c4
      have d5 := E2.c5
      have d6 := E2.c6
      have d7 := E2.c7
      have d8 := E2.c8
      clear hz hy E E2
      cases e0 : z.x0.toList == y.x0.toList with
      | false =>
        have p0 : ¬ z.x0.toList = y.x0.toList := ne_of_beq_false e0
        have q0 : (z.x0.toList != y.x0.toList) = true := by rw [bne, e0]; rfl
        have hs0 : Secs.same z y = false := by unfold Secs.same; rw [e0]; simp
        have en := Lib.hid (show Secs.sameL zs ys = false by unfold Secs.sameL; rw [Nam.all_bad (p := Secs.sameAt zs ys) (k := k) (by rw [← HL.out]; exact hlt0) (by unfold Secs.sameAt; rw [← HZ.out, ← HY.out]; exact hs0), Bool.and_false])
        clear hs0
        go_wp2_with fail
        refine wp_region_onh (by kernel_rfl) (by kernel_rfl) ?_
        repeat (refine rest_step (fun K hK => ?_); go_simp; first | (refine hK _ ?_; clear hK K) | (apply Exists.intro; refine ⟨fun v1 hv1 => ?_, hK _ ?_⟩; (first | with_reducible exact rfl | with_reducible exact ⟨rfl, rfl⟩ | (obtain ⟨hc, hf⟩ := bcell hv1; go_simp; first | with_reducible exact rfl | with_reducible exact ⟨rfl, rfl⟩ | exact rfl | exact ⟨rfl, rfl⟩)); clear hK K))
        refine rest_nil ?_
        intro w1 h1
        go_wp2_with fail
        go_ret
        exact ⟨ret_bool en.out.symm, by repeat (first | with_reducible exact On.refl _ | with_reducible apply On.alloc | with_reducible apply On.drewN | with_reducible apply On.drew | with_reducible refine On.setCell ?_ (by (try simp) <;> omega) _ | refine On.trans ?_ h1 | refine On.trans ?_ HB.out)⟩
      | true =>
        have p0 : z.x0.toList = y.x0.toList := eq_of_beq e0
        cases e1 : z.x1.toList == y.x1.toList with
        | false =>
          have p1 : ¬ z.x1.toList = y.x1.toList := ne_of_beq_false e1
          have q1 : (z.x1.toList != y.x1.toList) = true := by rw [bne, e1]; rfl
          have hs0 : Secs.same z y = false := by unfold Secs.same; rw [e0, e1]; simp
          have en := Lib.hid (show Secs.sameL zs ys = false by unfold Secs.sameL; rw [Nam.all_bad (p := Secs.sameAt zs ys) (k := k) (by rw [← HL.out]; exact hlt0) (by unfold Secs.sameAt; rw [← HZ.out, ← HY.out]; exact hs0), Bool.and_false])
          clear hs0
          go_wp2_with fail
          refine wp_region_onh (by kernel_rfl) (by kernel_rfl) ?_
          repeat (refine rest_step (fun K hK => ?_); go_simp; first | (refine hK _ ?_; clear hK K) | (apply Exists.intro; refine ⟨fun v1 hv1 => ?_, hK _ ?_⟩; (first | with_reducible exact rfl | with_reducible exact ⟨rfl, rfl⟩ | (obtain ⟨hc, hf⟩ := bcell hv1; go_simp; first | with_reducible exact rfl | with_reducible exact ⟨rfl, rfl⟩ | exact rfl | exact ⟨rfl, rfl⟩)); clear hK K))
          refine rest_nil ?_
          intro w1 h1
          go_wp2_with fail
          go_ret
          exact ⟨ret_bool en.out.symm, by repeat (first | with_reducible exact On.refl _ | with_reducible apply On.alloc | with_reducible apply On.drewN | with_reducible apply On.drew | with_reducible refine On.setCell ?_ (by (try simp) <;> omega) _ | refine On.trans ?_ h1 | refine On.trans ?_ HB.out)⟩
        | true =>
          have p1 : z.x1.toList = y.x1.toList := eq_of_beq e1
          cases e2 : z.x2.toList == y.x2.toList with
          | false =>
            have p2 : ¬ z.x2.toList = y.x2.toList := ne_of_beq_false e2
            have q2 : (z.x2.toList != y.x2.toList) = true := by rw [bne, e2]; rfl
            have hs0 : Secs.same z y = false := by unfold Secs.same; rw [e0, e1, e2]; simp
            have en := Lib.hid (show Secs.sameL zs ys = false by unfold Secs.sameL; rw [Nam.all_bad (p := Secs.sameAt zs ys) (k := k) (by rw [← HL.out]; exact hlt0) (by unfold Secs.sameAt; rw [← HZ.out, ← HY.out]; exact hs0), Bool.and_false])
            clear hs0
            go_wp2_with fail
            refine wp_region_onh (by kernel_rfl) (by kernel_rfl) ?_
            repeat (refine rest_step (fun K hK => ?_); go_simp; first | (refine hK _ ?_; clear hK K) | (apply Exists.intro; refine ⟨fun v1 hv1 => ?_, hK _ ?_⟩; (first | with_reducible exact rfl | with_reducible exact ⟨rfl, rfl⟩ | (obtain ⟨hc, hf⟩ := bcell hv1; go_simp; first | with_reducible exact rfl | with_reducible exact ⟨rfl, rfl⟩ | exact rfl | exact ⟨rfl, rfl⟩)); clear hK K))
            refine rest_nil ?_
            intro w1 h1
            go_wp2_with fail
            go_ret
            exact ⟨ret_bool en.out.symm, by repeat (first | with_reducible exact On.refl _ | with_reducible apply On.alloc | with_reducible apply On.drewN | with_reducible apply On.drew | with_reducible refine On.setCell ?_ (by (try simp) <;> omega) _ | refine On.trans ?_ h1 | refine On.trans ?_ HB.out)⟩
          | true =>
            have p2 : z.x2.toList = y.x2.toList := eq_of_beq e2
            cases e3 : z.x3.toList == y.x3.toList with
            | false =>
              have p3 : ¬ z.x3.toList = y.x3.toList := ne_of_beq_false e3
              have q3 : (z.x3.toList != y.x3.toList) = true := by rw [bne, e3]; rfl
              have hs0 : Secs.same z y = false := by unfold Secs.same; rw [e0, e1, e2, e3]; simp
              have en := Lib.hid (show Secs.sameL zs ys = false by unfold Secs.sameL; rw [Nam.all_bad (p := Secs.sameAt zs ys) (k := k) (by rw [← HL.out]; exact hlt0) (by unfold Secs.sameAt; rw [← HZ.out, ← HY.out]; exact hs0), Bool.and_false])
              clear hs0
              go_wp2_with fail
              refine wp_region_onh (by kernel_rfl) (by kernel_rfl) ?_
              repeat (refine rest_step (fun K hK => ?_); go_simp; first | (refine hK _ ?_; clear hK K) | (apply Exists.intro; refine ⟨fun v1 hv1 => ?_, hK _ ?_⟩; (first | with_reducible exact rfl | with_reducible exact ⟨rfl, rfl⟩ | (obtain ⟨hc, hf⟩ := bcell hv1; go_simp; first | with_reducible exact rfl | with_reducible exact ⟨rfl, rfl⟩ | exact rfl | exact ⟨rfl, rfl⟩)); clear hK K))
              refine rest_nil ?_
              intro w1 h1
              go_wp2_with fail
              go_ret
              exact ⟨ret_bool en.out.symm, by repeat (first | with_reducible exact On.refl _ | with_reducible apply On.alloc | with_reducible apply On.drewN | with_reducible apply On.drew | with_reducible refine On.setCell ?_ (by (try simp) <;> omega) _ | refine On.trans ?_ h1 | refine On.trans ?_ HB.out)⟩
            | true =>
              have p3 : z.x3.toList = y.x3.toList := eq_of_beq e3
              cases e4 : z.x4.toList == y.x4.toList with
              | false =>
                have p4 : ¬ z.x4.toList = y.x4.toList := ne_of_beq_false e4
                have q4 : (z.x4.toList != y.x4.toList) = true := by rw [bne, e4]; rfl
                have hs0 : Secs.same z y = false := by unfold Secs.same; rw [e0, e1, e2, e3, e4]; simp
                have en := Lib.hid (show Secs.sameL zs ys = false by unfold Secs.sameL; rw [Nam.all_bad (p := Secs.sameAt zs ys) (k := k) (by rw [← HL.out]; exact hlt0) (by unfold Secs.sameAt; rw [← HZ.out, ← HY.out]; exact hs0), Bool.and_false])
                clear hs0
                go_wp2_with fail
                refine wp_region_onh (by kernel_rfl) (by kernel_rfl) ?_
                repeat (refine rest_step (fun K hK => ?_); go_simp; first | (refine hK _ ?_; clear hK K) | (apply Exists.intro; refine ⟨fun v1 hv1 => ?_, hK _ ?_⟩; (first | with_reducible exact rfl | with_reducible exact ⟨rfl, rfl⟩ | (obtain ⟨hc, hf⟩ := bcell hv1; go_simp; first | with_reducible exact rfl | with_reducible exact ⟨rfl, rfl⟩ | exact rfl | exact ⟨rfl, rfl⟩)); clear hK K))
                refine rest_nil ?_
                intro w1 h1
                go_wp2_with fail
                go_ret
                exact ⟨ret_bool en.out.symm, by repeat (first | with_reducible exact On.refl _ | with_reducible apply On.alloc | with_reducible apply On.drewN | with_reducible apply On.drew | with_reducible refine On.setCell ?_ (by (try simp) <;> omega) _ | refine On.trans ?_ h1 | refine On.trans ?_ HB.out)⟩
              | true =>
                have p4 : z.x4.toList = y.x4.toList := eq_of_beq e4
                cases e5 : z.x5 == y.x5 with
                | false =>
                  have p5 : ¬ z.x5 = y.x5 := ne_of_beq_false e5
                  have q5 : (z.x5 != y.x5) = true := by rw [bne, e5]; rfl
                  have hs0 : Secs.same z y = false := by unfold Secs.same; rw [e0, e1, e2, e3, e4, e5]; simp
                  have en := Lib.hid (show Secs.sameL zs ys = false by unfold Secs.sameL; rw [Nam.all_bad (p := Secs.sameAt zs ys) (k := k) (by rw [← HL.out]; exact hlt0) (by unfold Secs.sameAt; rw [← HZ.out, ← HY.out]; exact hs0), Bool.and_false])
                  clear hs0
                  go_wp2_with fail
                  refine wp_region_onh (by kernel_rfl) (by kernel_rfl) ?_
                  repeat (refine rest_step (fun K hK => ?_); go_simp; first | (refine hK _ ?_; clear hK K) | (apply Exists.intro; refine ⟨fun v1 hv1 => ?_, hK _ ?_⟩; (first | with_reducible exact rfl | with_reducible exact ⟨rfl, rfl⟩ | (obtain ⟨hc, hf⟩ := bcell hv1; go_simp; first | with_reducible exact rfl | with_reducible exact ⟨rfl, rfl⟩ | exact rfl | exact ⟨rfl, rfl⟩)); clear hK K))
                  refine rest_nil ?_
                  intro w1 h1
                  go_wp2_with fail
                  go_ret
                  exact ⟨ret_bool en.out.symm, by repeat (first | with_reducible exact On.refl _ | with_reducible apply On.alloc | with_reducible apply On.drewN | with_reducible apply On.drew | with_reducible refine On.setCell ?_ (by (try simp) <;> omega) _ | refine On.trans ?_ h1 | refine On.trans ?_ HB.out)⟩
                | true =>
                  have p5 : z.x5 = y.x5 := eq_of_beq e5
                  cases e6 : z.x6 == y.x6 with
                  | false =>
                    have p6 : ¬ z.x6 = y.x6 := ne_of_beq_false e6
                    have q6 : (z.x6 != y.x6) = true := by rw [bne, e6]; rfl
                    have hs0 : Secs.same z y = false := by unfold Secs.same; rw [e0, e1, e2, e3, e4, e5, e6]; simp
                    have en := Lib.hid (show Secs.sameL zs ys = false by unfold Secs.sameL; rw [Nam.all_bad (p := Secs.sameAt zs ys) (k := k) (by rw [← HL.out]; exact hlt0) (by unfold Secs.sameAt; rw [← HZ.out, ← HY.out]; exact hs0), Bool.and_false])
                    clear hs0
                    go_wp2_with fail
                    refine wp_region_onh (by kernel_rfl) (by kernel_rfl) ?_
                    repeat (refine rest_step (fun K hK => ?_); go_simp; first | (refine hK _ ?_; clear hK K) | (apply Exists.intro; refine ⟨fun v1 hv1 => ?_, hK _ ?_⟩; (first | with_reducible exact rfl | with_reducible exact ⟨rfl, rfl⟩ | (obtain ⟨hc, hf⟩ := bcell hv1; go_simp; first | with_reducible exact rfl | with_reducible exact ⟨rfl, rfl⟩ | exact rfl | exact ⟨rfl, rfl⟩)); clear hK K))
                    refine rest_nil ?_
                    intro w1 h1
                    go_wp2_with fail
                    go_ret
                    exact ⟨ret_bool en.out.symm, by repeat (first | with_reducible exact On.refl _ | with_reducible apply On.alloc | with_reducible apply On.drewN | with_reducible apply On.drew | with_reducible refine On.setCell ?_ (by (try simp) <;> omega) _ | refine On.trans ?_ h1 | refine On.trans ?_ HB.out)⟩
                  | true =>
                    have p6 : z.x6 = y.x6 := eq_of_beq e6
                    cases e7 : z.x7 == y.x7 with
                    | false =>
                      have p7 : ¬ z.x7 = y.x7 := ne_of_beq_false e7
                      have q7 : (z.x7 != y.x7) = true := by rw [bne, e7]; rfl
                      have hs0 : Secs.same z y = false := by unfold Secs.same; rw [e0, e1, e2, e3, e4, e5, e6, e7]; simp
                      have en := Lib.hid (show Secs.sameL zs ys = false by unfold Secs.sameL; rw [Nam.all_bad (p := Secs.sameAt zs ys) (k := k) (by rw [← HL.out]; exact hlt0) (by unfold Secs.sameAt; rw [← HZ.out, ← HY.out]; exact hs0), Bool.and_false])
                      clear hs0
                      go_wp2_with fail
                      refine wp_region_onh (by kernel_rfl) (by kernel_rfl) ?_
                      repeat (refine rest_step (fun K hK => ?_); go_simp; first | (refine hK _ ?_; clear hK K) | (apply Exists.intro; refine ⟨fun v1 hv1 => ?_, hK _ ?_⟩; (first | with_reducible exact rfl | with_reducible exact ⟨rfl, rfl⟩ | (obtain ⟨hc, hf⟩ := bcell hv1; go_simp; first | with_reducible exact rfl | with_reducible exact ⟨rfl, rfl⟩ | exact rfl | exact ⟨rfl, rfl⟩)); clear hK K))
                      refine rest_nil ?_
                      intro w1 h1
                      go_wp2_with fail
                      go_ret
                      exact ⟨ret_bool en.out.symm, by repeat (first | with_reducible exact On.refl _ | with_reducible apply On.alloc | with_reducible apply On.drewN | with_reducible apply On.drew | with_reducible refine On.setCell ?_ (by (try simp) <;> omega) _ | refine On.trans ?_ h1 | refine On.trans ?_ HB.out)⟩
                    | true =>
                      have p7 : z.x7 = y.x7 := eq_of_beq e7
                      cases e8 : z.x8 == y.x8 with
                      | false =>
                        have p8 : ¬ z.x8 = y.x8 := ne_of_beq_false e8
                        have q8 : (z.x8 != y.x8) = true := by rw [bne, e8]; rfl
                        have hs0 : Secs.same z y = false := by unfold Secs.same; rw [e0, e1, e2, e3, e4, e5, e6, e7, e8]; simp
                        have en := Lib.hid (show Secs.sameL zs ys = false by unfold Secs.sameL; rw [Nam.all_bad (p := Secs.sameAt zs ys) (k := k) (by rw [← HL.out]; exact hlt0) (by unfold Secs.sameAt; rw [← HZ.out, ← HY.out]; exact hs0), Bool.and_false])
                        clear hs0
                        go_wp2_with fail
                        refine wp_region_onh (by kernel_rfl) (by kernel_rfl) ?_
                        repeat (refine rest_step (fun K hK => ?_); go_simp; first | (refine hK _ ?_; clear hK K) | (apply Exists.intro; refine ⟨fun v1 hv1 => ?_, hK _ ?_⟩; (first | with_reducible exact rfl | with_reducible exact ⟨rfl, rfl⟩ | (obtain ⟨hc, hf⟩ := bcell hv1; go_simp; first | with_reducible exact rfl | with_reducible exact ⟨rfl, rfl⟩ | exact rfl | exact ⟨rfl, rfl⟩)); clear hK K))
                        refine rest_nil ?_
                        intro w1 h1
                        go_wp2_with fail
                        go_ret
                        exact ⟨ret_bool en.out.symm, by repeat (first | with_reducible exact On.refl _ | with_reducible apply On.alloc | with_reducible apply On.drewN | with_reducible apply On.drew | with_reducible refine On.setCell ?_ (by (try simp) <;> omega) _ | refine On.trans ?_ h1 | refine On.trans ?_ HB.out)⟩
                      | true =>
                        have p8 : z.x8 = y.x8 := eq_of_beq e8
                        have hs0 : Secs.same z y = true := by unfold Secs.same; rw [e0, e1, e2, e3, e4, e5, e6, e7, e8]; rfl
                        have HU2 := Lib.hid (Nam.upto_succ HA.out (show Secs.sameAt zs ys k = true by unfold Secs.sameAt; rw [← HZ.out, ← HY.out]; exact hs0))
                        clear hs0
                        go_wp2_with fail
                        refine wp_region_onh (by kernel_rfl) (by kernel_rfl) ?_
                        repeat (refine rest_step (fun K hK => ?_); go_simp; first | (refine hK _ ?_; clear hK K) | (apply Exists.intro; refine ⟨fun v1 hv1 => ?_, hK _ ?_⟩; (first | with_reducible exact rfl | with_reducible exact ⟨rfl, rfl⟩ | (obtain ⟨hc, hf⟩ := bcell hv1; go_simp; first | with_reducible exact rfl | with_reducible exact ⟨rfl, rfl⟩ | exact rfl | exact ⟨rfl, rfl⟩)); clear hK K))
                        refine rest_nil ?_
                        intro w1 h1
                        have HO1 := Lib.hid (show On w w1 from by repeat (first | with_reducible exact On.refl _ | with_reducible apply On.alloc | with_reducible apply On.drewN | with_reducible apply On.drew | with_reducible refine On.setCell ?_ (by (try simp) <;> omega) _ | refine On.trans ?_ h1 | refine On.trans ?_ HB.out))
                        clear h1
                        go_wp2_with fail
                        go_roundw
                        case rel => first | exact ⟨_, hlt0, by go_num, HU2.out, HO1.out⟩ | ((repeat apply Exists.intro); exact ⟨hlt0, by go_num, HU2.out, HO1.out⟩)
                        case measure => simp [intOf]; omega
    · obtain rfl : n = k := by omega
      have hlti : ¬ (n : Int) < (n : Int) := by omega
      have en := Lib.hid (show Secs.sameL zs ys = true by unfold Secs.sameL; rw [decide_eq_true HE.out, Nam.all_all (by rw [← HL.out]; exact HA.out)]; rfl)
      go_wp2
      go_ret
      exact ⟨ret_bool en.out.symm, HB.out⟩
theorem lib_len (a a2 : Option Addr) (cap cap2 : Nat) (zs ys : List Z) (w : World) (hl : zs.length ≠ ys.length) :
    Calls Try.prog 52 #[.slice a zs.length cap, .slice a2 ys.length cap2] w fun e w' => e = .returned (.bool (sameL zs ys)) ∧ On w w' := by
  have en := Lib.hid (show sameL zs ys = false by unfold sameL; rw [decide_eq_false hl]; rfl)
  have b1 : ((zs.length : Int) == (ys.length : Int)) = false := beq_eq_false_iff_ne.2 (by omega)
  have b2 : ((zs.length : Int) != (ys.length : Int)) = true := by rw [bne, b1]; rfl
  clear hl
  go_enter Try.func52, Try.ntmps52
  go_wp2_with fail
  go_ret
  exact ⟨ret_bool en.out.symm, On.refl _⟩
theorem lib_none (a a2 : Option Addr) (cap cap2 : Nat) (w : World) :
    Calls Try.prog 52 #[.slice a 0 cap, .slice a2 0 cap2] w fun e w' => e = .returned (.bool (sameL [] [])) ∧ On w w' := by
  go_enter Try.func52, Try.ntmps52
  go_wp2
  refine wp_loop_rounds 1 ?_
  rw [rounds_succ]
  go_wp2
  go_ret
  exact ⟨rfl, On.refl _⟩
theorem lib_same (v u : Value) (zs ys : List Z) (w : World) (hn : zs.length ≤ 1048576) (h : Rows w v zs) (h2 : Rows w u ys) :
    Calls Try.prog 52 #[v, u] w fun e w' => e = .returned (.bool (sameL zs ys)) ∧ On w w' := by
  have h' := h
  have h2' := h2
  obtain ⟨a, cap, rfl, -⟩ := h
  obtain ⟨a2, cap2, rfl, -⟩ := h2
  by_cases hl : zs.length = ys.length
  · by_cases h0 : 0 < zs.length
    · obtain ⟨b, off, rfl, hlt, hcell⟩ := slice_of h' h0
      obtain ⟨b2, off2, rfl, hlt2, hcell2⟩ := slice_of h2' (by omega)
      exact lib_some b off cap b2 off2 cap2 zs ys w hn hl hlt hlt2 hcell hcell2
    · have e1 : zs = [] := List.eq_nil_of_length_eq_zero (by omega)
      have e2 : ys = [] := List.eq_nil_of_length_eq_zero (by omega)
      subst e1 e2
      exact lib_none a a2 cap cap2 w
  · exact lib_len a a2 cap cap2 zs ys w hl
end Secs
namespace Ants
set_option maxHeartbeats 4000000 in
theorem lib_some (b1 off1 cap b2_ off2 cap2 : Nat) (zs ys : List Z) (w : World) (hn : zs.length ≤ 1048576) (hl : zs.length = ys.length) (hlt1 : b1 < w.heap.size) (hlt2 : b2_ < w.heap.size)
    (hcell : ∀ k, k < zs.length → El w b1 (off1 + k * 4) (zs.getD k d0)) (hcell2 : ∀ k, k < ys.length → El w b2_ (off2 + k * 4) (ys.getD k d0)) (hs : ∀ k, k < zs.length → Ants.Small 1048576 (zs.getD k Ants.d0)) (hs2 : ∀ k, k < ys.length → Ants.Small 1048576 (ys.getD k Ants.d0)) :
    Calls Try.prog 53 #[.slice (some ⟨b1, off1, none⟩) zs.length cap, .slice (some ⟨b2_, off2, none⟩) ys.length cap2, (.func (Fn.func 54) #[] #[])] w fun e w' => e = .returned (.bool (sameL zs ys)) ∧ On w w' := by
  have HC := Lib.hid hcell
  have HC2 := Lib.hid hcell2
  have HS1 := Lib.hid hs
  have HS2 := Lib.hid hs2
  obtain ⟨n, hnn⟩ : ∃ n, n = zs.length := ⟨_, rfl⟩
  have HL := Lib.hid hnn
  have HM := Lib.hid (hnn.trans hl)
  rw [← hl, ← hnn]
  rw [← hnn] at hn
  have HE := Lib.hid hl
  clear hcell hcell2 hl hnn hs hs2
  go_enter Try.func53, Try.ntmps53
  go_wp2_with fail
  go_loopw [17] (fun i wr => ∃ k : Nat, k ≤ n ∧ i = .int .i64 k ∧ Nam.Upto (Ants.sameAt zs ys) k ∧ On w wr) (fun i _ => n - (intOf i).toNat)
  case atStart => exact ⟨0, Nat.zero_le _, rfl, Nam.upto_zero _, On.refl _⟩
  case round =>
    obtain ⟨k, hk, rfl, hall, ho⟩ := hrel
    have HA := Lib.hid hall
    have HB := Lib.hid ho
    have hb1r : b1 < wr.heap.size := ho.lts _ hlt1
    have hb2r : b2_ < wr.heap.size := ho.lts _ hlt2
    clear hall ho
    by_cases hlt0 : k < n
    · have hlti : (k : Int) < (n : Int) := by omega
      obtain ⟨z, hz⟩ : ∃ z : Z, z = zs.getD k d0 := ⟨_, rfl⟩
      obtain ⟨y, hy⟩ : ∃ y : Z, y = ys.getD k d0 := ⟨_, rfl⟩
      have HZ := Lib.hid hz
      have HY := Lib.hid hy
      have E : El wr b1 (off1 + k * 4) z := by rw [hz]; exact (HC.out k (by rw [← HL.out]; exact hlt0)).on HB.out
      have E2 : El wr b2_ (off2 + k * 4) y := by rw [hy]; exact (HC2.out k (by rw [← HM.out]; exact hlt0)).on HB.out
      have c0 := E.c0
      have c1 := E.c1
      obtain ⟨a2, cap2, c2, _, i2⟩ := E.c2
      obtain ⟨a3, cap3, c3, _, i3⟩ := E.c3
      have d0 := E2.c0
      have d1 := E2.c1
      obtain ⟨b2, dap2, d2, _, j2⟩ := E2.c2
      obtain ⟨b3, dap3, d3, _, j3⟩ := E2.c3
      clear hz hy E E2
      have hb1n : b1 ≠ wr.heap.size := Nat.ne_of_lt hb1r
      have hb2n : b2_ ≠ wr.heap.size := Nat.ne_of_lt hb2r
      have g1 : Ants.Small 1048576 z := by rw [HZ.out]; exact HS1.out k (by rw [← HL.out]; exact hlt0)
      have g2 : Ants.Small 1048576 y := by rw [HY.out]; exact HS2.out k (by rw [← HM.out]; exact hlt0)
      have hc1 := fun w' (ho : On wr w') => Ant.impl_same z.x0 z.x1 (.slice a2 z.x2.length cap2) (.slice a3 z.x3.length cap3) z.x2 z.x3 y.x0 y.x1 (.slice b2 y.x2.length dap2) (.slice b3 y.x3.length dap3) y.x2 y.x3 w' g1.1 g1.2.1 g1.2.2 g2.1 g2.2.1 g2.2.2 (i2.below ho) (i3.below ho) (j2.below ho) (j3.below ho)
      have hsd : Ants.same z y = Ants.same z y := rfl
      rw [show Ant.sameA z.x0 z.x1 z.x2 z.x3 y.x0 y.x1 y.x2 y.x3 = Ants.same z y from rfl] at hc1
      have HC1 := Lib.hid hc1
      clear hc1 hsd g1 g2 i2 j2 i3 j3
      cases hs0 : Ants.same z y with
      | false =>
        rw [hs0] at HC1
        have en := Lib.hid (show Ants.sameL zs ys = false by unfold Ants.sameL; rw [Nam.all_bad (p := Ants.sameAt zs ys) (k := k) (by rw [← HL.out]; exact hlt0) (by unfold Ants.sameAt; rw [← HZ.out, ← HY.out]; exact hs0), Bool.and_false])
        clear hs0
        go_wp2_with fail
        refine (HC1.out _ (by repeat (first | with_reducible exact On.refl _ | with_reducible apply On.alloc | with_reducible apply On.drewN | with_reducible apply On.drew | with_reducible refine On.setCell ?_ (by (try simp) <;> omega) _))).mono ?_
        rintro e w1 ⟨rfl, h1⟩
        go_wp2_with fail
        go_ret
        exact ⟨ret_bool en.out.symm, by repeat (first | with_reducible exact On.refl _ | with_reducible apply On.alloc | with_reducible apply On.drewN | with_reducible apply On.drew | with_reducible refine On.setCell ?_ (by (try simp) <;> omega) _ | refine On.trans ?_ h1 | refine On.trans ?_ HB.out)⟩
      | true =>
        rw [hs0] at HC1
        have HU2 := Lib.hid (Nam.upto_succ HA.out (show Ants.sameAt zs ys k = true by unfold Ants.sameAt; rw [← HZ.out, ← HY.out]; exact hs0))
        clear hs0
        go_wp2_with fail
        refine (HC1.out _ (by repeat (first | with_reducible exact On.refl _ | with_reducible apply On.alloc | with_reducible apply On.drewN | with_reducible apply On.drew | with_reducible refine On.setCell ?_ (by (try simp) <;> omega) _))).mono ?_
        rintro e w1 ⟨rfl, h1⟩
        have HO1 := Lib.hid (show On w w1 from by repeat (first | with_reducible exact On.refl _ | with_reducible apply On.alloc | with_reducible apply On.drewN | with_reducible apply On.drew | with_reducible refine On.setCell ?_ (by (try simp) <;> omega) _ | refine On.trans ?_ h1 | refine On.trans ?_ HB.out))
        clear h1
        go_wp2_with fail
        go_roundw
        case rel => first | exact ⟨_, hlt0, by go_num, HU2.out, HO1.out⟩ | ((repeat apply Exists.intro); exact ⟨hlt0, by go_num, HU2.out, HO1.out⟩)
        case measure => simp [intOf]; omega
    · obtain rfl : n = k := by omega
      have hlti : ¬ (n : Int) < (n : Int) := by omega
      have en := Lib.hid (show Ants.sameL zs ys = true by unfold Ants.sameL; rw [decide_eq_true HE.out, Nam.all_all (by rw [← HL.out]; exact HA.out)]; rfl)
      go_wp2
      go_ret
      exact ⟨ret_bool en.out.symm, HB.out⟩
theorem lib_len (a a2 : Option Addr) (cap cap2 : Nat) (zs ys : List Z) (w : World) (hl : zs.length ≠ ys.length) :
    Calls Try.prog 53 #[.slice a zs.length cap, .slice a2 ys.length cap2, (.func (Fn.func 54) #[] #[])] w fun e w' => e = .returned (.bool (sameL zs ys)) ∧ On w w' := by
  have en := Lib.hid (show sameL zs ys = false by unfold sameL; rw [decide_eq_false hl]; rfl)
  have b1 : ((zs.length : Int) == (ys.length : Int)) = false := beq_eq_false_iff_ne.2 (by omega)
  have b2 : ((zs.length : Int) != (ys.length : Int)) = true := by rw [bne, b1]; rfl
  clear hl
  go_enter Try.func53, Try.ntmps53
  go_wp2_with fail
  go_ret
  exact ⟨ret_bool en.out.symm, On.refl _⟩
theorem lib_none (a a2 : Option Addr) (cap cap2 : Nat) (w : World) :
    Calls Try.prog 53 #[.slice a 0 cap, .slice a2 0 cap2, (.func (Fn.func 54) #[] #[])] w fun e w' => e = .returned (.bool (sameL [] [])) ∧ On w w' := by
  go_enter Try.func53, Try.ntmps53
  go_wp2
  refine wp_loop_rounds 1 ?_
  rw [rounds_succ]
  go_wp2
  go_ret
  exact ⟨rfl, On.refl _⟩
theorem lib_same (v u : Value) (zs ys : List Z) (w : World) (hn : zs.length ≤ 1048576) (h : Rows w v zs) (h2 : Rows w u ys) (hs : ∀ k, k < zs.length → Ants.Small 1048576 (zs.getD k Ants.d0)) (hs2 : ∀ k, k < ys.length → Ants.Small 1048576 (ys.getD k Ants.d0)) :
    Calls Try.prog 53 #[v, u, (.func (Fn.func 54) #[] #[])] w fun e w' => e = .returned (.bool (sameL zs ys)) ∧ On w w' := by
  have h' := h
  have h2' := h2
  obtain ⟨a, cap, rfl, -⟩ := h
  obtain ⟨a2, cap2, rfl, -⟩ := h2
  by_cases hl : zs.length = ys.length
  · by_cases h0 : 0 < zs.length
    · obtain ⟨b, off, rfl, hlt, hcell⟩ := slice_of h' h0
      obtain ⟨b2, off2, rfl, hlt2, hcell2⟩ := slice_of h2' (by omega)
      exact lib_some b off cap b2 off2 cap2 zs ys w hn hl hlt hlt2 hcell hcell2 hs hs2
    · have e1 : zs = [] := List.eq_nil_of_length_eq_zero (by omega)
      have e2 : ys = [] := List.eq_nil_of_length_eq_zero (by omega)
      subst e1 e2
      exact lib_none a a2 cap cap2 w
  · exact lib_len a a2 cap cap2 zs ys w hl
end Ants
namespace Rads
set_option maxHeartbeats 4000000 in
theorem lib_some (b1 off1 cap b2_ off2 cap2 : Nat) (zs ys : List Z) (w : World) (hn : zs.length ≤ 1048576) (hl : zs.length = ys.length) (hlt1 : b1 < w.heap.size) (hlt2 : b2_ < w.heap.size)
    (hcell : ∀ k, k < zs.length → El w b1 (off1 + k * 6) (zs.getD k d0)) (hcell2 : ∀ k, k < ys.length → El w b2_ (off2 + k * 6) (ys.getD k d0)) (hs : ∀ k, k < zs.length → Rads.Small 1048576 (zs.getD k Rads.d0)) (hs2 : ∀ k, k < ys.length → Rads.Small 1048576 (ys.getD k Rads.d0)) :
    Calls Try.prog 55 #[.slice (some ⟨b1, off1, none⟩) zs.length cap, .slice (some ⟨b2_, off2, none⟩) ys.length cap2, (.func (Fn.func 56) #[] #[])] w fun e w' => e = .returned (.bool (sameL zs ys)) ∧ On w w' := by
  have HC := Lib.hid hcell
  have HC2 := Lib.hid hcell2
  have HS1 := Lib.hid hs
  have HS2 := Lib.hid hs2
  obtain ⟨n, hnn⟩ : ∃ n, n = zs.length := ⟨_, rfl⟩
  have HL := Lib.hid hnn
  have HM := Lib.hid (hnn.trans hl)
  rw [← hl, ← hnn]
  rw [← hnn] at hn
  have HE := Lib.hid hl
  clear hcell hcell2 hl hnn hs hs2
  go_enter Try.func55, Try.ntmps55
  go_wp2_with fail
  go_loopw [17] (fun i wr => ∃ k : Nat, k ≤ n ∧ i = .int .i64 k ∧ Nam.Upto (Rads.sameAt zs ys) k ∧ On w wr) (fun i _ => n - (intOf i).toNat)
  case atStart => exact ⟨0, Nat.zero_le _, rfl, Nam.upto_zero _, On.refl _⟩
  case round =>
    obtain ⟨k, hk, rfl, hall, ho⟩ := hrel
    have HA := Lib.hid hall
    have HB := Lib.hid ho
    have hb1r : b1 < wr.heap.size := ho.lts _ hlt1
    have hb2r : b2_ < wr.heap.size := ho.lts _ hlt2
    clear hall ho
    by_cases hlt0 : k < n
    · have hlti : (k : Int) < (n : Int) := by omega
      obtain ⟨z, hz⟩ : ∃ z : Z, z = zs.getD k d0 := ⟨_, rfl⟩
      obtain ⟨y, hy⟩ : ∃ y : Z, y = ys.getD k d0 := ⟨_, rfl⟩
      have HZ := Lib.hid hz
      have HY := Lib.hid hy
      have E : El wr b1 (off1 + k * 6) z := by rw [hz]; exact (HC.out k (by rw [← HL.out]; exact hlt0)).on HB.out
      have E2 : El wr b2_ (off2 + k * 6) y := by rw [hy]; exact (HC2.out k (by rw [← HM.out]; exact hlt0)).on HB.out
      have c0 := E.c0
      have c1 := E.c1
      have c2 := E.c2
      have c3 := E.c3
      have c4 := E.c4
      obtain ⟨a5, cap5, c5, _, i5⟩ := E.c5
      have d0 := E2.c0
      have d1 := E2.c1
      have d2 := E2.c2
      have d3 := E2.c3
      have d4 := E2.c4
      obtain ⟨b5, dap5, d5, _, j5⟩ := E2.c5
      clear hz hy E E2
      have hb1n : b1 ≠ wr.heap.size := Nat.ne_of_lt hb1r
      have hb2n : b2_ ≠ wr.heap.size := Nat.ne_of_lt hb2r
      have g1 : Rads.Small 1048576 z := by rw [HZ.out]; exact HS1.out k (by rw [← HL.out]; exact hlt0)
      have g2 : Rads.Small 1048576 y := by rw [HY.out]; exact HS2.out k (by rw [← HM.out]; exact hlt0)
      have hc1 := fun w' (ho : On wr w') => Rad.impl_same z.x0 z.x1 z.x2 z.x3 z.x4 (.slice a5 z.x5.length cap5) z.x5 y.x0 y.x1 y.x2 y.x3 y.x4 (.slice b5 y.x5.length dap5) y.x5 w' g1.1 g1.2 g2.1 g2.2 (i5.below ho) (j5.below ho)
      have hsd : Rads.same z y = Rads.same z y := rfl
      rw [show Rad.sameR z.x0 z.x1 z.x2 z.x3 z.x4 z.x5 y.x0 y.x1 y.x2 y.x3 y.x4 y.x5 = Rads.same z y from rfl] at hc1
      have HC1 := Lib.hid hc1
      clear hc1 hsd g1 g2 i5 j5
      cases hs0 : Rads.same z y with
      | false =>
        rw [hs0] at HC1
        have en := Lib.hid (show Rads.sameL zs ys = false by unfold Rads.sameL; rw [Nam.all_bad (p := Rads.sameAt zs ys) (k := k) (by rw [← HL.out]; exact hlt0) (by unfold Rads.sameAt; rw [← HZ.out, ← HY.out]; exact hs0), Bool.and_false])
        clear hs0
        go_wp2_with fail
        refine (HC1.out _ (by repeat (first | with_reducible exact On.refl _ | with_reducible apply On.alloc | with_reducible apply On.drewN | with_reducible apply On.drew | with_reducible refine On.setCell ?_ (by (try simp) <;> omega) _))).mono ?_
        rintro e w1 ⟨rfl, h1⟩
        go_wp2_with fail
        go_ret
        exact ⟨ret_bool en.out.symm, by repeat (first | with_reducible exact On.refl _ | with_reducible apply On.alloc | with_reducible apply On.drewN | with_reducible apply On.drew | with_reducible refine On.setCell ?_ (by (try simp) <;> omega) _ | refine On.trans ?_ h1 | refine On.trans ?_ HB.out)⟩
      | true =>
        rw [hs0] at HC1
        have HU2 := Lib.hid (Nam.upto_succ HA.out (show Rads.sameAt zs ys k = true by unfold Rads.sameAt; rw [← HZ.out, ← HY.out]; exact hs0))
        clear hs0
        go_wp2_with fail
        refine (HC1.out _ (by repeat (first | with_reducible exact On.refl _ | with_reducible apply On.alloc | with_reducible apply On.drewN | with_reducible apply On.drew | with_reducible refine On.setCell ?_ (by (try simp) <;> omega) _))).mono ?_
        rintro e w1 ⟨rfl, h1⟩
        have HO1 := Lib.hid (show On w w1 from by repeat (first | with_reducible exact On.refl _ | with_reducible apply On.alloc | with_reducible apply On.drewN | with_reducible apply On.drew | with_reducible refine On.setCell ?_ (by (try simp) <;> omega) _ | refine On.trans ?_ h1 | refine On.trans ?_ HB.out))
        clear h1
        go_wp2_with fail
        go_roundw
        case rel => first | exact ⟨_, hlt0, by go_num, HU2.out, HO1.out⟩ | ((repeat apply Exists.intro); exact ⟨hlt0, by go_num, HU2.out, HO1.out⟩)
        case measure => simp [intOf]; omega
    · obtain rfl : n = k := by omega
      have hlti : ¬ (n : Int) < (n : Int) := by omega
      have en := Lib.hid (show Rads.sameL zs ys = true by unfold Rads.sameL; rw [decide_eq_true HE.out, Nam.all_all (by rw [← HL.out]; exact HA.out)]; rfl)
      go_wp2
      go_ret
      exact ⟨ret_bool en.out.symm, HB.out⟩
theorem lib_len (a a2 : Option Addr) (cap cap2 : Nat) (zs ys : List Z) (w : World) (hl : zs.length ≠ ys.length) :
    Calls Try.prog 55 #[.slice a zs.length cap, .slice a2 ys.length cap2, (.func (Fn.func 56) #[] #[])] w fun e w' => e = .returned (.bool (sameL zs ys)) ∧ On w w' := by
  have en := Lib.hid (show sameL zs ys = false by unfold sameL; rw [decide_eq_false hl]; rfl)
  have b1 : ((zs.length : Int) == (ys.length : Int)) = false := beq_eq_false_iff_ne.2 (by omega)
  have b2 : ((zs.length : Int) != (ys.length : Int)) = true := by rw [bne, b1]; rfl
  clear hl
  go_enter Try.func55, Try.ntmps55
  go_wp2_with fail
  go_ret
  exact ⟨ret_bool en.out.symm, On.refl _⟩
theorem lib_none (a a2 : Option Addr) (cap cap2 : Nat) (w : World) :
    Calls Try.prog 55 #[.slice a 0 cap, .slice a2 0 cap2, (.func (Fn.func 56) #[] #[])] w fun e w' => e = .returned (.bool (sameL [] [])) ∧ On w w' := by
  go_enter Try.func55, Try.ntmps55
  go_wp2
  refine wp_loop_rounds 1 ?_
  rw [rounds_succ]
  go_wp2
  go_ret
  exact ⟨rfl, On.refl _⟩
theorem lib_same (v u : Value) (zs ys : List Z) (w : World) (hn : zs.length ≤ 1048576) (h : Rows w v zs) (h2 : Rows w u ys) (hs : ∀ k, k < zs.length → Rads.Small 1048576 (zs.getD k Rads.d0)) (hs2 : ∀ k, k < ys.length → Rads.Small 1048576 (ys.getD k Rads.d0)) :
    Calls Try.prog 55 #[v, u, (.func (Fn.func 56) #[] #[])] w fun e w' => e = .returned (.bool (sameL zs ys)) ∧ On w w' := by
  have h' := h
  have h2' := h2
  obtain ⟨a, cap, rfl, -⟩ := h
  obtain ⟨a2, cap2, rfl, -⟩ := h2
  by_cases hl : zs.length = ys.length
  · by_cases h0 : 0 < zs.length
    · obtain ⟨b, off, rfl, hlt, hcell⟩ := slice_of h' h0
      obtain ⟨b2, off2, rfl, hlt2, hcell2⟩ := slice_of h2' (by omega)
      exact lib_some b off cap b2 off2 cap2 zs ys w hn hl hlt hlt2 hcell hcell2 hs hs2
    · have e1 : zs = [] := List.eq_nil_of_length_eq_zero (by omega)
      have e2 : ys = [] := List.eq_nil_of_length_eq_zero (by omega)
      subst e1 e2
      exact lib_none a a2 cap cap2 w
  · exact lib_len a a2 cap cap2 zs ys w hl
end Rads
end Go.Proofs.Ytpnmodmaabhldaa
