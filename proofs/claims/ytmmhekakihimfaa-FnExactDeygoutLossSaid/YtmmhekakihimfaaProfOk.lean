
/-
  When a profile is valid, in the model and in the program. Condition: at most 1048576 heights.
-/
import Derived.Test.YtmmhekakihimfaaProf0
import Derived.Test.YtmmhekakihimfaaAll
import Derived.Test.YtmmhekakihimfaaArith
namespace Go.Proofs.Ytmmhekakihimfaa.Prof
open Go.RowKit
open Plain
open Ints (Ints Own)

def htB (h : Int) : Bool := inB h 0 90000
/-- Whether a profile is valid. -/
def okP (d f l : Int) (zs : List Int) : Bool := inB d 1 283000 && (decide (2 ≤ zs.length ∧ zs.length ≤ 65) && (zs.all htB && (inB f (zs.getD 0 0) 180000 && inB l (zs.getD (zs.length - 1) 0) 180000)))
theorem okP_d {d f l : Int} {zs : List Int} (h : inB d 1 283000 = false) : okP d f l zs = false := by unfold okP; rw [h]; rfl
theorem okP_n {d f l : Int} {zs : List Int} (h : ¬ (2 ≤ zs.length ∧ zs.length ≤ 65)) : okP d f l zs = false := by unfold okP; rw [decide_eq_false h]; simp
theorem okP_z {d f l : Int} {zs : List Int} (h : zs.all htB = false) : okP d f l zs = false := by unfold okP; rw [h]; simp
theorem okP_ends {d f l : Int} {zs : List Int} (h : inB f (zs.getD 0 0) 180000 = false ∨ inB l (zs.getD (zs.length - 1) 0) 180000 = false) : okP d f l zs = false := by
  unfold okP; rcases h with h | h <;> rw [h] <;> simp
theorem okP_yes {d f l : Int} {zs : List Int} (h1 : inB d 1 283000 = true) (h2 : 2 ≤ zs.length ∧ zs.length ≤ 65) (h3 : zs.all htB = true) (h4 : inB f (zs.getD 0 0) 180000 = true) (h5 : inB l (zs.getD (zs.length - 1) 0) 180000 = true) : okP d f l zs = true := by
  unfold okP; rw [h1, decide_eq_true h2, h3, h4, h5]; rfl
theorem of_okP {d f l : Int} {zs : List Int} (h : okP d f l zs = true) : (1 ≤ d ∧ d ≤ 283000) ∧ (2 ≤ zs.length ∧ zs.length ≤ 65) ∧ AllTo htB zs zs.length ∧ (zs.getD 0 0 ≤ f ∧ f ≤ 180000) ∧ (zs.getD (zs.length - 1) 0 ≤ l ∧ l ≤ 180000) := by
  unfold okP at h
  rw [Bool.and_eq_true, Bool.and_eq_true, Bool.and_eq_true, Bool.and_eq_true] at h
  exact ⟨of_inB h.1, of_decide_eq_true h.2.1, allTo_of h.2.2.1, of_inB h.2.2.2.1, of_inB h.2.2.2.2⟩
theorem okP_far {d f l : Int} {zs : List Int} (h : inB f 0 180000 = false ∨ inB l 0 180000 = false) : okP d f l zs = false := by
  cases hk : okP d f l zs with
  | false => rfl
  | true =>
    exfalso
    obtain ⟨_, h2, h3, h4, h5⟩ := of_okP hk
    have z0 := of_inB (h3 0 (by omega))
    have z1 := of_inB (h3 (zs.length - 1) (by omega))
    rcases h with h | h
    · rw [inB_yes (by omega) (by omega)] at h; cases h
    · rw [inB_yes (by omega) (by omega)] at h; cases h

/-- The block g holds a profile. -/
def PIn (w : World) (g : Nat) (d f l : Int) (v : Value) : Prop := w.cell? ⟨g, 0, none⟩ = some (.int .i64 d) ∧ w.cell? ⟨g, 1, none⟩ = some (.int .i64 f) ∧ w.cell? ⟨g, 2, none⟩ = some (.int .i64 l) ∧ w.cell? ⟨g, 3, none⟩ = some v
theorem PIn.on {w w' : World} {g : Nat} {d f l : Int} {v : Value} (h : PIn w g d f l v) (ho : On w w') : PIn w' g d f l v :=
  ⟨(ho.cell (World.block_lt_of_cell? w _ h.1)).trans h.1, (ho.cell (World.block_lt_of_cell? w _ h.2.1)).trans h.2.1, (ho.cell (World.block_lt_of_cell? w _ h.2.2.1)).trans h.2.2.1, (ho.cell (World.block_lt_of_cell? w _ h.2.2.2)).trans h.2.2.2⟩

theorem spec_height (h : Int) (w : World) :
    Calls Try.prog 71 #[.int .i64 h] w fun e w' => e = .returned (.bool (htB h)) ∧ w = w' := by
  go_enter Try.func71, Try.ntmps71
  go_wp2_with (go_at_call 41; refine (Arith.l00In _ _ _ _).mono ?_; rintro e w' ⟨rfl, rfl⟩)
  go_ret
  exact ⟨rfl, rfl⟩
set_option maxHeartbeats 2000000 in
theorem spec_ok_some (g b off cap n : Nat) (d f l : Int) (zs : List Int) (w : World) (hl : n = zs.length) (hn : n ≤ 1048576) (h0 : 0 < n) (hp : PIn w g d f l (.slice (some ⟨b, off, none⟩) n cap))
    (hcell : ∀ i, i < n → w.cell? ⟨b, off + i, none⟩ = some (.int .i64 (zs.getD i 0))) (h1 : inB d 1 283000 = true) (h2 : inB f 0 180000 = true) (h3 : inB l 0 180000 = true) :
    Calls Try.prog 57 #[.pointer (some ⟨g, 0, none⟩)] w fun e w' => e = .returned (.bool (okP d f l zs)) ∧ ∃ n, w' = w.drewN n := by
  obtain ⟨k0, k1, k2, k3⟩ := hp
  have HC := Lib.hid hcell
  have HN := Lib.hid hl
  have H1 := Lib.hid h1
  have F1 := Lib.hid (of_inB h2)
  have L1 := Lib.hid (of_inB h3)
  clear hcell hl
  go_enter Try.func57, Try.ntmps57
  go_wp2_with (go_at_call 41; refine (Arith.l00In _ _ _ _).mono ?_; rintro e w' ⟨rfl, rfl⟩)
  go_loop [3] (fun i => ∃ k : Nat, k ≤ n ∧ i = .int .i64 k ∧ AllTo htB zs k) (fun i => n - (intOf i).toNat)
  case atStart => exact ⟨0, Nat.zero_le _, rfl, allTo_zero _ _⟩
  case round =>
    obtain ⟨k, hk, rfl, hall⟩ := hrel
    have HA := Lib.hid hall
    clear hall
    by_cases hlt : k < n
    · have hlti : (k : Int) < (n : Int) := by omega
      obtain ⟨z, hz⟩ : ∃ z, z = zs.getD k 0 := ⟨_, rfl⟩
      have hc1 : w.cell? ⟨b, off + k, none⟩ = some (.int .i64 z) := by rw [hz]; exact HC.out k hlt
      cases hin : htB z with
      | true =>
        have HS := Lib.hid (allTo_succ HA.out (by rw [← hz]; exact hin))
        clear hz
        go_wp2_with (go_at_call 71; refine (spec_height _ _).mono ?_; rintro e w' ⟨rfl, rfl⟩)
        go_round
        case rel => exact ⟨k + 1, by omega, by go_num, HS.out⟩
        case measure => simp [intOf]; omega
      | false =>
        have en := Lib.hid (okP_z (d := d) (f := f) (l := l) (all_bad (by rw [← HN.out]; exact hlt) (by rw [← hz]; exact hin)))
        clear hz
        go_wp2_with (go_at_call 71; refine (spec_height _ _).mono ?_; rintro e w' ⟨rfl, rfl⟩)
        go_ret
        exact ⟨ret_bool en.out.symm, 0, rfl⟩
    · obtain rfl : k = n := by omega
      have hb := all_all (by rw [← HN.out]; exact HA.out)
      obtain ⟨m, rfl⟩ : ∃ m, k = m + 1 := ⟨k - 1, by omega⟩
      obtain ⟨z0, hz0⟩ : ∃ z, z = zs.getD 0 0 := ⟨_, rfl⟩
      obtain ⟨zl, hzl⟩ : ∃ z, z = zs.getD m 0 := ⟨_, rfl⟩
      have c0 : w.cell? ⟨b, off, none⟩ = some (.int .i64 z0) := by rw [hz0]; exact HC.out 0 (by omega)
      have cl : w.cell? ⟨b, off + m, none⟩ = some (.int .i64 zl) := by rw [hzl]; exact HC.out m (by omega)
      have E := Lib.hid (show zs.getD (zs.length - 1) 0 = zl by rw [← HN.out, hzl]; rfl)
      have E0 := Lib.hid hz0
      have HB := Lib.hid hb
      clear hb hz0 hzl
      by_cases g2 : 2 ≤ m + 1
      · have d2 : decide ((2 : Int) ≤ (m : Int) + 1) = true := decide_eq_true (by omega)
        by_cases g65 : m + 1 ≤ 65
        · have d65 : decide ((m : Int) + 1 ≤ 65) = true := decide_eq_true (by omega)
          by_cases gf : z0 ≤ f
          · have df : decide (z0 ≤ f) = true := decide_eq_true gf
            by_cases gl : zl ≤ l
            · have dl : decide (zl ≤ l) = true := decide_eq_true gl
              have en := Lib.hid (okP_yes H1.out (by rw [← HN.out]; omega) HB.out (inB_yes (by rw [← E0.out]; exact gf) F1.out.2) (inB_yes (by rw [E.out]; exact gl) L1.out.2))
              clear g2 g65 gf gl
              go_wp2_with fail
              go_quiet (fail)
              go_wp2_with fail
              go_ret
              exact ⟨ret_bool en.out.symm, _, rfl⟩
            · have dl : decide (zl ≤ l) = false := decide_eq_false gl
              have en := Lib.hid (okP_ends (d := d) (f := f) (.inr (inB_no (v := l) (hi := 180000) (.inl (by rw [E.out]; omega)))))
              clear g2 g65 gf gl
              go_wp2_with fail
              go_quiet (fail)
              go_wp2_with fail
              go_ret
              exact ⟨ret_bool en.out.symm, _, rfl⟩
          · have df : decide (z0 ≤ f) = false := decide_eq_false gf
            have en := Lib.hid (okP_ends (d := d) (l := l) (.inl (inB_no (v := f) (hi := 180000) (.inl (by rw [← E0.out]; omega)))))
            clear g2 g65 gf
            go_wp2_with fail
            go_quiet (fail)
            go_wp2_with fail
            go_ret
            exact ⟨ret_bool en.out.symm, _, rfl⟩
        · have d65 : decide ((m : Int) + 1 ≤ 65) = false := decide_eq_false (by omega)
          have en := Lib.hid (okP_n (d := d) (f := f) (l := l) (by rw [← HN.out]; omega))
          clear g2 g65
          go_wp2_with fail
          go_quiet (fail)
          go_wp2_with fail
          go_ret
          exact ⟨ret_bool en.out.symm, _, rfl⟩
      · have d2 : decide ((2 : Int) ≤ (m : Int) + 1) = false := decide_eq_false (by omega)
        have en := Lib.hid (okP_n (d := d) (f := f) (l := l) (by rw [← HN.out]; omega))
        clear g2
        go_wp2_with fail
        go_quiet (fail)
        go_wp2_with fail
        go_ret
        exact ⟨ret_bool en.out.symm, _, rfl⟩
end Go.Proofs.Ytmmhekakihimfaa.Prof
