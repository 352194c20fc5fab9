
/-
  The losses of an antenna at an angle, in the model and in the program. Conditions: each theorem's own.
-/
import Derived.Test.YtdnnepidkgnabaaAntOk
import Derived.Test.YtdnnepidkgnabaaTurn
namespace Go.Proofs.Ytdnnepidkgnabaa.Ant
open Go.RowKit
open Plain
open Ints (Ints Own)

theorem spec_mix (l m u : Int) (w : World) (l0 : 0 ≤ l) (l1 : l ≤ 60000) (m0 : 0 ≤ m) (m1 : m ≤ 60000) (u0 : 0 ≤ u) (u1 : u ≤ 10) :
    Calls Try.prog 86 #[.int .i64 l, .int .i64 m, .int .i64 u] w fun e w' => e = .returned (.int .i64 (mix l m u)) ∧ w = w' := by
  obtain ⟨⟨a0, a1⟩, a2, a3⟩ := mixb l0 l1 m0 m1 u0 u1
  have e1 : IntKind.i64.wrap (10 - u) = 10 - u := IntWalk.i64_in _ (by omega)
  have e2 : IntKind.i64.wrap (l * (10 - u)) = l * (10 - u) := IntWalk.i64_in _ (by omega)
  have e3 : IntKind.i64.wrap (m * u) = m * u := IntWalk.i64_in _ (by omega)
  have e4 : IntKind.i64.wrap (l * (10 - u) + m * u) = l * (10 - u) + m * u := IntWalk.i64_in _ (by omega)
  have e5 : IntKind.i64.wrap (l * (10 - u) + m * u + 5) = l * (10 - u) + m * u + 5 := IntWalk.i64_in _ (by omega)
  have q1 : (l * (10 - u) + m * u + 5).tdiv 10 = (l * (10 - u) + m * u + 5) / 10 := Int.tdiv_eq_ediv_of_nonneg (by omega)
  have e6 : IntKind.i64.wrap ((l * (10 - u) + m * u + 5) / 10) = (l * (10 - u) + m * u + 5) / 10 := IntWalk.i64_in _ (by omega)
  have en := Lib.hid (show (l * (10 - u) + m * u + 5) / 10 = mix l m u from q1.symm)
  go_enter Try.func86, Try.ntmps86
  go_wp2_with fail
  go_ret
  exact ⟨ret_int en.out, rfl⟩
set_option maxHeartbeats 1000000 in
theorem spec_across (b : Nat) (x0 : ByteArray) (x1 : Int) (v2 v3 : Value) (z2 : List Int) (angle : Int) (w : World) (hl : lossB z2 36 0 = true) (hp : In w b x0 x1 v2 v3) (h2 : Ints w v2 z2) :
    Calls Try.prog 60 #[.pointer (some ⟨b, 0, none⟩), .int .i64 angle] w fun e w' => e = .returned (.int .i64 (across z2 angle)) ∧ On w w' := by
  obtain ⟨k0, k1, k2, k3⟩ := hp
  have hb := World.block_lt_of_cell? w _ k0
  have n36 : z2.length = 36 := (of_loss hl).1
  have h2' := h2
  obtain ⟨a2, cap2, rfl, -⟩ := h2
  obtain ⟨b2, o2, rfl, hb2, hc2⟩ := slice_of h2' (by omega)
  have hd := deg_lt angle
  have HD := Lib.hid (fun w => Turn.spec_degrees angle w)
  have en := Lib.hid (show across z2 angle = mix (z2.getD (deg angle / 10) 0) (z2.getD ((deg angle / 10 + 1) % 36) 0) ((deg angle % 10 : Nat) : Int) from rfl)
  generalize deg angle = d at *
  obtain ⟨i, hi⟩ : ∃ i, i = d / 10 := ⟨_, rfl⟩
  obtain ⟨u, hu⟩ : ∃ u, u = d % 10 := ⟨_, rfl⟩
  rw [← hi, ← hu] at en
  obtain ⟨j, hj⟩ : ∃ j, j = (i + 1) % 36 := ⟨_, rfl⟩
  rw [← hj] at en
  have f1 : (d : Int) / 10 = (i : Int) := by omega
  have f1' : Int.tdiv (d : Int) 10 = (i : Int) := by rw [Int.tdiv_eq_ediv_of_nonneg (by omega)]; exact f1
  have f2 : ((i : Int) + 1) % 36 = (j : Int) := by omega
  have f2' : Int.tmod ((i : Int) + 1) 36 = (j : Int) := by rw [Int.tmod_eq_emod_of_nonneg (by omega)]; exact f2
  have f3 : (d : Int) % 10 = (u : Int) := by omega
  have f3' : Int.tmod (d : Int) 10 = (u : Int) := by rw [Int.tmod_eq_emod_of_nonneg (by omega)]; exact f3
  have bi := ls_bd (i := i) hl (by omega)
  have bj := ls_bd (i := j) hl (by omega)
  have ci := hc2 i (by omega)
  have cj := hc2 j (by omega)
  rw [n36] at k2
  generalize z2.getD i 0 = x at *
  generalize z2.getD j 0 = y at *
  have HM := Lib.hid (fun w => spec_mix x y u w bi.1 bi.2 bj.1 bj.2 (by omega) (by omega))
  have i36 : (i : Int) < 36 := by omega
  have wI : IntKind.i64.wrap ((i : Int) + 1) = (i : Int) + 1 := IntWalk.i64_in _ (by omega)
  have j36 : (j : Int) < 36 := by omega
  have i36' : i < 36 := by omega
  have j36' : j < 36 := by omega
  have u10 : (u : Int) < 10 := by omega
  clear h2' hc2 hl hi hj hu bi bj n36
  go_enter Try.func60, Try.ntmps60
  go_wp2_with (go_at_call 85; refine (HD.out _).mono ?_; rintro e w' ⟨rfl, rfl⟩)
  refine wp_region_onh (by kernel_rfl) (by kernel_rfl) ?_
  repeat (refine rest_step (fun K hK => ?_); go_simp; first | (refine hK _ ?_; clear hK K) | (apply Exists.intro; refine ⟨fun v1 hv1 => ?_, hK _ ?_⟩; (first | with_reducible exact rfl | with_reducible exact ⟨rfl, rfl⟩ | with_reducible exact Calls.on_same hv1 (HM.out _) | (obtain ⟨hc, hf⟩ := bcell hv1; go_simp; first | with_reducible exact rfl | with_reducible exact ⟨rfl, rfl⟩ | exact rfl | exact ⟨rfl, rfl⟩)); clear hK K))
  refine rest_nil ?_
  intro w1 h1
  go_wp2_with fail
  go_ret
  exact ⟨ret_int en.out.symm, h1⟩
set_option maxHeartbeats 1000000 in
theorem spec_up (b : Nat) (x0 : ByteArray) (x1 : Int) (v2 v3 : Value) (z3 : List Int) (e : Int) (w : World) (hl : lossB z3 19 9 = true) (e0 : -90 ≤ e) (e1 : e ≤ 90) (hp : In w b x0 x1 v2 v3) (h3 : Ints w v3 z3) :
    Calls Try.prog 61 #[.pointer (some ⟨b, 0, none⟩), .int .i64 e] w fun r w' => r = .returned (.int .i64 (up z3 e)) ∧ On w w' := by
  obtain ⟨k0, k1, k2, k3⟩ := hp
  have hb := World.block_lt_of_cell? w _ k0
  have n19 : z3.length = 19 := (of_loss hl).1
  have h3' := h3
  obtain ⟨a3, cap3, rfl, -⟩ := h3
  obtain ⟨b3, o3, rfl, hb3, hc3⟩ := slice_of h3' (by omega)
  obtain ⟨d, hd⟩ : ∃ d, d = (e + 90).toNat := ⟨_, rfl⟩
  have he : e + 90 = (d : Int) := by omega
  have w90 : IntKind.i64.wrap (e + 90) = (d : Int) := by rw [he]; exact IntWalk.i64_in _ (by omega)
  have en := Lib.hid (show up z3 e = upN z3 d by unfold up; rw [← hd])
  rw [n19] at k3
  by_cases h180 : d = 180
  · subst h180
    have c18 := hc3 18 (by omega)
    have en2 := Lib.hid (show upN z3 180 = z3.getD 18 0 from rfl)
    generalize z3.getD 18 0 = x at *
    have b1 : ((180 : Nat) : Int) = 180 := rfl
    clear h3' hc3 hl n19 hd
    go_enter Try.func61, Try.ntmps61
    go_wp2_with fail
    go_ret
    exact ⟨ret_int (en2.out.symm.trans en.out.symm), On.refl _⟩
  · have d180 : d < 180 := by omega
    have en2 := Lib.hid (show upN z3 d = mix (z3.getD (d / 10) 0) (z3.getD (d / 10 + 1) 0) ((d % 10 : Nat) : Int) from if_neg h180)
    have b1 : ((d : Int) == 180) = false := beq_eq_false_iff_ne.2 (by omega)
    obtain ⟨i, hi⟩ : ∃ i, i = d / 10 := ⟨_, rfl⟩
    obtain ⟨u, hu⟩ : ∃ u, u = d % 10 := ⟨_, rfl⟩
    have f1 : (d : Int) / 10 = (i : Int) := by omega
    have f1' : Int.tdiv (d : Int) 10 = (i : Int) := by rw [Int.tdiv_eq_ediv_of_nonneg (by omega)]; exact f1
    have f3 : (d : Int) % 10 = (u : Int) := by omega
    have f3' : Int.tmod (d : Int) 10 = (u : Int) := by rw [Int.tmod_eq_emod_of_nonneg (by omega)]; exact f3
    have bi := ls_bd (i := i) hl (by omega)
    have bj := ls_bd (i := i + 1) hl (by omega)
    have ci := hc3 i (by omega)
    have cj := hc3 (i + 1) (by omega)
    rw [← hi, ← hu] at en2
    generalize z3.getD i 0 = x at *
    generalize z3.getD (i + 1) 0 = y at *
    have HM := Lib.hid (fun w => spec_mix x y u w bi.1 bi.2 bj.1 bj.2 (by omega) (by omega))
    have i19 : (i : Int) < 19 := by omega
    have wI : IntKind.i64.wrap ((i : Int) + 1) = (i : Int) + 1 := IntWalk.i64_in _ (by omega)
    have wi : IntKind.i64.wrap (i : Int) = (i : Int) := IntWalk.i64_in _ (by omega)
    have j19 : (i : Int) + 1 < 19 := by omega
    have i19' : i < 19 := by omega
    have j19' : i + 1 < 19 := by omega
    have u10 : (u : Int) < 10 := by omega
    clear h3' hc3 hl hi hu bi bj n19 hd
    go_enter Try.func61, Try.ntmps61
    go_wp2_with fail
    refine wp_region_onh (by kernel_rfl) (by kernel_rfl) ?_
    repeat (refine rest_step (fun K hK => ?_); go_simp; first | (refine hK _ ?_; clear hK K) | (apply Exists.intro; refine ⟨fun v1 hv1 => ?_, hK _ ?_⟩; (first | with_reducible exact rfl | with_reducible exact ⟨rfl, rfl⟩ | with_reducible exact Calls.on_same hv1 (HM.out _) | (obtain ⟨hc, hf⟩ := bcell hv1; go_simp; first | with_reducible exact rfl | with_reducible exact ⟨rfl, rfl⟩ | exact rfl | exact ⟨rfl, rfl⟩)); clear hK K))
    refine rest_nil ?_
    intro w1 h1
    go_wp2_with fail
    go_ret
    exact ⟨ret_int (en2.out.symm.trans en.out.symm), h1⟩
theorem impl_lineBefore (d n i u : Nat) (w : World) (hd : d ≤ 1000) (hn : n ≤ 100) (n2 : 2 ≤ n) (hi : i = min (d / 10) (n - 2)) (hu : d = i * 10 + u) :
    Calls Try.prog 89 #[.int .i64 d, .int .i64 10, .int .i64 n] w fun e w' => e = .returned (.tuple #[.int .i64 i, .int .i64 u]) ∧ w = w' := by
  have f1 : (d : Int) / 10 = ((d / 10 : Nat) : Int) := by omega
  have f1' : Int.tdiv (d : Int) 10 = ((d / 10 : Nat) : Int) := by rw [Int.tdiv_eq_ediv_of_nonneg (by omega)]; exact f1
  have f2 : (n : Int) - 2 = ((n - 2 : Nat) : Int) := by omega
  have HG := Lib.hid (fun w => show Calls Try.prog 66 #[.int .i64 ((d / 10 : Nat) : Int), .int .i64 ((n - 2 : Nat) : Int)] w fun e w' => e = .returned (.int .i64 (i : Int)) ∧ w = w' from by
    have := Turn.impl_least ((d / 10 : Nat) : Int) ((n - 2 : Nat) : Int) w
    rw [show Turn.gmin ((d / 10 : Nat) : Int) ((n - 2 : Nat) : Int) = (i : Int) by unfold Turn.gmin; split <;> omega] at this
    exact this)
  have g1 : (i : Int) * 10 ≤ 1000 := by omega
  have w1 : IntKind.i64.wrap ((i : Int) * 10) = (i : Int) * 10 := IntWalk.i64_in _ (by omega)
  have g2 : (d : Int) - (i : Int) * 10 = (u : Int) := by omega
  obtain ⟨c, hc⟩ : ∃ c, c = d / 10 := ⟨_, rfl⟩
  obtain ⟨k, hk⟩ : ∃ k, k = n - 2 := ⟨_, rfl⟩
  rw [← hc] at f1 f1' HG
  rw [← hk] at f2 HG
  have c1 : c ≤ 100 := by omega
  have k1 : k ≤ 100 := by omega
  have u1 : u ≤ 1000 := by omega
  clear hi hu hc hk n2
  go_enter Try.func89, Try.ntmps89
  go_wp2_with (go_at_call 66; refine (HG.out _).mono ?_; rintro e w' ⟨rfl, rfl⟩)
  go_ret2
  exact ⟨rfl, rfl⟩
set_option maxHeartbeats 1000000 in
theorem impl_lossBetween (b off cap n d i u : Nat) (x y : Int) (w : World) (hd : d ≤ 1000) (hn : n ≤ 100) (n2 : 2 ≤ n) (hi : i = min (d / 10) (n - 2)) (hu : d = i * 10 + u) (u1 : u ≤ 10) (hb : b < w.heap.size)
    (ci : w.cell? ⟨b, off + i, none⟩ = some (.int .i64 x)) (cj : w.cell? ⟨b, off + (i + 1), none⟩ = some (.int .i64 y)) (x0 : 0 ≤ x) (x1 : x ≤ 60000) (y0 : 0 ≤ y) (y1 : y ≤ 60000) :
    Calls Try.prog 68 #[.slice (some ⟨b, off, none⟩) n cap, .int .i64 d] w fun e w' => e = .returned (.int .i64 (mix x y u)) ∧ On w w' := by
  have HL := Lib.hid (fun w => impl_lineBefore d n i u w hd hn n2 hi hu)
  have i1 : (i : Int) < (n : Int) := by omega
  have wI : IntKind.i64.wrap ((i : Int) + 1) = (i : Int) + 1 := IntWalk.i64_in _ (by omega)
  have j1 : (i : Int) + 1 < (n : Int) := by omega
  have i2 : i < n := by omega
  have j2 : i + 1 < n := by omega
  clear hi hu
  obtain ⟨⟨a0, a1⟩, a2, a3⟩ := mixb (u := u) x0 x1 y0 y1 (by omega) (by omega)
  have e1 : IntKind.i64.wrap (10 - (u : Int)) = 10 - (u : Int) := IntWalk.i64_in _ (by omega)
  have e2 : IntKind.i64.wrap (x * (10 - (u : Int))) = x * (10 - (u : Int)) := IntWalk.i64_in _ (by omega)
  have e3 : IntKind.i64.wrap (y * u) = y * u := IntWalk.i64_in _ (by omega)
  have e4 : IntKind.i64.wrap (x * (10 - (u : Int)) + y * u) = x * (10 - (u : Int)) + y * u := IntWalk.i64_in _ (by omega)
  have e5 : IntKind.i64.wrap (x * (10 - (u : Int)) + y * u + 5) = x * (10 - (u : Int)) + y * u + 5 := IntWalk.i64_in _ (by omega)
  have q1 : (x * (10 - (u : Int)) + y * u + 5).tdiv 10 = (x * (10 - (u : Int)) + y * u + 5) / 10 := Int.tdiv_eq_ediv_of_nonneg (by omega)
  have e6 : IntKind.i64.wrap ((x * (10 - (u : Int)) + y * u + 5) / 10) = (x * (10 - (u : Int)) + y * u + 5) / 10 := IntWalk.i64_in _ (by omega)
  have en := Lib.hid (show (x * (10 - (u : Int)) + y * u + 5) / 10 = mix x y u from q1.symm)
  go_enter Try.func68, Try.ntmps68
  go_wp2_with (go_at_call 89; refine (HL.out _).mono ?_; rintro e w' ⟨rfl, rfl⟩)
  refine wp_region_onh (by kernel_rfl) (by kernel_rfl) ?_
  repeat (refine rest_step (fun K hK => ?_); go_simp; first | (refine hK _ ?_; clear hK K) | (apply Exists.intro; refine ⟨fun v1 hv1 => ?_, hK _ ?_⟩; (first | with_reducible exact rfl | with_reducible exact ⟨rfl, rfl⟩ | (obtain ⟨hc, hf⟩ := bcell hv1; go_simp; first | with_reducible exact rfl | with_reducible exact ⟨rfl, rfl⟩ | exact rfl | exact ⟨rfl, rfl⟩)); clear hK K))
  refine rest_nil ?_
  intro w1 h1
  go_wp2_with fail
  go_ret
  exact ⟨ret_int en.out, h1⟩
set_option maxHeartbeats 1000000 in
theorem impl_vertical (x0 : ByteArray) (x1 : Int) (v2 v3 : Value) (z3 : List Int) (e : Int) (w : World) (hl : lossB z3 19 9 = true) (e0 : -90 ≤ e) (e1 : e ≤ 90) (hv : ∃ a n c, v2 = .slice a n c) (h3 : Ints w v3 z3) :
    Calls Try.prog 39 #[.agg #[.string x0, .int .i64 x1, v2, v3], .int .i64 e] w fun r w' => r = .returned (.int .i64 (up z3 e)) ∧ On w w' := by
  have n19 : z3.length = 19 := (of_loss hl).1
  have h3' := h3
  obtain ⟨a2, m2, cap2, rfl⟩ := hv
  obtain ⟨a3, cap3, rfl, -⟩ := h3
  obtain ⟨b3, o3, rfl, hb3, hc3⟩ := slice_of h3' (by omega)
  obtain ⟨d, hd⟩ : ∃ d, d = (e + 90).toNat := ⟨_, rfl⟩
  have he : e + 90 = (d : Int) := by omega
  have w90 : IntKind.i64.wrap (e + 90) = (d : Int) := by rw [he]; exact IntWalk.i64_in _ (by omega)
  obtain ⟨i, hi⟩ : ∃ i, i = min (d / 10) (19 - 2) := ⟨_, rfl⟩
  obtain ⟨u, hu⟩ : ∃ u, u = d - i * 10 := ⟨_, rfl⟩
  have bi := ls_bd (i := i) hl (by omega)
  have bj := ls_bd (i := i + 1) hl (by omega)
  have ci := hc3 i (by omega)
  have cj := hc3 (i + 1) (by omega)
  have en := Lib.hid (show up z3 e = mix (z3.getD i 0) (z3.getD (i + 1) 0) u by
    unfold up
    rw [← hd]
    by_cases h180 : d = 180
    · rw [upN_clip z3 hl h180, show i = 17 by omega, show u = 10 by omega]; rfl
    · unfold upN
      rw [if_neg h180, show d / 10 = i by omega, show d % 10 = u by omega])
  generalize z3.getD i 0 = x at *
  generalize z3.getD (i + 1) 0 = y at *
  have HL := Lib.hid (fun w' (hw : On w w') => impl_lossBetween b3 o3 cap3 19 d i u x y w' (by omega) (by omega) (by omega) hi (by omega) (by omega) (hw.lts _ hb3) ((hw.cell (p := ⟨b3, o3 + i, none⟩) (by exact hb3)).trans ci) ((hw.cell (p := ⟨b3, o3 + (i + 1), none⟩) (by exact hb3)).trans cj) bi.1 bi.2 bj.1 bj.2)
  rw [n19]
  clear h3' hc3 hl hi hu bi bj n19 hd ci cj
  go_enter Try.func39, Try.ntmps39
  go_wp2_with fail
  refine (HL.out _ (by repeat (first | exact On.refl _ | apply On.alloc))).mono ?_
  rintro r w1 ⟨rfl, h1⟩
  go_wp2_with fail
  go_ret
  exact ⟨ret_int en.out.symm, On.trans (by repeat (first | exact On.refl _ | apply On.alloc)) h1⟩
end Go.Proofs.Ytdnnepidkgnabaa.Ant
