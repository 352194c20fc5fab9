
/-
  Sectors (five texts and four numbers): what the laws' copy and count of them return. Condition: at most maxLen bytes in each text.
-/
import Derived.Test.YtbmhhhhodlfcbaaDoorOn
namespace Go.Proofs.YtbmhhhhodlfcbaaDoor.Sec
open Go.RowKit

/-- The block g holds the sector. -/
def In (w : World) (g : Nat) (s0 s1 s2 s3 s4 : ByteArray) (v0 v1 v2 v3 : Int) : Prop := w.cell? ⟨g, 0, none⟩ = some (.string s0) ∧ w.cell? ⟨g, 1, none⟩ = some (.string s1) ∧ w.cell? ⟨g, 2, none⟩ = some (.string s2) ∧ w.cell? ⟨g, 3, none⟩ = some (.string s3) ∧ w.cell? ⟨g, 4, none⟩ = some (.string s4) ∧ w.cell? ⟨g, 5, none⟩ = some (.int .i64 v0) ∧ w.cell? ⟨g, 6, none⟩ = some (.int .i64 v1) ∧ w.cell? ⟨g, 7, none⟩ = some (.int .i64 v2) ∧ w.cell? ⟨g, 8, none⟩ = some (.int .i64 v3)
theorem In.lt {w : World} {g : Nat} {s0 s1 s2 s3 s4 : ByteArray} {v0 v1 v2 v3 : Int} (hi : In w g s0 s1 s2 s3 s4 v0 v1 v2 v3) : g < w.heap.size := World.block_lt_of_cell? w _ hi.1
theorem In.on {w w' : World} {g : Nat} {s0 s1 s2 s3 s4 : ByteArray} {v0 v1 v2 v3 : Int} (hi : In w g s0 s1 s2 s3 s4 v0 v1 v2 v3) (ho : On w w') : In w' g s0 s1 s2 s3 s4 v0 v1 v2 v3 :=
  ⟨(ho.cell (by exact hi.lt)).trans hi.1, (ho.cell (by exact hi.lt)).trans hi.2.1, (ho.cell (by exact hi.lt)).trans hi.2.2.1, (ho.cell (by exact hi.lt)).trans hi.2.2.2.1, (ho.cell (by exact hi.lt)).trans hi.2.2.2.2.1, (ho.cell (by exact hi.lt)).trans hi.2.2.2.2.2.1, (ho.cell (by exact hi.lt)).trans hi.2.2.2.2.2.2.1, (ho.cell (by exact hi.lt)).trans hi.2.2.2.2.2.2.2.1, (ho.cell (by exact hi.lt)).trans hi.2.2.2.2.2.2.2.2⟩
set_option maxHeartbeats 2000000 in
theorem copy (s0 s1 s2 s3 s4 : ByteArray) (v0 v1 v2 v3 : Int) (w : World) :
    Calls Tryd.prog 28 #[.agg #[.string s0, .string s1, .string s2, .string s3, .string s4, .int .i64 v0, .int .i64 v1, .int .i64 v2, .int .i64 v3]] w fun e w' => e = .returned (.agg #[.string s0, .string s1, .string s2, .string s3, .string s4, .int .i64 v0, .int .i64 v1, .int .i64 v2, .int .i64 v3]) ∧ On w w' := by
  go_enter Tryd.func28, Tryd.ntmps28
  go_wp2_with fail
  refine bodyPost_ret (v := .agg #[.string s0, .string s1, .string s2, .string s3, .string s4, .int .i64 v0, .int .i64 v1, .int .i64 v2, .int .i64 v3]) (by simp [results, Tryd.results28, go_sem]) rfl ⟨rfl, ?_⟩
  repeat (first | with_reducible exact On.refl _ | with_reducible apply On.alloc | with_reducible apply On.drewN | with_reducible apply On.drew | with_reducible refine On.setCell ?_ (by (try simp) <;> omega) _)
/-- What is left of a count behind several texts. -/
def leftN : Nat → List Nat → Int
  | m, [] => (m : Int)
  | m, l :: ls => if l ≤ m then leftN (m - l) ls else -1
theorem leftN_or (ls : List Nat) : ∀ m, leftN m ls = -1 ∨ ∃ r : Nat, leftN m ls = (r : Int) ∧ ∀ l ∈ ls, l ≤ m := by
  induction ls with
  | nil => intro m; exact .inr ⟨m, rfl, fun _ h => by cases h⟩
  | cons l ls ih =>
    intro m
    unfold leftN
    by_cases h : l ≤ m
    · rw [if_pos h]
      rcases ih (m - l) with h1 | ⟨r, h1, h3⟩
      · exact .inl h1
      · refine .inr ⟨r, h1, fun k hk => ?_⟩
        rcases List.mem_cons.1 hk with rfl | hk
        · exact h
        · have := h3 k hk; omega
    · rw [if_neg h]; exact .inl rfl
theorem leftN_yes {m l : Nat} {ls : List Nat} (h : l ≤ m) : leftN m (l :: ls) = leftN (m - l) ls := if_pos h
theorem leftN_no {m l : Nat} {ls : List Nat} (h : ¬ l ≤ m) : leftN m (l :: ls) = -1 := if_neg h
set_option maxHeartbeats 4000000 in
theorem count (s0 s1 s2 s3 s4 : ByteArray) (v0 v1 v2 v3 : Int) (w : World) (m0 : s0.size ≤ maxLen) (m1 : s1.size ≤ maxLen) (m2 : s2.size ≤ maxLen) (m3 : s3.size ≤ maxLen) (m4 : s4.size ≤ maxLen) :
    Calls Tryd.prog 26 #[.agg #[.string s0, .string s1, .string s2, .string s3, .string s4, .int .i64 v0, .int .i64 v1, .int .i64 v2, .int .i64 v3], .int .i64 1048576] w fun e w' => e = .returned (.int .i64 (leftN 1048576 [s0.size, s1.size, s2.size, s3.size, s4.size])) ∧ On w w' := by
  unfold maxLen at m0 m1 m2 m3 m4
  by_cases g0 : s0.size ≤ 1048576
  · obtain ⟨r0, e0⟩ : ∃ r, r = 1048576 - s0.size := ⟨_, rfl⟩
    have p0 : ¬ ((1048576 : Nat) : Int) - (s0.size : Int) < 0 := by omega
    have d0 : ((1048576 : Nat) : Int) - (s0.size : Int) = (r0 : Int) := by omega
    have f0 : ¬ (r0 : Int) < 0 := by omega
    rw [show (((1048576 : Nat) : Int)) = 1048576 from rfl] at p0 d0
    by_cases g1 : s1.size ≤ r0
    · obtain ⟨r1, e1⟩ : ∃ r, r = r0 - s1.size := ⟨_, rfl⟩
      have p1 : ¬ ((r0 : Nat) : Int) - (s1.size : Int) < 0 := by omega
      have d1 : ((r0 : Nat) : Int) - (s1.size : Int) = (r1 : Int) := by omega
      have f1 : ¬ (r1 : Int) < 0 := by omega
      by_cases g2 : s2.size ≤ r1
      · obtain ⟨r2, e2⟩ : ∃ r, r = r1 - s2.size := ⟨_, rfl⟩
        have p2 : ¬ ((r1 : Nat) : Int) - (s2.size : Int) < 0 := by omega
        have d2 : ((r1 : Nat) : Int) - (s2.size : Int) = (r2 : Int) := by omega
        have f2 : ¬ (r2 : Int) < 0 := by omega
        by_cases g3 : s3.size ≤ r2
        · obtain ⟨r3, e3⟩ : ∃ r, r = r2 - s3.size := ⟨_, rfl⟩
          have p3 : ¬ ((r2 : Nat) : Int) - (s3.size : Int) < 0 := by omega
          have d3 : ((r2 : Nat) : Int) - (s3.size : Int) = (r3 : Int) := by omega
          have f3 : ¬ (r3 : Int) < 0 := by omega
          by_cases g4 : s4.size ≤ r3
          · obtain ⟨r4, e4⟩ : ∃ r, r = r3 - s4.size := ⟨_, rfl⟩
            have p4 : ¬ ((r3 : Nat) : Int) - (s4.size : Int) < 0 := by omega
            have d4 : ((r3 : Nat) : Int) - (s4.size : Int) = (r4 : Int) := by omega
            have f4 : ¬ (r4 : Int) < 0 := by omega
            have en := Lib.hid (show ((r4 : Nat) : Int) = leftN 1048576 [s0.size, s1.size, s2.size, s3.size, s4.size] by rw [leftN_yes g0, ← e0, leftN_yes g1, ← e1, leftN_yes g2, ← e2, leftN_yes g3, ← e3, leftN_yes g4, ← e4]; rfl)
            clear e0 e1 e2 e3 e4
            go_enter Tryd.func26, Tryd.ntmps26
            go_wp2_with fail
            go_ret
            exact ⟨ret_int en.out, by repeat (first | with_reducible exact On.refl _ | with_reducible apply On.alloc | with_reducible apply On.drewN | with_reducible apply On.drew | with_reducible refine On.setCell ?_ (by (try simp) <;> omega) _)⟩
          · have p4 : ((r3 : Nat) : Int) - (s4.size : Int) < 0 := by omega
            have en := Lib.hid (show (-1 : Int) = leftN 1048576 [s0.size, s1.size, s2.size, s3.size, s4.size] by rw [leftN_yes g0, ← e0, leftN_yes g1, ← e1, leftN_yes g2, ← e2, leftN_yes g3, ← e3, leftN_no g4])
            clear e0 e1 e2 e3
            go_enter Tryd.func26, Tryd.ntmps26
            go_wp2_with fail
            go_ret
            exact ⟨ret_int en.out, by repeat (first | with_reducible exact On.refl _ | with_reducible apply On.alloc | with_reducible apply On.drewN | with_reducible apply On.drew | with_reducible refine On.setCell ?_ (by (try simp) <;> omega) _)⟩
        · have p3 : ((r2 : Nat) : Int) - (s3.size : Int) < 0 := by omega
          have en := Lib.hid (show (-1 : Int) = leftN 1048576 [s0.size, s1.size, s2.size, s3.size, s4.size] by rw [leftN_yes g0, ← e0, leftN_yes g1, ← e1, leftN_yes g2, ← e2, leftN_no g3])
          clear e0 e1 e2
          go_enter Tryd.func26, Tryd.ntmps26
          go_wp2_with fail
          go_ret
          exact ⟨ret_int en.out, by repeat (first | with_reducible exact On.refl _ | with_reducible apply On.alloc | with_reducible apply On.drewN | with_reducible apply On.drew | with_reducible refine On.setCell ?_ (by (try simp) <;> omega) _)⟩
      · have p2 : ((r1 : Nat) : Int) - (s2.size : Int) < 0 := by omega
        have en := Lib.hid (show (-1 : Int) = leftN 1048576 [s0.size, s1.size, s2.size, s3.size, s4.size] by rw [leftN_yes g0, ← e0, leftN_yes g1, ← e1, leftN_no g2])
        clear e0 e1
        go_enter Tryd.func26, Tryd.ntmps26
        go_wp2_with fail
        go_ret
        exact ⟨ret_int en.out, by repeat (first | with_reducible exact On.refl _ | with_reducible apply On.alloc | with_reducible apply On.drewN | with_reducible apply On.drew | with_reducible refine On.setCell ?_ (by (try simp) <;> omega) _)⟩
    · have p1 : ((r0 : Nat) : Int) - (s1.size : Int) < 0 := by omega
      have en := Lib.hid (show (-1 : Int) = leftN 1048576 [s0.size, s1.size, s2.size, s3.size, s4.size] by rw [leftN_yes g0, ← e0, leftN_no g1])
      clear e0
      go_enter Tryd.func26, Tryd.ntmps26
      go_wp2_with fail
      go_ret
      exact ⟨ret_int en.out, by repeat (first | with_reducible exact On.refl _ | with_reducible apply On.alloc | with_reducible apply On.drewN | with_reducible apply On.drew | with_reducible refine On.setCell ?_ (by (try simp) <;> omega) _)⟩
  · have p0 : ((1048576 : Nat) : Int) - (s0.size : Int) < 0 := by omega
    have en := Lib.hid (show (-1 : Int) = leftN 1048576 [s0.size, s1.size, s2.size, s3.size, s4.size] by rw [leftN_no g0])
    rw [show (((1048576 : Nat) : Int)) = 1048576 from rfl] at p0
    skip
    go_enter Tryd.func26, Tryd.ntmps26
    go_wp2_with fail
    go_ret
    exact ⟨ret_int en.out, by repeat (first | with_reducible exact On.refl _ | with_reducible apply On.alloc | with_reducible apply On.drewN | with_reducible apply On.drew | with_reducible refine On.setCell ?_ (by (try simp) <;> omega) _)⟩
end Go.Proofs.YtbmhhhhodlfcbaaDoor.Sec
