
/-
  errors.Join of up to three errors, each nil or of the program's own type, and the code of the first one of them. Conditions: each theorem's own.
-/
import Derived.Test.YtknggnchldcghacDoorErrWalk
namespace Go.Proofs.YtknggnchldcghacDoor.Err
open Go.RowKit

/-- The library's variable for the type of errors holds what the start lays. -/
def ErrVar (w : World) : Prop := w.cell? ⟨0, 0, none⟩ = some (.iface 154 (.agg #[.pointer (some ⟨11, 58, none⟩)]))
theorem ErrVar.lt {w : World} (h : ErrVar w) : 0 < w.heap.size := World.block_lt_of_cell? w _ h
theorem ErrVar.on {w w' : World} (h : ErrVar w) (ho : On w w') : ErrVar w' := (ho.cell h.lt).trans h

set_option maxHeartbeats 4000000 in
theorem join_N (b cap : Nat) (w : World) (h0 : w.cell? ⟨b, 0, none⟩ = some .nilIface) :
    Calls Tryd.prog 84 #[.slice (some ⟨b, 0, none⟩) 1 cap] w fun e w' => e = .returned .nilIface ∧ On w w' := by

  go_enter Tryd.func84, Tryd.ntmps84
  go_wp2_with fail
  refine wp_loop_rounds 2 ?_
  rw [rounds_succ]
  go_wp2_with fail
  rw [rounds_succ]
  go_wp2_with fail
  go_ret
  exact ⟨rfl, by repeat (first | with_reducible exact On.refl _ | apply On.drew | apply On.drewN | apply On.alloc)⟩
set_option maxHeartbeats 4000000 in
theorem join_E (b cap : Nat) (f0 : ByteArray) (c0 : Int) (w : World) (h0 : w.cell? ⟨b, 0, none⟩ = some (own f0 c0)) :
    Calls Tryd.prog 84 #[.slice (some ⟨b, 0, none⟩) 1 cap] w fun e w' => ∃ j s k cap, e = .returned (.iface 140 (.pointer (some ⟨j, 0, none⟩))) ∧ w'.cell? ⟨j, 0, none⟩ = some (.slice (some ⟨s, 0, none⟩) (k + 1) cap) ∧ w'.cell? ⟨s, 0, none⟩ = some (own f0 c0) ∧ On w w' := by
  have hmk : ∀ w, (Instr.makeSlice 101 (.int .i64 0) (.int .i64 1)).run Tryd.prog w = .ok (.slice (some ⟨w.heap.size, 0, none⟩) 0 1) (w.alloc (.cells #[.nilIface] 58)) := fun _ => by kernel_rfl
  have hb : b < w.heap.size := World.block_lt_of_cell? w _ h0
  have hb1 : b < w.heap.size + 1 := by omega
  have hb2 : b < w.heap.size + 1 + 1 := by omega
  unfold own at *
  go_enter Tryd.func84, Tryd.ntmps84
  go_wp2_with fail
  refine wp_loop_rounds 2 ?_
  rw [rounds_succ]
  go_wp2_with fail
  rw [rounds_succ]
  go_wp2_with fail
  refine wp_loop_rounds 2 ?_
  rw [rounds_succ]
  go_wp2_with fail
  rw [rounds_succ]
  go_wp2_with fail
  go_ret
  exact ⟨w.heap.size + 1, w.heap.size, 0, 1, rfl, by simp [go_sem], by simp [go_sem], by repeat (first | with_reducible exact On.refl _ | apply On.drew | apply On.drewN | apply On.alloc)⟩
set_option maxHeartbeats 4000000 in
theorem join_NN (b cap : Nat) (w : World) (h0 : w.cell? ⟨b, 0, none⟩ = some .nilIface) (h1 : w.cell? ⟨b, 1, none⟩ = some .nilIface) :
    Calls Tryd.prog 84 #[.slice (some ⟨b, 0, none⟩) 2 cap] w fun e w' => e = .returned .nilIface ∧ On w w' := by

  go_enter Tryd.func84, Tryd.ntmps84
  go_wp2_with fail
  refine wp_loop_rounds 3 ?_
  rw [rounds_succ]
  go_wp2_with fail
  rw [rounds_succ]
  go_wp2_with fail
  rw [rounds_succ]
  go_wp2_with fail
  go_ret
  exact ⟨rfl, by repeat (first | with_reducible exact On.refl _ | apply On.drew | apply On.drewN | apply On.alloc)⟩
set_option maxHeartbeats 4000000 in
theorem join_NE (b cap : Nat) (f1 : ByteArray) (c1 : Int) (w : World) (h0 : w.cell? ⟨b, 0, none⟩ = some .nilIface) (h1 : w.cell? ⟨b, 1, none⟩ = some (own f1 c1)) :
    Calls Tryd.prog 84 #[.slice (some ⟨b, 0, none⟩) 2 cap] w fun e w' => ∃ j s k cap, e = .returned (.iface 140 (.pointer (some ⟨j, 0, none⟩))) ∧ w'.cell? ⟨j, 0, none⟩ = some (.slice (some ⟨s, 0, none⟩) (k + 1) cap) ∧ w'.cell? ⟨s, 0, none⟩ = some (own f1 c1) ∧ On w w' := by
  have hmk : ∀ w, (Instr.makeSlice 101 (.int .i64 0) (.int .i64 1)).run Tryd.prog w = .ok (.slice (some ⟨w.heap.size, 0, none⟩) 0 1) (w.alloc (.cells #[.nilIface] 58)) := fun _ => by kernel_rfl
  have hb : b < w.heap.size := World.block_lt_of_cell? w _ h0
  have hb1 : b < w.heap.size + 1 := by omega
  have hb2 : b < w.heap.size + 1 + 1 := by omega
  unfold own at *
  go_enter Tryd.func84, Tryd.ntmps84
  go_wp2_with fail
  refine wp_loop_rounds 3 ?_
  rw [rounds_succ]
  go_wp2_with fail
  rw [rounds_succ]
  go_wp2_with fail
  rw [rounds_succ]
  go_wp2_with fail
  refine wp_loop_rounds 3 ?_
  rw [rounds_succ]
  go_wp2_with fail
  rw [rounds_succ]
  go_wp2_with fail
  rw [rounds_succ]
  go_wp2_with fail
  go_ret
  exact ⟨w.heap.size + 1, w.heap.size, 0, 1, rfl, by simp [go_sem], by simp [go_sem], by repeat (first | with_reducible exact On.refl _ | apply On.drew | apply On.drewN | apply On.alloc)⟩
set_option maxHeartbeats 4000000 in
theorem join_EN (b cap : Nat) (f0 : ByteArray) (c0 : Int) (w : World) (h0 : w.cell? ⟨b, 0, none⟩ = some (own f0 c0)) (h1 : w.cell? ⟨b, 1, none⟩ = some .nilIface) :
    Calls Tryd.prog 84 #[.slice (some ⟨b, 0, none⟩) 2 cap] w fun e w' => ∃ j s k cap, e = .returned (.iface 140 (.pointer (some ⟨j, 0, none⟩))) ∧ w'.cell? ⟨j, 0, none⟩ = some (.slice (some ⟨s, 0, none⟩) (k + 1) cap) ∧ w'.cell? ⟨s, 0, none⟩ = some (own f0 c0) ∧ On w w' := by
  have hmk : ∀ w, (Instr.makeSlice 101 (.int .i64 0) (.int .i64 1)).run Tryd.prog w = .ok (.slice (some ⟨w.heap.size, 0, none⟩) 0 1) (w.alloc (.cells #[.nilIface] 58)) := fun _ => by kernel_rfl
  have hb : b < w.heap.size := World.block_lt_of_cell? w _ h0
  have hb1 : b < w.heap.size + 1 := by omega
  have hb2 : b < w.heap.size + 1 + 1 := by omega
  unfold own at *
  go_enter Tryd.func84, Tryd.ntmps84
  go_wp2_with fail
  refine wp_loop_rounds 3 ?_
  rw [rounds_succ]
  go_wp2_with fail
  rw [rounds_succ]
  go_wp2_with fail
  rw [rounds_succ]
  go_wp2_with fail
  refine wp_loop_rounds 3 ?_
  rw [rounds_succ]
  go_wp2_with fail
  rw [rounds_succ]
  go_wp2_with fail
  rw [rounds_succ]
  go_wp2_with fail
  go_ret
  exact ⟨w.heap.size + 1, w.heap.size, 0, 1, rfl, by simp [go_sem], by simp [go_sem], by repeat (first | with_reducible exact On.refl _ | apply On.drew | apply On.drewN | apply On.alloc)⟩
set_option maxHeartbeats 4000000 in
theorem join_EE (b cap : Nat) (f0 : ByteArray) (c0 : Int) (f1 : ByteArray) (c1 : Int) (w : World) (h0 : w.cell? ⟨b, 0, none⟩ = some (own f0 c0)) (h1 : w.cell? ⟨b, 1, none⟩ = some (own f1 c1)) :
    Calls Tryd.prog 84 #[.slice (some ⟨b, 0, none⟩) 2 cap] w fun e w' => ∃ j s k cap, e = .returned (.iface 140 (.pointer (some ⟨j, 0, none⟩))) ∧ w'.cell? ⟨j, 0, none⟩ = some (.slice (some ⟨s, 0, none⟩) (k + 1) cap) ∧ w'.cell? ⟨s, 0, none⟩ = some (own f0 c0) ∧ On w w' := by
  have hmk : ∀ w, (Instr.makeSlice 101 (.int .i64 0) (.int .i64 2)).run Tryd.prog w = .ok (.slice (some ⟨w.heap.size, 0, none⟩) 0 2) (w.alloc (.cells #[.nilIface, .nilIface] 58)) := fun _ => by kernel_rfl
  have hb : b < w.heap.size := World.block_lt_of_cell? w _ h0
  have hb1 : b < w.heap.size + 1 := by omega
  have hb2 : b < w.heap.size + 1 + 1 := by omega
  have hb3 : b < w.heap.size + 1 + 1 + 1 := by omega
  unfold own at *
  go_enter Tryd.func84, Tryd.ntmps84
  go_wp2_with fail
  refine wp_loop_rounds 3 ?_
  rw [rounds_succ]
  go_wp2_with fail
  rw [rounds_succ]
  go_wp2_with fail
  rw [rounds_succ]
  go_wp2_with fail
  refine wp_loop_rounds 3 ?_
  rw [rounds_succ]
  go_wp2_with fail
  rw [rounds_succ]
  go_wp2_with fail
  rw [rounds_succ]
  go_wp2_with fail
  go_ret
  exact ⟨w.heap.size + 1, w.heap.size, 1, 2, rfl, by simp [go_sem], by simp [go_sem], by repeat (first | with_reducible exact On.refl _ | apply On.drew | apply On.drewN | apply On.alloc)⟩
set_option maxHeartbeats 4000000 in
theorem join_NNN (b cap : Nat) (w : World) (h0 : w.cell? ⟨b, 0, none⟩ = some .nilIface) (h1 : w.cell? ⟨b, 1, none⟩ = some .nilIface) (h2 : w.cell? ⟨b, 2, none⟩ = some .nilIface) :
    Calls Tryd.prog 84 #[.slice (some ⟨b, 0, none⟩) 3 cap] w fun e w' => e = .returned .nilIface ∧ On w w' := by

  go_enter Tryd.func84, Tryd.ntmps84
  go_wp2_with fail
  refine wp_loop_rounds 4 ?_
  rw [rounds_succ]
  go_wp2_with fail
  rw [rounds_succ]
  go_wp2_with fail
  rw [rounds_succ]
  go_wp2_with fail
  rw [rounds_succ]
  go_wp2_with fail
  go_ret
  exact ⟨rfl, by repeat (first | with_reducible exact On.refl _ | apply On.drew | apply On.drewN | apply On.alloc)⟩
set_option maxHeartbeats 4000000 in
theorem join_NNE (b cap : Nat) (f2 : ByteArray) (c2 : Int) (w : World) (h0 : w.cell? ⟨b, 0, none⟩ = some .nilIface) (h1 : w.cell? ⟨b, 1, none⟩ = some .nilIface) (h2 : w.cell? ⟨b, 2, none⟩ = some (own f2 c2)) :
    Calls Tryd.prog 84 #[.slice (some ⟨b, 0, none⟩) 3 cap] w fun e w' => ∃ j s k cap, e = .returned (.iface 140 (.pointer (some ⟨j, 0, none⟩))) ∧ w'.cell? ⟨j, 0, none⟩ = some (.slice (some ⟨s, 0, none⟩) (k + 1) cap) ∧ w'.cell? ⟨s, 0, none⟩ = some (own f2 c2) ∧ On w w' := by
  have hmk : ∀ w, (Instr.makeSlice 101 (.int .i64 0) (.int .i64 1)).run Tryd.prog w = .ok (.slice (some ⟨w.heap.size, 0, none⟩) 0 1) (w.alloc (.cells #[.nilIface] 58)) := fun _ => by kernel_rfl
  have hb : b < w.heap.size := World.block_lt_of_cell? w _ h0
  have hb1 : b < w.heap.size + 1 := by omega
  have hb2 : b < w.heap.size + 1 + 1 := by omega
  unfold own at *
  go_enter Tryd.func84, Tryd.ntmps84
  go_wp2_with fail
  refine wp_loop_rounds 4 ?_
  rw [rounds_succ]
  go_wp2_with fail
  rw [rounds_succ]
  go_wp2_with fail
  rw [rounds_succ]
  go_wp2_with fail
  rw [rounds_succ]
  go_wp2_with fail
  refine wp_loop_rounds 4 ?_
  rw [rounds_succ]
  go_wp2_with fail
  rw [rounds_succ]
  go_wp2_with fail
  rw [rounds_succ]
  go_wp2_with fail
  rw [rounds_succ]
  go_wp2_with fail
  go_ret
  exact ⟨w.heap.size + 1, w.heap.size, 0, 1, rfl, by simp [go_sem], by simp [go_sem], by repeat (first | with_reducible exact On.refl _ | apply On.drew | apply On.drewN | apply On.alloc)⟩
set_option maxHeartbeats 4000000 in
theorem join_NEN (b cap : Nat) (f1 : ByteArray) (c1 : Int) (w : World) (h0 : w.cell? ⟨b, 0, none⟩ = some .nilIface) (h1 : w.cell? ⟨b, 1, none⟩ = some (own f1 c1)) (h2 : w.cell? ⟨b, 2, none⟩ = some .nilIface) :
    Calls Tryd.prog 84 #[.slice (some ⟨b, 0, none⟩) 3 cap] w fun e w' => ∃ j s k cap, e = .returned (.iface 140 (.pointer (some ⟨j, 0, none⟩))) ∧ w'.cell? ⟨j, 0, none⟩ = some (.slice (some ⟨s, 0, none⟩) (k + 1) cap) ∧ w'.cell? ⟨s, 0, none⟩ = some (own f1 c1) ∧ On w w' := by
  have hmk : ∀ w, (Instr.makeSlice 101 (.int .i64 0) (.int .i64 1)).run Tryd.prog w = .ok (.slice (some ⟨w.heap.size, 0, none⟩) 0 1) (w.alloc (.cells #[.nilIface] 58)) := fun _ => by kernel_rfl
  have hb : b < w.heap.size := World.block_lt_of_cell? w _ h0
  have hb1 : b < w.heap.size + 1 := by omega
  have hb2 : b < w.heap.size + 1 + 1 := by omega
  unfold own at *
  go_enter Tryd.func84, Tryd.ntmps84
  go_wp2_with fail
  refine wp_loop_rounds 4 ?_
  rw [rounds_succ]
  go_wp2_with fail
  rw [rounds_succ]
  go_wp2_with fail
  rw [rounds_succ]
  go_wp2_with fail
  rw [rounds_succ]
  go_wp2_with fail
  refine wp_loop_rounds 4 ?_
  rw [rounds_succ]
  go_wp2_with fail
  rw [rounds_succ]
  go_wp2_with fail
  rw [rounds_succ]
  go_wp2_with fail
  rw [rounds_succ]
  go_wp2_with fail
  go_ret
  exact ⟨w.heap.size + 1, w.heap.size, 0, 1, rfl, by simp [go_sem], by simp [go_sem], by repeat (first | with_reducible exact On.refl _ | apply On.drew | apply On.drewN | apply On.alloc)⟩
set_option maxHeartbeats 4000000 in
theorem join_NEE (b cap : Nat) (f1 : ByteArray) (c1 : Int) (f2 : ByteArray) (c2 : Int) (w : World) (h0 : w.cell? ⟨b, 0, none⟩ = some .nilIface) (h1 : w.cell? ⟨b, 1, none⟩ = some (own f1 c1)) (h2 : w.cell? ⟨b, 2, none⟩ = some (own f2 c2)) :
    Calls Tryd.prog 84 #[.slice (some ⟨b, 0, none⟩) 3 cap] w fun e w' => ∃ j s k cap, e = .returned (.iface 140 (.pointer (some ⟨j, 0, none⟩))) ∧ w'.cell? ⟨j, 0, none⟩ = some (.slice (some ⟨s, 0, none⟩) (k + 1) cap) ∧ w'.cell? ⟨s, 0, none⟩ = some (own f1 c1) ∧ On w w' := by
  have hmk : ∀ w, (Instr.makeSlice 101 (.int .i64 0) (.int .i64 2)).run Tryd.prog w = .ok (.slice (some ⟨w.heap.size, 0, none⟩) 0 2) (w.alloc (.cells #[.nilIface, .nilIface] 58)) := fun _ => by kernel_rfl
  have hb : b < w.heap.size := World.block_lt_of_cell? w _ h0
  have hb1 : b < w.heap.size + 1 := by omega
  have hb2 : b < w.heap.size + 1 + 1 := by omega
  have hb3 : b < w.heap.size + 1 + 1 + 1 := by omega
  unfold own at *
  go_enter Tryd.func84, Tryd.ntmps84
  go_wp2_with fail
  refine wp_loop_rounds 4 ?_
  rw [rounds_succ]
  go_wp2_with fail
  rw [rounds_succ]
  go_wp2_with fail
  rw [rounds_succ]
  go_wp2_with fail
  rw [rounds_succ]
  go_wp2_with fail
  refine wp_loop_rounds 4 ?_
  rw [rounds_succ]
  go_wp2_with fail
  rw [rounds_succ]
  go_wp2_with fail
  rw [rounds_succ]
  go_wp2_with fail
  rw [rounds_succ]
  go_wp2_with fail
  go_ret
  exact ⟨w.heap.size + 1, w.heap.size, 1, 2, rfl, by simp [go_sem], by simp [go_sem], by repeat (first | with_reducible exact On.refl _ | apply On.drew | apply On.drewN | apply On.alloc)⟩
set_option maxHeartbeats 4000000 in
theorem join_ENN (b cap : Nat) (f0 : ByteArray) (c0 : Int) (w : World) (h0 : w.cell? ⟨b, 0, none⟩ = some (own f0 c0)) (h1 : w.cell? ⟨b, 1, none⟩ = some .nilIface) (h2 : w.cell? ⟨b, 2, none⟩ = some .nilIface) :
    Calls Tryd.prog 84 #[.slice (some ⟨b, 0, none⟩) 3 cap] w fun e w' => ∃ j s k cap, e = .returned (.iface 140 (.pointer (some ⟨j, 0, none⟩))) ∧ w'.cell? ⟨j, 0, none⟩ = some (.slice (some ⟨s, 0, none⟩) (k + 1) cap) ∧ w'.cell? ⟨s, 0, none⟩ = some (own f0 c0) ∧ On w w' := by
  have hmk : ∀ w, (Instr.makeSlice 101 (.int .i64 0) (.int .i64 1)).run Tryd.prog w = .ok (.slice (some ⟨w.heap.size, 0, none⟩) 0 1) (w.alloc (.cells #[.nilIface] 58)) := fun _ => by kernel_rfl
  have hb : b < w.heap.size := World.block_lt_of_cell? w _ h0
  have hb1 : b < w.heap.size + 1 := by omega
  have hb2 : b < w.heap.size + 1 + 1 := by omega
  unfold own at *
  go_enter Tryd.func84, Tryd.ntmps84
  go_wp2_with fail
  refine wp_loop_rounds 4 ?_
  rw [rounds_succ]
  go_wp2_with fail
  rw [rounds_succ]
  go_wp2_with fail
  rw [rounds_succ]
  go_wp2_with fail
  rw [rounds_succ]
  go_wp2_with fail
  refine wp_loop_rounds 4 ?_
  rw [rounds_succ]
  go_wp2_with fail
  rw [rounds_succ]
  go_wp2_with fail
  rw [rounds_succ]
  go_wp2_with fail
  rw [rounds_succ]
  go_wp2_with fail
  go_ret
  exact ⟨w.heap.size + 1, w.heap.size, 0, 1, rfl, by simp [go_sem], by simp [go_sem], by repeat (first | with_reducible exact On.refl _ | apply On.drew | apply On.drewN | apply On.alloc)⟩
set_option maxHeartbeats 4000000 in
theorem join_ENE (b cap : Nat) (f0 : ByteArray) (c0 : Int) (f2 : ByteArray) (c2 : Int) (w : World) (h0 : w.cell? ⟨b, 0, none⟩ = some (own f0 c0)) (h1 : w.cell? ⟨b, 1, none⟩ = some .nilIface) (h2 : w.cell? ⟨b, 2, none⟩ = some (own f2 c2)) :
    Calls Tryd.prog 84 #[.slice (some ⟨b, 0, none⟩) 3 cap] w fun e w' => ∃ j s k cap, e = .returned (.iface 140 (.pointer (some ⟨j, 0, none⟩))) ∧ w'.cell? ⟨j, 0, none⟩ = some (.slice (some ⟨s, 0, none⟩) (k + 1) cap) ∧ w'.cell? ⟨s, 0, none⟩ = some (own f0 c0) ∧ On w w' := by
  have hmk : ∀ w, (Instr.makeSlice 101 (.int .i64 0) (.int .i64 2)).run Tryd.prog w = .ok (.slice (some ⟨w.heap.size, 0, none⟩) 0 2) (w.alloc (.cells #[.nilIface, .nilIface] 58)) := fun _ => by kernel_rfl
  have hb : b < w.heap.size := World.block_lt_of_cell? w _ h0
  have hb1 : b < w.heap.size + 1 := by omega
  have hb2 : b < w.heap.size + 1 + 1 := by omega
  have hb3 : b < w.heap.size + 1 + 1 + 1 := by omega
  unfold own at *
  go_enter Tryd.func84, Tryd.ntmps84
  go_wp2_with fail
  refine wp_loop_rounds 4 ?_
  rw [rounds_succ]
  go_wp2_with fail
  rw [rounds_succ]
  go_wp2_with fail
  rw [rounds_succ]
  go_wp2_with fail
  rw [rounds_succ]
  go_wp2_with fail
  refine wp_loop_rounds 4 ?_
  rw [rounds_succ]
  go_wp2_with fail
  rw [rounds_succ]
  go_wp2_with fail
  rw [rounds_succ]
  go_wp2_with fail
  rw [rounds_succ]
  go_wp2_with fail
  go_ret
  exact ⟨w.heap.size + 1, w.heap.size, 1, 2, rfl, by simp [go_sem], by simp [go_sem], by repeat (first | with_reducible exact On.refl _ | apply On.drew | apply On.drewN | apply On.alloc)⟩
set_option maxHeartbeats 4000000 in
theorem join_EEN (b cap : Nat) (f0 : ByteArray) (c0 : Int) (f1 : ByteArray) (c1 : Int) (w : World) (h0 : w.cell? ⟨b, 0, none⟩ = some (own f0 c0)) (h1 : w.cell? ⟨b, 1, none⟩ = some (own f1 c1)) (h2 : w.cell? ⟨b, 2, none⟩ = some .nilIface) :
    Calls Tryd.prog 84 #[.slice (some ⟨b, 0, none⟩) 3 cap] w fun e w' => ∃ j s k cap, e = .returned (.iface 140 (.pointer (some ⟨j, 0, none⟩))) ∧ w'.cell? ⟨j, 0, none⟩ = some (.slice (some ⟨s, 0, none⟩) (k + 1) cap) ∧ w'.cell? ⟨s, 0, none⟩ = some (own f0 c0) ∧ On w w' := by
  have hmk : ∀ w, (Instr.makeSlice 101 (.int .i64 0) (.int .i64 2)).run Tryd.prog w = .ok (.slice (some ⟨w.heap.size, 0, none⟩) 0 2) (w.alloc (.cells #[.nilIface, .nilIface] 58)) := fun _ => by kernel_rfl
  have hb : b < w.heap.size := World.block_lt_of_cell? w _ h0
  have hb1 : b < w.heap.size + 1 := by omega
  have hb2 : b < w.heap.size + 1 + 1 := by omega
  have hb3 : b < w.heap.size + 1 + 1 + 1 := by omega
  unfold own at *
  go_enter Tryd.func84, Tryd.ntmps84
  go_wp2_with fail
  refine wp_loop_rounds 4 ?_
  rw [rounds_succ]
  go_wp2_with fail
  rw [rounds_succ]
  go_wp2_with fail
  rw [rounds_succ]
  go_wp2_with fail
  rw [rounds_succ]
  go_wp2_with fail
  refine wp_loop_rounds 4 ?_
  rw [rounds_succ]
  go_wp2_with fail
  rw [rounds_succ]
  go_wp2_with fail
  rw [rounds_succ]
  go_wp2_with fail
  rw [rounds_succ]
  go_wp2_with fail
  go_ret
  exact ⟨w.heap.size + 1, w.heap.size, 1, 2, rfl, by simp [go_sem], by simp [go_sem], by repeat (first | with_reducible exact On.refl _ | apply On.drew | apply On.drewN | apply On.alloc)⟩
set_option maxHeartbeats 4000000 in
theorem join_EEE (b cap : Nat) (f0 : ByteArray) (c0 : Int) (f1 : ByteArray) (c1 : Int) (f2 : ByteArray) (c2 : Int) (w : World) (h0 : w.cell? ⟨b, 0, none⟩ = some (own f0 c0)) (h1 : w.cell? ⟨b, 1, none⟩ = some (own f1 c1)) (h2 : w.cell? ⟨b, 2, none⟩ = some (own f2 c2)) :
    Calls Tryd.prog 84 #[.slice (some ⟨b, 0, none⟩) 3 cap] w fun e w' => ∃ j s k cap, e = .returned (.iface 140 (.pointer (some ⟨j, 0, none⟩))) ∧ w'.cell? ⟨j, 0, none⟩ = some (.slice (some ⟨s, 0, none⟩) (k + 1) cap) ∧ w'.cell? ⟨s, 0, none⟩ = some (own f0 c0) ∧ On w w' := by
  have hmk : ∀ w, (Instr.makeSlice 101 (.int .i64 0) (.int .i64 3)).run Tryd.prog w = .ok (.slice (some ⟨w.heap.size, 0, none⟩) 0 3) (w.alloc (.cells #[.nilIface, .nilIface, .nilIface] 58)) := fun _ => by kernel_rfl
  have hb : b < w.heap.size := World.block_lt_of_cell? w _ h0
  have hb1 : b < w.heap.size + 1 := by omega
  have hb2 : b < w.heap.size + 1 + 1 := by omega
  have hb3 : b < w.heap.size + 1 + 1 + 1 := by omega
  have hb4 : b < w.heap.size + 1 + 1 + 1 + 1 := by omega
  unfold own at *
  go_enter Tryd.func84, Tryd.ntmps84
  go_wp2_with fail
  refine wp_loop_rounds 4 ?_
  rw [rounds_succ]
  go_wp2_with fail
  rw [rounds_succ]
  go_wp2_with fail
  rw [rounds_succ]
  go_wp2_with fail
  rw [rounds_succ]
  go_wp2_with fail
  refine wp_loop_rounds 4 ?_
  rw [rounds_succ]
  go_wp2_with fail
  rw [rounds_succ]
  go_wp2_with fail
  rw [rounds_succ]
  go_wp2_with fail
  rw [rounds_succ]
  go_wp2_with fail
  go_ret
  exact ⟨w.heap.size + 1, w.heap.size, 2, 3, rfl, by simp [go_sem], by simp [go_sem], by repeat (first | with_reducible exact On.refl _ | apply On.drew | apply On.drewN | apply On.alloc)⟩
set_option maxHeartbeats 1000000 in
theorem first_N (b cap : Nat) (w : World) (h0 : w.cell? ⟨b, 0, none⟩ = some .nilIface) :
    Calls Tryd.prog 47 #[.slice (some ⟨b, 0, none⟩) 1 cap] w fun e w' => e = .returned (.int .i64 0) ∧ On w w' := by
  have l0 : b < w.heap.size := World.block_lt_of_cell? w _ h0
  have HJ := Lib.hid (fun w' k0 => join_N b cap w' k0)
  go_enter Tryd.func47, Tryd.ntmps47
  go_wp2_with fail
  refine (HJ.out _ (by simp [go_sem, l0, h0])).mono ?_
  rintro e w1 ⟨rfl, h1⟩
  go_wp2_with fail
  refine (as_nil _ _).mono ?_
  rintro e w2 ⟨rfl, rfl⟩
  go_wp2_with fail
  go_ret
  exact ⟨rfl, On.trans (by repeat (first | with_reducible exact On.refl _ | apply On.alloc)) h1⟩
set_option maxHeartbeats 1000000 in
theorem first_E (b cap : Nat) (f0 : ByteArray) (c0 : Int) (w : World) (hg : ErrVar w) (h0 : w.cell? ⟨b, 0, none⟩ = some (own f0 c0)) :
    Calls Tryd.prog 47 #[.slice (some ⟨b, 0, none⟩) 1 cap] w fun e w' => e = .returned (.int .i64 c0) ∧ On w w' := by
  have l0 : b < w.heap.size := World.block_lt_of_cell? w _ h0
  have HJ := Lib.hid (fun w' k0 => join_E b cap f0 c0 w' k0)
  have hgl := hg.lt
  go_enter Tryd.func47, Tryd.ntmps47
  go_wp2_with fail
  refine (HJ.out _ (by simp [go_sem, l0, h0])).mono ?_
  rintro e w1 ⟨j, s, k, cap', rfl, hj, hs, h1⟩
  have t0 : w1.cell? ⟨w.heap.size, 0, none⟩ = some (.string ByteArray.empty) := (h1.cell (by simp)).trans (by simp [go_sem]; rfl)
  have t1 : w1.cell? ⟨w.heap.size, 1, none⟩ = some (.int .i64 0) := (h1.cell (by simp)).trans (by simp [go_sem])
  have fz0 : w1.frozen? ⟨w.heap.size, 0, none⟩ = false := (h1.frozen (by simp)).trans (by simp [go_sem])
  have fz1 : w1.frozen? ⟨w.heap.size, 1, none⟩ = false := (h1.frozen (by simp)).trans (by simp [go_sem])
  have h01 : On w w1 := On.trans (by repeat (first | with_reducible exact On.refl _ | apply On.alloc)) h1
  have HA := Lib.hid (as_hit w.heap.size j s k cap' f0 _ c0 _ w1 (hg.on h01) t0 t1 fz0 fz1 hj hs)
  unfold tgt at HA
  have HO := Lib.hid h01
  clear h1 h01 hj hs t0 t1 fz0 fz1
  go_wp2_with fail
  refine HA.out.mono ?_
  rintro e w2 ⟨rfl, hb2, hc2⟩
  go_wp2_with fail
  go_ret
  exact ⟨rfl, Below.trans HO.out hb2⟩
set_option maxHeartbeats 1000000 in
theorem first_NN (b cap : Nat) (w : World) (h0 : w.cell? ⟨b, 0, none⟩ = some .nilIface) (h1 : w.cell? ⟨b, 1, none⟩ = some .nilIface) :
    Calls Tryd.prog 47 #[.slice (some ⟨b, 0, none⟩) 2 cap] w fun e w' => e = .returned (.int .i64 0) ∧ On w w' := by
  have l0 : b < w.heap.size := World.block_lt_of_cell? w _ h0
  have HJ := Lib.hid (fun w' k0 k1 => join_NN b cap w' k0 k1)
  go_enter Tryd.func47, Tryd.ntmps47
  go_wp2_with fail
  refine (HJ.out _ (by simp [go_sem, l0, h0]) (by simp [go_sem, l0, h1])).mono ?_
  rintro e w1 ⟨rfl, h1⟩
  go_wp2_with fail
  refine (as_nil _ _).mono ?_
  rintro e w2 ⟨rfl, rfl⟩
  go_wp2_with fail
  go_ret
  exact ⟨rfl, On.trans (by repeat (first | with_reducible exact On.refl _ | apply On.alloc)) h1⟩
set_option maxHeartbeats 1000000 in
theorem first_NE (b cap : Nat) (f1 : ByteArray) (c1 : Int) (w : World) (hg : ErrVar w) (h0 : w.cell? ⟨b, 0, none⟩ = some .nilIface) (h1 : w.cell? ⟨b, 1, none⟩ = some (own f1 c1)) :
    Calls Tryd.prog 47 #[.slice (some ⟨b, 0, none⟩) 2 cap] w fun e w' => e = .returned (.int .i64 c1) ∧ On w w' := by
  have l0 : b < w.heap.size := World.block_lt_of_cell? w _ h0
  have HJ := Lib.hid (fun w' k0 k1 => join_NE b cap f1 c1 w' k0 k1)
  have hgl := hg.lt
  go_enter Tryd.func47, Tryd.ntmps47
  go_wp2_with fail
  refine (HJ.out _ (by simp [go_sem, l0, h0]) (by simp [go_sem, l0, h1])).mono ?_
  rintro e w1 ⟨j, s, k, cap', rfl, hj, hs, h1⟩
  have t0 : w1.cell? ⟨w.heap.size, 0, none⟩ = some (.string ByteArray.empty) := (h1.cell (by simp)).trans (by simp [go_sem]; rfl)
  have t1 : w1.cell? ⟨w.heap.size, 1, none⟩ = some (.int .i64 0) := (h1.cell (by simp)).trans (by simp [go_sem])
  have fz0 : w1.frozen? ⟨w.heap.size, 0, none⟩ = false := (h1.frozen (by simp)).trans (by simp [go_sem])
  have fz1 : w1.frozen? ⟨w.heap.size, 1, none⟩ = false := (h1.frozen (by simp)).trans (by simp [go_sem])
  have h01 : On w w1 := On.trans (by repeat (first | with_reducible exact On.refl _ | apply On.alloc)) h1
  have HA := Lib.hid (as_hit w.heap.size j s k cap' f1 _ c1 _ w1 (hg.on h01) t0 t1 fz0 fz1 hj hs)
  unfold tgt at HA
  have HO := Lib.hid h01
  clear h1 h01 hj hs t0 t1 fz0 fz1
  go_wp2_with fail
  refine HA.out.mono ?_
  rintro e w2 ⟨rfl, hb2, hc2⟩
  go_wp2_with fail
  go_ret
  exact ⟨rfl, Below.trans HO.out hb2⟩
set_option maxHeartbeats 1000000 in
theorem first_EN (b cap : Nat) (f0 : ByteArray) (c0 : Int) (w : World) (hg : ErrVar w) (h0 : w.cell? ⟨b, 0, none⟩ = some (own f0 c0)) (h1 : w.cell? ⟨b, 1, none⟩ = some .nilIface) :
    Calls Tryd.prog 47 #[.slice (some ⟨b, 0, none⟩) 2 cap] w fun e w' => e = .returned (.int .i64 c0) ∧ On w w' := by
  have l0 : b < w.heap.size := World.block_lt_of_cell? w _ h0
  have HJ := Lib.hid (fun w' k0 k1 => join_EN b cap f0 c0 w' k0 k1)
  have hgl := hg.lt
  go_enter Tryd.func47, Tryd.ntmps47
  go_wp2_with fail
  refine (HJ.out _ (by simp [go_sem, l0, h0]) (by simp [go_sem, l0, h1])).mono ?_
  rintro e w1 ⟨j, s, k, cap', rfl, hj, hs, h1⟩
  have t0 : w1.cell? ⟨w.heap.size, 0, none⟩ = some (.string ByteArray.empty) := (h1.cell (by simp)).trans (by simp [go_sem]; rfl)
  have t1 : w1.cell? ⟨w.heap.size, 1, none⟩ = some (.int .i64 0) := (h1.cell (by simp)).trans (by simp [go_sem])
  have fz0 : w1.frozen? ⟨w.heap.size, 0, none⟩ = false := (h1.frozen (by simp)).trans (by simp [go_sem])
  have fz1 : w1.frozen? ⟨w.heap.size, 1, none⟩ = false := (h1.frozen (by simp)).trans (by simp [go_sem])
  have h01 : On w w1 := On.trans (by repeat (first | with_reducible exact On.refl _ | apply On.alloc)) h1
  have HA := Lib.hid (as_hit w.heap.size j s k cap' f0 _ c0 _ w1 (hg.on h01) t0 t1 fz0 fz1 hj hs)
  unfold tgt at HA
  have HO := Lib.hid h01
  clear h1 h01 hj hs t0 t1 fz0 fz1
  go_wp2_with fail
  refine HA.out.mono ?_
  rintro e w2 ⟨rfl, hb2, hc2⟩
  go_wp2_with fail
  go_ret
  exact ⟨rfl, Below.trans HO.out hb2⟩
set_option maxHeartbeats 1000000 in
theorem first_EE (b cap : Nat) (f0 : ByteArray) (c0 : Int) (f1 : ByteArray) (c1 : Int) (w : World) (hg : ErrVar w) (h0 : w.cell? ⟨b, 0, none⟩ = some (own f0 c0)) (h1 : w.cell? ⟨b, 1, none⟩ = some (own f1 c1)) :
    Calls Tryd.prog 47 #[.slice (some ⟨b, 0, none⟩) 2 cap] w fun e w' => e = .returned (.int .i64 c0) ∧ On w w' := by
  have l0 : b < w.heap.size := World.block_lt_of_cell? w _ h0
  have HJ := Lib.hid (fun w' k0 k1 => join_EE b cap f0 c0 f1 c1 w' k0 k1)
  have hgl := hg.lt
  go_enter Tryd.func47, Tryd.ntmps47
  go_wp2_with fail
  refine (HJ.out _ (by simp [go_sem, l0, h0]) (by simp [go_sem, l0, h1])).mono ?_
  rintro e w1 ⟨j, s, k, cap', rfl, hj, hs, h1⟩
  have t0 : w1.cell? ⟨w.heap.size, 0, none⟩ = some (.string ByteArray.empty) := (h1.cell (by simp)).trans (by simp [go_sem]; rfl)
  have t1 : w1.cell? ⟨w.heap.size, 1, none⟩ = some (.int .i64 0) := (h1.cell (by simp)).trans (by simp [go_sem])
  have fz0 : w1.frozen? ⟨w.heap.size, 0, none⟩ = false := (h1.frozen (by simp)).trans (by simp [go_sem])
  have fz1 : w1.frozen? ⟨w.heap.size, 1, none⟩ = false := (h1.frozen (by simp)).trans (by simp [go_sem])
  have h01 : On w w1 := On.trans (by repeat (first | with_reducible exact On.refl _ | apply On.alloc)) h1
  have HA := Lib.hid (as_hit w.heap.size j s k cap' f0 _ c0 _ w1 (hg.on h01) t0 t1 fz0 fz1 hj hs)
  unfold tgt at HA
  have HO := Lib.hid h01
  clear h1 h01 hj hs t0 t1 fz0 fz1
  go_wp2_with fail
  refine HA.out.mono ?_
  rintro e w2 ⟨rfl, hb2, hc2⟩
  go_wp2_with fail
  go_ret
  exact ⟨rfl, Below.trans HO.out hb2⟩
set_option maxHeartbeats 1000000 in
theorem first_NNN (b cap : Nat) (w : World) (h0 : w.cell? ⟨b, 0, none⟩ = some .nilIface) (h1 : w.cell? ⟨b, 1, none⟩ = some .nilIface) (h2 : w.cell? ⟨b, 2, none⟩ = some .nilIface) :
    Calls Tryd.prog 47 #[.slice (some ⟨b, 0, none⟩) 3 cap] w fun e w' => e = .returned (.int .i64 0) ∧ On w w' := by
  have l0 : b < w.heap.size := World.block_lt_of_cell? w _ h0
  have HJ := Lib.hid (fun w' k0 k1 k2 => join_NNN b cap w' k0 k1 k2)
  go_enter Tryd.func47, Tryd.ntmps47
  go_wp2_with fail
  refine (HJ.out _ (by simp [go_sem, l0, h0]) (by simp [go_sem, l0, h1]) (by simp [go_sem, l0, h2])).mono ?_
  rintro e w1 ⟨rfl, h1⟩
  go_wp2_with fail
  refine (as_nil _ _).mono ?_
  rintro e w2 ⟨rfl, rfl⟩
  go_wp2_with fail
  go_ret
  exact ⟨rfl, On.trans (by repeat (first | with_reducible exact On.refl _ | apply On.alloc)) h1⟩
set_option maxHeartbeats 1000000 in
theorem first_NNE (b cap : Nat) (f2 : ByteArray) (c2 : Int) (w : World) (hg : ErrVar w) (h0 : w.cell? ⟨b, 0, none⟩ = some .nilIface) (h1 : w.cell? ⟨b, 1, none⟩ = some .nilIface) (h2 : w.cell? ⟨b, 2, none⟩ = some (own f2 c2)) :
    Calls Tryd.prog 47 #[.slice (some ⟨b, 0, none⟩) 3 cap] w fun e w' => e = .returned (.int .i64 c2) ∧ On w w' := by
  have l0 : b < w.heap.size := World.block_lt_of_cell? w _ h0
  have HJ := Lib.hid (fun w' k0 k1 k2 => join_NNE b cap f2 c2 w' k0 k1 k2)
  have hgl := hg.lt
  go_enter Tryd.func47, Tryd.ntmps47
  go_wp2_with fail
  refine (HJ.out _ (by simp [go_sem, l0, h0]) (by simp [go_sem, l0, h1]) (by simp [go_sem, l0, h2])).mono ?_
  rintro e w1 ⟨j, s, k, cap', rfl, hj, hs, h1⟩
  have t0 : w1.cell? ⟨w.heap.size, 0, none⟩ = some (.string ByteArray.empty) := (h1.cell (by simp)).trans (by simp [go_sem]; rfl)
  have t1 : w1.cell? ⟨w.heap.size, 1, none⟩ = some (.int .i64 0) := (h1.cell (by simp)).trans (by simp [go_sem])
  have fz0 : w1.frozen? ⟨w.heap.size, 0, none⟩ = false := (h1.frozen (by simp)).trans (by simp [go_sem])
  have fz1 : w1.frozen? ⟨w.heap.size, 1, none⟩ = false := (h1.frozen (by simp)).trans (by simp [go_sem])
  have h01 : On w w1 := On.trans (by repeat (first | with_reducible exact On.refl _ | apply On.alloc)) h1
  have HA := Lib.hid (as_hit w.heap.size j s k cap' f2 _ c2 _ w1 (hg.on h01) t0 t1 fz0 fz1 hj hs)
  unfold tgt at HA
  have HO := Lib.hid h01
  clear h1 h01 hj hs t0 t1 fz0 fz1
  go_wp2_with fail
  refine HA.out.mono ?_
  rintro e w2 ⟨rfl, hb2, hc2⟩
  go_wp2_with fail
  go_ret
  exact ⟨rfl, Below.trans HO.out hb2⟩
set_option maxHeartbeats 1000000 in
theorem first_NEN (b cap : Nat) (f1 : ByteArray) (c1 : Int) (w : World) (hg : ErrVar w) (h0 : w.cell? ⟨b, 0, none⟩ = some .nilIface) (h1 : w.cell? ⟨b, 1, none⟩ = some (own f1 c1)) (h2 : w.cell? ⟨b, 2, none⟩ = some .nilIface) :
    Calls Tryd.prog 47 #[.slice (some ⟨b, 0, none⟩) 3 cap] w fun e w' => e = .returned (.int .i64 c1) ∧ On w w' := by
  have l0 : b < w.heap.size := World.block_lt_of_cell? w _ h0
  have HJ := Lib.hid (fun w' k0 k1 k2 => join_NEN b cap f1 c1 w' k0 k1 k2)
  have hgl := hg.lt
  go_enter Tryd.func47, Tryd.ntmps47
  go_wp2_with fail
  refine (HJ.out _ (by simp [go_sem, l0, h0]) (by simp [go_sem, l0, h1]) (by simp [go_sem, l0, h2])).mono ?_
  rintro e w1 ⟨j, s, k, cap', rfl, hj, hs, h1⟩
  have t0 : w1.cell? ⟨w.heap.size, 0, none⟩ = some (.string ByteArray.empty) := (h1.cell (by simp)).trans (by simp [go_sem]; rfl)
  have t1 : w1.cell? ⟨w.heap.size, 1, none⟩ = some (.int .i64 0) := (h1.cell (by simp)).trans (by simp [go_sem])
  have fz0 : w1.frozen? ⟨w.heap.size, 0, none⟩ = false := (h1.frozen (by simp)).trans (by simp [go_sem])
  have fz1 : w1.frozen? ⟨w.heap.size, 1, none⟩ = false := (h1.frozen (by simp)).trans (by simp [go_sem])
  have h01 : On w w1 := On.trans (by repeat (first | with_reducible exact On.refl _ | apply On.alloc)) h1
  have HA := Lib.hid (as_hit w.heap.size j s k cap' f1 _ c1 _ w1 (hg.on h01) t0 t1 fz0 fz1 hj hs)
  unfold tgt at HA
  have HO := Lib.hid h01
  clear h1 h01 hj hs t0 t1 fz0 fz1
  go_wp2_with fail
  refine HA.out.mono ?_
  rintro e w2 ⟨rfl, hb2, hc2⟩
  go_wp2_with fail
  go_ret
  exact ⟨rfl, Below.trans HO.out hb2⟩
set_option maxHeartbeats 1000000 in
theorem first_NEE (b cap : Nat) (f1 : ByteArray) (c1 : Int) (f2 : ByteArray) (c2 : Int) (w : World) (hg : ErrVar w) (h0 : w.cell? ⟨b, 0, none⟩ = some .nilIface) (h1 : w.cell? ⟨b, 1, none⟩ = some (own f1 c1)) (h2 : w.cell? ⟨b, 2, none⟩ = some (own f2 c2)) :
    Calls Tryd.prog 47 #[.slice (some ⟨b, 0, none⟩) 3 cap] w fun e w' => e = .returned (.int .i64 c1) ∧ On w w' := by
  have l0 : b < w.heap.size := World.block_lt_of_cell? w _ h0
  have HJ := Lib.hid (fun w' k0 k1 k2 => join_NEE b cap f1 c1 f2 c2 w' k0 k1 k2)
  have hgl := hg.lt
  go_enter Tryd.func47, Tryd.ntmps47
  go_wp2_with fail
  refine (HJ.out _ (by simp [go_sem, l0, h0]) (by simp [go_sem, l0, h1]) (by simp [go_sem, l0, h2])).mono ?_
  rintro e w1 ⟨j, s, k, cap', rfl, hj, hs, h1⟩
  have t0 : w1.cell? ⟨w.heap.size, 0, none⟩ = some (.string ByteArray.empty) := (h1.cell (by simp)).trans (by simp [go_sem]; rfl)
  have t1 : w1.cell? ⟨w.heap.size, 1, none⟩ = some (.int .i64 0) := (h1.cell (by simp)).trans (by simp [go_sem])
  have fz0 : w1.frozen? ⟨w.heap.size, 0, none⟩ = false := (h1.frozen (by simp)).trans (by simp [go_sem])
  have fz1 : w1.frozen? ⟨w.heap.size, 1, none⟩ = false := (h1.frozen (by simp)).trans (by simp [go_sem])
  have h01 : On w w1 := On.trans (by repeat (first | with_reducible exact On.refl _ | apply On.alloc)) h1
  have HA := Lib.hid (as_hit w.heap.size j s k cap' f1 _ c1 _ w1 (hg.on h01) t0 t1 fz0 fz1 hj hs)
  unfold tgt at HA
  have HO := Lib.hid h01
  clear h1 h01 hj hs t0 t1 fz0 fz1
  go_wp2_with fail
  refine HA.out.mono ?_
  rintro e w2 ⟨rfl, hb2, hc2⟩
  go_wp2_with fail
  go_ret
  exact ⟨rfl, Below.trans HO.out hb2⟩
set_option maxHeartbeats 1000000 in
theorem first_ENN (b cap : Nat) (f0 : ByteArray) (c0 : Int) (w : World) (hg : ErrVar w) (h0 : w.cell? ⟨b, 0, none⟩ = some (own f0 c0)) (h1 : w.cell? ⟨b, 1, none⟩ = some .nilIface) (h2 : w.cell? ⟨b, 2, none⟩ = some .nilIface) :
    Calls Tryd.prog 47 #[.slice (some ⟨b, 0, none⟩) 3 cap] w fun e w' => e = .returned (.int .i64 c0) ∧ On w w' := by
  have l0 : b < w.heap.size := World.block_lt_of_cell? w _ h0
  have HJ := Lib.hid (fun w' k0 k1 k2 => join_ENN b cap f0 c0 w' k0 k1 k2)
  have hgl := hg.lt
  go_enter Tryd.func47, Tryd.ntmps47
  go_wp2_with fail
  refine (HJ.out _ (by simp [go_sem, l0, h0]) (by simp [go_sem, l0, h1]) (by simp [go_sem, l0, h2])).mono ?_
  rintro e w1 ⟨j, s, k, cap', rfl, hj, hs, h1⟩
  have t0 : w1.cell? ⟨w.heap.size, 0, none⟩ = some (.string ByteArray.empty) := (h1.cell (by simp)).trans (by simp [go_sem]; rfl)
  have t1 : w1.cell? ⟨w.heap.size, 1, none⟩ = some (.int .i64 0) := (h1.cell (by simp)).trans (by simp [go_sem])
  have fz0 : w1.frozen? ⟨w.heap.size, 0, none⟩ = false := (h1.frozen (by simp)).trans (by simp [go_sem])
  have fz1 : w1.frozen? ⟨w.heap.size, 1, none⟩ = false := (h1.frozen (by simp)).trans (by simp [go_sem])
  have h01 : On w w1 := On.trans (by repeat (first | with_reducible exact On.refl _ | apply On.alloc)) h1
  have HA := Lib.hid (as_hit w.heap.size j s k cap' f0 _ c0 _ w1 (hg.on h01) t0 t1 fz0 fz1 hj hs)
  unfold tgt at HA
  have HO := Lib.hid h01
  clear h1 h01 hj hs t0 t1 fz0 fz1
  go_wp2_with fail
  refine HA.out.mono ?_
  rintro e w2 ⟨rfl, hb2, hc2⟩
  go_wp2_with fail
  go_ret
  exact ⟨rfl, Below.trans HO.out hb2⟩
set_option maxHeartbeats 1000000 in
theorem first_ENE (b cap : Nat) (f0 : ByteArray) (c0 : Int) (f2 : ByteArray) (c2 : Int) (w : World) (hg : ErrVar w) (h0 : w.cell? ⟨b, 0, none⟩ = some (own f0 c0)) (h1 : w.cell? ⟨b, 1, none⟩ = some .nilIface) (h2 : w.cell? ⟨b, 2, none⟩ = some (own f2 c2)) :
    Calls Tryd.prog 47 #[.slice (some ⟨b, 0, none⟩) 3 cap] w fun e w' => e = .returned (.int .i64 c0) ∧ On w w' := by
  have l0 : b < w.heap.size := World.block_lt_of_cell? w _ h0
  have HJ := Lib.hid (fun w' k0 k1 k2 => join_ENE b cap f0 c0 f2 c2 w' k0 k1 k2)
  have hgl := hg.lt
  go_enter Tryd.func47, Tryd.ntmps47
  go_wp2_with fail
  refine (HJ.out _ (by simp [go_sem, l0, h0]) (by simp [go_sem, l0, h1]) (by simp [go_sem, l0, h2])).mono ?_
  rintro e w1 ⟨j, s, k, cap', rfl, hj, hs, h1⟩
  have t0 : w1.cell? ⟨w.heap.size, 0, none⟩ = some (.string ByteArray.empty) := (h1.cell (by simp)).trans (by simp [go_sem]; rfl)
  have t1 : w1.cell? ⟨w.heap.size, 1, none⟩ = some (.int .i64 0) := (h1.cell (by simp)).trans (by simp [go_sem])
  have fz0 : w1.frozen? ⟨w.heap.size, 0, none⟩ = false := (h1.frozen (by simp)).trans (by simp [go_sem])
  have fz1 : w1.frozen? ⟨w.heap.size, 1, none⟩ = false := (h1.frozen (by simp)).trans (by simp [go_sem])
  have h01 : On w w1 := On.trans (by repeat (first | with_reducible exact On.refl _ | apply On.alloc)) h1
  have HA := Lib.hid (as_hit w.heap.size j s k cap' f0 _ c0 _ w1 (hg.on h01) t0 t1 fz0 fz1 hj hs)
  unfold tgt at HA
  have HO := Lib.hid h01
  clear h1 h01 hj hs t0 t1 fz0 fz1
  go_wp2_with fail
  refine HA.out.mono ?_
  rintro e w2 ⟨rfl, hb2, hc2⟩
  go_wp2_with fail
  go_ret
  exact ⟨rfl, Below.trans HO.out hb2⟩
set_option maxHeartbeats 1000000 in
theorem first_EEN (b cap : Nat) (f0 : ByteArray) (c0 : Int) (f1 : ByteArray) (c1 : Int) (w : World) (hg : ErrVar w) (h0 : w.cell? ⟨b, 0, none⟩ = some (own f0 c0)) (h1 : w.cell? ⟨b, 1, none⟩ = some (own f1 c1)) (h2 : w.cell? ⟨b, 2, none⟩ = some .nilIface) :
    Calls Tryd.prog 47 #[.slice (some ⟨b, 0, none⟩) 3 cap] w fun e w' => e = .returned (.int .i64 c0) ∧ On w w' := by
  have l0 : b < w.heap.size := World.block_lt_of_cell? w _ h0
  have HJ := Lib.hid (fun w' k0 k1 k2 => join_EEN b cap f0 c0 f1 c1 w' k0 k1 k2)
  have hgl := hg.lt
  go_enter Tryd.func47, Tryd.ntmps47
  go_wp2_with fail
  refine (HJ.out _ (by simp [go_sem, l0, h0]) (by simp [go_sem, l0, h1]) (by simp [go_sem, l0, h2])).mono ?_
  rintro e w1 ⟨j, s, k, cap', rfl, hj, hs, h1⟩
  have t0 : w1.cell? ⟨w.heap.size, 0, none⟩ = some (.string ByteArray.empty) := (h1.cell (by simp)).trans (by simp [go_sem]; rfl)
  have t1 : w1.cell? ⟨w.heap.size, 1, none⟩ = some (.int .i64 0) := (h1.cell (by simp)).trans (by simp [go_sem])
  have fz0 : w1.frozen? ⟨w.heap.size, 0, none⟩ = false := (h1.frozen (by simp)).trans (by simp [go_sem])
  have fz1 : w1.frozen? ⟨w.heap.size, 1, none⟩ = false := (h1.frozen (by simp)).trans (by simp [go_sem])
  have h01 : On w w1 := On.trans (by repeat (first | with_reducible exact On.refl _ | apply On.alloc)) h1
  have HA := Lib.hid (as_hit w.heap.size j s k cap' f0 _ c0 _ w1 (hg.on h01) t0 t1 fz0 fz1 hj hs)
  unfold tgt at HA
  have HO := Lib.hid h01
  clear h1 h01 hj hs t0 t1 fz0 fz1
  go_wp2_with fail
  refine HA.out.mono ?_
  rintro e w2 ⟨rfl, hb2, hc2⟩
  go_wp2_with fail
  go_ret
  exact ⟨rfl, Below.trans HO.out hb2⟩
set_option maxHeartbeats 1000000 in
theorem first_EEE (b cap : Nat) (f0 : ByteArray) (c0 : Int) (f1 : ByteArray) (c1 : Int) (f2 : ByteArray) (c2 : Int) (w : World) (hg : ErrVar w) (h0 : w.cell? ⟨b, 0, none⟩ = some (own f0 c0)) (h1 : w.cell? ⟨b, 1, none⟩ = some (own f1 c1)) (h2 : w.cell? ⟨b, 2, none⟩ = some (own f2 c2)) :
    Calls Tryd.prog 47 #[.slice (some ⟨b, 0, none⟩) 3 cap] w fun e w' => e = .returned (.int .i64 c0) ∧ On w w' := by
  have l0 : b < w.heap.size := World.block_lt_of_cell? w _ h0
  have HJ := Lib.hid (fun w' k0 k1 k2 => join_EEE b cap f0 c0 f1 c1 f2 c2 w' k0 k1 k2)
  have hgl := hg.lt
  go_enter Tryd.func47, Tryd.ntmps47
  go_wp2_with fail
  refine (HJ.out _ (by simp [go_sem, l0, h0]) (by simp [go_sem, l0, h1]) (by simp [go_sem, l0, h2])).mono ?_
  rintro e w1 ⟨j, s, k, cap', rfl, hj, hs, h1⟩
  have t0 : w1.cell? ⟨w.heap.size, 0, none⟩ = some (.string ByteArray.empty) := (h1.cell (by simp)).trans (by simp [go_sem]; rfl)
  have t1 : w1.cell? ⟨w.heap.size, 1, none⟩ = some (.int .i64 0) := (h1.cell (by simp)).trans (by simp [go_sem])
  have fz0 : w1.frozen? ⟨w.heap.size, 0, none⟩ = false := (h1.frozen (by simp)).trans (by simp [go_sem])
  have fz1 : w1.frozen? ⟨w.heap.size, 1, none⟩ = false := (h1.frozen (by simp)).trans (by simp [go_sem])
  have h01 : On w w1 := On.trans (by repeat (first | with_reducible exact On.refl _ | apply On.alloc)) h1
  have HA := Lib.hid (as_hit w.heap.size j s k cap' f0 _ c0 _ w1 (hg.on h01) t0 t1 fz0 fz1 hj hs)
  unfold tgt at HA
  have HO := Lib.hid h01
  clear h1 h01 hj hs t0 t1 fz0 fz1
  go_wp2_with fail
  refine HA.out.mono ?_
  rintro e w2 ⟨rfl, hb2, hc2⟩
  go_wp2_with fail
  go_ret
  exact ⟨rfl, Below.trans HO.out hb2⟩
/-- An error, or none. -/
def errV : Option (ByteArray × Int) → Value
  | none => .nilIface
  | some q => own q.1 q.2
def codeOf : List (Option (ByteArray × Int)) → Int
  | [] => 0
  | none :: l => codeOf l
  | some q :: _ => q.2
theorem first1 (b cap : Nat) (o0 : Option (ByteArray × Int)) (w : World) (hg : ErrVar w) (h0 : w.cell? ⟨b, 0, none⟩ = some (errV o0)) :
    Calls Tryd.prog 47 #[.slice (some ⟨b, 0, none⟩) 1 cap] w fun e w' => e = .returned (.int .i64 (codeOf [o0])) ∧ On w w' := by
  cases o0 with
  | none =>
    exact first_N b cap  w h0
  | some q0 =>
    exact first_E b cap q0.1 q0.2 w hg h0
theorem first2 (b cap : Nat) (o0 o1 : Option (ByteArray × Int)) (w : World) (hg : ErrVar w) (h0 : w.cell? ⟨b, 0, none⟩ = some (errV o0)) (h1 : w.cell? ⟨b, 1, none⟩ = some (errV o1)) :
    Calls Tryd.prog 47 #[.slice (some ⟨b, 0, none⟩) 2 cap] w fun e w' => e = .returned (.int .i64 (codeOf [o0, o1])) ∧ On w w' := by
  cases o0 with
  | none =>
    cases o1 with
    | none =>
      exact first_NN b cap  w h0 h1
    | some q1 =>
      exact first_NE b cap q1.1 q1.2 w hg h0 h1
  | some q0 =>
    cases o1 with
    | none =>
      exact first_EN b cap q0.1 q0.2 w hg h0 h1
    | some q1 =>
      exact first_EE b cap q0.1 q0.2 q1.1 q1.2 w hg h0 h1
theorem first3 (b cap : Nat) (o0 o1 o2 : Option (ByteArray × Int)) (w : World) (hg : ErrVar w) (h0 : w.cell? ⟨b, 0, none⟩ = some (errV o0)) (h1 : w.cell? ⟨b, 1, none⟩ = some (errV o1)) (h2 : w.cell? ⟨b, 2, none⟩ = some (errV o2)) :
    Calls Tryd.prog 47 #[.slice (some ⟨b, 0, none⟩) 3 cap] w fun e w' => e = .returned (.int .i64 (codeOf [o0, o1, o2])) ∧ On w w' := by
  cases o0 with
  | none =>
    cases o1 with
    | none =>
      cases o2 with
      | none =>
        exact first_NNN b cap  w h0 h1 h2
      | some q2 =>
        exact first_NNE b cap q2.1 q2.2 w hg h0 h1 h2
    | some q1 =>
      cases o2 with
      | none =>
        exact first_NEN b cap q1.1 q1.2 w hg h0 h1 h2
      | some q2 =>
        exact first_NEE b cap q1.1 q1.2 q2.1 q2.2 w hg h0 h1 h2
  | some q0 =>
    cases o1 with
    | none =>
      cases o2 with
      | none =>
        exact first_ENN b cap q0.1 q0.2 w hg h0 h1 h2
      | some q2 =>
        exact first_ENE b cap q0.1 q0.2 q2.1 q2.2 w hg h0 h1 h2
    | some q1 =>
      cases o2 with
      | none =>
        exact first_EEN b cap q0.1 q0.2 q1.1 q1.2 w hg h0 h1 h2
      | some q2 =>
        exact first_EEE b cap q0.1 q0.2 q1.1 q1.2 q2.1 q2.2 w hg h0 h1 h2
end Go.Proofs.YtknggnchldcghacDoor.Err
