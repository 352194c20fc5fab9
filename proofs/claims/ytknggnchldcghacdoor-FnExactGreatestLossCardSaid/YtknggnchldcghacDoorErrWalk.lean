
/-
  errors.as and errors.As at a target of the program's own error type, walked. Conditions: each theorem's own.
-/
import Derived.Test.YtknggnchldcghacDoorErrAs
import Derived.Lib.Hide
namespace Go.Proofs.YtknggnchldcghacDoor.Err
open Go.RowKit Go.Extern.Stop Go.Stop Go.Extern

def tgt (t : Nat) : Value := .iface 106 (.pointer (some ⟨t, 0, none⟩))
def valT (a : Nat) : Value := .agg #[.pointer (some ⟨11, 106, none⟩), .pointer (some ⟨a, 0, none⟩), .int .u64 150]
def typE : Value := .iface 154 (.agg #[.pointer (some ⟨11, 103, none⟩)])
set_option maxHeartbeats 4000000 in
theorem as_own (t a : Nat) (f g : ByteArray) (c d : Int) (w : World) (_hta : t < a) (ha : w.cell? ⟨a, 0, none⟩ = some (.pointer (some ⟨t, 0, none⟩))) (t0 : w.cell? ⟨t, 0, none⟩ = some (.string g)) (t1 : w.cell? ⟨t, 1, none⟩ = some (.int .i64 d)) (f0 : w.frozen? ⟨t, 0, none⟩ = false) (f1 : w.frozen? ⟨t, 1, none⟩ = false) :
    Calls Tryd.prog 111 #[own f c, tgt t, valT a, typE] w fun e w' => e = .returned (.bool true) ∧ Below t w w' ∧ w'.cell? ⟨t, 1, none⟩ = some (.int .i64 c) := by
  have h10 := @run_callFunc_extern Tryd.prog 128 _ ReflectliteType.typeOf Tryd.func128 (by kernel_rfl) (by kernel_rfl) (by kernel_rfl) (by kernel_rfl)
  have h35 := @run_callFunc_extern Tryd.prog 199 _ (ReflectliteType.relation "AssignableTo" ReflectliteType.assignableTo) Tryd.func199 (by kernel_rfl) (by kernel_rfl) (by kernel_rfl) (by kernel_rfl)
  have h11 := @run_callFunc_extern Tryd.prog 129 _ (ReflectliteValue.method (ReflectliteValue.valueError "reflectlite.Value.Elem" 0) ReflectliteValue.elem) Tryd.func129 (by kernel_rfl) (by kernel_rfl) (by kernel_rfl) (by kernel_rfl)
  have h12 := @run_callFunc_extern Tryd.prog 130 _ ReflectliteValue.set Tryd.func130 (by kernel_rfl) (by kernel_rfl) (by kernel_rfl) (by kernel_rfl)
  have h6 := @run_callFunc_extern Tryd.prog 108 _ (fun args => ReflectliteValue.unpack (args.getD 0 (.tuple #[]))) Tryd.func108 (by kernel_rfl) (by kernel_rfl) (by kernel_rfl) (by kernel_rfl)
  have tO := typeOfE
  have mA := methodAssignableTo
  have aE := assignE
  have vE := valueOfE
  have hal := World.block_lt_of_cell? w _ ha
  have htl := World.block_lt_of_cell? w _ t0
  have el := elemV ⟨a, 0, none⟩ ⟨t, 0, none⟩ (w.alloc (.cells #[.pointer (some ⟨11, 106, none⟩), .pointer (some ⟨a, 0, none⟩), .int .u64 150] 130)) (by rw [World.cell?_alloc_lt _ _ ⟨a, 0, none⟩ hal]; exact ha)
  have st := setE t (w.heap.size + 1) f c g d ((w.alloc (.cells #[.pointer (some ⟨11, 106, none⟩), .pointer (some ⟨a, 0, none⟩), .int .u64 150] 130)).alloc (.cells #[.string f, .int .i64 c] 103)) (by simp [go_sem]) (by simp [go_sem]) (by simp [go_sem, htl, t0]) (by simp [go_sem, htl, t1]) (by simp [go_sem, htl, f0]) (by simp [go_sem, htl, f1])
  unfold own at vE
  unfold own tgt valT typE
  go_enter Tryd.func111, Tryd.ntmps111
  go_wp2
  refine wp_loop_rounds 1 ?_
  rw [rounds_succ]
  go_wp2
  go_ret
  refine ⟨rfl, ?_, ?_⟩
  · have hB : Below t w ((w.setCell ⟨t, 0, none⟩ (.string f)).setCell ⟨t, 1, none⟩ (.int .i64 c)) := ((Below.refl t w).setCell (p := ⟨t, 0, none⟩) (Nat.le_refl _) _).setCell (p := ⟨t, 1, none⟩) (Nat.le_refl _) _
    have hz : t < w.heap.size := htl
    exact Below.alloc (Below.alloc hB (by simp; omega) _) (by simp; omega) _
  · simp [go_sem, htl, t1]
set_option maxHeartbeats 4000000 in
theorem as_join (t a j s n cap : Nat) (f g : ByteArray) (c d : Int) (w : World) (hta : t < a) (ha : w.cell? ⟨a, 0, none⟩ = some (.pointer (some ⟨t, 0, none⟩))) (t0 : w.cell? ⟨t, 0, none⟩ = some (.string g)) (t1 : w.cell? ⟨t, 1, none⟩ = some (.int .i64 d)) (f0 : w.frozen? ⟨t, 0, none⟩ = false) (f1 : w.frozen? ⟨t, 1, none⟩ = false)
    (hj : w.cell? ⟨j, 0, none⟩ = some (.slice (some ⟨s, 0, none⟩) (n + 1) cap)) (hs : w.cell? ⟨s, 0, none⟩ = some (own f c)) :
    Calls Tryd.prog 111 #[.iface 140 (.pointer (some ⟨j, 0, none⟩)), tgt t, valT a, typE] w fun e w' => e = .returned (.bool true) ∧ Below t w w' ∧ w'.cell? ⟨t, 1, none⟩ = some (.int .i64 c) := by
  have h10 := @run_callFunc_extern Tryd.prog 128 _ ReflectliteType.typeOf Tryd.func128 (by kernel_rfl) (by kernel_rfl) (by kernel_rfl) (by kernel_rfl)
  have h35 := @run_callFunc_extern Tryd.prog 199 _ (ReflectliteType.relation "AssignableTo" ReflectliteType.assignableTo) Tryd.func199 (by kernel_rfl) (by kernel_rfl) (by kernel_rfl) (by kernel_rfl)
  have tO := typeOfJ
  have mA := methodAssignableTo
  have aJ := assignJ
  have nA := noAs
  have nU := noUnwrap
  have hU := hasUnwraps
  have mU := methodUnwrap
  have hal := World.block_lt_of_cell? w _ ha
  have htl := World.block_lt_of_cell? w _ t0
  have hjl := World.block_lt_of_cell? w _ hj
  have hsl := World.block_lt_of_cell? w _ hs
  have HW := Lib.hid (fun w' v h hv => unwrap j v w' h hv)
  have HA := Lib.hid (fun w' ha t0 t1 f0 f1 => as_own t a f g c d w' hta ha t0 t1 f0 f1)
  have nn : (0 : Int) < (n : Int) + 1 := by omega
  unfold own at hs
  unfold own tgt valT typE at HA
  unfold tgt valT typE
  go_enter Tryd.func111, Tryd.ntmps111
  go_wp2_with fail
  refine wp_loop_rounds 1 ?_
  rw [rounds_succ]
  go_wp2_with fail
  refine (HW.out _ (.slice (some ⟨s, 0, none⟩) (n + 1) cap) (by simp [go_sem, hjl, hj]) ⟨_, _, _, rfl⟩).mono ?_
  rintro e w2 ⟨rfl, rfl⟩
  go_wp2_with fail
  refine wp_loop_rounds 1 ?_
  rw [rounds_succ]
  go_wp2_with fail
  refine (HA.out _ (by simp [go_sem, hal, ha]) (by simp [go_sem, htl, t0]) (by simp [go_sem, htl, t1]) (by simp [go_sem, htl, f0]) (by simp [go_sem, htl, f1])).mono ?_
  rintro e w3 ⟨rfl, hb3, hc3⟩
  go_wp2_with fail
  go_ret
  exact ⟨rfl, Below.trans (Below.alloc (Below.refl t w) (by omega) _) hb3, hc3⟩
set_option maxHeartbeats 4000000 in
/-- errors.As at several errors joined, the first of which is of the program's own type. -/
theorem as_hit (t j s n cap : Nat) (f g : ByteArray) (c d : Int) (w : World) (hg : w.cell? ⟨0, 0, none⟩ = some (.iface 154 (.agg #[.pointer (some ⟨11, 58, none⟩)]))) (t0 : w.cell? ⟨t, 0, none⟩ = some (.string g)) (t1 : w.cell? ⟨t, 1, none⟩ = some (.int .i64 d)) (f0 : w.frozen? ⟨t, 0, none⟩ = false) (f1 : w.frozen? ⟨t, 1, none⟩ = false)
    (hj : w.cell? ⟨j, 0, none⟩ = some (.slice (some ⟨s, 0, none⟩) (n + 1) cap)) (hs : w.cell? ⟨s, 0, none⟩ = some (own f c)) :
    Calls Tryd.prog 83 #[.iface 140 (.pointer (some ⟨j, 0, none⟩)), tgt t] w fun e w' => e = .returned (.bool true) ∧ Below t w w' ∧ w'.cell? ⟨t, 1, none⟩ = some (.int .i64 c) := by
  have h6 := @run_callFunc_extern Tryd.prog 108 _ (fun args => ReflectliteValue.unpack (args.getD 0 (.tuple #[]))) Tryd.func108 (by kernel_rfl) (by kernel_rfl) (by kernel_rfl) (by kernel_rfl)
  have h7 := @run_callFunc_extern Tryd.prog 109 _ (ReflectliteValue.methodAny (ReflectliteValue.valueError "reflectlite.Value.Type" 0) (fun t _ _ _ => ReflectliteType.toType t)) Tryd.func109 (by kernel_rfl) (by kernel_rfl) (by kernel_rfl) (by kernel_rfl)
  have h8 := @run_callFunc_extern Tryd.prog 110 _ (ReflectliteValue.method (ReflectliteValue.valueError "reflectlite.Value.IsNil" 0) ReflectliteValue.isNil) Tryd.func110 (by kernel_rfl) (by kernel_rfl) (by kernel_rfl) (by kernel_rfl)
  have h27 := @run_callFunc_extern Tryd.prog 188 _ (ReflectliteType.abiMethod fun t => do pure (.int .u8 (← Rtype.kind t))) Tryd.func188 (by kernel_rfl) (by kernel_rfl) (by kernel_rfl) (by kernel_rfl)
  have h37 := @run_callFunc_extern Tryd.prog 201 _ (ReflectliteType.method ReflectliteType.elem) Tryd.func201 (by kernel_rfl) (by kernel_rfl) (by kernel_rfl) (by kernel_rfl)
  have h38 := @run_callFunc_extern Tryd.prog 202 _ (ReflectliteType.relation "Implements" ReflectliteType.implements_) Tryd.func202 (by kernel_rfl) (by kernel_rfl) (by kernel_rfl) (by kernel_rfl)
  have f6 := valueOfT
  have f7 := typeT
  have mK := methodKind
  have mE := methodElem
  have mI := methodImplements
  have kT := kindT
  have kE := kindE
  have eT := elemT
  have iE := implementsE
  have htl := World.block_lt_of_cell? w _ t0
  have hjl := World.block_lt_of_cell? w _ hj
  have hsl := World.block_lt_of_cell? w _ hs
  have hgl := World.block_lt_of_cell? w _ hg
  have n8 := isNilT ⟨w.heap.size, 0, none⟩ ⟨t, 0, none⟩ ((w.alloc (.cells #[.pointer (some ⟨t, 0, none⟩)] 106)).alloc (.cells #[.pointer (some ⟨11, 106, none⟩), .pointer (some ⟨w.heap.size, 0, none⟩), .int .u64 150] 130)) (by simp [go_sem])
  have HA := Lib.hid (fun w' a hta ha t0 t1 f0 f1 hj hs => as_join t a j s n cap f g c d w' hta ha t0 t1 f0 f1 hj hs)
  unfold tgt valT typE at HA
  unfold own at HA hs
  unfold tgt
  go_enter Tryd.func83, Tryd.ntmps83
  go_wp2_with fail
  refine (HA.out _ w.heap.size htl (by simp [go_sem]) (by simp [go_sem, htl, t0]) (by simp [go_sem, htl, t1]) (by simp [go_sem, htl, f0]) (by simp [go_sem, htl, f1]) (by simp [go_sem, hjl, hj]) (by simp [go_sem, hsl, hs])).mono ?_
  rintro e w3 ⟨rfl, hb3, hc3⟩
  go_wp2_with fail
  go_ret
  exact ⟨rfl, Below.trans (Below.alloc (Below.alloc (Below.refl t w) (Nat.le_of_lt htl) _) (by rw [World.size_alloc]; exact Nat.le_succ_of_le (Nat.le_of_lt htl)) _) hb3, hc3⟩
end Go.Proofs.YtknggnchldcghacDoor.Err
