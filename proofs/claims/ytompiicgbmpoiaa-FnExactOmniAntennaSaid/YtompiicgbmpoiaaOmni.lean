
/-
  The antenna without losses, in the model and in the program: an antenna of its own memory. Condition: at most 1048576 bytes in the name.
-/
import Derived.Test.YtompiicgbmpoiaaAntOwn
import Derived.Test.YtompiicgbmpoiaaAntOk
import Derived.Test.YtompiicgbmpoiaaTail
import Derived.RegionTactic
import Derived.Deep.OwnRows
import Derived.Deep.DeepCutAuto
import Derived.Deep.RegionWith
namespace Go.Proofs.Ytompiicgbmpoiaa.Ant
open Go.RowKit
open Plain
open Ints (Ints Own)

def omB (s : ByteArray) (g : Int) : Bool := nameB s.data.toList && inB g (-60000) 60000
def omC (s : ByteArray) (g : Int) : Int := if nameB s.data.toList = true then (if inB g (-60000) 60000 = true then 0 else 2) else 1
def omT (b : Bool) (s : ByteArray) : ByteArray := if b = true then s else ⟨#[]⟩
def omG (b : Bool) (g : Int) : Int := if b = true then g else 0
def omL (b : Bool) (n : Nat) : List Int := if b = true then List.replicate n 0 else []
theorem om_1 {s : ByteArray} {g : Int} (h : nameB s.data.toList = false) : omB s g = false ∧ omC s g = 1 := by unfold omB omC; rw [h]; exact ⟨rfl, rfl⟩
theorem om_2 {s : ByteArray} {g : Int} (h : nameB s.data.toList = true) (h2 : inB g (-60000) 60000 = false) : omB s g = false ∧ omC s g = 2 := by unfold omB omC; rw [h, h2]; exact ⟨rfl, rfl⟩
theorem om_0 {s : ByteArray} {g : Int} (h : nameB s.data.toList = true) (h2 : inB g (-60000) 60000 = true) : omB s g = true ∧ omC s g = 0 := by unfold omB omC; rw [h, h2]; exact ⟨rfl, rfl⟩
theorem om_no (s : ByteArray) (g : Int) (n : Nat) : omT false s = ⟨#[]⟩ ∧ omG false g = 0 ∧ omL false n = [] := ⟨rfl, rfl, rfl⟩
theorem om_yes (s : ByteArray) (g : Int) (n : Nat) : omT true s = s ∧ omG true g = g ∧ omL true n = List.replicate n 0 := ⟨rfl, rfl, rfl⟩
theorem om_len (b : Bool) : (omL b 36).length + (omL b 19).length ≤ 1048576 := by cases b <;> simp [omL]
theorem own_zero {B A n : Nat} {t : TypeId} {w : World} (h : w.rowIs A t n (fun _ => .int .i64 0)) (hB : B ≤ A) : Own B w (.slice (some ⟨A, 0, none⟩) n n) (List.replicate n 0) := by
  have h' : w.rowIs A t (List.replicate n (0 : Int)).length (fun j => .int .i64 ((List.replicate n (0 : Int)).getD j 0)) := by
    rw [List.length_replicate]
    refine h.congr fun i hi => ?_
    simp [hi]
  have := Own.of_row (cap := n) h' hB
  rw [List.length_replicate] at this
  exact this
theorem made_row {n b : Nat} {t : TypeId} {w : World} (hb : b = w.heap.size) : (w.alloc (.cells (madeCells #[.int .i64 0] n) t)).rowIs b t n (fun _ => .int .i64 0) := by
  subst hb
  exact World.rowIs_made w _ n t
theorem row_on {w w' : World} {b n : Nat} {t : TypeId} {f : Nat → Value} (h : w.rowIs b t n f) (ho : On w w') : w'.rowIs b t n f := by
  have hl := h.lt
  obtain ⟨c, h1, h2, h3⟩ := h
  exact ⟨c, (Below.block ho b hl).trans h1, h2, h3⟩
/-- What the loops keep. -/
def Kept (W : World) (g A B : Nat) (s : ByteArray) (x : Int) (w : World) : Prop :=
  In w g s x (.slice (some ⟨A, 0, none⟩) 36 36) (.slice (some ⟨B, 0, none⟩) 19 19) ∧ w.rowIs A 2 36 (fun _ => .int .i64 0) ∧ w.rowIs B 2 19 (fun _ => .int .i64 0) ∧ On W w
theorem Kept.on {W : World} {g A B : Nat} {s : ByteArray} {x : Int} {w w' : World} (h : Kept W g A B s x w) (ho : On w w') : Kept W g A B s x w' :=
  ⟨h.1.on ho, row_on h.2.1 ho, row_on h.2.2.1 ho, h.2.2.2.trans ho⟩
theorem zero_set {w : World} {A n k : Nat} {t : TypeId} (h : w.rowIs A t n (fun _ => .int .i64 0)) : (w.setCell ⟨A, k, none⟩ (.int .i64 0)).rowIs A t n (fun _ => .int .i64 0) :=
  (h.set k _).congr fun i _ => by split <;> rfl
theorem Kept.setA {W : World} {g A B : Nat} {s : ByteArray} {x : Int} {w : World} (h : Kept W g A B s x w) (k : Nat) (h1 : A ≠ B) (h2 : A ≠ g) (h3 : W.heap.size ≤ A) : Kept W g A B s x (w.setCell ⟨A, k, none⟩ (.int .i64 0)) :=
  ⟨h.1.keep (fun _ => World.cell?_setCell_other (h := fun e => h2 (congrArg Addr.block e)) ..), zero_set h.2.1, h.2.2.1.setOther (fun e => h1 e.symm) _, h.2.2.2.setCell h3 _⟩
theorem Kept.setB {W : World} {g A B : Nat} {s : ByteArray} {x : Int} {w : World} (h : Kept W g A B s x w) (k : Nat) (h1 : A ≠ B) (h2 : B ≠ g) (h3 : W.heap.size ≤ B) : Kept W g A B s x (w.setCell ⟨B, k, none⟩ (.int .i64 0)) :=
  ⟨h.1.keep (fun _ => World.cell?_setCell_other (h := fun e => h2 (congrArg Addr.block e)) ..), h.2.1.setOther h1 _, zero_set h.2.2.1, h.2.2.2.setCell h3 _⟩
theorem noLoss (x : Int) (w : World) :
    Calls Try.prog 48 #[.int .i64 x] w fun e w' => e = .returned (.int .i64 0) ∧ w = w' := by
  go_enter Try.func48, Try.ntmps48
  go_wp2_with fail
  go_ret
  exact ⟨rfl, rfl⟩
set_option maxRecDepth 100000 in
set_option maxHeartbeats 2000000 in
theorem spec_omni (s : ByteArray) (g : Int) (w : World) (q0 : s.size ≤ 1048576) (h1 : nameB s.data.toList = true) (h2 : inB g (-60000) 60000 = true) :
    Calls Try.prog 19 #[.string s, .int .i64 g] w fun e w' => ∃ a2 c2 a3 c3, e = .returned (.tuple #[.agg #[.string s, .int .i64 g, .slice a2 36 c2, .slice a3 19 c3], .int .i64 0]) ∧ OwnR w.heap.size w' a2 36 c2 a3 19 c3 (List.replicate 36 0) (List.replicate 19 0) ∧ On w w' := by
  have HN := Lib.hid (show ∀ w, Calls Try.prog 43 #[.string s] w (fun e w' => e = .returned (.bool true) ∧ w = w') from fun w => by have := Text1.spec_l01Name s w q0; rw [h1] at this; exact this)
  have HG := Lib.hid (show ∀ w, Calls Try.prog 44 #[.int .i64 g] w (fun e w' => e = .returned (.bool true) ∧ w = w') from fun w => by have := spec_gain g w; rw [h2] at this; exact this)
  have hm1 := fun w => run_make_row' (P := Try.prog) 22 2 (.int .i64 0) 8 Try.underlying22 Ints.info rfl .i64 .i64 36 (by omega) (by omega) w
  have hm2 := fun w => run_make_row' (P := Try.prog) 22 2 (.int .i64 0) 8 Try.underlying22 Ints.info rfl .i64 .i64 19 (by omega) (by omega) w
  rw [show (((36 : Nat) : Int)) = 36 from rfl] at hm1
  rw [show (((19 : Nat) : Int)) = 19 from rfl] at hm2
  clear h1 h2
  go_enter Try.func19, Try.ntmps19
  go_wp2_with (first | (go_at_call 43; refine (HN.out _).mono ?_; rintro e w' ⟨rfl, rfl⟩) | (go_at_call 44; refine (HG.out _).mono ?_; rintro e w' ⟨rfl, rfl⟩))
  go_region
  · go_wp2_with fail
    refine bodyPost_ret (v := .tuple #[.agg #[.string s, .int .i64 g, .slice (some ⟨w.heap.size + 1, 0, none⟩) 36 36, .slice (some ⟨w.heap.size + 1 + 1, 0, none⟩) 19 19], .int .i64 0]) (by simp [results, Try.results19, go_sem]) rfl ⟨_, _, _, _, rfl, ⟨List.length_replicate, List.length_replicate, ?_, ?_, ?_⟩, ?_⟩
    · refine own_zero (t := 2) ?_ (by omega)
      (repeat (first | with_reducible exact made_row (by simp) | refine World.rowIs.drew ?_ | refine World.rowIs.alloc ?_ _ | refine World.rowIs.setOther ?_ (by (try simp) <;> omega) _))
    · refine own_zero (t := 2) ?_ (by omega)
      (repeat (first | with_reducible exact made_row (by simp) | refine World.rowIs.drew ?_ | refine World.rowIs.alloc ?_ _ | refine World.rowIs.setOther ?_ (by (try simp) <;> omega) _))
    · intro _ _ p q hp hq
      cases hp
      cases hq
      show w.heap.size + 1 ≠ w.heap.size + 1 + 1
      omega
    · (repeat (first | with_reducible exact On.refl _ | apply On.alloc | apply On.drew | apply On.drewN | refine On.setCell ?_ (by (try simp) <;> omega) _))
  · go_wp2_with fail
    refine bodyPost_ret (v := .tuple #[.agg #[.string s, .int .i64 g, .slice (some ⟨w.heap.size + 1 + 1, 0, none⟩) 36 36, .slice (some ⟨w.heap.size + 1, 0, none⟩) 19 19], .int .i64 0]) (by simp [results, Try.results19, go_sem]) rfl ⟨_, _, _, _, rfl, ⟨List.length_replicate, List.length_replicate, ?_, ?_, ?_⟩, ?_⟩
    · refine own_zero (t := 2) ?_ (by omega)
      (repeat (first | with_reducible exact made_row (by simp) | refine World.rowIs.drew ?_ | refine World.rowIs.alloc ?_ _ | refine World.rowIs.setOther ?_ (by (try simp) <;> omega) _))
    · refine own_zero (t := 2) ?_ (by omega)
      (repeat (first | with_reducible exact made_row (by simp) | refine World.rowIs.drew ?_ | refine World.rowIs.alloc ?_ _ | refine World.rowIs.setOther ?_ (by (try simp) <;> omega) _))
    · intro _ _ p q hp hq
      cases hp
      cases hq
      show w.heap.size + 1 + 1 ≠ w.heap.size + 1
      omega
    · (repeat (first | with_reducible exact On.refl _ | apply On.alloc | apply On.drew | apply On.drewN | refine On.setCell ?_ (by (try simp) <;> omega) _))
end Go.Proofs.Ytompiicgbmpoiaa.Ant
