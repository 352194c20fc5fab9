
/-
  Copies of slices of numbers by append, in the model and in the library. Condition: at least one number, at most 1048576.
-/
import Derived.Test.YtofoffdmhekceaaInts
import Derived.Test.YtofoffdmhekceaaOn
import Derived.OwnWalk
import Derived.Laws.AppendOwn
import Derived.Lib.AppendIntMem
import Derived.Lib.SliceRun
namespace Go.Proofs.Ytofoffdmhekceaa.Clone
open Go.RowKit
open Ints (Ints Own)

def intCells (zs : List Int) : List Value := zs.map (.int .i64 ·)
theorem own_of_row {w : World} {B : Nat} {e : TypeId} {v : Value} {zs : List Int} (h : w.ownsRow B e 1 v zs.length (intCells zs)) : ∃ a cap, v = .slice a zs.length cap ∧ Own B w (.slice a zs.length cap) zs := by
  have hlt := h.lt
  have hc := fun g (hg : v.ownBlock = some g) => h.cells hg
  obtain ⟨_, ⟨rfl, h2⟩ | ⟨g, cap, cur, rfl, hB, hh, _⟩⟩ := h
  · exact ⟨none, 0, by rw [h2], none, 0, rfl, fun h0 => by omega⟩
  · refine ⟨_, cap, rfl, _, cap, rfl, fun _ => ⟨g, 0, rfl, hB, (hlt g rfl).2, fun j hj => ?_, fun j hj => ?_⟩⟩
    · simp [World.frozen?, hh]
    · have := hc g rfl j (.int .i64 (zs.getD j 0)) (by simp [intCells, hj])
      have e : (⟨g, 0, none⟩ : Addr).add j = ⟨g, 0 + j, none⟩ := by cases j <;> simp [Addr.add]
      rw [e] at this
      exact this
theorem add_at {b off j : Nat} : (⟨b, off, none⟩ : Addr).add j = ⟨b, off + j, none⟩ := by cases j <;> simp [Addr.add]
theorem news {w : World} {b off : Nat} {zs : List Int} (hc : ∀ i, i < zs.length → w.cell? ⟨b, off + i, none⟩ = some (.int .i64 (zs.getD i 0))) : ∀ j u, (intCells zs)[j]? = some u → w.cell? ((⟨b, off, none⟩ : Addr).add j) = some u := by
  intro j u h
  unfold intCells at h
  rw [List.getElem?_map, Option.map_eq_some_iff] at h
  obtain ⟨z, h1, h2⟩ := h
  have hj : j < zs.length := by
    rw [List.getElem?_eq_some_iff] at h1
    exact h1.1
  rw [add_at, hc j hj, ← h2]
  congr 2
  rw [List.getD_eq_getElem?_getD, h1]
  rfl
theorem ones (zs : List Int) : ∀ u ∈ intCells zs, u.oneCell' = true := by
  intro u hu
  unfold intCells at hu
  rw [List.mem_map] at hu
  obtain ⟨z, _, rfl⟩ := hu
  rfl
theorem cells_len (zs : List Int) : (intCells zs).length = zs.length * 1 := by simp [intCells]
set_option maxRecDepth 1000000 in
set_option maxHeartbeats 1000000 in
theorem spec_own (b off cap : Nat) (zs : List Int) (w : World) (h0 : 0 < zs.length) (hn : zs.length ≤ 1048576) (hb : b < w.heap.size) (hc : ∀ i, i < zs.length → w.cell? ⟨b, off + i, none⟩ = some (.int .i64 (zs.getD i 0))) :
    Calls Try.prog 87 #[.slice (some ⟨b, off, none⟩) zs.length cap] w fun e w' => ∃ a' cap', e = .returned (.slice a' zs.length cap') ∧ Own w.heap.size w' (.slice a' zs.length cap') zs ∧ On w w' := by
  obtain ⟨i0, hi, hz0, hz1, hz2⟩ := info_parts Ints.info
  have HC := Lib.hid hc
  obtain ⟨n, hn'⟩ : ∃ n, n = zs.length := ⟨_, rfl⟩
  have HL := Lib.hid hn'
  have HW0 : (w.alloc (.cells #[] 2)).ownsRow w.heap.size 2 1 (.slice (some ⟨w.heap.size, 0, none⟩) 0 0) 0 [] := World.ownsRow_lit w #[] 0 (Nat.le_refl _) (by unfold maxLen; omega) rfl
  clear hc hn'
  go_enter Try.func87, Try.ntmps87
  go_wp2_with (at_builtin; refine wpList_append_own _ rfl (.tmp 3) (.tmp 4) 32 rfl w.heap.size 2 i0 (.int .i64 0) 1 8 Try.underlying32 hi hz0 hz1 hz2 rfl (by decide) _ 0 [] rfl HW0 ⟨b, off, none⟩ zs.length cap (intCells zs) rfl (cells_len zs) ?c1 (ones zs) ?c3 ?c4 ?c5 ?_)
  case c1 => exact news (fun i hi => ((On.alloc (On.refl w) _).cell (by exact hb)).trans (HC.out i hi))
  case c3 => unfold maxLen; omega
  case c4 => omega
  case c5 => simp
  intro v' w3 hown' hgrow _
  have hown2 : w3.ownsRow w.heap.size 2 1 v' zs.length (intCells zs) := by simpa using hown'
  obtain ⟨a', cap', rfl, ho⟩ := own_of_row hown2
  have HO := Lib.hid ho
  have HB := Lib.hid (((Below.refl w.heap.size w).alloc (Nat.le_refl _) _).grown hgrow (by simp) (fun k hk => (HW0.lt k hk).1))
  clear hown' hown2 hgrow ho
  go_wp2_with fail
  go_ret
  exact ⟨a', cap', rfl, HO.out, HB.out⟩
set_option maxRecDepth 1000000 in
set_option maxHeartbeats 1000000 in
/-- The library's copy. -/
theorem lib_clone (b off cap : Nat) (zs : List Int) (w : World) (h0 : 0 < zs.length) (hn : zs.length ≤ 1048576) (hb : b < w.heap.size) (hc : ∀ i, i < zs.length → w.cell? ⟨b, off + i, none⟩ = some (.int .i64 (zs.getD i 0))) :
    Calls Try.prog 76 #[.slice (some ⟨b, off, none⟩) zs.length cap] w fun e w' => ∃ a' cap', e = .returned (.slice a' zs.length cap') ∧ Own w.heap.size w' (.slice a' zs.length cap') zs ∧ On w w' := by
  obtain ⟨i0, hi, hz0, hz1, hz2⟩ := info_parts Ints.info
  have HC := Lib.hid hc
  obtain ⟨n, hn'⟩ : ∃ n, n = zs.length := ⟨_, rfl⟩
  have HL := Lib.hid hn'
  have HW0 : (w.alloc (.cells #[] 2)).ownsRow w.heap.size 2 1 (.slice (some ⟨w.heap.size, 0, none⟩) 0 0) 0 [] := World.ownsRow_lit w #[] 0 (Nat.le_refl _) (by unfold maxLen; omega) rfl
  clear hc hn'
  have hnil : ∀ w n c, (binOp .eql 32 (.slice (some ⟨b, off, none⟩) n c) (.slice none 0 0)).run Try.prog w = .ok (.bool false) w := fun w n c => Lib.run_eql_slice_nil w _ _ _ n c 0 0 Try.underlying32
  go_enter Try.func76, Try.ntmps76
  go_wp2_with (at_builtin; refine wpList_append_own _ rfl (.tmp 5) (.tmp 6) 32 rfl w.heap.size 2 i0 (.int .i64 0) 1 8 Try.underlying32 hi hz0 hz1 hz2 rfl (by decide) _ 0 [] rfl HW0 ⟨b, off, none⟩ zs.length cap (intCells zs) rfl (cells_len zs) ?c1 (ones zs) ?c3 ?c4 ?c5 ?_)
  case c1 => exact news (fun i hi => ((On.alloc (On.refl w) _).cell (by exact hb)).trans (HC.out i hi))
  case c3 => unfold maxLen; omega
  case c4 => omega
  case c5 => simp
  intro v' w3 hown' hgrow _
  have hown2 : w3.ownsRow w.heap.size 2 1 v' zs.length (intCells zs) := by simpa using hown'
  obtain ⟨a', cap', rfl, ho⟩ := own_of_row hown2
  have HO := Lib.hid ho
  have HB := Lib.hid (((Below.refl w.heap.size w).alloc (Nat.le_refl _) _).grown hgrow (by simp) (fun k hk => (HW0.lt k hk).1))
  clear hown' hown2 hgrow ho
  go_wp2_with fail
  go_ret
  exact ⟨a', cap', rfl, HO.out, HB.out⟩
end Go.Proofs.Ytofoffdmhekceaa.Clone
