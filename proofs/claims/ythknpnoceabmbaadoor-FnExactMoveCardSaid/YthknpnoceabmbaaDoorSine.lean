
/-
  What the sines and cosines are, in the model and in the program. Condition: the program's variable of sines holds what its text lays.
-/
import Derived.Test.YthknpnoceabmbaaDoorProg
import Derived.Test.YthknpnoceabmbaaDoorPlain
import Derived.Test.YthknpnoceabmbaaDoorSin
import Derived.Test.YthknpnoceabmbaaDoorOn
import Derived.Test.YthknpnoceabmbaaDoorTurn
import Derived.Lib.Hide
import Derived.IntWalk
import Derived.Deep.QuietTactic
import Derived.BigQuiet
namespace Go.Proofs.YthknpnoceabmbaaDoor.Sine
open Go.RowKit
open Plain

/-- A row of the sines from 0 to 90 degrees. -/
def TabAt (w : World) (b : Nat) : Prop := ∀ j, j < 91 → w.cell? ⟨b, j, none⟩ = some (.int .i64 (sinT j))
theorem TabAt.on {w w' : World} {b : Nat} (h : TabAt w b) (ho : On w w') : TabAt w' b := fun j hj => by
  have h0 := h j hj
  have hb : b < w.heap.size := World.block_lt_of_cell? w _ h0
  exact (ho.cell (by exact hb)).trans h0
theorem TabAt.at {w : World} {b : Nat} (h : TabAt w b) {d : Int} {j : Nat} (hd : d.toNat = j) (hj : j < 91) : w.cell? ⟨b, d.toNat, none⟩ = some (.int .i64 (sinT j)) := by rw [hd]; exact h j hj
theorem sines_get (j : Nat) (hj : j < 91) : ((sines.map fun z => Value.int .i64 z).toArray)[j]? = some (.int .i64 (sinT j)) := by
  have hl : sines.length = 91 := by decide
  rw [List.getElem?_toArray, List.getElem?_map, List.getElem?_eq_getElem (by rw [hl]; exact hj)]
  unfold sinT
  rw [List.getD_eq_getElem?_getD, List.getElem?_eq_getElem (by rw [hl]; exact hj)]
  rfl
/-- The program's variable of sines. -/
def TabG (w : World) : Prop := TabAt w 0

set_option maxHeartbeats 2000000 in
set_option maxRecDepth 100000 in
theorem spec_table (w : World) :
    Calls Tryd.prog 42 #[] w fun e w' => e = .returned (.slice (some ⟨w.heap.size, 0, none⟩) 91 91) ∧ On w w' ∧ TabAt w' w.heap.size ∧ w'.heap.size = w.heap.size + 1 := by
  go_enter Tryd.func42, Tryd.ntmps42
  go_wp2
  go_ret
  refine ⟨rfl, by repeat (first | exact On.refl _ | apply On.alloc), fun j hj => ?_, by simp⟩
  rw [World.cell?_alloc_mark]
  refine Eq.trans (congrArg (fun C : Array Value => C[j]?) (a₂ := (sines.map fun z => Value.int .i64 z).toArray) ?_) (sines_get j hj)
  kernel_rfl
theorem spec_sine2 (d : Nat) (w : World) (h : d ≤ 180) :
    Calls Tryd.prog 38 #[.int .i64 d] w fun e w' => e = .returned (.int .i64 (sin2 d)) ∧ On w w' := by
  by_cases h90 : 90 < d
  · have HS := Lib.hid (show sin2 d = sinT (180 - d) by unfold sin2; rw [if_pos h90])
    obtain ⟨k, hk⟩ : ∃ k, k = 180 - d := ⟨_, rfl⟩
    rw [← hk] at HS
    have HI := Lib.hid (show (180 - (d : Int)).toNat = k by omega)
    have k1 : k < 91 := by omega
    clear hk
    go_enter Tryd.func38, Tryd.ntmps38
    go_wp2_with fail
    refine (spec_table _).mono ?_
    rintro e w1 ⟨rfl, h1, ht, _⟩
    have hc := ht.at HI.out k1
    have hc' : w1.cell? ⟨w.heap.size, 180 - d, none⟩ = some (.int .i64 (sinT k)) := by rw [show 180 - d = k from by have := HI.out; omega]; exact ht k k1
    clear ht
    go_wp2_with fail
    go_ret
    exact ⟨ret_int HS.out.symm, by repeat (first | exact On.refl _ | apply On.alloc | refine On.trans ?_ h1)⟩
  · have HS := Lib.hid (show sin2 d = sinT d by unfold sin2; rw [if_neg h90])
    have k1 : d < 91 := by omega
    go_enter Tryd.func38, Tryd.ntmps38
    go_wp2_with fail
    refine (spec_table _).mono ?_
    rintro e w1 ⟨rfl, h1, ht, _⟩
    have hc := ht d k1
    clear ht
    go_wp2_with fail
    go_ret
    exact ⟨ret_int HS.out.symm, by repeat (first | exact On.refl _ | apply On.alloc | refine On.trans ?_ h1)⟩
theorem sin2_bd (d : Nat) (h : d ≤ 180) : -1000000 ≤ sin2 d ∧ sin2 d ≤ 1000000 := by
  unfold sin2
  split
  · have := tab_bd (180 - d) (by omega); omega
  · have := tab_bd d (by omega); omega
set_option maxRecDepth 100000 in
theorem spec_sineN (d : Nat) (w : World) (h : d < 360) :
    Calls Tryd.prog 20 #[.int .i64 d] w fun e w' => e = .returned (.int .i64 (sinN d)) ∧ On w w' := by
  by_cases h180 : 180 ≤ d
  · obtain ⟨k, rfl⟩ : ∃ k, d = 180 + k := ⟨d - 180, by omega⟩
    have HS := Lib.hid (show sinN (180 + k) = -sin2 k by unfold sinN; rw [if_pos h180, Nat.add_sub_cancel_left])
    obtain ⟨b1, b2⟩ := sin2_bd k (by omega)
    have HC := Lib.hid (fun w => spec_sine2 k w (by omega))
    have HE := Lib.hid (show ((180 + k : Nat) : Int) - 180 = k by omega)
    go_enter Tryd.func20, Tryd.ntmps20
    go_wp2_with fail
    rw [show (180 + (k : Int) - 180) = k from by omega]
    refine (HC.out _).mono ?_
    rintro e w1 ⟨rfl, h1⟩
    go_wp2_with fail
    go_ret
    exact ⟨ret_int HS.out.symm, by repeat (first | exact On.refl _ | apply On.alloc | refine On.trans ?_ h1)⟩
  · have HS := Lib.hid (show sinN d = sin2 d by unfold sinN; rw [if_neg h180])
    go_enter Tryd.func20, Tryd.ntmps20
    go_wp2_with fail
    refine (spec_sine2 d _ (by omega)).mono ?_
    rintro e w1 ⟨rfl, h1⟩
    go_wp2_with fail
    go_ret
    exact ⟨ret_int HS.out.symm, by repeat (first | exact On.refl _ | apply On.alloc | refine On.trans ?_ h1)⟩
theorem spec_sine (d : Int) (w : World) :
    Calls Tryd.prog 8 #[.int .i64 d] w fun e w' => e = .returned (.int .i64 (sine d)) ∧ On w w' := by
  go_enter Tryd.func8, Tryd.ntmps8
  go_wp2_with fail
  refine (Turn.spec_degrees d _).mono ?_
  rintro e w1 ⟨rfl, rfl⟩
  go_wp2_with fail
  refine (spec_sineN _ _ (deg_lt d)).mono ?_
  rintro e w1 ⟨rfl, h1⟩
  go_wp2_with fail
  go_ret
  exact ⟨rfl, by repeat (first | exact On.refl _ | apply On.alloc | refine On.trans ?_ h1)⟩
theorem spec_cosine (d : Int) (w : World) :
    Calls Tryd.prog 10 #[.int .i64 d] w fun e w' => e = .returned (.int .i64 (cosine d)) ∧ On w w' := by
  have hd := deg_lt d
  go_enter Tryd.func10, Tryd.ntmps10
  go_wp2_with fail
  refine (Turn.spec_degrees d _).mono ?_
  rintro e w1 ⟨rfl, rfl⟩
  go_wp2_with fail
  refine (spec_sineN ((deg d + 90) % 360) _ (by omega)).mono ?_
  rintro e w1 ⟨rfl, h1⟩
  go_wp2_with fail
  go_ret
  exact ⟨rfl, by repeat (first | exact On.refl _ | apply On.alloc | refine On.trans ?_ h1)⟩

theorem gap_nn (a b : Int) : 0 ≤ gap a b := by unfold gap; split <;> omega
theorem gap_low {d : Nat} (h : d < 180) : ∃ j : Nat, 90 - gap d 90 = j ∧ j < 91 ∧ sinN d = sinT j := by
  unfold gap
  by_cases g : d ≤ 90
  · exact ⟨d, by rw [if_pos (by omega)]; omega, by omega, sinN_low g⟩
  · exact ⟨180 - d, by rw [if_neg (by omega)]; omega, by omega, sinN_up (by omega) h⟩
theorem gap_high {d : Nat} (h : 180 ≤ d) (h2 : d < 360) : ∃ j : Nat, 90 - gap d 270 = j ∧ j < 91 ∧ sinN d = -sinT j := by
  unfold gap
  by_cases g : d ≤ 270
  · exact ⟨d - 180, by rw [if_pos (by omega)]; omega, by omega, sinN_low2 h g⟩
  · exact ⟨360 - d, by rw [if_neg (by omega)]; omega, by omega, sinN_up2 (by omega) h2⟩
set_option maxRecDepth 100000 in
theorem impl_sine (d : Int) (w : World) (ht : TabG w) :
    Calls Tryd.prog 9 #[.int .i64 d] w fun e w' => e = .returned (.int .i64 (sine d)) ∧ w = w' := by
  have hd := deg_lt d
  obtain ⟨n, hn⟩ : ∃ n, n = deg d := ⟨_, rfl⟩
  have HN := Lib.hid hn
  have HO := Lib.hid (Turn.impl_onCircle d w)
  rw [← hn] at hd HO
  have hsn : sine d = sinN n := by unfold sine; rw [hn]
  clear hn
  by_cases h180 : 180 ≤ n
  · obtain ⟨j, e1, hj, e2⟩ := gap_high h180 hd
    have HS := Lib.hid (hsn.trans e2)
    have hc := ht j hj
    obtain ⟨b1, b2⟩ := tab_bd j hj
    have g0 : 0 ≤ gap n 270 ∧ gap n 270 ≤ 90 := ⟨gap_nn _ _, by have := gap_nn n 270; omega⟩
    obtain ⟨g0, g1⟩ := g0
    have HE := Lib.hid e1
    have HD := Lib.hid (Turn.impl_difference n 270 w (by omega) (by omega) (by omega) (by omega))
    clear ht e1 e2 hsn
    go_enter Tryd.func9, Tryd.ntmps9
    go_wp2_with fail
    refine HO.out.mono ?_
    rintro e w1 ⟨rfl, rfl⟩
    go_wp2_with fail
    refine HD.out.mono ?_
    rintro e w1 ⟨rfl, rfl⟩
    have HE2 := HE.out
    have hc2 : w.cell? ⟨0, (90 - gap n 270).toNat, none⟩ = some (.int .i64 (sinT j)) := by rw [HE2]; exact hc
    clear HE2
    go_wp2_with fail
    go_ret
    exact ⟨ret_int HS.out.symm, rfl⟩
  · obtain ⟨j, e1, hj, e2⟩ := gap_low (d := n) (by omega)
    have HS := Lib.hid (hsn.trans e2)
    have hc := ht j hj
    obtain ⟨b1, b2⟩ := tab_bd j hj
    have g0 : 0 ≤ gap n 90 ∧ gap n 90 ≤ 90 := ⟨gap_nn _ _, by have := gap_nn n 90; omega⟩
    obtain ⟨g0, g1⟩ := g0
    have HE := Lib.hid e1
    have HD := Lib.hid (Turn.impl_difference n 90 w (by omega) (by omega) (by omega) (by omega))
    clear ht e1 e2 hsn
    go_enter Tryd.func9, Tryd.ntmps9
    go_wp2_with fail
    refine HO.out.mono ?_
    rintro e w1 ⟨rfl, rfl⟩
    go_wp2_with fail
    refine HD.out.mono ?_
    rintro e w1 ⟨rfl, rfl⟩
    have HE2 := HE.out
    have hc2 : w.cell? ⟨0, (90 - gap n 90).toNat, none⟩ = some (.int .i64 (sinT j)) := by rw [HE2]; exact hc
    clear HE2
    go_wp2_with fail
    go_ret
    exact ⟨ret_int HS.out.symm, rfl⟩
theorem cosine_deg (d : Int) : sine ((deg d : Int) + 90) = cosine d := by
  have hd := deg_lt d
  unfold sine cosine cosN
  rw [show deg ((deg d : Int) + 90) = (deg d + 90) % 360 from by unfold deg; omega]
theorem impl_cosine (d : Int) (w : World) (ht : TabG w) :
    Calls Tryd.prog 11 #[.int .i64 d] w fun e w' => e = .returned (.int .i64 (cosine d)) ∧ w = w' := by
  have hd := deg_lt d
  have HC := Lib.hid (cosine_deg d)
  have HT := Lib.hid ht
  clear ht
  go_enter Tryd.func11, Tryd.ntmps11
  go_wp2_with fail
  refine (Turn.impl_onCircle d _).mono ?_
  rintro e w1 ⟨rfl, rfl⟩
  go_wp2_with fail
  refine (impl_sine _ _ HT.out).mono ?_
  rintro e w1 ⟨rfl, rfl⟩
  go_wp2_with fail
  go_ret
  exact ⟨ret_int HC.out, rfl⟩
end Go.Proofs.YthknpnoceabmbaaDoor.Sine
