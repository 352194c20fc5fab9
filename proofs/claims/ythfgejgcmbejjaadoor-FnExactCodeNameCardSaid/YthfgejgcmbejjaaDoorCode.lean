
/-
  What the names of codes of the model and of the program are, for every number. Condition: the program's table of names holds what its text lays.
-/
import Derived.Test.YthfgejgcmbejjaaDoorRows
import Derived.Test.YthfgejgcmbejjaaDoorArith
import Derived.WalkKit
import Derived.ProofKit
import Derived.OpenShut
import Derived.Lib.Hide
import Derived.Below
import Derived.Lib.LaidTab
import Derived.Stop.LaidErr
namespace Go.Proofs.YthfgejgcmbejjaaDoor.Code
open Go.RowKit
open Plain

/-- An array of texts that reads as a list of texts holds them, cell for cell. -/
theorem cells_of_strs {H : Type} {enc : TypeId × Value → H} {P : Program} {w : World} {base : Nat} {sp : Nat → Bool} {held : Bool} {fuel : Nat} {t e : TypeId} {n : Nat} {cs : List Value} {ss : List (List UInt8)} {p : List MemPlace}
    (ht : P.underlying t = some (.array n e)) (he : P.underlying e = some .string) (hce : P.cellsOf e = 1)
    (h : DataW.trod enc P w base sp held fuel t cs = some (.agg (ss.map fun s => .lit (.string s)), p)) (i : Nat) (s : List UInt8) (hs : ss[i]? = some s) :
    cs[i]? = some (.string ⟨s.toArray⟩) := by
  obtain ⟨xs, m, _, hx, _, hxl, hel⟩ := DataW.trod_array ht h
  have h1 : xs.map (·.1) = ss.map fun s => (DataW.lit (.string s) : DataW H) := by
    have := congrArg Prod.fst hx
    simpa using this.symm
  have hlen : xs.length = ss.length := by
    have := congrArg List.length h1
    simpa using this
  have hi : i < ss.length := by
    by_cases g : i < ss.length
    · exact g
    · rw [List.getElem?_eq_none (by omega)] at hs; cases hs
  have h2 := hel i (by omega)
  rw [List.getElem?_eq_getElem (by omega)] at h2
  obtain ⟨b, hb, hd, _⟩ := DataW.trod_string he h2
  have h3 : (xs.map (·.1))[i]? = some (DataW.lit (.string s) : DataW H) := by rw [h1]; simp [hs]
  rw [List.getElem?_map, List.getElem?_eq_getElem (by omega)] at h3
  have h4 : (xs[i]'(by omega)).1 = (DataW.lit (.string s) : DataW H) := by simpa using h3
  have h5 : (xs[i]'(by omega)).1 = (DataW.lit (.string b.data.toList) : DataW H) := by rw [hd]
  have h6 : b.data.toList = s := by
    rw [h4] at h5
    injection h5 with h5
    injection h5 with h5
    exact h5.symm
  have h7 : (cs.drop i).take 1 = [.string b] := by rw [hce, Nat.mul_one] at hb; exact hb
  have h8 : cs[i]? = some (.string b) := by
    have := congrArg (·[0]?) h7
    simpa [List.getElem?_take, List.getElem?_drop] using this
  rw [h8, ← h6]

/-- The names, in their order. -/
def names : List (List UInt8) := [[111, 107], [105, 110, 118, 97, 108, 105, 100], [114, 97, 110, 103, 101], [110, 111, 116, 45, 102, 111, 117, 110, 100], [101, 120, 105, 115, 116, 115], [102, 117, 108, 108], [115, 116, 97, 116, 101], [111, 114, 100, 101, 114], [115, 121, 110, 116, 97, 120], [102, 111, 114, 109, 97, 116], [99, 104, 101, 99, 107, 115, 117, 109], [116, 114, 117, 110, 99, 97, 116, 101, 100]]
theorem gNames : Tryd.prog.globalNamed "loop.example/g00925/impl.codeNames" = some 0 := by kernel_rfl
theorem gType : (Tryd.prog.globals[0]?).map (·.type) = some 60 := by kernel_rfl
theorem cellsS : Tryd.prog.cellsOf 9 = 1 := by kernel_rfl
/-- What the row's list gives: the table's cells hold the names. -/
theorem table {W : World} (h : laidMetH Tryd.prog Rows.fnExactCodeNameRow.laid W) (i : Nat) (s : List UInt8) (hs : names[i]? = some s) :
    W.cell? ⟨0, i, none⟩ = some (.string ⟨s.toArray⟩) := by
  obtain ⟨ps, ⟨g', t', cs, fuel, p, q, hg', ht', hvar, hd, _, _⟩, _⟩ := h
  obtain rfl := Option.some.inj (gNames.symm.trans hg')
  obtain rfl := Option.some.inj (gType.symm.trans ht')
  have h1 := cells_of_strs (ss := names) Tryd.underlying60 Tryd.underlying9 cellsS hd i s hs
  have h2 := World.var?_cell gNames hvar i
  rw [h2]
  simpa using h1
theorem sizeOf (W : World) (h : laidMetH Tryd.prog Rows.fnExactCodeNameRow.laid W) : 0 < W.heap.size := by
  exact World.block_lt_of_cell? W (a := ⟨0, 0, none⟩) (table h 0 [111, 107] rfl)

/-- What CodeName returns. -/
def nm (c : Int) : ByteArray := if 0 ≤ c ∧ c ≤ 11 then ⟨(names.getD c.toNat []).toArray⟩ else ⟨#[]⟩
theorem nm_no {c : Int} (h : c < 0 ∨ 11 < c) : nm c = ⟨#[]⟩ := if_neg (by omega)
theorem twelve (k : Nat) (h : k < 12) : k = 0 ∨ k = 1 ∨ k = 2 ∨ k = 3 ∨ k = 4 ∨ k = 5 ∨ k = 6 ∨ k = 7 ∨ k = 8 ∨ k = 9 ∨ k = 10 ∨ k = 11 := by omega
theorem spec_code_0 (w : World) :
    Calls Tryd.prog 22 #[.int .i64 0] w fun e w' => e = .returned (.string (nm 0)) ∧ Below w.heap.size w w' := by
  have hb : inB 0 0 11 = true := inB_yes (by omega) (by omega)
  go_enter Tryd.func22, Tryd.ntmps22
  go_wp2_with (go_at_call 47; refine (Arith.l00In _ _ _ _).mono ?_; rintro e w' ⟨rfl, rfl⟩)
  go_ret
  exact ⟨rfl, (Below.refl _ _).alloc (Nat.le_refl _) _⟩
theorem spec_code_1 (w : World) :
    Calls Tryd.prog 22 #[.int .i64 1] w fun e w' => e = .returned (.string (nm 1)) ∧ Below w.heap.size w w' := by
  have hb : inB 1 0 11 = true := inB_yes (by omega) (by omega)
  go_enter Tryd.func22, Tryd.ntmps22
  go_wp2_with (go_at_call 47; refine (Arith.l00In _ _ _ _).mono ?_; rintro e w' ⟨rfl, rfl⟩)
  go_ret
  exact ⟨rfl, (Below.refl _ _).alloc (Nat.le_refl _) _⟩
theorem spec_code_2 (w : World) :
    Calls Tryd.prog 22 #[.int .i64 2] w fun e w' => e = .returned (.string (nm 2)) ∧ Below w.heap.size w w' := by
  have hb : inB 2 0 11 = true := inB_yes (by omega) (by omega)
  go_enter Tryd.func22, Tryd.ntmps22
  go_wp2_with (go_at_call 47; refine (Arith.l00In _ _ _ _).mono ?_; rintro e w' ⟨rfl, rfl⟩)
  go_ret
  exact ⟨rfl, (Below.refl _ _).alloc (Nat.le_refl _) _⟩
theorem spec_code_3 (w : World) :
    Calls Tryd.prog 22 #[.int .i64 3] w fun e w' => e = .returned (.string (nm 3)) ∧ Below w.heap.size w w' := by
  have hb : inB 3 0 11 = true := inB_yes (by omega) (by omega)
  go_enter Tryd.func22, Tryd.ntmps22
  go_wp2_with (go_at_call 47; refine (Arith.l00In _ _ _ _).mono ?_; rintro e w' ⟨rfl, rfl⟩)
  go_ret
  exact ⟨rfl, (Below.refl _ _).alloc (Nat.le_refl _) _⟩
theorem spec_code_4 (w : World) :
    Calls Tryd.prog 22 #[.int .i64 4] w fun e w' => e = .returned (.string (nm 4)) ∧ Below w.heap.size w w' := by
  have hb : inB 4 0 11 = true := inB_yes (by omega) (by omega)
  go_enter Tryd.func22, Tryd.ntmps22
  go_wp2_with (go_at_call 47; refine (Arith.l00In _ _ _ _).mono ?_; rintro e w' ⟨rfl, rfl⟩)
  go_ret
  exact ⟨rfl, (Below.refl _ _).alloc (Nat.le_refl _) _⟩
theorem spec_code_5 (w : World) :
    Calls Tryd.prog 22 #[.int .i64 5] w fun e w' => e = .returned (.string (nm 5)) ∧ Below w.heap.size w w' := by
  have hb : inB 5 0 11 = true := inB_yes (by omega) (by omega)
  go_enter Tryd.func22, Tryd.ntmps22
  go_wp2_with (go_at_call 47; refine (Arith.l00In _ _ _ _).mono ?_; rintro e w' ⟨rfl, rfl⟩)
  go_ret
  exact ⟨rfl, (Below.refl _ _).alloc (Nat.le_refl _) _⟩
theorem spec_code_6 (w : World) :
    Calls Tryd.prog 22 #[.int .i64 6] w fun e w' => e = .returned (.string (nm 6)) ∧ Below w.heap.size w w' := by
  have hb : inB 6 0 11 = true := inB_yes (by omega) (by omega)
  go_enter Tryd.func22, Tryd.ntmps22
  go_wp2_with (go_at_call 47; refine (Arith.l00In _ _ _ _).mono ?_; rintro e w' ⟨rfl, rfl⟩)
  go_ret
  exact ⟨rfl, (Below.refl _ _).alloc (Nat.le_refl _) _⟩
theorem spec_code_7 (w : World) :
    Calls Tryd.prog 22 #[.int .i64 7] w fun e w' => e = .returned (.string (nm 7)) ∧ Below w.heap.size w w' := by
  have hb : inB 7 0 11 = true := inB_yes (by omega) (by omega)
  go_enter Tryd.func22, Tryd.ntmps22
  go_wp2_with (go_at_call 47; refine (Arith.l00In _ _ _ _).mono ?_; rintro e w' ⟨rfl, rfl⟩)
  go_ret
  exact ⟨rfl, (Below.refl _ _).alloc (Nat.le_refl _) _⟩
theorem spec_code_8 (w : World) :
    Calls Tryd.prog 22 #[.int .i64 8] w fun e w' => e = .returned (.string (nm 8)) ∧ Below w.heap.size w w' := by
  have hb : inB 8 0 11 = true := inB_yes (by omega) (by omega)
  go_enter Tryd.func22, Tryd.ntmps22
  go_wp2_with (go_at_call 47; refine (Arith.l00In _ _ _ _).mono ?_; rintro e w' ⟨rfl, rfl⟩)
  go_ret
  exact ⟨rfl, (Below.refl _ _).alloc (Nat.le_refl _) _⟩
theorem spec_code_9 (w : World) :
    Calls Tryd.prog 22 #[.int .i64 9] w fun e w' => e = .returned (.string (nm 9)) ∧ Below w.heap.size w w' := by
  have hb : inB 9 0 11 = true := inB_yes (by omega) (by omega)
  go_enter Tryd.func22, Tryd.ntmps22
  go_wp2_with (go_at_call 47; refine (Arith.l00In _ _ _ _).mono ?_; rintro e w' ⟨rfl, rfl⟩)
  go_ret
  exact ⟨rfl, (Below.refl _ _).alloc (Nat.le_refl _) _⟩
theorem spec_code_10 (w : World) :
    Calls Tryd.prog 22 #[.int .i64 10] w fun e w' => e = .returned (.string (nm 10)) ∧ Below w.heap.size w w' := by
  have hb : inB 10 0 11 = true := inB_yes (by omega) (by omega)
  go_enter Tryd.func22, Tryd.ntmps22
  go_wp2_with (go_at_call 47; refine (Arith.l00In _ _ _ _).mono ?_; rintro e w' ⟨rfl, rfl⟩)
  go_ret
  exact ⟨rfl, (Below.refl _ _).alloc (Nat.le_refl _) _⟩
theorem spec_code_11 (w : World) :
    Calls Tryd.prog 22 #[.int .i64 11] w fun e w' => e = .returned (.string (nm 11)) ∧ Below w.heap.size w w' := by
  have hb : inB 11 0 11 = true := inB_yes (by omega) (by omega)
  go_enter Tryd.func22, Tryd.ntmps22
  go_wp2_with (go_at_call 47; refine (Arith.l00In _ _ _ _).mono ?_; rintro e w' ⟨rfl, rfl⟩)
  go_ret
  exact ⟨rfl, (Below.refl _ _).alloc (Nat.le_refl _) _⟩
theorem spec_code_no (c : Int) (w : World) (h : c < 0 ∨ 11 < c) :
    Calls Tryd.prog 22 #[.int .i64 c] w fun e w' => e = .returned (.string (nm c)) ∧ Below w.heap.size w w' := by
  have hb : inB c 0 11 = false := inB_no h
  have en := Lib.hid (nm_no h)
  clear h
  go_enter Tryd.func22, Tryd.ntmps22
  go_wp2_with (go_at_call 47; refine (Arith.l00In _ _ _ _).mono ?_; rintro e w' ⟨rfl, rfl⟩)
  go_ret
  exact ⟨by rw [en.out]; rfl, (Below.refl _ _).alloc (Nat.le_refl _) _⟩
theorem spec_code (c : Int) (w : World) :
    Calls Tryd.prog 22 #[.int .i64 c] w fun e w' => e = .returned (.string (nm c)) ∧ Below w.heap.size w w' := by
  by_cases hin : 0 ≤ c ∧ c ≤ 11
  · obtain ⟨k, rfl⟩ := Int.eq_ofNat_of_zero_le hin.1
    rcases twelve k (by omega) with rfl | rfl | rfl | rfl | rfl | rfl | rfl | rfl | rfl | rfl | rfl | rfl
    · exact spec_code_0 w
    · exact spec_code_1 w
    · exact spec_code_2 w
    · exact spec_code_3 w
    · exact spec_code_4 w
    · exact spec_code_5 w
    · exact spec_code_6 w
    · exact spec_code_7 w
    · exact spec_code_8 w
    · exact spec_code_9 w
    · exact spec_code_10 w
    · exact spec_code_11 w
  · exact spec_code_no c w (by omega)
theorem impl_code (c : Int) (w : World) (hn : ∀ (i : Nat) s, names[i]? = some s → w.cell? ⟨0, i, none⟩ = some (.string ⟨s.toArray⟩)) :
    Calls Tryd.prog 23 #[.int .i64 c] w fun e w' => e = .returned (.string (nm c)) ∧ Below w.heap.size w w' := by
  have HN := Lib.hid hn
  clear hn
  by_cases hin : 0 ≤ c ∧ c ≤ 11
  · obtain ⟨k, rfl⟩ := Int.eq_ofNat_of_zero_le hin.1
    have hk : k < 12 := by omega
    clear hin
    rcases twelve k hk with rfl | rfl | rfl | rfl | rfl | rfl | rfl | rfl | rfl | rfl | rfl | rfl
    · have hc := HN.out 0 _ rfl
      go_enter Tryd.func23, Tryd.ntmps23
      go_wp2
      go_ret
      exact ⟨rfl, Below.refl _ _⟩
    · have hc := HN.out 1 _ rfl
      go_enter Tryd.func23, Tryd.ntmps23
      go_wp2
      go_ret
      exact ⟨rfl, Below.refl _ _⟩
    · have hc := HN.out 2 _ rfl
      go_enter Tryd.func23, Tryd.ntmps23
      go_wp2
      go_ret
      exact ⟨rfl, Below.refl _ _⟩
    · have hc := HN.out 3 _ rfl
      go_enter Tryd.func23, Tryd.ntmps23
      go_wp2
      go_ret
      exact ⟨rfl, Below.refl _ _⟩
    · have hc := HN.out 4 _ rfl
      go_enter Tryd.func23, Tryd.ntmps23
      go_wp2
      go_ret
      exact ⟨rfl, Below.refl _ _⟩
    · have hc := HN.out 5 _ rfl
      go_enter Tryd.func23, Tryd.ntmps23
      go_wp2
      go_ret
      exact ⟨rfl, Below.refl _ _⟩
    · have hc := HN.out 6 _ rfl
      go_enter Tryd.func23, Tryd.ntmps23
      go_wp2
      go_ret
      exact ⟨rfl, Below.refl _ _⟩
    · have hc := HN.out 7 _ rfl
      go_enter Tryd.func23, Tryd.ntmps23
      go_wp2
      go_ret
      exact ⟨rfl, Below.refl _ _⟩
    · have hc := HN.out 8 _ rfl
      go_enter Tryd.func23, Tryd.ntmps23
      go_wp2
      go_ret
      exact ⟨rfl, Below.refl _ _⟩
    · have hc := HN.out 9 _ rfl
      go_enter Tryd.func23, Tryd.ntmps23
      go_wp2
      go_ret
      exact ⟨rfl, Below.refl _ _⟩
    · have hc := HN.out 10 _ rfl
      go_enter Tryd.func23, Tryd.ntmps23
      go_wp2
      go_ret
      exact ⟨rfl, Below.refl _ _⟩
    · have hc := HN.out 11 _ rfl
      go_enter Tryd.func23, Tryd.ntmps23
      go_wp2
      go_ret
      exact ⟨rfl, Below.refl _ _⟩
  · have en := Lib.hid (nm_no (c := c) (by omega))
    by_cases h0 : c < 0
    · clear hin
      go_enter Tryd.func23, Tryd.ntmps23
      go_wp2
      go_ret
      exact ⟨by rw [en.out]; rfl, Below.refl _ _⟩
    · have h1 : 12 ≤ c := by omega
      clear hin
      go_enter Tryd.func23, Tryd.ntmps23
      go_wp2
      go_ret
      exact ⟨by rw [en.out]; rfl, Below.refl _ _⟩
end Go.Proofs.YthfgejgcmbejjaaDoor.Code
