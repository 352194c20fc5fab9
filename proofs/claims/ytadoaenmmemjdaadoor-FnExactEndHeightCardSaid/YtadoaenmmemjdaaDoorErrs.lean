
/-
  Errors of the library as the program uses them: what errors.is, errors.Is and errors.Join answer about errors that are joined out of the program's own sentinels. Conditions: each theorem's own.
-/
import Derived.Test.YtadoaenmmemjdaaDoorOn
import Derived.LaidEql
import Derived.Stop.Asserts
import Derived.RowKitTokens
import Derived.Lib.Hide
import Derived.Lib.Builder
import Derived.Laws.MakeOwn
import Derived.Handy
namespace Go.Proofs.YtadoaenmmemjdaaDoor.Errs
open Go.RowKit Go.Extern.Stop Go.Stop Go.Extern

/-- An error of errors.New's make, at an address; an error that joins others. -/
def E (a : Addr) : Value := .iface 129 (.pointer (some a))
def J (j : Nat) : Value := .iface 87 (.pointer (some ⟨j, 0, none⟩))
/-- The four variables of sentinels. -/
def gl : Nat → Nat
  | 0 => 0
  | 1 => 1
  | 2 => 2
  | _ => 3
structure Sens (w : World) (A : Nat → Addr) : Prop where
  cell : ∀ k, k < 4 → w.cell? ⟨gl k, 0, none⟩ = some (E (A k))
  row : ∀ k, k < 4 → ∃ c t, w.heap[(A k).block]? = some (.cells c t (0, 0))
  ne : ∀ i k, i < 4 → k < 4 → i ≠ k → A i ≠ A k
theorem Sens.on {w w' : World} {A : Nat → Addr} (h : Sens w A) (ho : On w w') : Sens w' A := by
  refine ⟨fun k hk => (ho.cell (World.block_lt_of_cell? w _ (h.cell k hk))).trans (h.cell k hk), fun k hk => ?_, h.ne⟩
  obtain ⟨c, t, hc⟩ := h.row k hk
  refine ⟨c, t, ?_⟩
  rw [ho.block _ (by
    rcases Nat.lt_or_ge (A k).block w.heap.size with h' | h'
    · exact h'
    · simp [Array.getElem?_eq_none h'] at hc)]
  exact hc
/-! Closed facts on the library's reflection. -/
theorem typeOfE (v : Value) (w : World) : (ReflectliteType.typeOf #[.iface 129 v]).run Tryd.prog w = .ok (.iface 109 (.agg #[.pointer (some ⟨5, 129, none⟩)])) w := by kernel_rfl
/-- What the library's (rtype).Comparable answers at a type. -/
def cmpF (t : TypeId) : Sem Value := do Rtype.noPackHeld "Comparable" t; pure (.bool (← typeInfo t).comparable)
theorem comparableE (w : World) : (ReflectliteType.method cmpF #[.agg #[.pointer (some ⟨5, 129, none⟩)]]).run Tryd.prog w = .ok (.bool true) w := by kernel_rfl
theorem methodComparable (v : Value) (w : World) : (Go.method 267 109 v "Comparable").run Tryd.prog w = .ok (118, v) w := by kernel_rfl
theorem methodUnwrap (v : Value) (w : World) : (Go.method 267 87 v "Unwrap").run Tryd.prog w = .ok (114, v) w := by kernel_rfl
theorem compE : (Tryd.prog.info? 129).map (·.comparable) = some true := by kernel_rfl
theorem sizeE : (Tryd.prog.info? 155).map (·.size) = some 1 := by kernel_rfl
theorem noIsE (v : Value) (xT : TypeId) (w : World) : (Instr.typeAssert (.iface 129 v) xT 111 true).run Tryd.prog w = .ok (.tuple #[.nilIface, .bool false]) w := run_typeAssert_lacksB Tryd.underlying111 (by kernel_rfl) (by kernel_rfl) v xT w
theorem noUnwrapE (v : Value) (xT : TypeId) (w : World) : (Instr.typeAssert (.iface 129 v) xT 114 true).run Tryd.prog w = .ok (.tuple #[.nilIface, .bool false]) w := run_typeAssert_lacksB Tryd.underlying114 (by kernel_rfl) (by kernel_rfl) v xT w
theorem noUnwrapsE (v : Value) (xT : TypeId) (w : World) : (Instr.typeAssert (.iface 129 v) xT 116 true).run Tryd.prog w = .ok (.tuple #[.nilIface, .bool false]) w := run_typeAssert_lacksB Tryd.underlying116 (by kernel_rfl) (by kernel_rfl) v xT w
theorem noIsJ (v : Value) (xT : TypeId) (w : World) : (Instr.typeAssert (.iface 87 v) xT 111 true).run Tryd.prog w = .ok (.tuple #[.nilIface, .bool false]) w := run_typeAssert_lacksB Tryd.underlying111 (by kernel_rfl) (by kernel_rfl) v xT w
theorem noUnwrapJ (v : Value) (xT : TypeId) (w : World) : (Instr.typeAssert (.iface 87 v) xT 114 true).run Tryd.prog w = .ok (.tuple #[.nilIface, .bool false]) w := run_typeAssert_lacksB Tryd.underlying114 (by kernel_rfl) (by kernel_rfl) v xT w
theorem hasUnwrapsJ (v : Value) (xT : TypeId) (w : World) : (Instr.typeAssert (.iface 87 v) xT 116 true).run Tryd.prog w = .ok (.tuple #[.iface 87 v, .bool true]) w := run_typeAssert_hasB Tryd.underlying116 (by kernel_rfl) v xT w
theorem unwrap (j : Nat) (a : Option Addr) (n c : Nat) (w : World) (h : w.cell? ⟨j, 0, none⟩ = some (.slice a n c)) :
    Calls Tryd.prog 114 #[.pointer (some ⟨j, 0, none⟩)] w fun e w' => e = .returned (.slice a n c) ∧ w = w' := by
  go_enter Tryd.func114, Tryd.ntmps114
  go_wp2
  go_ret
  exact ⟨rfl, rfl⟩
theorem ret_bool {a b : Bool} (h : a = b) : Ending.returned (.bool a) = .returned (.bool b) := by rw [h]
theorem ret_int {k : IntKind} {a b : Int} (h : a = b) : Ending.returned (.int k a) = .returned (.int k b) := by rw [h]
/-- errors.is of two sentinels: whether they are one. -/
theorem is_leaf (A : Nat → Addr) (k m : Nat) (w : World) (hs : Sens w A) (hk : k < 4) (hm : m < 4) :
    Calls Tryd.prog 63 #[E (A k), E (A m), .bool true] w fun e w' => e = .returned (.bool (k == m)) ∧ w = w' := by
  obtain ⟨i, hi, hcmp⟩ := Option.map_eq_some_iff.1 compE
  obtain ⟨j, hj, hjs⟩ := Option.map_eq_some_iff.1 sizeE
  unfold E
  by_cases h : k = m
  · subst h
    have heq := run_eql_iface_ptr_same (P := Tryd.prog) w (A k) Tryd.underlying59 Tryd.underlying129 hi hcmp hj
    have en := Lib.hid (show (k == k) = true by simp)
    go_enter Tryd.func63, Tryd.ntmps63
    go_wp2
    refine wp_loop_rounds 1 ?_
    rw [rounds_succ]
    go_wp2
    go_ret
    exact ⟨ret_bool en.out.symm, rfl⟩
  · obtain ⟨c0, t0, h0⟩ := hs.row k hk
    obtain ⟨c1, t1, h1⟩ := hs.row m hm
    have heq := run_eql_iface_ptr_other (P := Tryd.prog) w Tryd.underlying59 Tryd.underlying129 hi hcmp hj (by rw [hjs]; decide) (hs.ne k m hk hm h) h0 h1
    have en := Lib.hid (show (k == m) = false from beq_eq_false_iff_ne.2 h)
    have nE := noIsE
    have uE := noUnwrapE
    have vE := noUnwrapsE
    clear h0 h1 h
    go_enter Tryd.func63, Tryd.ntmps63
    go_wp2
    refine wp_loop_rounds 1 ?_
    rw [rounds_succ]
    go_wp2
    go_ret
    exact ⟨ret_bool en.out.symm, rfl⟩
/-- Whether one of the first k is set. -/
def anyTo (B : Nat → Bool) : Nat → Bool
  | 0 => false
  | k + 1 => anyTo B k || B k
theorem anyTo_at {B : Nat → Bool} {n k : Nat} (hk : k < n) (h : B k = true) : anyTo B n = true := by
  induction n with
  | zero => omega
  | succ n ih =>
    unfold anyTo
    by_cases g : k = n
    · subst g; rw [h, Bool.or_true]
    · rw [ih (by omega), Bool.true_or]
theorem anyTo_none {B : Nat → Bool} : ∀ {n : Nat}, (∀ k, k < n → B k = false) → anyTo B n = false
  | 0, _ => rfl
  | n + 1, h => by unfold anyTo; rw [anyTo_none fun k hk => h k (by omega), h n (by omega)]; rfl
theorem anyTo_some {B : Nat → Bool} : ∀ {n : Nat}, anyTo B n = true → ∃ k, k < n ∧ B k = true
  | n + 1, h => by
    unfold anyTo at h
    rcases Bool.or_eq_true _ _ ▸ h with h | h
    · obtain ⟨k, hk, hb⟩ := anyTo_some h
      exact ⟨k, by omega, hb⟩
    · exact ⟨n, by omega, h⟩
set_option maxHeartbeats 1000000 in
/-- errors.is of an error that joins others: whether one of them is. -/
theorem is_join (A : Nat → Addr) (m j s n cap : Nat) (u : Nat → Value) (B : Nat → Bool) (w : World)
    (hj : w.cell? ⟨j, 0, none⟩ = some (.slice (some ⟨s, 0, none⟩) n cap)) (hc : ∀ i, i < n → w.cell? ⟨s, i, none⟩ = some (u i)) (hn : n ≤ 2000000)
    (hi : ∀ i, i < n → Calls Tryd.prog 63 #[u i, E (A m), .bool true] w fun e w' => e = .returned (.bool (B i)) ∧ w = w') :
    Calls Tryd.prog 63 #[J j, E (A m), .bool true] w fun e w' => e = .returned (.bool (anyTo B n)) ∧ w = w' := by
  have HC := Lib.hid hc
  have HI := Lib.hid hi
  have hty := run_eql_iface_types (P := Tryd.prog) 87 129 (.pointer (some ⟨j, 0, none⟩)) (.pointer (some (A m))) Tryd.underlying59 (by decide) w
  have nJ := noIsJ
  have uJ := noUnwrapJ
  have vJ := hasUnwrapsJ
  have mU := methodUnwrap
  have HU := Lib.hid (unwrap j _ _ _ w hj)
  clear hc hi
  unfold E at HI ⊢
  unfold J
  go_enter Tryd.func63, Tryd.ntmps63
  go_wp2_with fail
  refine wp_loop_rounds 1 ?_
  rw [rounds_succ]
  go_wp2_with fail
  refine HU.out.mono ?_
  rintro e w1 ⟨rfl, rfl⟩
  go_wp2_with fail
  go_loop [45] (fun i => ∃ k : Nat, k ≤ n ∧ i = .int .i64 k ∧ ∀ q, q < k → B q = false) (fun i => n - (intOf i).toNat)
  case atStart => exact ⟨0, Nat.zero_le _, rfl, fun q h => by omega⟩
  case round =>
    obtain ⟨k, hk, rfl, hall⟩ := hrel
    have HA := Lib.hid hall
    clear hall
    by_cases hlt : k < n
    · have hlti : (k : Int) < (n : Int) := by omega
      have hcell := HC.out k hlt
      have HK := Lib.hid (HI.out k hlt)
      generalize u k = v at *
      cases hb : B k with
      | true =>
        have en := Lib.hid (anyTo_at hlt hb)
        rw [hb] at HK
        clear hb
        go_wp2_with fail
        refine HK.out.mono ?_
        rintro e w2 ⟨rfl, rfl⟩
        go_wp2_with fail
        go_ret
        exact ⟨ret_bool en.out.symm, rfl⟩
      | false =>
        have HS := Lib.hid (show ∀ q, q < k + 1 → B q = false from fun q hq => by
          by_cases g : q = k
          · rw [g]; exact hb
          · exact HA.out q (by omega))
        rw [hb] at HK
        clear hb
        go_wp2_with fail
        refine HK.out.mono ?_
        rintro e w2 ⟨rfl, rfl⟩
        go_wp2_with fail
        go_round
        case rel => exact ⟨k + 1, by omega, by go_num, HS.out⟩
        case measure => simp [intOf]; omega
    · obtain rfl : k = n := by omega
      have en := Lib.hid (anyTo_none HA.out)
      go_wp2_with fail
      go_ret
      exact ⟨ret_bool en.out.symm, rfl⟩
/-- An error value and the sentinels that it holds, by what errors.is answers from now on. -/
def Kind (A : Nat → Addr) (w : World) (v : Value) (S : Nat → Bool) : Prop :=
  (v = .nilIface ∧ ∀ m, m < 4 → S m = false) ∨
  (((∃ a, v = E a) ∨ ∃ j, v = J j) ∧ ∀ m, m < 4 → ∀ w', On w w' → Calls Tryd.prog 63 #[v, E (A m), .bool true] w' fun e w'' => e = .returned (.bool (S m)) ∧ w' = w'')
theorem Kind.on {A : Nat → Addr} {w w' : World} {v : Value} {S : Nat → Bool} (h : Kind A w v S) (ho : On w w') : Kind A w' v S := by
  rcases h with h | ⟨h, hc⟩
  · exact .inl h
  · exact .inr ⟨h, fun m hm w2 h2 => hc m hm w2 (ho.trans h2)⟩
theorem kind_nil (A : Nat → Addr) (w : World) : Kind A w .nilIface fun _ => false := .inl ⟨rfl, fun _ _ => rfl⟩
theorem kind_leaf {A : Nat → Addr} {w : World} (hs : Sens w A) {k : Nat} (hk : k < 4) : Kind A w (E (A k)) fun m => k == m :=
  .inr ⟨.inl ⟨_, rfl⟩, fun m hm w' ho => is_leaf A k m w' (hs.on ho) hk hm⟩
set_option maxHeartbeats 1000000 in
/-- errors.Is. -/
theorem is_any (A : Nat → Addr) (m : Nat) (v : Value) (S : Nat → Bool) (w : World) (hm : m < 4) (h : Kind A w v S) :
    Calls Tryd.prog 45 #[v, E (A m)] w fun e w' => e = .returned (.bool (S m)) ∧ w = w' := by
  have h8 := @run_callFunc_extern Tryd.prog 62 _ ReflectliteType.typeOf Tryd.func62 (by kernel_rfl) (by kernel_rfl) (by kernel_rfl) (by kernel_rfl)
  have h32 := @run_callFunc_extern Tryd.prog 118 _ (ReflectliteType.method cmpF) Tryd.func118 (by kernel_rfl) (by kernel_rfl) (by kernel_rfl) (by kernel_rfl)
  have tT := typeOfE
  have cT := comparableE
  have mR := methodComparable
  rcases h with ⟨rfl, hS⟩ | ⟨hv, hc⟩
  · have hn := run_eql_iface_nil_left (P := Tryd.prog) w 129 (.pointer (some (A m))) Tryd.underlying59
    have en := Lib.hid (hS m hm)
    clear hS
    unfold E
    go_enter Tryd.func45, Tryd.ntmps45
    go_wp2_with fail
    go_ret
    exact ⟨ret_bool en.out.symm, rfl⟩
  · have HC := Lib.hid (hc m hm w (On.refl w))
    clear hc
    rcases hv with ⟨a, rfl⟩ | ⟨j, rfl⟩
    · unfold E at *
      go_enter Tryd.func45, Tryd.ntmps45
      go_wp2_with fail
      refine HC.out.mono ?_
      rintro e w2 ⟨rfl, rfl⟩
      go_wp2_with fail
      go_ret
      exact ⟨rfl, rfl⟩
    · unfold E J at *
      go_enter Tryd.func45, Tryd.ntmps45
      go_wp2_with fail
      refine HC.out.mono ?_
      rintro e w2 ⟨rfl, rfl⟩
      go_wp2_with fail
      go_ret
      exact ⟨rfl, rfl⟩
end Go.Proofs.YtadoaenmmemjdaaDoor.Errs
