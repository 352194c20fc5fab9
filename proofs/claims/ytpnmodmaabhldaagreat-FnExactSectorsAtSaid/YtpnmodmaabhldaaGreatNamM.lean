
/-
  A set of names out of which the names of a list are struck: it is empty just if each of its names is that of something in the list. No condition.
-/
import Derived.Test.YtpnmodmaabhldaaGreatNam
import Derived.Maps.OwnSet
import Derived.Maps.Range
import Derived.StringKeys
import Derived.Lib.Strings
import Derived.Lib.Bytealg
namespace Go.Proofs.YtpnmodmaabhldaaGreat.NamM
open Go.RowKit Go.Maps Go.WideMaps

def keyAt (ss : List ByteArray) (k : Nat) : Lit := .string (ss.getD k ⟨#[]⟩).data.toList
def keys (ss : List ByteArray) (k : Nat) : List Lit := (ss.take k).map fun s => .string s.data.toList
/-- The set of the first k names. -/
def Sn (ss : List ByteArray) (k : Nat) : DataW Unit := setOf (.agg []) (keys ss k)
theorem keys_succ (ss : List ByteArray) (k : Nat) (hk : k < ss.length) : keys ss (k + 1) = keys ss k ++ [keyAt ss k] := by
  unfold keys keyAt
  rw [List.take_add_one, List.map_append]
  simp [List.getD, List.getElem?_eq_getElem hk]
theorem Sn_succ (ss : List ByteArray) (k : Nat) (hk : k < ss.length) : Sn ss (k + 1) = (Sn ss k).put (keyAt ss k) (.agg []) := by
  unfold Sn
  rw [keys_succ ss k hk, setOf_snoc]
theorem Sn_zero (ss : List ByteArray) : Sn ss 0 = .map [] := by simp [Sn, keys, setOf]
theorem keys_lit (ss : List ByteArray) (k : Nat) : ∀ x ∈ keys ss k, WideAt.IsKeyLit x := fun x hx => by
  obtain ⟨s, _, rfl⟩ := List.mem_map.1 hx
  exact trivial
variable {α : Type}
/-- .. less the names of the first k of a list. -/
def Dl (nm : α → ByteArray) (d : α) (zs : List α) (ss : List ByteArray) (k : Nat) : DataW Unit := (List.range k).foldl (fun D j => D.del (.string (nm (zs.getD j d)).data.toList)) (Sn ss ss.length)
theorem Dl_zero (nm : α → ByteArray) (d : α) (zs : List α) (ss : List ByteArray) : Dl nm d zs ss 0 = Sn ss ss.length := rfl
theorem Dl_succ (nm : α → ByteArray) (d : α) (zs : List α) (ss : List ByteArray) (k : Nat) : Dl nm d zs ss (k + 1) = (Dl nm d zs ss k).del (.string (nm (zs.getD k d)).data.toList) := by
  unfold Dl
  rw [List.range_succ, List.foldl_append]
  rfl
theorem has_Sn (ss : List ByteArray) (x : Lit) : Maps.has (Sn ss ss.length) x = ss.any (fun s => (Lit.string s.data.toList).sameKey x) := by
  unfold Sn
  rw [has_setOf _ _ _ (keys_lit ss _)]
  unfold keys
  rw [List.take_length, List.any_map]
  rfl
theorem has_Dl (nm : α → ByteArray) (d : α) (zs : List α) (ss : List ByteArray) (x : Lit) (k : Nat) : Maps.has (Dl nm d zs ss k) x = true ↔ (ss.any (fun s => (Lit.string s.data.toList).sameKey x) = true ∧ ∀ j, j < k → Lit.string (nm (zs.getD j d)).data.toList ≠ x) := by
  induction k with
  | zero => rw [Dl_zero, has_Sn]; exact ⟨fun h => ⟨h, fun j hj => by omega⟩, fun h => h.1⟩
  | succ k ih =>
    rw [Dl_succ]
    by_cases e : x = Lit.string (nm (zs.getD k d)).data.toList
    · subst e
      rw [has_del_same]
      exact ⟨fun h => absurd h (by simp), fun h => absurd rfl (h.2 k (by omega))⟩
    · rw [has_del_other e, ih]
      constructor
      · intro h
        refine ⟨h.1, fun j hj => ?_⟩
        by_cases g : j = k
        · rw [g]; exact fun c => e c.symm
        · exact h.2 j (by omega)
      · exact fun h => ⟨h.1, fun j hj => h.2 j (by omega)⟩
/-- Each of the names is that of something in the list. -/
def haveAll (nm : α → ByteArray) (d : α) (zs : List α) (ss : List ByteArray) : Bool := ss.all (fun s => Nam.has nm d zs s)
theorem same_str (a b : List UInt8) : (Lit.string a).sameKey (.string b) = (a == b) := rfl
theorem size_Dl {nm : α → ByteArray} {d : α} {zs : List α} {ss : List ByteArray} {es : List (Lit × DataW Unit)} (he : Dl nm d zs ss zs.length = .map es) (hk : ∀ p ∈ es, WideAt.IsKeyLit p.1) : decide (Maps.size (Dl nm d zs ss zs.length) = 0) = haveAll nm d zs ss := by
  have hD := fun x => has_Dl nm d zs ss x zs.length
  rw [he, Maps.size_eq]
  rw [he] at hD
  cases g : haveAll nm d zs ss with
  | true =>
    refine decide_eq_true ?_
    match es, hk, hD with
    | [], _, _ => rfl
    | p :: r, hk, hD =>
      exfalso
      have h1 : Maps.has (DataW.map (p :: r)) p.1 = true := by
        rw [Maps.has_eq, List.any_cons, WideAt.sameKey_self (hk p (List.mem_cons_self ..)), Bool.true_or]
      obtain ⟨h2, h3⟩ := (hD p.1).1 h1
      obtain ⟨s, hs, h4⟩ := List.any_eq_true.1 h2
      have h5 := (WideAt.sameKey_iff (hk p (List.mem_cons_self ..))).1 h4
      obtain ⟨j, hj, h6⟩ := Nam.of_has (List.all_eq_true.1 g s hs)
      unfold Nam.is at h6
      refine h3 j hj ?_
      rw [← h5]
      have h7 : (nm (zs.getD j d)).toList = s.toList := by simpa using h6
      rw [← Lib.toList_data, ← Lib.toList_data, h7]
  | false =>
    refine decide_eq_false fun h0 => ?_
    obtain rfl := List.eq_nil_of_length_eq_zero h0
    obtain ⟨s, hs, h1⟩ := List.all_eq_false.1 g
    have h2 := (hD (.string s.data.toList)).2 ⟨List.any_eq_true.2 ⟨s, hs, by rw [same_str]; simp⟩, fun j hj hc => ?_⟩
    · cases h2
    · refine h1 (Nam.has_yes hj ?_)
      unfold Nam.is
      injection hc with hc
      rw [Lib.toList_data, Lib.toList_data, hc]
      simp
end Go.Proofs.YtpnmodmaabhldaaGreat.NamM
