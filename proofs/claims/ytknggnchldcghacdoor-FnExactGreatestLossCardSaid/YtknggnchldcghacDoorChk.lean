
/-
  The limits of arguments, laid in a map and looked up, and the checks of arguments against them. Conditions: each theorem's own.
-/
import Derived.Test.YtknggnchldcghacDoorErrJoin
import Derived.Test.YtknggnchldcghacDoorRadOk
import Derived.Test.YtknggnchldcghacDoorInts
import Derived.Test.YtknggnchldcghacDoorAll
import Derived.WideMake
namespace Go.Proofs.YtknggnchldcghacDoor.Chk
open Go.RowKit
open Plain
open Err (errV own)
open Ints (Ints)

theorem alloc_set (w : World) (o o' : Obj) : { w.alloc o with heap := (w.alloc o).heap.setIfInBounds w.heap.size o' } = w.alloc o' := by
  simp only [World.alloc]
  congr 1
  apply Array.ext_getElem?
  intro i
  rw [Array.getElem?_setIfInBounds]
  by_cases h : w.heap.size = i
  · subst h; simp
  · rw [if_neg h, Array.getElem?_push, Array.getElem?_push, if_neg (fun e => h e.symm), if_neg (fun e => h e.symm)]
theorem insert (w : World) (es : Array MapEntry) (clock : Nat) (s : ByteArray) (val : Value) (hf : Instr.findNow .string (.string s) es.toList 0 = some none) :
    (Instr.mapUpdate 111 (.map (some w.heap.size)) (.string s) val).run Tryd.prog (w.alloc (.map es clock)) = .ok () (w.alloc (.map (es.push { key := .string s, val := val, born := clock }) (clock + 1))) := by
  have hm : Tryd.prog.underlying 111 = some (.map 9 110) := by kernel_rfl
  have hk : Tryd.prog.underlying 9 = some .string := by kernel_rfl
  have hb : (w.alloc (.map es clock)).heap[w.heap.size]? = some (.map es clock) := by show (w.heap.push _)[w.heap.size]? = _; simp
  have hc : (Instr.checkKey false 10000 9 (.string s)).run Tryd.prog (w.alloc (.map es clock)) = .ok () (w.alloc (.map es clock)) := MapKept.run_checkKey (k := .string s) hk (by simp [MapKept.IsKey]) false 9999
  have h := alloc_set w (.map es clock) (.map (es.push { key := .string s, val := val, born := clock }) (clock + 1))
  simp [Instr.mapUpdate, run_underlying hm, MapKept.run_getObj_map hb, hc, MapKept.run_findKey hk hf, MapKept.run_setObj_map _ hb, Result.andThen]
  exact h
theorem look (w : World) (r : Nat) (es : Array MapEntry) (clock i : Nat) (s : ByteArray) (val : Value) (hb : w.heap[r]? = some (.map es clock)) (h0 : es.isEmpty = false) (hf : Instr.findNow .string (.string s) es.toList 0 = some (some (i, val))) :
    (Instr.lookup 111 (.map (some r)) (.string s) false).run Tryd.prog w = .ok val w := by
  have hm : Tryd.prog.underlying 111 = some (.map 9 110) := by kernel_rfl
  have hk : Tryd.prog.underlying 9 = some .string := by kernel_rfl
  have hc : (Instr.checkKey false 10000 9 (.string s)).run Tryd.prog w = .ok () w := MapKept.run_checkKey (k := .string s) hk (by simp [MapKept.IsKey]) false 9999
  simp [Instr.lookup, run_underlying hm, MapKept.run_getObj_map hb, h0, hc, MapKept.run_findKey hk hf, Result.andThen]
def gainS : ByteArray := ⟨#[103, 97, 105, 110]⟩
def lossS : ByteArray := ⟨#[108, 111, 115, 115]⟩
def levelS : ByteArray := ⟨#[108, 101, 118, 101, 108]⟩
def ES : Array MapEntry := #[{ key := .string gainS, val := .agg #[.int .i64 (-60000), .int .i64 60000], born := 0 }, { key := .string lossS, val := .agg #[.int .i64 (0), .int .i64 300000], born := 1 }, { key := .string levelS, val := .agg #[.int .i64 (-300000), .int .i64 300000], born := 2 }]
theorem spans (w : World) :
    Calls Tryd.prog 87 #[] w fun e w' => e = .returned (.map (some w.heap.size)) ∧ w' = w.alloc (.map ES 3) := by
  have hmm := @run_makeMap Tryd.prog
  have u0 := insert w #[] 0 gainS (.agg #[.int .i64 (-60000), .int .i64 60000]) (by kernel_rfl)
  have u1 := insert w #[{ key := .string gainS, val := .agg #[.int .i64 (-60000), .int .i64 60000], born := 0 }] 1 lossS (.agg #[.int .i64 (0), .int .i64 300000]) (by kernel_rfl)
  have u2 := insert w #[{ key := .string gainS, val := .agg #[.int .i64 (-60000), .int .i64 60000], born := 0 }, { key := .string lossS, val := .agg #[.int .i64 (0), .int .i64 300000], born := 1 }] 2 levelS (.agg #[.int .i64 (-300000), .int .i64 300000]) (by kernel_rfl)
  unfold gainS lossS levelS at *
  go_enter Tryd.func87, Tryd.ntmps87
  go_wp2_with fail
  go_ret
  exact ⟨rfl, rfl⟩
/-- An error of a field, if a test fails. -/
def errIf (f : ByteArray) (c : Int) (ok : Bool) : Option (ByteArray × Int) := if ok = true then none else some (f, c)
theorem look_gain (w : World) (r : Nat) (hb : w.heap[r]? = some (.map ES 3)) : (Instr.lookup 111 (.map (some r)) (.string gainS) false).run Tryd.prog w = .ok (.agg #[.int .i64 (-60000), .int .i64 60000]) w :=
  look w r ES 3 0 gainS _ hb rfl (by kernel_rfl)
def gainB (z : Int) : Bool := inB z (-60000) 60000
set_option maxHeartbeats 2000000 in
theorem check_gain (v : Value) (zs : List Int) (w : World) (hn : zs.length ≤ 1048577) (h : Ints w v zs) :
    Calls Tryd.prog 53 #[.string gainS, v] w fun e w' => e = .returned (errV (errIf gainS 2 (zs.all gainB))) ∧ On w w' := by
  have h' := h
  obtain ⟨a, cap, rfl, -⟩ := h
  have HL := Lib.hid (look_gain (w.alloc (.map ES 3)) w.heap.size (by show (w.heap.push _)[w.heap.size]? = _; simp))
  obtain ⟨s, hs⟩ : ∃ s, s = gainS := ⟨_, rfl⟩
  by_cases h0 : 0 < zs.length
  · obtain ⟨b, off, rfl, hb, hcell⟩ : ∃ b off, a = some ⟨b, off, none⟩ ∧ b < w.heap.size ∧ ∀ i, i < zs.length → w.cell? ⟨b, off + i, none⟩ = some (.int .i64 (zs.getD i 0)) := by
      obtain ⟨a', cap', he, hc⟩ := h'
      injection he with h1 h2 h3
      subst h1
      exact hc h0
    have HC := Lib.hid hcell
    obtain ⟨n, hnn⟩ : ∃ n, n = zs.length := ⟨_, rfl⟩
    have HN := Lib.hid hnn
    rw [← hnn] at hn h0 ⊢
    rw [← hs] at HL ⊢
    have hb1 : b < w.heap.size + 1 := by omega
    have hb2 : b < w.heap.size + 1 + 1 := by omega
    clear hcell hnn h' hs
    have hl := HL.out
    go_enter Tryd.func53, Tryd.ntmps53
    go_wp2_with (go_at_call 87; refine (spans _).mono ?_; rintro e w' ⟨rfl, rfl⟩)
    clear hl
    go_loop [13] (fun i => ∃ k : Nat, k ≤ n ∧ i = .int .i64 k ∧ AllTo gainB zs k) (fun i => n - (intOf i).toNat)
    case atStart => exact ⟨0, Nat.zero_le _, rfl, allTo_zero _ _⟩
    case round =>
      obtain ⟨k, hk, rfl, hall⟩ := hrel
      have HA := Lib.hid hall
      clear hall
      by_cases hlt : k < n
      · have hlti : (k : Int) < (n : Int) := by omega
        obtain ⟨z, hz⟩ : ∃ z, z = zs.getD k 0 := ⟨_, rfl⟩
        have c1 : w.cell? ⟨b, off + k, none⟩ = some (.int .i64 z) := by rw [hz]; exact HC.out k (by rw [← HN.out]; exact hlt)
        cases hin : inB z (-60000) 60000 with
        | true =>
          have HS := Lib.hid (allTo_succ (p := gainB) HA.out (by rw [← hz]; exact hin))
          clear hz
          go_wp2_with (go_at_call 88; refine (Arith.within _ _ _ _).mono ?_; rintro e w' ⟨rfl, rfl⟩)
          go_round
          case rel => exact ⟨k + 1, by omega, by go_num, HS.out⟩
          case measure => simp [intOf]; omega
        | false =>
          have en := Lib.hid (show errV (errIf s 2 (zs.all gainB)) = own s 2 by rw [all_bad (p := gainB) (zs := zs) (k := k) (by rw [← HN.out]; exact hlt) (by rw [← hz]; exact hin)]; rfl)
          clear hz
          go_wp2_with (go_at_call 88; refine (Arith.within _ _ _ _).mono ?_; rintro e w' ⟨rfl, rfl⟩)
          go_ret
          exact ⟨by rw [en.out]; rfl, (by repeat (first | with_reducible exact On.refl _ | apply On.alloc | apply On.drew | refine On.setCell ?_ (by (try simp) <;> omega) _))⟩
      · obtain rfl : k = n := by omega
        have en := Lib.hid (show errV (errIf s 2 (zs.all gainB)) = .nilIface by rw [all_all (p := gainB) (by rw [← HN.out]; exact HA.out)]; rfl)
        go_wp2_with fail
        go_ret
        exact ⟨by rw [en.out]; rfl, (by repeat (first | with_reducible exact On.refl _ | apply On.alloc | apply On.drew | refine On.setCell ?_ (by (try simp) <;> omega) _))⟩
  · obtain rfl : zs = [] := List.eq_nil_of_length_eq_zero (by omega)
    have en := Lib.hid (show errV (errIf s 2 (([] : List Int).all gainB)) = .nilIface from rfl)
    rw [← hs] at HL ⊢
    have hl := HL.out
    clear hs h'
    go_enter Tryd.func53, Tryd.ntmps53
    go_wp2_with (go_at_call 87; refine (spans _).mono ?_; rintro e w' ⟨rfl, rfl⟩)
    refine wp_loop_rounds 1 ?_
    rw [rounds_succ]
    go_wp2_with fail
    go_ret
    exact ⟨by rw [en.out]; rfl, (by repeat (first | with_reducible exact On.refl _ | apply On.alloc | apply On.drew | refine On.setCell ?_ (by (try simp) <;> omega) _))⟩
theorem look_loss (w : World) (r : Nat) (hb : w.heap[r]? = some (.map ES 3)) : (Instr.lookup 111 (.map (some r)) (.string lossS) false).run Tryd.prog w = .ok (.agg #[.int .i64 (0), .int .i64 300000]) w :=
  look w r ES 3 1 lossS _ hb rfl (by kernel_rfl)
def lossB (z : Int) : Bool := inB z (0) 300000
set_option maxHeartbeats 2000000 in
theorem check_loss (v : Value) (zs : List Int) (w : World) (hn : zs.length ≤ 1048577) (h : Ints w v zs) :
    Calls Tryd.prog 53 #[.string lossS, v] w fun e w' => e = .returned (errV (errIf lossS 2 (zs.all lossB))) ∧ On w w' := by
  have h' := h
  obtain ⟨a, cap, rfl, -⟩ := h
  have HL := Lib.hid (look_loss (w.alloc (.map ES 3)) w.heap.size (by show (w.heap.push _)[w.heap.size]? = _; simp))
  obtain ⟨s, hs⟩ : ∃ s, s = lossS := ⟨_, rfl⟩
  by_cases h0 : 0 < zs.length
  · obtain ⟨b, off, rfl, hb, hcell⟩ : ∃ b off, a = some ⟨b, off, none⟩ ∧ b < w.heap.size ∧ ∀ i, i < zs.length → w.cell? ⟨b, off + i, none⟩ = some (.int .i64 (zs.getD i 0)) := by
      obtain ⟨a', cap', he, hc⟩ := h'
      injection he with h1 h2 h3
      subst h1
      exact hc h0
    have HC := Lib.hid hcell
    obtain ⟨n, hnn⟩ : ∃ n, n = zs.length := ⟨_, rfl⟩
    have HN := Lib.hid hnn
    rw [← hnn] at hn h0 ⊢
    rw [← hs] at HL ⊢
    have hb1 : b < w.heap.size + 1 := by omega
    have hb2 : b < w.heap.size + 1 + 1 := by omega
    clear hcell hnn h' hs
    have hl := HL.out
    go_enter Tryd.func53, Tryd.ntmps53
    go_wp2_with (go_at_call 87; refine (spans _).mono ?_; rintro e w' ⟨rfl, rfl⟩)
    clear hl
    go_loop [13] (fun i => ∃ k : Nat, k ≤ n ∧ i = .int .i64 k ∧ AllTo lossB zs k) (fun i => n - (intOf i).toNat)
    case atStart => exact ⟨0, Nat.zero_le _, rfl, allTo_zero _ _⟩
    case round =>
      obtain ⟨k, hk, rfl, hall⟩ := hrel
      have HA := Lib.hid hall
      clear hall
      by_cases hlt : k < n
      · have hlti : (k : Int) < (n : Int) := by omega
        obtain ⟨z, hz⟩ : ∃ z, z = zs.getD k 0 := ⟨_, rfl⟩
        have c1 : w.cell? ⟨b, off + k, none⟩ = some (.int .i64 z) := by rw [hz]; exact HC.out k (by rw [← HN.out]; exact hlt)
        cases hin : inB z (0) 300000 with
        | true =>
          have HS := Lib.hid (allTo_succ (p := lossB) HA.out (by rw [← hz]; exact hin))
          clear hz
          go_wp2_with (go_at_call 88; refine (Arith.within _ _ _ _).mono ?_; rintro e w' ⟨rfl, rfl⟩)
          go_round
          case rel => exact ⟨k + 1, by omega, by go_num, HS.out⟩
          case measure => simp [intOf]; omega
        | false =>
          have en := Lib.hid (show errV (errIf s 2 (zs.all lossB)) = own s 2 by rw [all_bad (p := lossB) (zs := zs) (k := k) (by rw [← HN.out]; exact hlt) (by rw [← hz]; exact hin)]; rfl)
          clear hz
          go_wp2_with (go_at_call 88; refine (Arith.within _ _ _ _).mono ?_; rintro e w' ⟨rfl, rfl⟩)
          go_ret
          exact ⟨by rw [en.out]; rfl, (by repeat (first | with_reducible exact On.refl _ | apply On.alloc | apply On.drew | refine On.setCell ?_ (by (try simp) <;> omega) _))⟩
      · obtain rfl : k = n := by omega
        have en := Lib.hid (show errV (errIf s 2 (zs.all lossB)) = .nilIface by rw [all_all (p := lossB) (by rw [← HN.out]; exact HA.out)]; rfl)
        go_wp2_with fail
        go_ret
        exact ⟨by rw [en.out]; rfl, (by repeat (first | with_reducible exact On.refl _ | apply On.alloc | apply On.drew | refine On.setCell ?_ (by (try simp) <;> omega) _))⟩
  · obtain rfl : zs = [] := List.eq_nil_of_length_eq_zero (by omega)
    have en := Lib.hid (show errV (errIf s 2 (([] : List Int).all lossB)) = .nilIface from rfl)
    rw [← hs] at HL ⊢
    have hl := HL.out
    clear hs h'
    go_enter Tryd.func53, Tryd.ntmps53
    go_wp2_with (go_at_call 87; refine (spans _).mono ?_; rintro e w' ⟨rfl, rfl⟩)
    refine wp_loop_rounds 1 ?_
    rw [rounds_succ]
    go_wp2_with fail
    go_ret
    exact ⟨by rw [en.out]; rfl, (by repeat (first | with_reducible exact On.refl _ | apply On.alloc | apply On.drew | refine On.setCell ?_ (by (try simp) <;> omega) _))⟩
theorem look_level (w : World) (r : Nat) (hb : w.heap[r]? = some (.map ES 3)) : (Instr.lookup 111 (.map (some r)) (.string levelS) false).run Tryd.prog w = .ok (.agg #[.int .i64 (-300000), .int .i64 300000]) w :=
  look w r ES 3 2 levelS _ hb rfl (by kernel_rfl)
def levelB (z : Int) : Bool := inB z (-300000) 300000
set_option maxHeartbeats 2000000 in
theorem check_level (v : Value) (zs : List Int) (w : World) (hn : zs.length ≤ 1048577) (h : Ints w v zs) :
    Calls Tryd.prog 53 #[.string levelS, v] w fun e w' => e = .returned (errV (errIf levelS 2 (zs.all levelB))) ∧ On w w' := by
  have h' := h
  obtain ⟨a, cap, rfl, -⟩ := h
  have HL := Lib.hid (look_level (w.alloc (.map ES 3)) w.heap.size (by show (w.heap.push _)[w.heap.size]? = _; simp))
  obtain ⟨s, hs⟩ : ∃ s, s = levelS := ⟨_, rfl⟩
  by_cases h0 : 0 < zs.length
  · obtain ⟨b, off, rfl, hb, hcell⟩ : ∃ b off, a = some ⟨b, off, none⟩ ∧ b < w.heap.size ∧ ∀ i, i < zs.length → w.cell? ⟨b, off + i, none⟩ = some (.int .i64 (zs.getD i 0)) := by
      obtain ⟨a', cap', he, hc⟩ := h'
      injection he with h1 h2 h3
      subst h1
      exact hc h0
    have HC := Lib.hid hcell
    obtain ⟨n, hnn⟩ : ∃ n, n = zs.length := ⟨_, rfl⟩
    have HN := Lib.hid hnn
    rw [← hnn] at hn h0 ⊢
    rw [← hs] at HL ⊢
    have hb1 : b < w.heap.size + 1 := by omega
    have hb2 : b < w.heap.size + 1 + 1 := by omega
    clear hcell hnn h' hs
    have hl := HL.out
    go_enter Tryd.func53, Tryd.ntmps53
    go_wp2_with (go_at_call 87; refine (spans _).mono ?_; rintro e w' ⟨rfl, rfl⟩)
    clear hl
    go_loop [13] (fun i => ∃ k : Nat, k ≤ n ∧ i = .int .i64 k ∧ AllTo levelB zs k) (fun i => n - (intOf i).toNat)
    case atStart => exact ⟨0, Nat.zero_le _, rfl, allTo_zero _ _⟩
    case round =>
      obtain ⟨k, hk, rfl, hall⟩ := hrel
      have HA := Lib.hid hall
      clear hall
      by_cases hlt : k < n
      · have hlti : (k : Int) < (n : Int) := by omega
        obtain ⟨z, hz⟩ : ∃ z, z = zs.getD k 0 := ⟨_, rfl⟩
        have c1 : w.cell? ⟨b, off + k, none⟩ = some (.int .i64 z) := by rw [hz]; exact HC.out k (by rw [← HN.out]; exact hlt)
        cases hin : inB z (-300000) 300000 with
        | true =>
          have HS := Lib.hid (allTo_succ (p := levelB) HA.out (by rw [← hz]; exact hin))
          clear hz
          go_wp2_with (go_at_call 88; refine (Arith.within _ _ _ _).mono ?_; rintro e w' ⟨rfl, rfl⟩)
          go_round
          case rel => exact ⟨k + 1, by omega, by go_num, HS.out⟩
          case measure => simp [intOf]; omega
        | false =>
          have en := Lib.hid (show errV (errIf s 2 (zs.all levelB)) = own s 2 by rw [all_bad (p := levelB) (zs := zs) (k := k) (by rw [← HN.out]; exact hlt) (by rw [← hz]; exact hin)]; rfl)
          clear hz
          go_wp2_with (go_at_call 88; refine (Arith.within _ _ _ _).mono ?_; rintro e w' ⟨rfl, rfl⟩)
          go_ret
          exact ⟨by rw [en.out]; rfl, (by repeat (first | with_reducible exact On.refl _ | apply On.alloc | apply On.drew | refine On.setCell ?_ (by (try simp) <;> omega) _))⟩
      · obtain rfl : k = n := by omega
        have en := Lib.hid (show errV (errIf s 2 (zs.all levelB)) = .nilIface by rw [all_all (p := levelB) (by rw [← HN.out]; exact HA.out)]; rfl)
        go_wp2_with fail
        go_ret
        exact ⟨by rw [en.out]; rfl, (by repeat (first | with_reducible exact On.refl _ | apply On.alloc | apply On.drew | refine On.setCell ?_ (by (try simp) <;> omega) _))⟩
  · obtain rfl : zs = [] := List.eq_nil_of_length_eq_zero (by omega)
    have en := Lib.hid (show errV (errIf s 2 (([] : List Int).all levelB)) = .nilIface from rfl)
    rw [← hs] at HL ⊢
    have hl := HL.out
    clear hs h'
    go_enter Tryd.func53, Tryd.ntmps53
    go_wp2_with (go_at_call 87; refine (spans _).mono ?_; rintro e w' ⟨rfl, rfl⟩)
    refine wp_loop_rounds 1 ?_
    rw [rounds_succ]
    go_wp2_with fail
    go_ret
    exact ⟨by rw [en.out]; rfl, (by repeat (first | with_reducible exact On.refl _ | apply On.alloc | apply On.drew | refine On.setCell ?_ (by (try simp) <;> omega) _))⟩
end Go.Proofs.YtknggnchldcghacDoor.Chk
