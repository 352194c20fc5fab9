
/-
  Slices of texts that a call has made: what the laws' marking of them and the later look at the marks return. Condition: at most 1048577 texts.
-/
import Derived.Test.YtpnmodmaabhldaaGreatStrs
import Derived.Test.YtpnmodmaabhldaaGreatDecPlain
import Derived.Test.YtpnmodmaabhldaaGreatOn
import Derived.Test.YtpnmodmaabhldaaGreatOnH
namespace Go.Proofs.YtpnmodmaabhldaaGreat.MarkS
open Go.RowKit
open Plain
open Strs (Strs Own noText)

/-- The mark k. -/
def mk (k : Nat) : ByteArray := ⟨(109 :: Lib.decDigits k).toArray⟩
theorem dig_nat (u : Nat) : ((dig u).toNat : Int) = 48 + (u : Int) % 10 := by rw [dig_toNat]; omega
set_option maxRecDepth 100000 in
theorem markText (k : Nat) (w : World) (h0 : 1 ≤ k) (h1 : k ≤ 4000000) :
    Calls Tryz.prog 63 #[.int .i64 k] w fun e w' => e = .returned (.string (mk k)) ∧ On w w' := by
  go_enter Tryz.func63, Tryz.ntmps63
  go_wp2
  go_loopw [0, 3] (fun n t wr => ∃ (u : Nat) (ds : List UInt8), n = .int .i64 u ∧ u ≤ k ∧ t = .string ⟨ds.reverse.toArray⟩ ∧ On w wr ∧ Rev k u ds) (fun n _ _ => (intOf n).toNat)
  case atStart => exact ⟨k, [], rfl, Nat.le_refl _, rfl, On.refl _, rev_start (by omega)⟩
  case round =>
    obtain ⟨u, ds, rfl, hu, rfl, hb, hrev⟩ := hrel
    have hlen := rev_len hrev (by omega)
    have HR := Lib.hid hrev
    have HB := Lib.hid hb
    clear hrev hb
    by_cases hu0 : u = 0
    · subst hu0
      have HE := Lib.hid (rev_end HR.out)
      have hs1 : ¬ 9223372036854775807 < 1 + ds.length := by omega
      go_wp2
      go_ret
      exact ⟨by unfold mk; rw [← HE.out]; rw [show (⟨#[109]⟩ : ByteArray) = ⟨([109] : List UInt8).toArray⟩ from rfl, ByteArray.mk_append_mk]; rfl, HB.out⟩
    · have HN := Lib.hid (rev_step HR.out hu0)
      have hd := dig_nat u
      obtain ⟨D, hD⟩ : ∃ D : Int, D = 48 + (u : Int) % 10 := ⟨_, rfl⟩
      rw [← hD] at hd
      have r1 : (u : Int).tmod 10 = (u : Int) % 10 := Int.tmod_eq_emod_of_nonneg (by omega)
      have r2 : IntKind.u8.wrap (48 + (u : Int) % 10) = D := by rw [← hD]; exact IntWalk.u8_in _ (by omega)
      have hd0 : 48 + (u : Int) % 10 = D := hD.symm
      have kc : (Go.convert 148 9 (.slice (some ⟨wr.heap.size, 0, none⟩) 1 1)).run Tryz.prog (wr.alloc (.cells #[.int .u8 D] 5)) = .ok (.string ⟨#[dig u]⟩) (wr.alloc (.cells #[.int .u8 D] 5)) :=
        run_convert_bytes_back (P := Tryz.prog) (wr.alloc (.cells #[.int .u8 D] 5)) 148 9 5 ⟨wr.heap.size, 0, none⟩ 1 [dig u] Tryz.underlying148 Tryz.underlying5 Tryz.underlying9 (fun j hj => by
          obtain rfl : j = 0 := by simpa using hj
          simp [Addr.add, hd])
      have hs1 : ¬ 9223372036854775807 < 1 + ds.length := by omega
      clear hD
      go_wp2
      go_roundw
      case rel =>
        refine ⟨u / 10, ds ++ [dig u], by go_num, by omega, ?_, On.alloc HB.out _, HN.out⟩
        rw [List.reverse_append]
        show _ = Value.string ⟨([dig u] ++ ds.reverse).toArray⟩
        rw [← ByteArray.mk_append_mk]
      case measure => simp [intOf]; omega
def marks (k n : Nat) : List ByteArray := (List.range n).map fun i => mk (k + i)
theorem marks_length (k n : Nat) : (marks k n).length = n := by simp [marks]
theorem marks_get (k n i : Nat) (h : i < n) : (marks k n).getD i noText = mk (k + i) := by simp [marks, h]

theorem mark_some (b off cap k : Nat) (zs : List ByteArray) (w : World) (hn : zs.length ≤ 1048577) (hk0 : 1 ≤ k) (hk : k ≤ 1048576) (hlt : b < w.heap.size)
    (hf : ∀ i, i < zs.length → w.frozen? ⟨b, off + i, none⟩ = false) (hcell : ∀ i, i < zs.length → w.cell? ⟨b, off + i, none⟩ = some (.string (zs.getD i noText))) :
    Calls Tryz.prog 18 #[.slice (some ⟨b, off, none⟩) zs.length cap, .int .i64 k] w fun e w' => e = .returned (.int .i64 ((k + zs.length : Nat) : Int)) ∧ Below b w w' ∧ (∀ i, i < zs.length → w'.frozen? ⟨b, off + i, none⟩ = false) ∧ ∀ i, i < zs.length → w'.cell? ⟨b, off + i, none⟩ = some (.string (mk (k + i))) := by
  have HF := Lib.hid hf
  have HC := Lib.hid hcell
  clear hf hcell
  go_enter Tryz.func18, Tryz.ntmps18
  go_wp2
  go_loopw [1, 5] (fun m i wr => ∃ j : Nat, j ≤ zs.length ∧ i = .int .i64 j ∧ m = .int .i64 ((k + j : Nat) : Int) ∧ Below b w wr ∧ (∀ i, i < zs.length → wr.frozen? ⟨b, off + i, none⟩ = false) ∧ ∀ i, i < zs.length → wr.cell? ⟨b, off + i, none⟩ = some (.string (if i < j then mk (k + i) else zs.getD i noText))) (fun _ i _ => zs.length - (intOf i).toNat)
  case atStart => exact ⟨0, Nat.zero_le _, rfl, rfl, Below.refl _ _, HF.out, fun i hi => by rw [if_neg (by omega)]; exact HC.out i hi⟩
  case round =>
    obtain ⟨j, hj, rfl, rfl, hb, hfz, hcl⟩ := hrel
    have hlt1 : b < wr.heap.size := Nat.lt_of_lt_of_le hlt hb.size
    have HB := Lib.hid hb
    have HZ := Lib.hid hfz
    have HL := Lib.hid hcl
    clear hb hfz hcl
    by_cases hlt2 : j < zs.length
    · have HM := Lib.hid (fun w => markText (k + j) w (by omega) (by omega))
      go_wp2_with fail
      refine (HM.out _).mono ?_
      rintro e w2 ⟨rfl, h2⟩
      have hc1 : w2.cell? ⟨b, off + j, none⟩ = some (.string (zs.getD j noText)) := by have := HL.out j hlt2; rw [if_neg (by omega)] at this; exact (h2.cell (by exact hlt1)).trans this
      have hf1 : w2.frozen? ⟨b, off + j, none⟩ = false := (h2.frozen (by exact hlt1)).trans (HZ.out j hlt2)
      have HB2 := Lib.hid (HB.out.trans (Below.mono h2 (Nat.le_of_lt hlt1)))
      have HZ2 := Lib.hid (fun i (hi : i < zs.length) => (h2.frozen (p := ⟨b, off + i, none⟩) (by exact hlt1)).trans (HZ.out i hi))
      have HL2 := Lib.hid (fun i (hi : i < zs.length) => (h2.cell (p := ⟨b, off + i, none⟩) (by exact hlt1)).trans (HL.out i hi))
      obtain ⟨z, hz⟩ : ∃ z, z = zs.getD j noText := ⟨_, rfl⟩
      rw [← hz] at hc1
      clear hz h2
      go_wp2_with fail
      go_roundw
      case rel =>
        refine ⟨j + 1, by omega, by go_num, by go_num, HB2.out.setCell (by exact Nat.le_refl _) _, fun i hi => by rw [World.frozen?_setCell]; exact HZ2.out i hi, fun i hi => ?_⟩
        by_cases h1 : i = j
        · subst h1
          rw [if_pos (by omega)]
          exact World.cell?_setCell_same (h := hc1) ..
        · have hne : (⟨b, off + j, none⟩ : Addr) ≠ ⟨b, off + i, none⟩ := by intro hc; injection hc with _ h2 _; omega
          refine (World.cell?_setCell_other (h := hne) ..).trans ?_
          rw [HL2.out i hi]
          by_cases h2 : i < j
          · rw [if_pos h2, if_pos (by omega)]
          · rw [if_neg h2, if_neg (by omega)]
      case measure => simp [intOf]; omega
    · obtain rfl : j = zs.length := by omega
      go_wp2
      go_ret
      exact ⟨rfl, HB.out, HZ.out, fun i hi => by have := HL.out i hi; rw [if_pos hi] at this; exact this⟩
theorem mark_none (a : Option Addr) (cap k : Nat) (w : World) :
    Calls Tryz.prog 18 #[.slice a 0 cap, .int .i64 k] w fun e w' => e = .returned (.int .i64 k) ∧ w' = w := by
  go_enter Tryz.func18, Tryz.ntmps18
  go_wp2
  refine wp_loop_rounds 1 ?_
  rw [rounds_succ]
  go_wp2
  go_ret
  exact ⟨rfl, rfl⟩
/-- The marking: it returns the next mark, writes into its own memory alone, and leaves the marks there. -/
theorem mark (B k : Nat) (v : Value) (zs : List ByteArray) (w : World) (hn : zs.length ≤ 1048577) (hk0 : 1 ≤ k) (hk : k ≤ 1048576) (h : Own B w v zs) :
    Calls Tryz.prog 18 #[v, .int .i64 k] w fun e w' => e = .returned (.int .i64 ((k + zs.length : Nat) : Int)) ∧ Below B w w' ∧ Own B w' v (marks k zs.length) := by
  obtain ⟨a, cap, rfl, hc⟩ := h
  by_cases h0 : 0 < zs.length
  · obtain ⟨b, off, rfl, hB, hlt, hf, hcell⟩ := hc h0
    refine (mark_some b off cap k zs w hn hk0 hk hlt hf hcell).mono fun e w' ⟨he, hb, hfz, hcl⟩ => ⟨he, hb.mono hB, _, cap, by rw [marks_length], fun _ => ⟨b, off, rfl, hB, Nat.lt_of_lt_of_le hlt hb.size, fun i hi => ?_, fun i hi => ?_⟩⟩
    · rw [marks_length] at hi; exact hfz i hi
    · rw [marks_length] at hi; rw [marks_get _ _ _ hi]; exact hcl i hi
  · have : zs = [] := List.eq_nil_of_length_eq_zero (by omega)
    subst this
    exact (mark_none a cap k w).mono fun e w' ⟨he, hw⟩ => ⟨he, hw ▸ Below.refl _ _, hw ▸ Own.empty B w a cap⟩
theorem held_some (b off cap k n : Nat) (w : World) (hn : n ≤ 1048577) (hk0 : 1 ≤ k) (hk : k ≤ 1048576) (hlt : b < w.heap.size) (hcell : ∀ i, i < n → w.cell? ⟨b, off + i, none⟩ = some (.string (mk (k + i)))) :
    Calls Tryz.prog 19 #[.slice (some ⟨b, off, none⟩) n cap, .int .i64 k] w fun e w' => e = .returned (.int .i64 ((k + n : Nat) : Int)) ∧ On w w' := by
  have HC := Lib.hid hcell
  clear hcell
  go_enter Tryz.func19, Tryz.ntmps19
  go_wp2
  go_loopw [1, 5] (fun m i wr => ∃ j : Nat, j ≤ n ∧ i = .int .i64 j ∧ m = .int .i64 ((k + j : Nat) : Int) ∧ On w wr) (fun _ i _ => n - (intOf i).toNat)
  case atStart => exact ⟨0, Nat.zero_le _, rfl, rfl, On.refl _⟩
  case round =>
    obtain ⟨j, hj, rfl, rfl, hb⟩ := hrel
    have hlt1 : b < wr.heap.size := Nat.lt_of_lt_of_le hlt hb.size
    have HB := Lib.hid hb
    by_cases hlt2 : j < n
    · have hM := fun w => markText (k + j) w (by omega) (by omega)
      rw [Int.natCast_add] at hM
      obtain ⟨z, hz⟩ : ∃ z, z = mk (k + j) := ⟨_, rfl⟩
      have hc1 : wr.cell? ⟨b, off + j, none⟩ = some (.string z) := by rw [hz]; exact (hb.cell (by exact hlt)).trans (HC.out j hlt2)
      rw [← hz] at hM
      have HM := Lib.hid hM
      have hji : (j : Int) < (n : Int) := by omega
      have hzz : (z.toList == z.toList) = true := beq_self_eq_true _
      clear hM hz hb
      go_wp2_with fail
      refine wp_region_onh (by kernel_rfl) (by kernel_rfl) ?_
      repeat (refine rest_step (fun K hK => ?_); go_simp; first | (refine hK _ ?_; clear hK K) | (apply Exists.intro; refine ⟨fun v1 hv1 => ?_, hK _ ?_⟩; (first | with_reducible exact rfl | with_reducible exact ⟨rfl, rfl⟩ | with_reducible exact Calls.on hv1 (HM.out _) | (obtain ⟨hc, hf⟩ := bcell hv1; go_simp; first | with_reducible exact rfl | with_reducible exact ⟨rfl, rfl⟩ | exact rfl | exact ⟨rfl, rfl⟩)); clear hK K))
      refine rest_nil ?_
      intro w3 r3
      have hO3 := On.trans HB.out r3
      go_wp2_with fail
      go_roundw
      case rel => exact ⟨j + 1, by omega, by go_num, by go_num, hO3⟩
      case measure => simp [intOf]; omega
    · obtain rfl : j = n := by omega
      go_wp2
      go_ret
      exact ⟨rfl, HB.out⟩
theorem held_none (a : Option Addr) (cap k : Nat) (w : World) :
    Calls Tryz.prog 19 #[.slice a 0 cap, .int .i64 k] w fun e w' => e = .returned (.int .i64 k) ∧ w' = w := by
  go_enter Tryz.func19, Tryz.ntmps19
  go_wp2
  refine wp_loop_rounds 1 ?_
  rw [rounds_succ]
  go_wp2
  go_ret
  exact ⟨rfl, rfl⟩
/-- The look at the marks: they are there, and it returns the next one. -/
theorem held (B k n : Nat) (v : Value) (w : World) (hn : n ≤ 1048577) (hk0 : 1 ≤ k) (hk : k ≤ 1048576) (h : Own B w v (marks k n)) :
    Calls Tryz.prog 19 #[v, .int .i64 k] w fun e w' => e = .returned (.int .i64 ((k + n : Nat) : Int)) ∧ On w w' := by
  obtain ⟨a, cap, rfl, hc⟩ := h
  rw [marks_length] at *
  by_cases h0 : 0 < n
  · obtain ⟨b, off, rfl, hB, hlt, hf, hcell⟩ := hc h0
    exact held_some b off cap k n w hn hk0 hk hlt (fun i hi => by have := hcell i hi; rw [marks_get _ _ _ hi] at this; exact this)
  · obtain rfl : n = 0 := by omega
    exact (held_none a cap k w).mono fun e w' ⟨he, hw⟩ => ⟨he, hw ▸ On.refl _⟩
end Go.Proofs.YtpnmodmaabhldaaGreat.MarkS
