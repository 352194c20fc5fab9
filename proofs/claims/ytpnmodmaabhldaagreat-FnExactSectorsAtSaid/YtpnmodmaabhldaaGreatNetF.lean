
/-
  Networks in memory: where a name is, in the model, and what a sector refers to. Condition: at most 1048576 elements in each list, and bytes in each text.
-/
import Derived.Test.YtpnmodmaabhldaaGreatNet
import Derived.Test.YtpnmodmaabhldaaGreatNam
import Derived.Test.YtpnmodmaabhldaaGreatSiteOk
import Derived.Test.YtpnmodmaabhldaaGreatSecOk
import Derived.Test.YtpnmodmaabhldaaGreatAntOkO
import Derived.Test.YtpnmodmaabhldaaGreatRadOkO
import Derived.Test.YtpnmodmaabhldaaGreatOnH
namespace Go.Proofs.YtpnmodmaabhldaaGreat.Net
open Go.RowKit

/-- The block g holds the network. -/
structure In (w : World) (g : Nat) (N : T) : Prop where
  c0 : ∃ a cap, w.cell? ⟨g, 0, none⟩ = some (.slice a N.f0.length cap) ∧ Sites.Rows w (.slice a N.f0.length cap) N.f0
  c1 : ∃ a cap, w.cell? ⟨g, 1, none⟩ = some (.slice a N.f1.length cap) ∧ Secs.Rows w (.slice a N.f1.length cap) N.f1
  c2 : ∃ a cap, w.cell? ⟨g, 2, none⟩ = some (.slice a N.f2.length cap) ∧ Ants.Rows w (.slice a N.f2.length cap) N.f2
  c3 : ∃ a cap, w.cell? ⟨g, 3, none⟩ = some (.slice a N.f3.length cap) ∧ Rads.Rows w (.slice a N.f3.length cap) N.f3
theorem In.lt {w : World} {g : Nat} {N : T} (h : In w g N) : g < w.heap.size := by obtain ⟨a, cap, hc, _⟩ := h.c0; exact World.block_lt_of_cell? w _ hc
theorem In.on {w w' : World} {g : Nat} {N : T} (h : In w g N) (ho : On w w') : In w' g N where
  c0 := by obtain ⟨a, cap, hc, hr⟩ := h.c0; exact ⟨a, cap, (ho.cell (by exact h.lt)).trans hc, hr.on ho⟩
  c1 := by obtain ⟨a, cap, hc, hr⟩ := h.c1; exact ⟨a, cap, (ho.cell (by exact h.lt)).trans hc, hr.on ho⟩
  c2 := by obtain ⟨a, cap, hc, hr⟩ := h.c2; exact ⟨a, cap, (ho.cell (by exact h.lt)).trans hc, hr.on ho⟩
  c3 := by obtain ⟨a, cap, hc, hr⟩ := h.c3; exact ⟨a, cap, (ho.cell (by exact h.lt)).trans hc, hr.on ho⟩

theorem spec_find0 (g : Nat) (x : ByteArray) (N : T) (w : World) (hn : N.Small 1048576) (hi : In w g N) :
    Calls Tryz.prog 48 #[.pointer (some ⟨g, 0, none⟩), .string x] w fun e w' => e = .returned (.int .i64 (Nam.find Sites.nm Sites.d0 N.f0 x)) ∧ w = w' := by
  have hg := hi.lt
  obtain ⟨a, cap, hc, h⟩ := hi.c0
  have hn := hn.1.1
  have H := Lib.hid h
  obtain ⟨n, hnn⟩ : ∃ n, n = N.f0.length := ⟨_, rfl⟩
  have HL := Lib.hid hnn
  rw [← hnn] at hn hc
  clear h hnn hi
  go_enter Tryz.func48, Tryz.ntmps48
  go_wp2
  go_loop [5] (fun i => ∃ k : Nat, k ≤ n ∧ i = .int .i64 k ∧ ∀ j, j < k → Nam.is Sites.nm Sites.d0 N.f0 x j = false) (fun i => n - (intOf i).toNat)
  case atStart => exact ⟨0, Nat.zero_le _, rfl, fun j h => by omega⟩
  case round =>
    obtain ⟨k, hk, rfl, hno⟩ := hrel
    have HN := Lib.hid hno
    clear hno
    by_cases hlt : k < n
    · have hlti : (k : Int) < (n : Int) := by omega
      have hlt2 : k < N.f0.length := by rw [← HL.out]; exact hlt
      obtain ⟨b, off, ha, hb, hcell⟩ := Sites.slice_of H.out (by omega)
      rw [ha] at hc
      obtain ⟨y, hy⟩ : ∃ y, y = (N.f0.getD k Sites.d0).x0 := ⟨_, rfl⟩
      have c1 : w.cell? ⟨b, off + k * 4, none⟩ = some (.string y) := by rw [hy]; exact (hcell k hlt2).c0
      have hy2 : Nam.is Sites.nm Sites.d0 N.f0 x k = (y.toList == x.toList) := by unfold Nam.is Sites.nm; rw [hy]
      clear hcell
      cases ht : (y.toList == x.toList) with
      | true =>
        have ht2 : y.toList = x.toList := by simpa using ht
        have en := Lib.hid (show Nam.find Sites.nm Sites.d0 N.f0 x = (k : Int) from Nam.first_at hlt2 (hy2.trans ht) HN.out)
        clear hy hy2 hlt2
        go_wp2
        go_ret
        exact ⟨ret_int en.out.symm, rfl⟩
      | false =>
        have ht2 : ¬ y.toList = x.toList := by simpa using ht
        have HN2 := Lib.hid (show ∀ j, j < k + 1 → Nam.is Sites.nm Sites.d0 N.f0 x j = false from fun j hj => by
          by_cases g : j = k
          · rw [g, hy2]; exact ht
          · exact HN.out j (by omega))
        clear hy hy2 hlt2
        go_wp2
        go_round
        case rel => exact ⟨k + 1, by omega, by go_num, HN2.out⟩
        case measure => simp [intOf]; omega
    · have en := Lib.hid (show Nam.find Sites.nm Sites.d0 N.f0 x = -1 from Nam.first_none fun j hj => HN.out j (by rw [← HL.out] at hj; omega))
      have hlti : ¬ (k : Int) < (n : Int) := by omega
      go_wp2
      go_ret
      exact ⟨ret_int en.out.symm, rfl⟩

theorem spec_find1 (g : Nat) (x : ByteArray) (N : T) (w : World) (hn : N.Small 1048576) (hi : In w g N) :
    Calls Tryz.prog 64 #[.pointer (some ⟨g, 0, none⟩), .string x] w fun e w' => e = .returned (.int .i64 (Nam.find Secs.nm Secs.d0 N.f1 x)) ∧ w = w' := by
  have hg := hi.lt
  obtain ⟨a, cap, hc, h⟩ := hi.c1
  have hn := hn.2.1.1
  have H := Lib.hid h
  obtain ⟨n, hnn⟩ : ∃ n, n = N.f1.length := ⟨_, rfl⟩
  have HL := Lib.hid hnn
  rw [← hnn] at hn hc
  clear h hnn hi
  go_enter Tryz.func64, Tryz.ntmps64
  go_wp2
  go_loop [5] (fun i => ∃ k : Nat, k ≤ n ∧ i = .int .i64 k ∧ ∀ j, j < k → Nam.is Secs.nm Secs.d0 N.f1 x j = false) (fun i => n - (intOf i).toNat)
  case atStart => exact ⟨0, Nat.zero_le _, rfl, fun j h => by omega⟩
  case round =>
    obtain ⟨k, hk, rfl, hno⟩ := hrel
    have HN := Lib.hid hno
    clear hno
    by_cases hlt : k < n
    · have hlti : (k : Int) < (n : Int) := by omega
      have hlt2 : k < N.f1.length := by rw [← HL.out]; exact hlt
      obtain ⟨b, off, ha, hb, hcell⟩ := Secs.slice_of H.out (by omega)
      rw [ha] at hc
      obtain ⟨y, hy⟩ : ∃ y, y = (N.f1.getD k Secs.d0).x0 := ⟨_, rfl⟩
      have c1 : w.cell? ⟨b, off + k * 9, none⟩ = some (.string y) := by rw [hy]; exact (hcell k hlt2).c0
      have hy2 : Nam.is Secs.nm Secs.d0 N.f1 x k = (y.toList == x.toList) := by unfold Nam.is Secs.nm; rw [hy]
      clear hcell
      cases ht : (y.toList == x.toList) with
      | true =>
        have ht2 : y.toList = x.toList := by simpa using ht
        have en := Lib.hid (show Nam.find Secs.nm Secs.d0 N.f1 x = (k : Int) from Nam.first_at hlt2 (hy2.trans ht) HN.out)
        clear hy hy2 hlt2
        go_wp2
        go_ret
        exact ⟨ret_int en.out.symm, rfl⟩
      | false =>
        have ht2 : ¬ y.toList = x.toList := by simpa using ht
        have HN2 := Lib.hid (show ∀ j, j < k + 1 → Nam.is Secs.nm Secs.d0 N.f1 x j = false from fun j hj => by
          by_cases g : j = k
          · rw [g, hy2]; exact ht
          · exact HN.out j (by omega))
        clear hy hy2 hlt2
        go_wp2
        go_round
        case rel => exact ⟨k + 1, by omega, by go_num, HN2.out⟩
        case measure => simp [intOf]; omega
    · have en := Lib.hid (show Nam.find Secs.nm Secs.d0 N.f1 x = -1 from Nam.first_none fun j hj => HN.out j (by rw [← HL.out] at hj; omega))
      have hlti : ¬ (k : Int) < (n : Int) := by omega
      go_wp2
      go_ret
      exact ⟨ret_int en.out.symm, rfl⟩

theorem spec_find2 (g : Nat) (x : ByteArray) (N : T) (w : World) (hn : N.Small 1048576) (hi : In w g N) :
    Calls Tryz.prog 132 #[.pointer (some ⟨g, 0, none⟩), .string x] w fun e w' => e = .returned (.int .i64 (Nam.find Ants.nm Ants.d0 N.f2 x)) ∧ w = w' := by
  have hg := hi.lt
  obtain ⟨a, cap, hc, h⟩ := hi.c2
  have hn := hn.2.2.1.1
  have H := Lib.hid h
  obtain ⟨n, hnn⟩ : ∃ n, n = N.f2.length := ⟨_, rfl⟩
  have HL := Lib.hid hnn
  rw [← hnn] at hn hc
  clear h hnn hi
  go_enter Tryz.func132, Tryz.ntmps132
  go_wp2
  go_loop [5] (fun i => ∃ k : Nat, k ≤ n ∧ i = .int .i64 k ∧ ∀ j, j < k → Nam.is Ants.nm Ants.d0 N.f2 x j = false) (fun i => n - (intOf i).toNat)
  case atStart => exact ⟨0, Nat.zero_le _, rfl, fun j h => by omega⟩
  case round =>
    obtain ⟨k, hk, rfl, hno⟩ := hrel
    have HN := Lib.hid hno
    clear hno
    by_cases hlt : k < n
    · have hlti : (k : Int) < (n : Int) := by omega
      have hlt2 : k < N.f2.length := by rw [← HL.out]; exact hlt
      obtain ⟨b, off, ha, hb, hcell⟩ := Ants.slice_of H.out (by omega)
      rw [ha] at hc
      obtain ⟨y, hy⟩ : ∃ y, y = (N.f2.getD k Ants.d0).x0 := ⟨_, rfl⟩
      have c1 : w.cell? ⟨b, off + k * 4, none⟩ = some (.string y) := by rw [hy]; exact (hcell k hlt2).c0
      have hy2 : Nam.is Ants.nm Ants.d0 N.f2 x k = (y.toList == x.toList) := by unfold Nam.is Ants.nm; rw [hy]
      clear hcell
      cases ht : (y.toList == x.toList) with
      | true =>
        have ht2 : y.toList = x.toList := by simpa using ht
        have en := Lib.hid (show Nam.find Ants.nm Ants.d0 N.f2 x = (k : Int) from Nam.first_at hlt2 (hy2.trans ht) HN.out)
        clear hy hy2 hlt2
        go_wp2
        go_ret
        exact ⟨ret_int en.out.symm, rfl⟩
      | false =>
        have ht2 : ¬ y.toList = x.toList := by simpa using ht
        have HN2 := Lib.hid (show ∀ j, j < k + 1 → Nam.is Ants.nm Ants.d0 N.f2 x j = false from fun j hj => by
          by_cases g : j = k
          · rw [g, hy2]; exact ht
          · exact HN.out j (by omega))
        clear hy hy2 hlt2
        go_wp2
        go_round
        case rel => exact ⟨k + 1, by omega, by go_num, HN2.out⟩
        case measure => simp [intOf]; omega
    · have en := Lib.hid (show Nam.find Ants.nm Ants.d0 N.f2 x = -1 from Nam.first_none fun j hj => HN.out j (by rw [← HL.out] at hj; omega))
      have hlti : ¬ (k : Int) < (n : Int) := by omega
      go_wp2
      go_ret
      exact ⟨ret_int en.out.symm, rfl⟩

theorem spec_find3 (g : Nat) (x : ByteArray) (N : T) (w : World) (hn : N.Small 1048576) (hi : In w g N) :
    Calls Tryz.prog 133 #[.pointer (some ⟨g, 0, none⟩), .string x] w fun e w' => e = .returned (.int .i64 (Nam.find Rads.nm Rads.d0 N.f3 x)) ∧ w = w' := by
  have hg := hi.lt
  obtain ⟨a, cap, hc, h⟩ := hi.c3
  have hn := hn.2.2.2.1
  have H := Lib.hid h
  obtain ⟨n, hnn⟩ : ∃ n, n = N.f3.length := ⟨_, rfl⟩
  have HL := Lib.hid hnn
  rw [← hnn] at hn hc
  clear h hnn hi
  go_enter Tryz.func133, Tryz.ntmps133
  go_wp2
  go_loop [5] (fun i => ∃ k : Nat, k ≤ n ∧ i = .int .i64 k ∧ ∀ j, j < k → Nam.is Rads.nm Rads.d0 N.f3 x j = false) (fun i => n - (intOf i).toNat)
  case atStart => exact ⟨0, Nat.zero_le _, rfl, fun j h => by omega⟩
  case round =>
    obtain ⟨k, hk, rfl, hno⟩ := hrel
    have HN := Lib.hid hno
    clear hno
    by_cases hlt : k < n
    · have hlti : (k : Int) < (n : Int) := by omega
      have hlt2 : k < N.f3.length := by rw [← HL.out]; exact hlt
      obtain ⟨b, off, ha, hb, hcell⟩ := Rads.slice_of H.out (by omega)
      rw [ha] at hc
      obtain ⟨y, hy⟩ : ∃ y, y = (N.f3.getD k Rads.d0).x0 := ⟨_, rfl⟩
      have c1 : w.cell? ⟨b, off + k * 6, none⟩ = some (.string y) := by rw [hy]; exact (hcell k hlt2).c0
      have hy2 : Nam.is Rads.nm Rads.d0 N.f3 x k = (y.toList == x.toList) := by unfold Nam.is Rads.nm; rw [hy]
      clear hcell
      cases ht : (y.toList == x.toList) with
      | true =>
        have ht2 : y.toList = x.toList := by simpa using ht
        have en := Lib.hid (show Nam.find Rads.nm Rads.d0 N.f3 x = (k : Int) from Nam.first_at hlt2 (hy2.trans ht) HN.out)
        clear hy hy2 hlt2
        go_wp2
        go_ret
        exact ⟨ret_int en.out.symm, rfl⟩
      | false =>
        have ht2 : ¬ y.toList = x.toList := by simpa using ht
        have HN2 := Lib.hid (show ∀ j, j < k + 1 → Nam.is Rads.nm Rads.d0 N.f3 x j = false from fun j hj => by
          by_cases g : j = k
          · rw [g, hy2]; exact ht
          · exact HN.out j (by omega))
        clear hy hy2 hlt2
        go_wp2
        go_round
        case rel => exact ⟨k + 1, by omega, by go_num, HN2.out⟩
        case measure => simp [intOf]; omega
    · have en := Lib.hid (show Nam.find Rads.nm Rads.d0 N.f3 x = -1 from Nam.first_none fun j hj => HN.out j (by rw [← HL.out] at hj; omega))
      have hlti : ¬ (k : Int) < (n : Int) := by omega
      go_wp2
      go_ret
      exact ⟨ret_int en.out.symm, rfl⟩

/-- What the sector refers to is there. -/
def refB (N : T) (z : Secs.Z) : Bool := Nam.has Sites.nm Sites.d0 N.f0 z.x1 && (Nam.has Ants.nm Ants.d0 N.f2 z.x2 && Nam.has Rads.nm Rads.d0 N.f3 z.x3)
theorem spec_refers (g b o : Nat) (z : Secs.Z) (N : T) (w : World) (hn : N.Small 1048576) (hi : In w g N) (hz : Secs.El w b o z) :
    Calls Tryz.prog 84 #[.pointer (some ⟨g, 0, none⟩), .pointer (some ⟨b, o, none⟩)] w fun e w' => e = .returned (.bool (refB N z)) ∧ On w w' := by
  have h0 := spec_find0 g z.x1 N w hn hi
  have h2 := spec_find2 g z.x2 N w hn hi
  have h3 := spec_find3 g z.x3 N w hn hi
  have en := Lib.hid (show refB N z = (decide (0 ≤ Nam.find Sites.nm Sites.d0 N.f0 z.x1) && (decide (0 ≤ Nam.find Ants.nm Ants.d0 N.f2 z.x2) && decide (0 ≤ Nam.find Rads.nm Rads.d0 N.f3 z.x3))) from rfl)
  generalize Nam.find Sites.nm Sites.d0 N.f0 z.x1 = i0 at *
  generalize Nam.find Ants.nm Ants.d0 N.f2 z.x2 = i2 at *
  generalize Nam.find Rads.nm Rads.d0 N.f3 z.x3 = i3 at *
  have H0 := Lib.hid h0
  have H2 := Lib.hid h2
  have H3 := Lib.hid h3
  have hb := hz.lt
  have c1 := hz.c1
  have c2 := hz.c2
  have c3 := hz.c3
  clear h0 h2 h3 hz hi
  by_cases p0 : 0 ≤ i0 <;> by_cases p2 : 0 ≤ i2 <;> by_cases p3 : 0 ≤ i3 <;> (
    go_enter Tryz.func84, Tryz.ntmps84
    go_wp2_with (first
      | (go_at_call 48; with_reducible refine H0.out.mono ?_; rintro e w' ⟨rfl, rfl⟩)
      | (go_at_call 132; with_reducible refine H2.out.mono ?_; rintro e w' ⟨rfl, rfl⟩)
      | (go_at_call 133; with_reducible refine H3.out.mono ?_; rintro e w' ⟨rfl, rfl⟩))
    go_ret
    exact ⟨ret_bool (by rw [en.out]; simp [p0, p2, p3]), On.refl _⟩)
end Go.Proofs.YtpnmodmaabhldaaGreat.Net
