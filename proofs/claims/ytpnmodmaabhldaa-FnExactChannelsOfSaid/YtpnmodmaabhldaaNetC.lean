
/-
  The laws' marking of a network, and the channels of its sectors, in the model and in the program. Condition: at most 1048576 elements in each list, and numbers and bytes in each of these.
-/
import Derived.Test.YtpnmodmaabhldaaMrk
import Derived.Test.YtpnmodmaabhldaaNetI
import Derived.Test.YtpnmodmaabhldaaBox
import Derived.Test.YtpnmodmaabhldaaClone
import Derived.Maps.AppendAt
import Derived.Lib.SmallJoins
namespace Go.Proofs.Ytpnmodmaabhldaa.Net
open Go.RowKit
open Mrk (Kd Nst)
open Ints (Ints Own)
open Clone (intCells own_of_row)

theorem In.boxed (w : World) (a0 a1 a2 a3 : Option Addr) (c0 c1 c2 c3 : Nat) (N : T) (t : TypeId) (h0 : Sites.Rows w (.slice a0 N.f0.length c0) N.f0) (h1 : Secs.Rows w (.slice a1 N.f1.length c1) N.f1) (h2 : Ants.Rows w (.slice a2 N.f2.length c2) N.f2) (h3 : Rads.Rows w (.slice a3 N.f3.length c3) N.f3) :
    In (w.alloc (.cells #[.slice a0 N.f0.length c0, .slice a1 N.f1.length c1, .slice a2 N.f2.length c2, .slice a3 N.f3.length c3] t)) w.heap.size N :=
  ⟨⟨a0, c0, by simp [go_sem], h0.on (On.alloc (On.refl _) _)⟩, ⟨a1, c1, by simp [go_sem], h1.on (On.alloc (On.refl _) _)⟩, ⟨a2, c2, by simp [go_sem], h2.on (On.alloc (On.refl _) _)⟩, ⟨a3, c3, by simp [go_sem], h3.on (On.alloc (On.refl _) _)⟩⟩
/-- A network in memory that may be marked. -/
def Shp (B E : Nat) (w : World) (N : T) (v : Value) : Prop := ∃ v0 v1 v2 v3, v = .agg #[v0, v1, v2, v3] ∧ Sites.ShpS B E w N.f0.length v0 ∧ Secs.ShpS B E w N.f1.length v1 ∧ Ants.ShpS B E w N.f2.length v2 ∧ Rads.ShpS B E w N.f3.length v3
theorem Shp.kd {B E : Nat} {w w' : World} {N : T} {v : Value} (h : Shp B E w N v) (k : Kd B E w w') : Shp B E w' N v := by
  obtain ⟨v0, v1, v2, v3, e, h0, h1, h2, h3⟩ := h
  exact ⟨v0, v1, v2, v3, e, h0.kd k, h1.kd k, h2.kd k, h3.kd k⟩
theorem Shp.of_is {B : Nat} {w : World} {v : Value} {N : T} (h : IsO B w v N) (hs : N.Small 1048576) : Shp B w.heap.size w N v := by
  obtain ⟨v0, v1, v2, v3, e, h0, h1, h2, h3⟩ := h
  exact ⟨v0, v1, v2, v3, e, Sites.ShpS.of_rows h0, Secs.ShpS.of_rows h1, Ants.ShpS.of_rows h2 hs.2.2.1.2, Rads.ShpS.of_rows h3 hs.2.2.2.2⟩
set_option maxHeartbeats 4000000 in
theorem mark (B E k : Nat) (v : Value) (N : T) (w : World) (hN : N.Small 1048576) (hk : k ≤ 144115188075855872) (hB : B ≤ w.heap.size) (h : Shp B E w N v) :
    Calls Try.prog 24 #[v, .int .i64 k] w fun e w' => ∃ r : Nat, e = .returned (.int .i64 r) ∧ r ≤ 1152921504606846976 ∧ Kd B E w w' := by
  obtain ⟨v0, v1, v2, v3, rfl, h0, h1, h2, h3⟩ := h
  obtain ⟨n0, hn0⟩ : ∃ n, n = N.f0.length := ⟨_, rfl⟩
  have m0 : n0 ≤ 1048576 := by rw [hn0]; exact hN.1.1
  rw [← hn0] at h0
  have H0 := Lib.hid h0
  obtain ⟨a0, cap0, rfl, -⟩ := h0
  obtain ⟨n1, hn1⟩ : ∃ n, n = N.f1.length := ⟨_, rfl⟩
  have m1 : n1 ≤ 1048576 := by rw [hn1]; exact hN.2.1.1
  rw [← hn1] at h1
  have H1 := Lib.hid h1
  obtain ⟨a1, cap1, rfl, -⟩ := h1
  obtain ⟨n2, hn2⟩ : ∃ n, n = N.f2.length := ⟨_, rfl⟩
  have m2 : n2 ≤ 1048576 := by rw [hn2]; exact hN.2.2.1.1
  rw [← hn2] at h2
  have H2 := Lib.hid h2
  obtain ⟨a2, cap2, rfl, -⟩ := h2
  obtain ⟨n3, hn3⟩ : ∃ n, n = N.f3.length := ⟨_, rfl⟩
  have m3 : n3 ≤ 1048576 := by rw [hn3]; exact hN.2.2.2.1
  rw [← hn3] at h3
  have H3 := Lib.hid h3
  obtain ⟨a3, cap3, rfl, -⟩ := h3
  clear hN hn0 hn1 hn2 hn3
  go_enter Try.func24, Try.ntmps24
  go_wp2_with fail
  generalize hW0 : w.alloc (.cells #[.slice a0 n0 cap0, .slice a1 n1 cap1, .slice a2 n2 cap2, .slice a3 n3 cap3] 35) = w0
  have K0 := Lib.hid (show Kd B E w w0 by rw [← hW0]; exact Kd.of_on (On.alloc (On.refl _) _) hB)
  have X := Lib.hid (show Bx.Box w0 w.heap.size [.slice a0 n0 cap0, .slice a1 n1 cap1, .slice a2 n2 cap2, .slice a3 n3 cap3] by rw [← hW0]; exact Bx.Box.new _ _ _)
  clear hW0
  refine (Sites.mark B E k n0 _ _ m0 (by omega) (Nat.le_trans hB K0.out.size) (H0.out.kd K0.out)).mono ?_
  rintro e w1 ⟨r1, rfl, hr1, k1⟩
  have y1 := k1.slc _ _ _ _ (X.out.2 1 _ rfl)
  have y2 := k1.slc _ _ _ _ (X.out.2 2 _ rfl)
  have y3 := k1.slc _ _ _ _ (X.out.2 3 _ rfl)
  have xz := X.out.1
  have xz := Nat.lt_of_lt_of_le xz k1.size
  have K1 := Lib.hid (K0.out.trans k1)
  clear k1
  go_wp2_with fail
  refine (Secs.mark B E r1 n1 _ _ m1 (by omega) (Nat.le_trans hB K1.out.size) (H1.out.kd K1.out)).mono ?_
  rintro e w2 ⟨r2, rfl, hr2, k2⟩
  have y2 := k2.slc _ _ _ _ y2
  have y3 := k2.slc _ _ _ _ y3
  have xz := Nat.lt_of_lt_of_le xz k2.size
  have K2 := Lib.hid (K1.out.trans k2)
  clear k2
  go_wp2_with fail
  refine (Ants.mark B E r2 n2 _ _ m2 (by omega) (Nat.le_trans hB K2.out.size) (H2.out.kd K2.out)).mono ?_
  rintro e w3 ⟨r3, rfl, hr3, k3⟩
  have y3 := k3.slc _ _ _ _ y3
  have xz := Nat.lt_of_lt_of_le xz k3.size
  have K3 := Lib.hid (K2.out.trans k3)
  clear k3
  go_wp2_with fail
  refine (Rads.mark B E r3 n3 _ _ m3 (by omega) (Nat.le_trans hB K3.out.size) (H3.out.kd K3.out)).mono ?_
  rintro e w4 ⟨r4, rfl, hr4, k4⟩
  have xz := Nat.lt_of_lt_of_le xz k4.size
  have K4 := Lib.hid (K3.out.trans k4)
  clear k4
  go_wp2_with fail
  go_ret
  exact ⟨r4, rfl, by omega, K4.out⟩
theorem ret_si {v : Value} {a b : Int} (h : a = b) : Ending.returned (.tuple #[v, .int .i64 a]) = .returned (.tuple #[v, .int .i64 b]) := by rw [h]
theorem cells_snoc (zs : List Int) (x : Int) : intCells zs ++ [.int .i64 x] = intCells (zs ++ [x]) := by unfold intCells; rw [List.map_append]; rfl
theorem cell_one_new' (w : World) (v : Value) (t : TypeId) : ∀ (j : Nat) (u : Value), [v][j]? = some u → (w.alloc (.cells #[v] t)).cell? (Addr.add ⟨w.heap.size, 0, none⟩ j) = some u := by
  intro j u h
  cases j with
  | zero =>
    obtain rfl : v = u := by simpa using h
    simp [Addr.add]
  | succ j => simp at h
/-- The channels of the first k sectors. -/
def pre (zs : List Secs.Z) (k : Nat) : List Int := (zs.take k).map (fun s => s.x8)
theorem pre_len {zs : List Secs.Z} {k : Nat} (h : k ≤ zs.length) : (pre zs k).length = k := by unfold pre; rw [List.length_map, List.length_take]; omega
theorem pre_succ {zs : List Secs.Z} {k : Nat} (h : k < zs.length) : pre zs (k + 1) = pre zs k ++ [(zs.getD k Secs.d0).x8] := by
  unfold pre
  rw [List.take_succ_eq_append_getElem h, List.map_append]
  simp [List.getD_eq_getElem?_getD, h]
theorem pre_all (zs : List Secs.Z) : pre zs zs.length = zs.map (fun s => s.x8) := by unfold pre; rw [List.take_length]
theorem map_at {zs : List Secs.Z} {k : Nat} (h : k < zs.length) : (zs.map (fun s => s.x8)).getD k 0 = (zs.getD k Secs.d0).x8 := by simp [List.getD_eq_getElem?_getD, h]
def chV (N : T) : List Int := if okB N = true then N.f1.map (fun s => s.x8) else []
def chC (N : T) : Int := if okB N = true then 0 else 1
theorem ch_len (N : T) : (chV N).length ≤ N.f1.length := by
  unfold chV
  split
  · rw [List.length_map]; exact Nat.le_refl _
  · exact Nat.zero_le _
set_option maxHeartbeats 4000000 in
theorem impl_ChannelsOf (v : Value) (N : T) (w : World) (hN : N.Small 1048576) (h : Is w v N) :
    Calls Try.prog 22 #[v] w fun e w' => ∃ g, e = .returned (.tuple #[g, .int .i64 (chC N)]) ∧ Own w.heap.size w' g (chV N) ∧ On w w' := by
  obtain ⟨v0, v1, v2, v3, rfl, h0, h1, h2, h3⟩ := h
  have H0 := Lib.hid h0
  have H1 := Lib.hid h1
  have H2 := Lib.hid h2
  have H3 := Lib.hid h3
  obtain ⟨a0, cap0, rfl, -⟩ := h0
  obtain ⟨a1, cap1, rfl, -⟩ := h1
  obtain ⟨a2, cap2, rfl, -⟩ := h2
  obtain ⟨a3, cap3, rfl, -⟩ := h3
  have hmk := fun w => run_make_row' (P := Try.prog) 53 2 (.int .i64 0) 8 Try.underlying53 Ints.info rfl .i64 .i64 N.f1.length (by have := hN.2.1.1; omega) (by have := hN.2.1.1; omega) w
  go_enter Try.func22, Try.ntmps22
  go_wp2_with fail
  generalize hW0 : w.alloc (.cells #[.slice a0 N.f0.length cap0, .slice a1 N.f1.length cap1, .slice a2 N.f2.length cap2, .slice a3 N.f3.length cap3] 35) = w0
  have O0 := Lib.hid (show On w w0 by rw [← hW0]; repeat (first | with_reducible exact On.refl _ | with_reducible apply On.alloc | with_reducible apply On.drewN | with_reducible apply On.drew | with_reducible refine On.setCell ?_ (by (try simp) <;> omega) _))
  have I0 := Lib.hid (show In w0 w.heap.size N by rw [← hW0]; exact In.boxed w _ _ _ _ _ _ _ _ N _ H0.out H1.out H2.out H3.out)
  have X0 := Lib.hid (show Bx.Box w0 w.heap.size [.slice a0 N.f0.length cap0, .slice a1 N.f1.length cap1, .slice a2 N.f2.length cap2, .slice a3 N.f3.length cap3] by rw [← hW0]; exact Bx.Box.new _ _ _)
  clear hW0
  refine (impl_ValidNetwork _ N w0 hN ⟨_, _, _, _, rfl, H0.out.on O0.out, H1.out.on O0.out, H2.out.on O0.out, H3.out.on O0.out⟩).mono ?_
  rintro e w1 ⟨rfl, h1⟩
  have O1 := Lib.hid (O0.out.trans h1)
  have X1 := Lib.hid (X0.out.on h1)
  clear h1
  have xz := X1.out.1
  have x0 := X1.out.2 0 _ rfl
  have x1 := X1.out.2 1 _ rfl
  have x2 := X1.out.2 2 _ rfl
  have x3 := X1.out.2 3 _ rfl
  cases g : okB N with
  | false =>
    have en := Lib.hid (show chV N = [] by unfold chV; rw [g]; rfl)
    have ec := Lib.hid (show chC N = 1 by unfold chC; rw [g]; rfl)
    clear g
    go_wp2_with fail
    go_ret2
    exact ⟨_, ret_si ec.out.symm, (by rw [en.out]; exact ⟨none, 0, rfl, fun h => by simp at h⟩), by repeat (first | with_reducible exact On.refl _ | with_reducible apply On.alloc | with_reducible apply On.drewN | with_reducible apply On.drew | with_reducible refine On.setCell ?_ (by (try simp) <;> omega) _ | refine On.trans ?_ O1.out)⟩
  | true =>
    have en := Lib.hid (show chV N = N.f1.map (fun s => s.x8) by unfold chV; rw [g]; rfl)
    have ec := Lib.hid (show chC N = 0 by unfold chC; rw [g]; rfl)
    clear g
    go_wp2_with fail
    clear hmk
    have HS := Lib.hid H1.out
    obtain ⟨n, hn⟩ : ∃ n, n = N.f1.length := ⟨_, rfl⟩
    have nb : n ≤ 1048576 := by rw [hn]; exact hN.2.1.1
    have HL := Lib.hid hn
    rw [← hn]
    have W1 := Lib.hid (show On w1 (w1.alloc (.cells (madeCells #[.int .i64 0] n) 2)) from On.alloc (On.refl _) _)
    go_loopw [17] (fun i wr => ∃ k : Nat, k ≤ n ∧ i = .int .i64 k ∧ wr.rowIs w1.heap.size 2 n (fun j => if j < k then .int .i64 ((N.f1.map (fun s => s.x8)).getD j 0) else .int .i64 0) ∧ On w1 wr) (fun i _ => n - (intOf i).toNat)
    case atStart => exact ⟨0, Nat.zero_le _, rfl, (World.rowIs_made w1 (.int .i64 0) n _).congr fun i _ => by simp, W1.out⟩
    case round =>
      obtain ⟨k, hk, rfl, hrow, hb⟩ := hrel
      have HR := Lib.hid hrow
      have HB := Lib.hid hb
      clear hrow hb
      by_cases hlt2 : k < n
      · have hlti : (k : Int) < (n : Int) := by omega
        have hl2 : k < N.f1.length := by rw [← HL.out]; exact hlt2
        obtain ⟨b, off, hab, hblt, hcell⟩ := Secs.slice_of HS.out (by omega)
        subst hab
        obtain ⟨z, hz⟩ : ∃ z : Secs.Z, z = N.f1.getD k Secs.d0 := ⟨_, rfl⟩
        have E : Secs.El wr b (off + k * 9) z := by rw [hz]; exact ((hcell k hl2).on O1.out).on HB.out
        have HZ := Lib.hid hz
        have c0 := E.c0
        have c1 := E.c1
        have c2 := E.c2
        have c3 := E.c3
        have c4 := E.c4
        have c5 := E.c5
        have c6 := E.c6
        have c7 := E.c7
        have c8 := E.c8
        have hc2 : wr.cell? ⟨w1.heap.size, k, none⟩ = some (.int .i64 0) := by have := HR.out.cell hlt2; rw [if_neg (by omega)] at this; exact this
        have hf2 : wr.frozen? ⟨w1.heap.size, k, none⟩ = false := HR.out.frozen k
        have hg : w1.heap.size < wr.heap.size := HR.out.lt
        have hgn : ¬ w1.heap.size = wr.heap.size := by omega
        have hgm : ¬ wr.heap.size = w1.heap.size := by omega
        have hbr : b < wr.heap.size := HB.out.lts _ (O1.out.lts _ hblt)
        have hbn : ¬ b = wr.heap.size := by omega
        clear hz E hcell
        go_wp2_with fail
        go_roundw
        case rel =>
          refine ⟨k + 1, by omega, by go_num, ?_, ?_⟩
          · refine ((HR.out.set k _).alloc _).congr fun i _ => ?_
            by_cases h1 : i = k
            · subst h1
              rw [if_pos rfl, if_pos (by omega), map_at hl2, ← HZ.out]
            · rw [if_neg h1]
              by_cases h2 : i < k
              · rw [if_pos h2, if_pos (by omega)]
              · rw [if_neg h2, if_neg (by omega)]
          · exact On.alloc (HB.out.setCell (by exact Nat.le_refl _) _) _
        case measure => simp [intOf]; omega
      · obtain rfl : n = k := by omega
        have hfin := Lib.hid ((HR.out.congr fun i hi => by rw [if_pos (by omega)]) : wr.rowIs w1.heap.size _ n (fun j => .int .i64 ((N.f1.map (fun s => s.x8)).getD j 0)))
        have hml : (N.f1.map (fun s => s.x8)).length = n := by rw [List.length_map]; exact HL.out.symm
        go_wp2_with fail
        go_ret2
        exact ⟨_, ret_si ec.out.symm, (by rw [en.out]; have := Own.of_row (cap := n) (zs := N.f1.map (fun s => s.x8)) (by rw [hml]; exact hfin.out) O1.out.size; rw [hml] at this; exact this), O1.out.trans HB.out⟩
set_option maxHeartbeats 4000000 in
theorem spec_ChannelsOf (v : Value) (N : T) (w : World) (hN : N.Small 1048576) (h : Is w v N) :
    Calls Try.prog 21 #[v] w fun e w' => ∃ g, e = .returned (.tuple #[g, .int .i64 (chC N)]) ∧ Own w.heap.size w' g (chV N) ∧ On w w' := by
  obtain ⟨v0, v1, v2, v3, rfl, h0, h1, h2, h3⟩ := h
  have H0 := Lib.hid h0
  have H1 := Lib.hid h1
  have H2 := Lib.hid h2
  have H3 := Lib.hid h3
  obtain ⟨a0, cap0, rfl, -⟩ := h0
  obtain ⟨a1, cap1, rfl, -⟩ := h1
  obtain ⟨a2, cap2, rfl, -⟩ := h2
  obtain ⟨a3, cap3, rfl, -⟩ := h3
  go_enter Try.func21, Try.ntmps21
  go_wp2_with fail
  generalize hW0 : w.alloc (.cells #[.slice a0 N.f0.length cap0, .slice a1 N.f1.length cap1, .slice a2 N.f2.length cap2, .slice a3 N.f3.length cap3] 35) = w0
  have O0 := Lib.hid (show On w w0 by rw [← hW0]; repeat (first | with_reducible exact On.refl _ | with_reducible apply On.alloc | with_reducible apply On.drewN | with_reducible apply On.drew | with_reducible refine On.setCell ?_ (by (try simp) <;> omega) _))
  have I0 := Lib.hid (show In w0 w.heap.size N by rw [← hW0]; exact In.boxed w _ _ _ _ _ _ _ _ N _ H0.out H1.out H2.out H3.out)
  have X0 := Lib.hid (show Bx.Box w0 w.heap.size [.slice a0 N.f0.length cap0, .slice a1 N.f1.length cap1, .slice a2 N.f2.length cap2, .slice a3 N.f3.length cap3] by rw [← hW0]; exact Bx.Box.new _ _ _)
  clear hW0
  refine (spec_ok w.heap.size N _ hN I0.out).mono ?_
  rintro e w1 ⟨rfl, h1⟩
  have O1 := Lib.hid (O0.out.trans h1)
  have X1 := Lib.hid (X0.out.on h1)
  clear h1
  have xz := X1.out.1
  have x0 := X1.out.2 0 _ rfl
  have x1 := X1.out.2 1 _ rfl
  have x2 := X1.out.2 2 _ rfl
  have x3 := X1.out.2 3 _ rfl
  cases g : okB N with
  | false =>
    have en := Lib.hid (show chV N = [] by unfold chV; rw [g]; rfl)
    have ec := Lib.hid (show chC N = 1 by unfold chC; rw [g]; rfl)
    clear g
    go_wp2_with fail
    go_ret2
    exact ⟨_, ret_si ec.out.symm, (by rw [en.out]; exact ⟨none, 0, rfl, fun h => by simp at h⟩), by repeat (first | with_reducible exact On.refl _ | with_reducible apply On.alloc | with_reducible apply On.drewN | with_reducible apply On.drew | with_reducible refine On.setCell ?_ (by (try simp) <;> omega) _ | refine On.trans ?_ O1.out)⟩
  | true =>
    have en := Lib.hid (show chV N = N.f1.map (fun s => s.x8) by unfold chV; rw [g]; rfl)
    have ec := Lib.hid (show chC N = 0 by unfold chC; rw [g]; rfl)
    clear g
    go_wp2_with fail
    obtain ⟨i0, hi, hz0, hz1, hz2⟩ := info_parts Ints.info
    obtain ⟨n, hn⟩ : ∃ n, n = N.f1.length := ⟨_, rfl⟩
    have nb : n ≤ 1048576 := by rw [hn]; exact hN.2.1.1
    have HL := Lib.hid hn
    rw [← hn] at x1
    have X1 := Lib.hid (show Bx.Box w1 w.heap.size [.slice a0 N.f0.length cap0, .slice a1 n cap1] from ⟨xz, fun q v hq => by
      match q, hq with
      | 0, hq => rw [← Option.some.inj hq]; exact x0
      | 1, hq => rw [← Option.some.inj hq]; exact x1⟩)
    clear x0 x1 x2 x3 xz
    go_loopw [4, 5] (fun v i wr => ∃ k : Nat, k ≤ n ∧ i = .int .i64 k ∧ wr.ownsRow w1.heap.size 2 1 v k (intCells (pre N.f1 k)) ∧ On w1 wr) (fun _ i _ => n - (intOf i).toNat)
    case atStart => exact ⟨0, Nat.zero_le _, rfl, World.ownsRow_lit w1 #[] 0 (Nat.le_refl _) (by unfold maxLen; omega) rfl, On.alloc (On.refl _) _⟩
    case round =>
      obtain ⟨k, hk, rfl, hown, ho⟩ := hrel
      have HO := Lib.hid hown
      have HB := Lib.hid ho
      have xz := (X1.out.on ho).1
      have x1 := (X1.out.on ho).2 1 _ rfl
      clear hown ho
      by_cases hlt2 : k < n
      · have hlti : (k : Int) < (n : Int) := by omega
        have hl2 : k < N.f1.length := by rw [← HL.out]; exact hlt2
        obtain ⟨b, off, hab, hblt, hcell⟩ := Secs.slice_of H1.out (by omega)
        rw [hab] at x1
        obtain ⟨z, hz⟩ : ∃ z : Secs.Z, z = N.f1.getD k Secs.d0 := ⟨_, rfl⟩
        have c8 := (show Secs.El wr b (off + k * 9) z by rw [hz]; exact ((hcell k hl2).on O1.out).on HB.out).c8
        have T := Lib.hid (show pre N.f1 (k + 1) = pre N.f1 k ++ [z.x8] by rw [hz]; exact pre_succ hl2)
        have PL := Lib.hid (pre_len (zs := N.f1) (k := k) (by omega))
        have hbr : b < wr.heap.size := HB.out.lts _ (O1.out.lts _ hblt)
        have hsz := HB.out.size
        clear hz hcell hab
        go_wp2_with (at_builtin; refine wpList_append_own _ rfl (.tmp 16) (.tmp 23) 53 rfl w1.heap.size 2 i0 (.int .i64 0) 1 8 Try.underlying53 hi hz0 hz1 hz2 rfl (by decide) _ k _ rfl (HO.out.alloc _) ⟨wr.heap.size, 0, none⟩ 1 1 [.int .i64 z.x8] rfl rfl ?c1 ?c2 ?c3 ?c4 ?c5 ?_)
        case c1 => exact cell_one_new' _ _ _
        case c2 => intro u hu; simp at hu; subst hu; rfl
        case c3 => unfold maxLen; omega
        case c4 => omega
        case c5 => simp; omega
        intro v' w3 hown' hgrow _
        rw [cells_snoc, ← T.out] at hown'
        have HO2 := Lib.hid hown'
        have HB2 := Lib.hid (show On w1 w3 from Below.grown (On.alloc HB.out _) hgrow (by simp; omega) (fun k hk => (HO.out.lt k hk).1))
        clear hown' hgrow
        go_wp2_with fail
        go_roundw
        case rel => first | exact ⟨k + 1, by omega, by go_num, HO2.out, HB2.out⟩ | ((repeat apply Exists.intro); exact ⟨⟨k + 1, by omega, by go_num, HO2.out, HB2.out⟩, rfl⟩)
        case measure => simp [intOf]; omega
      · obtain rfl : n = k := by omega
        have hlti : ¬ (n : Int) < (n : Int) := by omega
        have hpl : pre N.f1 n = N.f1.map (fun s => s.x8) := by rw [HL.out]; exact pre_all _
        have ho2 := HO.out
        rw [hpl, show n = (N.f1.map (fun s => s.x8)).length by rw [List.length_map]; exact HL.out] at ho2
        obtain ⟨a', c', hv', hov⟩ := own_of_row ho2
        have hov2 : Own w1.heap.size wr (.slice a' N.f1.length c') (N.f1.map (fun s => s.x8)) := by rw [List.length_map] at hov; exact hov
        have HV := Lib.hid hov2
        clear hov hov2 ho2 hpl
        go_wp2_with fail
        go_ret2
        exact ⟨_, ret_si ec.out.symm, (by rw [en.out]; exact HV.out.mono O1.out.size), O1.out.trans HB.out⟩
end Go.Proofs.Ytpnmodmaabhldaa.Net
