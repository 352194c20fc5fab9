
/-
  FlatTerrain, in the model and in the program. No condition.
-/
import Derived.Test.YtmfhhmlndclkiaaFlat
namespace Go.Proofs.Ytmfhhmlndclkiaa.Flat
open Go.RowKit
open Plain
open Ints (Ints Own)
open Terr (sizeB of_size gB spec_size impl_gridValid impl_ground prod_n)
open TRec (OwnR In)

def okF (s x y h : Int) : Bool := sizeB s x y && inB h 0 90000
def flI (b : Bool) (v : Int) : Int := if b = true then v else 0
def flL (b : Bool) (c v : Int) : List Int := if b = true then List.replicate c.toNat v else []
def flC (b : Bool) : Int := if b = true then 0 else 2
theorem fl_len (s x y h : Int) : (flL (okF s x y h) (x * y) h).length + (flL (okF s x y h) (x * y) 0).length ≤ 1048576 := by
  cases hb : okF s x y h with
  | false => exact (show ([] : List Int).length + ([] : List Int).length ≤ 1048576 by decide)
  | true =>
    unfold okF at hb
    rw [Bool.and_eq_true] at hb
    have q := of_size hb.1
    have := prod_n q.2.1.1 q.2.1.2 q.2.2.1.1 q.2.2.1.2
    show (List.replicate (x * y).toNat h).length + (List.replicate (x * y).toNat 0).length ≤ 1048576
    rw [List.length_replicate, List.length_replicate]
    omega
theorem nilR (w : World) (B : Nat) : OwnR B w none 0 0 none 0 0 [] [] := ⟨rfl, rfl, Own.empty B w none 0, Own.empty B w none 0, fun h _ => absurd h (by decide)⟩
theorem ok_1 {s x y h : Int} (k : sizeB s x y = false) : okF s x y h = false := by unfold okF; rw [k]; rfl
theorem ok_2 {s x y h : Int} (k : inB h 0 90000 = false) : okF s x y h = false := by unfold okF; rw [k]; simp
theorem ok_3 {s x y h : Int} (k : sizeB s x y = true) (q : inB h 0 90000 = true) : okF s x y h = true := by unfold okF; rw [k, q]; rfl
theorem own_five {w : World} {B0 A B n R : Nat} {h : Int} (hr : Rows w B0 A B n h n) (hA : R ≠ A) (hB : R ≠ B) (u0 u1 u2 u3 u4 : Value) :
    Rows (((((w.setCell ⟨R, 0, none⟩ u0).setCell ⟨R, 1, none⟩ u1).setCell ⟨R, 2, none⟩ u2).setCell ⟨R, 3, none⟩ u3).setCell ⟨R, 4, none⟩ u4) B0 A B n h n :=
  Rows.set (Rows.set (Rows.set (Rows.set (Rows.set hr hA hB _) hA hB _) hA hB _) hA hB _) hA hB _
theorem Rows.mono {W : World} {B0 B1 A B n : Nat} {h : Int} {k : Nat} (hr : Rows W B1 A B n h k) (hb : B0 ≤ B1) : Rows W B0 A B n h k := ⟨hr.1, hr.2.1, Nat.le_trans hb hr.2.2.1, Nat.le_trans hb hr.2.2.2.1, hr.2.2.2.2⟩
set_option maxRecDepth 100000 in
set_option maxHeartbeats 4000000 in
theorem spec_FlatTerrain (s x y h : Int) (w : World) :
    Calls Try.prog 19 #[.int .i64 s, .int .i64 x, .int .i64 y, .int .i64 h] w fun e w' => ∃ a3 c3 a4 c4, e = .returned (.tuple #[.agg #[.int .i64 (flI (okF s x y h) s), .int .i64 (flI (okF s x y h) x), .int .i64 (flI (okF s x y h) y), .slice a3 (flL (okF s x y h) (x * y) h).length c3, .slice a4 (flL (okF s x y h) (x * y) 0).length c4], .int .i64 (flC (okF s x y h))]) ∧ OwnR w.heap.size w' a3 (flL (okF s x y h) (x * y) h).length c3 a4 (flL (okF s x y h) (x * y) 0).length c4 (flL (okF s x y h) (x * y) h) (flL (okF s x y h) (x * y) 0) ∧ On w w' := by
  cases k1 : sizeB s x y with
  | false =>
    have HZ := Lib.hid (fun w => show Calls Try.prog 52 #[.int .i64 s, .int .i64 x, .int .i64 y] w (fun e w' => e = .returned (.bool false) ∧ w = w') from by have := spec_size s x y w; rw [k1] at this; exact this)
    have hok := ok_1 (h := h) k1
    rw [hok]
    go_enter Try.func19, Try.ntmps19
    go_wp2_with (first | (go_at_call 52; refine (HZ.out _).mono ?_; rintro e w' ⟨rfl, rfl⟩) | (go_at_call 53; refine (Arith.l00In _ _ _ _).mono ?_; rintro e w' ⟨rfl, rfl⟩))
    refine bodyPost_ret (v := .tuple #[.agg #[.int .i64 0, .int .i64 0, .int .i64 0, .slice none 0 0, .slice none 0 0], .int .i64 2]) (by simp [results, Try.results19, go_sem]) rfl ⟨_, _, _, _, rfl, nilR _ _, ?_⟩
    exact On.alloc (On.refl _) _
  | true =>
    have HZ := Lib.hid (fun w => show Calls Try.prog 52 #[.int .i64 s, .int .i64 x, .int .i64 y] w (fun e w' => e = .returned (.bool true) ∧ w = w') from by have := spec_size s x y w; rw [k1] at this; exact this)
    cases k2 : inB h 0 90000 with
    | false =>
      have hok := ok_2 (s := s) (x := x) (y := y) k2
      rw [hok]
      go_enter Try.func19, Try.ntmps19
      go_wp2_with (first | (go_at_call 52; refine (HZ.out _).mono ?_; rintro e w' ⟨rfl, rfl⟩) | (go_at_call 53; refine (Arith.l00In _ _ _ _).mono ?_; rintro e w' ⟨rfl, rfl⟩))
      refine bodyPost_ret (v := .tuple #[.agg #[.int .i64 0, .int .i64 0, .int .i64 0, .slice none 0 0, .slice none 0 0], .int .i64 2]) (by simp [results, Try.results19, go_sem]) rfl ⟨_, _, _, _, rfl, nilR _ _, ?_⟩
      exact On.alloc (On.refl _) _
    | true =>
      rw [ok_3 k1 k2]
      have q := of_size k1
      have qn := prod_n q.2.1.1 q.2.1.2 q.2.2.1.1 q.2.2.1.2
      obtain ⟨n, hn⟩ : ∃ n : Nat, n = (x * y).toNat := ⟨_, rfl⟩
      have hxy : (n : Int) = x * y := by omega
      have HF := Lib.hid (fun w => spec_flat s x y h n w hxy (by omega))
      simp only [flI, flL, flC, if_true, List.length_replicate, ← hn]
      clear hn hxy q qn
      go_enter Try.func19, Try.ntmps19
      go_wp2_with (first | (go_at_call 52; refine (HZ.out _).mono ?_; rintro e w' ⟨rfl, rfl⟩) | (go_at_call 53; refine (Arith.l00In _ _ _ _).mono ?_; rintro e w' ⟨rfl, rfl⟩))
      refine (HF.out _).mono ?_
      rintro e w1 ⟨A, B, rfl, hr, ho⟩
      have z1 : w.heap.size < w1.heap.size := by have := ho.size; (try simp at this); omega
      have hA : w.heap.size + 1 ≤ A := by have := hr.2.2.1; (try simp at this); omega
      have hB : w.heap.size + 1 ≤ B := by have := hr.2.2.2.1; (try simp at this); omega
      obtain ⟨hc, hf⟩ := bcell ho
      have HR := Lib.hid (hr.mono (B0 := w.heap.size) (by simp))
      have HO := Lib.hid (On.trans (On.alloc (On.refl w) _) ho)
      clear hr ho
      go_wp2_with fail
      refine bodyPost_ret (v := .tuple #[.agg #[.int .i64 s, .int .i64 x, .int .i64 y, .slice (some ⟨A, 0, none⟩) n n, .slice (some ⟨B, 0, none⟩) n n], .int .i64 0]) (by simp [results, Try.results19, go_sem, hc]) rfl ⟨_, _, _, _, rfl, (own_five HR.out (by omega) (by omega) _ _ _ _ _).own, ?_⟩
      refine On.setCell ?_ (Nat.le_refl _) _
      refine On.setCell ?_ (Nat.le_refl _) _
      refine On.setCell ?_ (Nat.le_refl _) _
      refine On.setCell ?_ (Nat.le_refl _) _
      refine On.setCell ?_ (Nat.le_refl _) _
      exact HO.out
set_option maxRecDepth 100000 in
set_option maxHeartbeats 4000000 in
theorem impl_FlatTerrain (s x y h : Int) (w : World) :
    Calls Try.prog 20 #[.int .i64 s, .int .i64 x, .int .i64 y, .int .i64 h] w fun e w' => ∃ a3 c3 a4 c4, e = .returned (.tuple #[.agg #[.int .i64 (flI (okF s x y h) s), .int .i64 (flI (okF s x y h) x), .int .i64 (flI (okF s x y h) y), .slice a3 (flL (okF s x y h) (x * y) h).length c3, .slice a4 (flL (okF s x y h) (x * y) 0).length c4], .int .i64 (flC (okF s x y h))]) ∧ OwnR w.heap.size w' a3 (flL (okF s x y h) (x * y) h).length c3 a4 (flL (okF s x y h) (x * y) 0).length c4 (flL (okF s x y h) (x * y) h) (flL (okF s x y h) (x * y) 0) ∧ On w w' := by
  have HG := Lib.hid (fun w => impl_ground h 0 w)
  cases k1 : sizeB s x y with
  | false =>
    have HZ := Lib.hid (fun w => show Calls Try.prog 55 #[.agg #[.int .i64 s, .int .i64 x, .int .i64 y]] w (fun e w' => e = .returned (.bool false) ∧ On w w') from by have := impl_gridValid s x y w; rw [k1] at this; exact this)
    have hok := ok_1 (h := h) k1
    rw [hok]
    go_enter Try.func20, Try.ntmps20
    go_wp2_with fail
    refine (HZ.out _).mono ?_
    rintro e w1 ⟨rfl, ho⟩
    have z1 : w.heap.size < w1.heap.size := by have := ho.size; (try simp at this); omega
    obtain ⟨hc, hf⟩ := bcell ho
    obtain ⟨d0, d1, d2, d3, d4⟩ : In w1 w.heap.size 0 0 0 (.slice none 0 0) (.slice none 0 0) := ⟨(hc _ _ (by simp <;> omega)).trans (by simp [go_sem]), (hc _ _ (by simp <;> omega)).trans (by simp [go_sem]), (hc _ _ (by simp <;> omega)).trans (by simp [go_sem]), (hc _ _ (by simp <;> omega)).trans (by simp [go_sem]), (hc _ _ (by simp <;> omega)).trans (by simp [go_sem])⟩
    have HO := Lib.hid (On.trans (On.alloc (On.alloc (On.refl w) _) _) ho)
    clear ho
    go_wp2_with fail
    refine bodyPost_ret (v := .tuple #[.agg #[.int .i64 0, .int .i64 0, .int .i64 0, .slice none 0 0, .slice none 0 0], .int .i64 2]) (by simp [results, Try.results20, go_sem, d0, d1, d2, d3, d4]) rfl ⟨_, _, _, _, rfl, nilR _ _, ?_⟩
    refine On.setCell ?_ (Nat.le_refl _) _
    refine On.setCell ?_ (Nat.le_refl _) _
    refine On.setCell ?_ (Nat.le_refl _) _
    refine On.setCell ?_ (Nat.le_refl _) _
    refine On.setCell ?_ (Nat.le_refl _) _
    exact HO.out
  | true =>
    have HZ := Lib.hid (fun w => show Calls Try.prog 55 #[.agg #[.int .i64 s, .int .i64 x, .int .i64 y]] w (fun e w' => e = .returned (.bool true) ∧ On w w') from by have := impl_gridValid s x y w; rw [k1] at this; exact this)
    cases k2 : inB h 0 90000 with
    | false =>
      have hgb : gB h 0 = false := Terr.gB_1 k2
      rw [hgb] at HG
      have hok := ok_2 (s := s) (x := x) (y := y) k2
      rw [hok]
      go_enter Try.func20, Try.ntmps20
      go_wp2_with fail
      refine (HZ.out _).mono ?_
      rintro e w1 ⟨rfl, ho⟩
      have z1 : w.heap.size < w1.heap.size := by have := ho.size; (try simp at this); omega
      obtain ⟨hc, hf⟩ := bcell ho
      obtain ⟨d0, d1, d2, d3, d4⟩ : In w1 w.heap.size 0 0 0 (.slice none 0 0) (.slice none 0 0) := ⟨(hc _ _ (by simp <;> omega)).trans (by simp [go_sem]), (hc _ _ (by simp <;> omega)).trans (by simp [go_sem]), (hc _ _ (by simp <;> omega)).trans (by simp [go_sem]), (hc _ _ (by simp <;> omega)).trans (by simp [go_sem]), (hc _ _ (by simp <;> omega)).trans (by simp [go_sem])⟩
      have HO := Lib.hid (On.trans (On.alloc (On.alloc (On.refl w) _) _) ho)
      clear ho
      go_wp2_with fail
      refine (HG.out _).mono ?_
      rintro e w2 ⟨rfl, rfl⟩
      go_wp2_with fail
      refine bodyPost_ret (v := .tuple #[.agg #[.int .i64 0, .int .i64 0, .int .i64 0, .slice none 0 0, .slice none 0 0], .int .i64 2]) (by simp [results, Try.results20, go_sem, d0, d1, d2, d3, d4]) rfl ⟨_, _, _, _, rfl, nilR _ _, ?_⟩
      refine On.setCell ?_ (Nat.le_refl _) _
      refine On.setCell ?_ (Nat.le_refl _) _
      refine On.setCell ?_ (Nat.le_refl _) _
      refine On.setCell ?_ (Nat.le_refl _) _
      refine On.setCell ?_ (Nat.le_refl _) _
      exact HO.out
    | true =>
      have hgb : gB h 0 = true := by rw [Terr.gB_2 k2]; rfl
      rw [hgb] at HG
      rw [ok_3 k1 k2]
      have q := of_size k1
      have qn := prod_n q.2.1.1 q.2.1.2 q.2.2.1.1 q.2.2.1.2
      obtain ⟨n, hn⟩ : ∃ n : Nat, n = (x * y).toNat := ⟨_, rfl⟩
      have hxy : (n : Int) = x * y := by omega
      have n1 : n ≤ 576 := by omega
      have HF := Lib.hid (fun w => impl_bare s x y n w hxy n1)
      simp only [flI, flL, flC, if_true, List.length_replicate, ← hn]
      clear hn hxy q qn
      go_enter Try.func20, Try.ntmps20
      go_wp2_with fail
      refine (HZ.out _).mono ?_
      rintro e w1 ⟨rfl, ho⟩
      have z1 : w.heap.size + 1 < w1.heap.size := by have := ho.size; (try simp at this); omega
      obtain ⟨hc, hf⟩ := bcell ho
      have HO := Lib.hid (On.trans (On.alloc (On.alloc (On.refl w) _) _) ho)
      have s0 : w1.cell? ⟨w.heap.size + 1, 0, none⟩ = some (.int .i64 s) := (hc _ _ (by simp)).trans (by simp [go_sem])
      have s1 : w1.cell? ⟨w.heap.size + 1, 1, none⟩ = some (.int .i64 x) := (hc _ _ (by simp)).trans (by simp [go_sem])
      have s2 : w1.cell? ⟨w.heap.size + 1, 2, none⟩ = some (.int .i64 y) := (hc _ _ (by simp)).trans (by simp [go_sem])
      have HR0 := Lib.hid (show In w1 w.heap.size 0 0 0 (.slice none 0 0) (.slice none 0 0) from ⟨(hc _ _ (by simp <;> omega)).trans (by simp [go_sem]), (hc _ _ (by simp <;> omega)).trans (by simp [go_sem]), (hc _ _ (by simp <;> omega)).trans (by simp [go_sem]), (hc _ _ (by simp <;> omega)).trans (by simp [go_sem]), (hc _ _ (by simp <;> omega)).trans (by simp [go_sem])⟩)
      have HF0 := Lib.hid (show ∀ i, w1.frozen? ⟨w.heap.size, i, none⟩ = false from fun i => (hf _ _ (by simp <;> omega)).trans (by simp [go_sem]))
      clear ho hc hf
      go_wp2_with fail
      refine (HG.out _).mono ?_
      rintro e w2 ⟨rfl, rfl⟩
      go_wp2_with fail
      refine (HF.out _).mono ?_
      rintro e w2 ⟨A, B, rfl, hA, hB, hAB, hr1, hr2, ho2⟩
      have hrows := Rows.start (B0 := w1.heap.size) (h := h) hr1 hr2 hA hB hAB
      have hz2 : w1.heap.size ≤ w2.heap.size := ho2.size
      have HI := Lib.hid (show In (w2.alloc (.cells #[.int .i64 s, .int .i64 x, .int .i64 y, .slice (some ⟨A, 0, none⟩) n n, .slice (some ⟨B, 0, none⟩) n n] 41)) w2.heap.size s x y (.slice (some ⟨A, 0, none⟩) n n) (.slice (some ⟨B, 0, none⟩) n n) from ⟨by simp [go_sem], by simp [go_sem], by simp [go_sem], by simp [go_sem], by simp [go_sem]⟩)
      have HQ := Lib.hid (hrows.on (On.alloc (On.refl _) (.cells #[.int .i64 s, .int .i64 x, .int .i64 y, .slice (some ⟨A, 0, none⟩) n n, .slice (some ⟨B, 0, none⟩) n n] 41)))
      have HX := Lib.hid (On.alloc ho2 (.cells #[.int .i64 s, .int .i64 x, .int .i64 y, .slice (some ⟨A, 0, none⟩) n n, .slice (some ⟨B, 0, none⟩) n n] 41))
      have gA : w2.heap.size ≠ A := by have := hr1.lt; omega
      have gB' : w2.heap.size ≠ B := by have := hr2.lt; omega
      clear hA hB hAB hr1 hr2 ho2 hrows s0 s1 s2
      go_wp2_with fail
      go_loopw [31] (fun i wr => ∃ k : Nat, k ≤ n ∧ i = .int .i64 k ∧ In wr w2.heap.size s x y (.slice (some ⟨A, 0, none⟩) n n) (.slice (some ⟨B, 0, none⟩) n n) ∧ Rows wr w1.heap.size A B n h k ∧ On w1 wr) (fun i _ => n - (intOf i).toNat)
      case atStart => exact ⟨0, Nat.zero_le _, rfl, HI.out, HQ.out, HX.out⟩
      case round =>
        obtain ⟨k, hk, rfl, hin, hrows, hon⟩ := hrel
        have HI2 := Lib.hid hin
        have HQ2 := Lib.hid hrows
        have HX2 := Lib.hid hon
        obtain ⟨c0, c1, c2, c3, c4⟩ := hin
        have cb := World.block_lt_of_cell? wr _ c0
        by_cases hlt : k < n
        · have hlti : (k : Int) < (n : Int) := by omega
          have r1 : wr.cell? ⟨A, k, none⟩ = some (.int .i64 0) := by have := hrows.1.cell hlt; rw [if_neg (by omega)] at this; exact this
          have r2 : wr.frozen? ⟨A, k, none⟩ = false := hrows.1.frozen k
          have r3 := hrows.1.lt
          clear hrows hon
          go_wp2_with fail
          go_roundw
          case rel =>
            refine ⟨k + 1, by omega, by go_num, ?_, HQ2.out.step, On.setCell HX2.out (by show _ ≤ A; exact HQ2.out.2.2.1) _⟩
            exact TRec.In.keep HI2.out fun i => World.cell?_setCell_other (h := fun e => gA (by have := congrArg Addr.block e; exact this.symm)) ..
          case measure => simp [intOf]; omega
        · obtain rfl : k = n := by omega
          have qz := HX2.out.size
          have hgw : w.heap.size < wr.heap.size := by omega
          have f1 : ∀ i, wr.frozen? ⟨w.heap.size, i, none⟩ = false := fun i => (HX2.out.frozen (by show w.heap.size < _; omega)).trans (HF0.out i)
          have q0 : w.heap.size ≠ A := by have := HQ2.out.2.2.1; omega
          have q1 : w.heap.size ≠ B := by have := HQ2.out.2.2.2.1; omega
          have q2 : w.heap.size ≠ w2.heap.size := by omega
          obtain ⟨d0, d1, d2, d3, d4⟩ := HR0.out.on HX2.out
          clear hrows hon
          go_wp2_with fail
          refine bodyPost_ret (v := .tuple #[.agg #[.int .i64 s, .int .i64 x, .int .i64 y, .slice (some ⟨A, 0, none⟩) k k, .slice (some ⟨B, 0, none⟩) k k], .int .i64 0]) (by simp [results, Try.results20, go_sem, d0, d1, d2, d3, d4]) rfl ⟨_, _, _, _, rfl, ((own_five HQ2.out q0 q1 _ _ _ _ _).mono (by omega)).own, ?_⟩
          refine On.setCell ?_ (Nat.le_refl _) _
          refine On.setCell ?_ (Nat.le_refl _) _
          refine On.setCell ?_ (Nat.le_refl _) _
          refine On.setCell ?_ (Nat.le_refl _) _
          refine On.setCell ?_ (Nat.le_refl _) _
          exact On.trans HO.out HX2.out
theorem spec_FlatTerrainI (s x y h : Int) (w : World) :
    Calls Try.prog 19 #[.int .i64 s, .int .i64 x, .int .i64 y, .int .i64 h] w fun e w' => ∃ a3 c3 a4 c4, e = .returned (.tuple #[.agg #[.int .i64 (flI (okF s x y h) s), .int .i64 (flI (okF s x y h) x), .int .i64 (flI (okF s x y h) y), .slice a3 (flL (okF s x y h) (x * y) h).length c3, .slice a4 (flL (okF s x y h) (x * y) 0).length c4], .int .i64 (flC (okF s x y h))]) ∧ Ints w' (.slice a3 (flL (okF s x y h) (x * y) h).length c3) (flL (okF s x y h) (x * y) h) ∧ Ints w' (.slice a4 (flL (okF s x y h) (x * y) 0).length c4) (flL (okF s x y h) (x * y) 0) ∧ On w w' :=
  (spec_FlatTerrain s x y h w).mono fun _ _ ⟨a3, c3, a4, c4, he, ho, k⟩ => ⟨a3, c3, a4, c4, he, ho.ints3, ho.ints4, k⟩
end Go.Proofs.Ytmfhhmlndclkiaa.Flat
