
/-
  Offsets, lines and clearances at the points of a profile, whole, in the model and in the program. Condition: at most 1048576 heights.
-/
import Derived.Test.YtcdmijldkmmgmaaProfAt
namespace Go.Proofs.Ytcdmijldkmmgmaa.Prof
open Go.RowKit
open Plain
open Ints (Ints Own)

theorem ret_ii {a b c d : Int} (h1 : a = b) (h2 : c = d) : Ending.returned (.tuple #[.int .i64 a, .int .i64 c]) = .returned (.tuple #[.int .i64 b, .int .i64 d]) := by rw [h1, h2]
theorem of_ask {d f l i : Int} {zs : List Int} (h : askC d f l zs i = 0) : okP d f l zs = true ∧ 0 ≤ i ∧ i ≤ (zs.length : Int) - 1 ∧ ∃ n, zs.length = n + 1 ∧ 1 ≤ n ∧ n ≤ 64 := by
  cases ho : okP d f l zs with
  | false => rw [ask_no ho] at h; omega
  | true =>
    cases hi : inB i 0 ((zs.length : Int) - 1) with
    | false => rw [ask_far ho hi] at h; omega
    | true =>
      have h1 := of_inB hi
      have h2 := (of_okP ho).2.1
      exact ⟨rfl, h1.1, h1.2, zs.length - 1, by omega, by omega, by omega⟩
/-- The clearance. -/
def clr (d f l n i z : Int) : Int := lin f l n i - z - Earth.bulge (off d n i) (d - off d n i)
def offV (d f l : Int) (zs : List Int) (i : Int) : Int := if askC d f l zs i = 0 then off d ((zs.length : Int) - 1) i else 0
def linV (d f l : Int) (zs : List Int) (i : Int) : Int := if askC d f l zs i = 0 then lin f l ((zs.length : Int) - 1) i else 0
def clrV (d f l : Int) (zs : List Int) (i : Int) : Int := if askC d f l zs i = 0 then clr d f l ((zs.length : Int) - 1) i (zs.getD i.toNat 0) else 0
theorem bulge_bd {a b : Int} (a0 : 0 ≤ a) (a1 : a ≤ 283000) (b0 : 0 ≤ b) (b1 : b ≤ 283000) : -800890000000 ≤ Earth.bulge a b ∧ Earth.bulge a b ≤ 800890000000 := by
  obtain ⟨h1, h2⟩ := Earth.ten_bd a0 a1 b0 b1
  exact near_le _ _ (by omega) 800890000000 (by omega) (by omega)
set_option maxHeartbeats 1000000 in
theorem impl_valueAt_offset (d f l i val : Int) (a : Option Addr) (cap : Nat) (zs : List Int) (w : World) (hn : zs.length ≤ 1048576) (h : Ints w (.slice a zs.length cap) zs) (hv : askC d f l zs i ≠ 0 → val = 0)
    (hK : askC d f l zs i = 0 → ∀ w', On w w' → Calls Try.prog 75 #[.agg #[.int .i64 d, .int .i64 f, .int .i64 l, .slice a zs.length cap], .int .i64 i] w' fun e w'' => e = .returned (.int .i64 val) ∧ On w' w'') :
    Calls Try.prog 74 #[.agg #[.int .i64 d, .int .i64 f, .int .i64 l, .slice a zs.length cap], .int .i64 i, .func (Fn.func 75) #[.agg #[.int .i64 d, .int .i64 f, .int .i64 l, .slice a zs.length cap]] #[]] w fun e w' => e = .returned (.tuple #[.int .i64 val, .int .i64 (askC d f l zs i)]) ∧ On w w' := by
  have HO := Lib.hid (fun w' (hb : On w w') => impl_valid d f l a cap zs w' hn (h.below hb))
  clear h
  cases ho : okP d f l zs with
  | false =>
    have hc := ask_no (i := i) ho
    have en := Lib.hid (hv (by omega))
    have HC := Lib.hid hc
    clear hc hv hK
    go_enter Try.func74, Try.ntmps74
    go_wp2_with fail
    refine (HO.out _ (by repeat (first | exact On.refl _ | apply On.alloc))).mono ?_
    rintro e w1 ⟨rfl, h1⟩
    go_wp2_with fail
    go_ret2
    exact ⟨ret_ii en.out.symm HC.out.symm, by repeat (first | exact On.refl _ | apply On.alloc | refine On.trans ?_ h1)⟩
  | true =>
    have HST := Lib.hid (fun w => steps d f l a zs.length cap w hn)
    cases hi : inB i 0 ((zs.length : Int) - 1) with
    | false =>
      have hc := ask_far ho hi
      have en := Lib.hid (hv (by omega))
      have HC := Lib.hid hc
      clear hc hv hK
      go_enter Try.func74, Try.ntmps74
      go_wp2_with fail
      refine (HO.out _ (by repeat (first | exact On.refl _ | apply On.alloc))).mono ?_
      rintro e w1 ⟨rfl, h1⟩
      obtain ⟨hc1, hf1⟩ := bcell h1
      have z1 : w.heap.size < w1.heap.size := by have := h1.size; simp at this; omega
      go_wp2_with fail
      refine (HST.out _).mono ?_
      rintro e w2 ⟨rfl, h2⟩
      go_wp2_with fail
      refine (Arith.within _ _ _ _).mono ?_
      rintro e w3 ⟨rfl, rfl⟩
      go_wp2_with fail
      go_ret2
      exact ⟨ret_ii en.out.symm HC.out.symm, by repeat (first | exact On.refl _ | apply On.alloc | refine On.trans ?_ h2 | refine On.trans ?_ h1)⟩
    | true =>
      have hc := ask_ok ho hi
      have HC := Lib.hid hc
      have HK := Lib.hid (hK hc)
      clear hc hv hK
      go_enter Try.func74, Try.ntmps74
      go_wp2_with fail
      refine (HO.out _ (by repeat (first | exact On.refl _ | apply On.alloc))).mono ?_
      rintro e w1 ⟨rfl, h1⟩
      obtain ⟨hc1, hf1⟩ := bcell h1
      have z1 : w.heap.size < w1.heap.size := by have := h1.size; simp at this; omega
      go_wp2_with fail
      refine (HST.out _).mono ?_
      rintro e w2 ⟨rfl, h2⟩
      go_wp2_with fail
      refine (Arith.within _ _ _ _).mono ?_
      rintro e w3 ⟨rfl, rfl⟩
      have hO : On w w2 := by repeat (first | exact On.refl _ | apply On.alloc | refine On.trans ?_ h2 | refine On.trans ?_ h1)
      go_wp2_with fail
      refine (HK.out _ hO).mono ?_
      rintro e w4 ⟨rfl, h4⟩
      go_wp2_with fail
      go_ret2
      exact ⟨ret_ii rfl HC.out.symm, hO.trans h4⟩
set_option maxHeartbeats 1000000 in
theorem impl_valueAt_line (d f l i val : Int) (a : Option Addr) (cap : Nat) (zs : List Int) (w : World) (hn : zs.length ≤ 1048576) (h : Ints w (.slice a zs.length cap) zs) (hv : askC d f l zs i ≠ 0 → val = 0)
    (hK : askC d f l zs i = 0 → ∀ w', On w w' → Calls Try.prog 77 #[.agg #[.int .i64 d, .int .i64 f, .int .i64 l, .slice a zs.length cap], .int .i64 i] w' fun e w'' => e = .returned (.int .i64 val) ∧ On w' w'') :
    Calls Try.prog 74 #[.agg #[.int .i64 d, .int .i64 f, .int .i64 l, .slice a zs.length cap], .int .i64 i, .func (Fn.func 77) #[.agg #[.int .i64 d, .int .i64 f, .int .i64 l, .slice a zs.length cap]] #[]] w fun e w' => e = .returned (.tuple #[.int .i64 val, .int .i64 (askC d f l zs i)]) ∧ On w w' := by
  have HO := Lib.hid (fun w' (hb : On w w') => impl_valid d f l a cap zs w' hn (h.below hb))
  clear h
  cases ho : okP d f l zs with
  | false =>
    have hc := ask_no (i := i) ho
    have en := Lib.hid (hv (by omega))
    have HC := Lib.hid hc
    clear hc hv hK
    go_enter Try.func74, Try.ntmps74
    go_wp2_with fail
    refine (HO.out _ (by repeat (first | exact On.refl _ | apply On.alloc))).mono ?_
    rintro e w1 ⟨rfl, h1⟩
    go_wp2_with fail
    go_ret2
    exact ⟨ret_ii en.out.symm HC.out.symm, by repeat (first | exact On.refl _ | apply On.alloc | refine On.trans ?_ h1)⟩
  | true =>
    have HST := Lib.hid (fun w => steps d f l a zs.length cap w hn)
    cases hi : inB i 0 ((zs.length : Int) - 1) with
    | false =>
      have hc := ask_far ho hi
      have en := Lib.hid (hv (by omega))
      have HC := Lib.hid hc
      clear hc hv hK
      go_enter Try.func74, Try.ntmps74
      go_wp2_with fail
      refine (HO.out _ (by repeat (first | exact On.refl _ | apply On.alloc))).mono ?_
      rintro e w1 ⟨rfl, h1⟩
      obtain ⟨hc1, hf1⟩ := bcell h1
      have z1 : w.heap.size < w1.heap.size := by have := h1.size; simp at this; omega
      go_wp2_with fail
      refine (HST.out _).mono ?_
      rintro e w2 ⟨rfl, h2⟩
      go_wp2_with fail
      refine (Arith.within _ _ _ _).mono ?_
      rintro e w3 ⟨rfl, rfl⟩
      go_wp2_with fail
      go_ret2
      exact ⟨ret_ii en.out.symm HC.out.symm, by repeat (first | exact On.refl _ | apply On.alloc | refine On.trans ?_ h2 | refine On.trans ?_ h1)⟩
    | true =>
      have hc := ask_ok ho hi
      have HC := Lib.hid hc
      have HK := Lib.hid (hK hc)
      clear hc hv hK
      go_enter Try.func74, Try.ntmps74
      go_wp2_with fail
      refine (HO.out _ (by repeat (first | exact On.refl _ | apply On.alloc))).mono ?_
      rintro e w1 ⟨rfl, h1⟩
      obtain ⟨hc1, hf1⟩ := bcell h1
      have z1 : w.heap.size < w1.heap.size := by have := h1.size; simp at this; omega
      go_wp2_with fail
      refine (HST.out _).mono ?_
      rintro e w2 ⟨rfl, h2⟩
      go_wp2_with fail
      refine (Arith.within _ _ _ _).mono ?_
      rintro e w3 ⟨rfl, rfl⟩
      have hO : On w w2 := by repeat (first | exact On.refl _ | apply On.alloc | refine On.trans ?_ h2 | refine On.trans ?_ h1)
      go_wp2_with fail
      refine (HK.out _ hO).mono ?_
      rintro e w4 ⟨rfl, h4⟩
      go_wp2_with fail
      go_ret2
      exact ⟨ret_ii rfl HC.out.symm, hO.trans h4⟩
set_option maxHeartbeats 1000000 in
theorem impl_valueAt_clearance (d f l i val : Int) (a : Option Addr) (cap : Nat) (zs : List Int) (w : World) (hn : zs.length ≤ 1048576) (h : Ints w (.slice a zs.length cap) zs) (hv : askC d f l zs i ≠ 0 → val = 0)
    (hK : askC d f l zs i = 0 → ∀ w', On w w' → Calls Try.prog 79 #[.agg #[.int .i64 d, .int .i64 f, .int .i64 l, .slice a zs.length cap], .int .i64 i] w' fun e w'' => e = .returned (.int .i64 val) ∧ On w' w'') :
    Calls Try.prog 74 #[.agg #[.int .i64 d, .int .i64 f, .int .i64 l, .slice a zs.length cap], .int .i64 i, .func (Fn.func 79) #[.agg #[.int .i64 d, .int .i64 f, .int .i64 l, .slice a zs.length cap]] #[]] w fun e w' => e = .returned (.tuple #[.int .i64 val, .int .i64 (askC d f l zs i)]) ∧ On w w' := by
  have HO := Lib.hid (fun w' (hb : On w w') => impl_valid d f l a cap zs w' hn (h.below hb))
  clear h
  cases ho : okP d f l zs with
  | false =>
    have hc := ask_no (i := i) ho
    have en := Lib.hid (hv (by omega))
    have HC := Lib.hid hc
    clear hc hv hK
    go_enter Try.func74, Try.ntmps74
    go_wp2_with fail
    refine (HO.out _ (by repeat (first | exact On.refl _ | apply On.alloc))).mono ?_
    rintro e w1 ⟨rfl, h1⟩
    go_wp2_with fail
    go_ret2
    exact ⟨ret_ii en.out.symm HC.out.symm, by repeat (first | exact On.refl _ | apply On.alloc | refine On.trans ?_ h1)⟩
  | true =>
    have HST := Lib.hid (fun w => steps d f l a zs.length cap w hn)
    cases hi : inB i 0 ((zs.length : Int) - 1) with
    | false =>
      have hc := ask_far ho hi
      have en := Lib.hid (hv (by omega))
      have HC := Lib.hid hc
      clear hc hv hK
      go_enter Try.func74, Try.ntmps74
      go_wp2_with fail
      refine (HO.out _ (by repeat (first | exact On.refl _ | apply On.alloc))).mono ?_
      rintro e w1 ⟨rfl, h1⟩
      obtain ⟨hc1, hf1⟩ := bcell h1
      have z1 : w.heap.size < w1.heap.size := by have := h1.size; simp at this; omega
      go_wp2_with fail
      refine (HST.out _).mono ?_
      rintro e w2 ⟨rfl, h2⟩
      go_wp2_with fail
      refine (Arith.within _ _ _ _).mono ?_
      rintro e w3 ⟨rfl, rfl⟩
      go_wp2_with fail
      go_ret2
      exact ⟨ret_ii en.out.symm HC.out.symm, by repeat (first | exact On.refl _ | apply On.alloc | refine On.trans ?_ h2 | refine On.trans ?_ h1)⟩
    | true =>
      have hc := ask_ok ho hi
      have HC := Lib.hid hc
      have HK := Lib.hid (hK hc)
      clear hc hv hK
      go_enter Try.func74, Try.ntmps74
      go_wp2_with fail
      refine (HO.out _ (by repeat (first | exact On.refl _ | apply On.alloc))).mono ?_
      rintro e w1 ⟨rfl, h1⟩
      obtain ⟨hc1, hf1⟩ := bcell h1
      have z1 : w.heap.size < w1.heap.size := by have := h1.size; simp at this; omega
      go_wp2_with fail
      refine (HST.out _).mono ?_
      rintro e w2 ⟨rfl, h2⟩
      go_wp2_with fail
      refine (Arith.within _ _ _ _).mono ?_
      rintro e w3 ⟨rfl, rfl⟩
      have hO : On w w2 := by repeat (first | exact On.refl _ | apply On.alloc | refine On.trans ?_ h2 | refine On.trans ?_ h1)
      go_wp2_with fail
      refine (HK.out _ hO).mono ?_
      rintro e w4 ⟨rfl, h4⟩
      go_wp2_with fail
      go_ret2
      exact ⟨ret_ii rfl HC.out.symm, hO.trans h4⟩
set_option maxHeartbeats 1000000 in
theorem spec_offsetAt (d f l i : Int) (a : Option Addr) (cap : Nat) (zs : List Int) (w : World) (hn : zs.length ≤ 1048576) (h : Ints w (.slice a zs.length cap) zs) :
    Calls Try.prog 38 #[.agg #[.int .i64 d, .int .i64 f, .int .i64 l, .slice a zs.length cap], .int .i64 i] w fun e w' => e = .returned (.tuple #[.int .i64 (offV d f l zs i), .int .i64 (askC d f l zs i)]) ∧ On w w' := by
  have hA := fun w' (hb : On w w') hp => spec_ask w.heap.size d f l i a cap zs w' hn hp (h.below hb)
  by_cases hc : askC d f l zs i = 0
  · obtain ⟨hok, hi0, hi1, n, hzn, n0, n1⟩ := of_ask hc
    obtain ⟨⟨d0, d1⟩, _, hz, ⟨f0, f1⟩, l0, l1⟩ := of_okP hok
    have y0 := of_inB (hz 0 (by omega))
    have yl := of_inB (hz (zs.length - 1) (by omega))
    have en := Lib.hid (show offV d f l zs i = _ from if_pos hc)
    have HI := Lib.hid h
    have HZ := Lib.hid hc
    have HN := Lib.hid hzn
    have hnn : ((zs.length : Nat) : Int) - 1 = (n : Int) := by omega
    rw [hc] at hA
    rw [hnn] at en
    have HV := Lib.hid (fun w' (_ : On w w') hp => spec_offset w.heap.size n cap d f l i a w' hp d0 d1 hi0 (by omega) n0 n1)
    have HA := Lib.hid hA
    rw [hzn] at HA HI ⊢
    clear hA h hc hok hz y0 yl hnn hzn
    go_enter Try.func38, Try.ntmps38
    go_wp2_with fail
    refine (HA.out _ (by repeat (first | exact On.refl _ | apply On.alloc)) ⟨by simp [go_sem], by simp [go_sem], by simp [go_sem], by simp [go_sem]⟩).mono ?_
    rintro e w1 ⟨rfl, q, rfl⟩
    go_wp2_with fail
    refine (HV.out _ (by repeat (first | exact On.refl _ | apply On.drewN | apply On.alloc)) ⟨by simp [go_sem], by simp [go_sem], by simp [go_sem], by simp [go_sem]⟩).mono ?_
    rintro e w2 ⟨rfl, h2⟩
    go_wp2_with fail
    go_ret2
    exact ⟨ret_ii en.out.symm HZ.out.symm, by repeat (first | exact On.refl _ | apply On.drewN | apply On.alloc | refine On.trans ?_ h2)⟩
  · have en := Lib.hid (show offV d f l zs i = 0 from if_neg hc)
    have hb : (askC d f l zs i == 0) = false := beq_eq_false_iff_ne.2 hc
    have HA := Lib.hid hA
    clear hA h hc
    go_enter Try.func38, Try.ntmps38
    go_wp2_with fail
    refine (HA.out _ (by repeat (first | exact On.refl _ | apply On.alloc)) ⟨by simp [go_sem], by simp [go_sem], by simp [go_sem], by simp [go_sem]⟩).mono ?_
    rintro e w1 ⟨rfl, q, rfl⟩
    go_wp2_with fail
    go_ret2
    exact ⟨ret_ii en.out.symm rfl, by repeat (first | exact On.refl _ | apply On.drewN | apply On.alloc)⟩
set_option maxHeartbeats 1000000 in
theorem spec_lineAt (d f l i : Int) (a : Option Addr) (cap : Nat) (zs : List Int) (w : World) (hn : zs.length ≤ 1048576) (h : Ints w (.slice a zs.length cap) zs) :
    Calls Try.prog 40 #[.agg #[.int .i64 d, .int .i64 f, .int .i64 l, .slice a zs.length cap], .int .i64 i] w fun e w' => e = .returned (.tuple #[.int .i64 (linV d f l zs i), .int .i64 (askC d f l zs i)]) ∧ On w w' := by
  have hA := fun w' (hb : On w w') hp => spec_ask w.heap.size d f l i a cap zs w' hn hp (h.below hb)
  by_cases hc : askC d f l zs i = 0
  · obtain ⟨hok, hi0, hi1, n, hzn, n0, n1⟩ := of_ask hc
    obtain ⟨⟨d0, d1⟩, _, hz, ⟨f0, f1⟩, l0, l1⟩ := of_okP hok
    have y0 := of_inB (hz 0 (by omega))
    have yl := of_inB (hz (zs.length - 1) (by omega))
    have en := Lib.hid (show linV d f l zs i = _ from if_pos hc)
    have HI := Lib.hid h
    have HZ := Lib.hid hc
    have HN := Lib.hid hzn
    have hnn : ((zs.length : Nat) : Int) - 1 = (n : Int) := by omega
    rw [hc] at hA
    rw [hnn] at en
    have HV := Lib.hid (fun w' (_ : On w w') hp => spec_line w.heap.size n cap d f l i a w' hp (by omega) f1 (by omega) l1 hi0 (by omega) n0 n1)
    have HA := Lib.hid hA
    rw [hzn] at HA HI ⊢
    clear hA h hc hok hz y0 yl hnn hzn
    go_enter Try.func40, Try.ntmps40
    go_wp2_with fail
    refine (HA.out _ (by repeat (first | exact On.refl _ | apply On.alloc)) ⟨by simp [go_sem], by simp [go_sem], by simp [go_sem], by simp [go_sem]⟩).mono ?_
    rintro e w1 ⟨rfl, q, rfl⟩
    go_wp2_with fail
    refine (HV.out _ (by repeat (first | exact On.refl _ | apply On.drewN | apply On.alloc)) ⟨by simp [go_sem], by simp [go_sem], by simp [go_sem], by simp [go_sem]⟩).mono ?_
    rintro e w2 ⟨rfl, h2⟩
    go_wp2_with fail
    go_ret2
    exact ⟨ret_ii en.out.symm HZ.out.symm, by repeat (first | exact On.refl _ | apply On.drewN | apply On.alloc | refine On.trans ?_ h2)⟩
  · have en := Lib.hid (show linV d f l zs i = 0 from if_neg hc)
    have hb : (askC d f l zs i == 0) = false := beq_eq_false_iff_ne.2 hc
    have HA := Lib.hid hA
    clear hA h hc
    go_enter Try.func40, Try.ntmps40
    go_wp2_with fail
    refine (HA.out _ (by repeat (first | exact On.refl _ | apply On.alloc)) ⟨by simp [go_sem], by simp [go_sem], by simp [go_sem], by simp [go_sem]⟩).mono ?_
    rintro e w1 ⟨rfl, q, rfl⟩
    go_wp2_with fail
    go_ret2
    exact ⟨ret_ii en.out.symm rfl, by repeat (first | exact On.refl _ | apply On.drewN | apply On.alloc)⟩
set_option maxHeartbeats 1000000 in
theorem impl_offsetAt (d f l i : Int) (a : Option Addr) (cap : Nat) (zs : List Int) (w : World) (hn : zs.length ≤ 1048576) (h : Ints w (.slice a zs.length cap) zs) :
    Calls Try.prog 39 #[.agg #[.int .i64 d, .int .i64 f, .int .i64 l, .slice a zs.length cap], .int .i64 i] w fun e w' => e = .returned (.tuple #[.int .i64 (offV d f l zs i), .int .i64 (askC d f l zs i)]) ∧ On w w' := by
  have hV := fun w' (hb : On w w') => impl_valueAt_offset d f l i (offV d f l zs i) a cap zs w' hn (h.below hb) (fun hc => if_neg hc) (fun hc w'' hb' => by
    obtain ⟨hok, hi0, hi1, n, hzn, n0, n1⟩ := of_ask hc
    obtain ⟨⟨d0, d1⟩, _, hz, ⟨f0, f1⟩, l0, l1⟩ := of_okP hok
    have y0 := of_inB (hz 0 (by omega))
    have yl := of_inB (hz (zs.length - 1) (by omega))
    have en := show offV d f l zs i = _ from if_pos hc
    have hnn : ((zs.length : Nat) : Int) - 1 = (n : Int) := by omega
    rw [hnn] at en
    rw [en]
    rw [hzn]
    exact impl_offset n cap d f l i a w'' d0 d1 hi0 (by omega) n0 n1)
  have HV := Lib.hid hV
  clear hV h
  go_enter Try.func39, Try.ntmps39
  go_wp2_with fail
  refine (HV.out _ (by repeat (first | exact On.refl _ | apply On.alloc))).mono ?_
  rintro e w1 ⟨rfl, h1⟩
  go_wp2_with fail
  go_ret2
  exact ⟨rfl, by repeat (first | exact On.refl _ | apply On.alloc | refine On.trans ?_ h1)⟩
set_option maxHeartbeats 1000000 in
theorem impl_lineAt (d f l i : Int) (a : Option Addr) (cap : Nat) (zs : List Int) (w : World) (hn : zs.length ≤ 1048576) (h : Ints w (.slice a zs.length cap) zs) :
    Calls Try.prog 41 #[.agg #[.int .i64 d, .int .i64 f, .int .i64 l, .slice a zs.length cap], .int .i64 i] w fun e w' => e = .returned (.tuple #[.int .i64 (linV d f l zs i), .int .i64 (askC d f l zs i)]) ∧ On w w' := by
  have hV := fun w' (hb : On w w') => impl_valueAt_line d f l i (linV d f l zs i) a cap zs w' hn (h.below hb) (fun hc => if_neg hc) (fun hc w'' hb' => by
    obtain ⟨hok, hi0, hi1, n, hzn, n0, n1⟩ := of_ask hc
    obtain ⟨⟨d0, d1⟩, _, hz, ⟨f0, f1⟩, l0, l1⟩ := of_okP hok
    have y0 := of_inB (hz 0 (by omega))
    have yl := of_inB (hz (zs.length - 1) (by omega))
    have en := show linV d f l zs i = _ from if_pos hc
    have hnn : ((zs.length : Nat) : Int) - 1 = (n : Int) := by omega
    rw [hnn] at en
    rw [en]
    rw [hzn]
    exact impl_line n cap d f l i a w'' (by omega) f1 (by omega) l1 hi0 (by omega) n0 n1)
  have HV := Lib.hid hV
  clear hV h
  go_enter Try.func41, Try.ntmps41
  go_wp2_with fail
  refine (HV.out _ (by repeat (first | exact On.refl _ | apply On.alloc))).mono ?_
  rintro e w1 ⟨rfl, h1⟩
  go_wp2_with fail
  go_ret2
  exact ⟨rfl, by repeat (first | exact On.refl _ | apply On.alloc | refine On.trans ?_ h1)⟩
end Go.Proofs.Ytcdmijldkmmgmaa.Prof
