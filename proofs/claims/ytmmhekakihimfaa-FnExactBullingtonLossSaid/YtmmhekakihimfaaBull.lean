
/-
  The loss over the edge that stands for all others, in the model and in the program. Conditions: each theorem's own.
-/
import Derived.Test.YtmmhekakihimfaaSlope
import Derived.Test.YtmmhekakihimfaaTurnS
namespace Go.Proofs.Ytmmhekakihimfaa.Nu
open Go.RowKit Go.Shelf
open Plain
open Ints (Ints Own)
open Prof (PIn clr off_bd off slice_of okP of_okP ret_ii)
open Go.Proofs.Ytmmhekakihimfaa.Edge (smax spec_max)

theorem rev_at {zs : List Int} {n k : Nat} (hn : zs.length = n + 1) (hk : k ≤ n) : zs.reverse.getD k 0 = zs.getD (n - k) 0 := by
  rw [List.getD_eq_getElem?_getD, List.getD_eq_getElem?_getD, List.getElem?_reverse (by omega), show zs.length - 1 - k = n - k by omega]
theorem turned_bd {zs : List Int} {n : Nat} (hn : zs.length = n + 1) (h : ∀ k, k ≤ n → 0 ≤ zs.getD k 0 ∧ zs.getD k 0 ≤ 90000) : ∀ k, k ≤ n → 0 ≤ zs.reverse.getD k 0 ∧ zs.reverse.getD k 0 ≤ 90000 := by
  intro k hk
  rw [rev_at hn hk]
  exact h _ (by omega)
theorem spec_back (gp n cap b off : Nat) (d f l : Int) (zs : List Int) (w : World) (hn : zs.length = n + 1) (n1 : n ≤ 64) (hb : b < w.heap.size) (hz : ∀ k, k ≤ n → w.cell? ⟨b, off + k, none⟩ = some (.int .i64 (zs.getD k 0))) (hp : PIn w gp d f l (.slice (some ⟨b, off, none⟩) (n + 1) cap)) :
    Calls Try.prog 89 #[.pointer (some ⟨gp, 0, none⟩)] w fun e w' => ∃ b2 o2 c, e = .returned (.agg #[.int .i64 d, .int .i64 l, .int .i64 f, .slice (some ⟨b2, o2, none⟩) (n + 1) c]) ∧ b2 < w'.heap.size ∧ (∀ k, k ≤ n → w'.cell? ⟨b2, o2 + k, none⟩ = some (.int .i64 (zs.reverse.getD k 0))) ∧ On w w' := by
  obtain ⟨p0, p1, p2, p3⟩ := hp
  refine (PRec.spec_turn_some gp d f l b off cap (n + 1) zs w hn.symm (by omega) (by omega) hb (fun i hi => hz i (by omega)) ⟨p0, p1, p2, p3⟩).mono ?_
  rintro e w1 ⟨a, c, rfl, ho, h1⟩
  obtain ⟨a2, c2, he, hh⟩ := ho
  have hl : zs.reverse.length = n + 1 := by rw [List.length_reverse]; exact hn
  rw [hl] at he hh
  cases he
  obtain ⟨b2, o2, rfl, -, hlt, -, hc⟩ := hh (by omega)
  exact ⟨b2, o2, _, by push_cast; rfl, hlt, fun k hk => hc k (by omega), h1⟩
theorem impl_back (n cap b off : Nat) (d f l : Int) (zs : List Int) (w : World) (hn : zs.length = n + 1) (n1 : n ≤ 64) (hok : okP d f l zs = true) (hi : Ints w (.slice (some ⟨b, off, none⟩) (n + 1 : Nat) cap) zs) :
    Calls Try.prog 93 #[.agg #[.int .i64 d, .int .i64 f, .int .i64 l, .slice (some ⟨b, off, none⟩) (n + 1) cap]] w fun e w' => ∃ b2 o2 c, e = .returned (.tuple #[.agg #[.int .i64 d, .int .i64 l, .int .i64 f, .slice (some ⟨b2, o2, none⟩) (n + 1) c], .int .i64 0]) ∧ b2 < w'.heap.size ∧ (∀ k, k ≤ n → w'.cell? ⟨b2, o2 + k, none⟩ = some (.int .i64 (zs.reverse.getD k 0))) ∧ On w w' := by
  refine (PRec.impl_turned d f l _ zs w (by omega) hi).mono ?_
  have hl : (PRec.tZ true zs).length = n + 1 := by show zs.reverse.length = n + 1; rw [List.length_reverse]; exact hn
  rw [hok]
  rintro e w1 ⟨a, c, rfl, ⟨-, ho⟩, h1⟩
  obtain ⟨a2, c2, he, hh⟩ := ho
  rw [hl] at he hh
  cases he
  obtain ⟨b2, o2, rfl, -, hlt, -, hc⟩ := hh (by omega)
  exact ⟨b2, o2, _, by rw [hl]; rfl, hlt, fun k hk => hc k (by omega), h1⟩
/-- The slopes from both ends, the line and the point in which the slopes meet. -/
def far (x d : Int) : Int := smax 1 (Turn.smin (d - 1) x)
theorem far_impl (x d : Int) : Turn.gmax 1 (Turn.gmin x (d - 1)) = far x d := by unfold Turn.gmax Turn.gmin far smax Turn.smin; split <;> split <;> (try split) <;> omega
theorem far_bd {x d : Int} (h : 2 ≤ d) : 1 ≤ far x d ∧ far x d ≤ d - 1 := by unfold far smax Turn.smin; split <;> (try split) <;> omega
def meet (A B r d : Int) : Int := far (near (1000000 * r + B * d) (A + B)) d
def rise (A r e d : Int) : Int := near (A * e) 1000000 - near (r * e) d
theorem prod_le {x e : Int} (x0 : -180000000000 ≤ x) (x1 : x ≤ 180000000000) (e0 : 0 ≤ e) (e1 : e ≤ 283000) : -50940000000000000 ≤ x * e ∧ x * e ≤ 50940000000000000 := by
  have h1 : x * e ≤ 180000000000 * e := Int.mul_le_mul_of_nonneg_right x1 e0
  have h2 : -180000000000 * e ≤ x * e := Int.mul_le_mul_of_nonneg_right x0 e0
  omega
theorem prod_le2 {x e : Int} (x0 : -180000 ≤ x) (x1 : x ≤ 180000) (e0 : 0 ≤ e) (e1 : e ≤ 283000) : -50940000000 ≤ x * e ∧ x * e ≤ 50940000000 := by
  have h1 : x * e ≤ 180000 * e := Int.mul_le_mul_of_nonneg_right x1 e0
  have h2 : -180000 * e ≤ x * e := Int.mul_le_mul_of_nonneg_right x0 e0
  omega
theorem near_mil {x : Int} (x0 : -50940000000000000 ≤ x) (x1 : x ≤ 50940000000000000) : -50940000001 ≤ near x 1000000 ∧ near x 1000000 ≤ 50940000001 := by
  by_cases h : 0 ≤ x
  · rw [near_div_pp _ _ (by omega) h]; omega
  · rw [near_div_pn _ _ (by omega) (by omega)]; omega
def bulN (A B d f l fr : Int) : Int := nuOf (rise A (l - f) (meet A B (l - f) d) d) (rad fr (meet A B (l - f) d) (d - meet A B (l - f) d))
def low (A B d f l : Int) : Bool := decide (A < near (1000000 * (l - f)) d) || decide (d < 2) || decide (A + B ≤ 0)
/-- The loss, its parts given. -/
def bulE (A B nu d f l fr : Int) : Int := Go.Proofs.Ytmmhekakihimfaa.Edge.edge (if low A B d f l = true then nu else bulN A B d f l fr)
def bul (d f l fr : Int) (n : Nat) (zs : List Int) : Int := if n - 1 = 0 then 0 else bulE (mxS (slpAt d f n zs) (n - 1)) (mxS (slpAt d l n zs.reverse) (n - 1)) (sel gtr (nuAt d f l n fr zs) (n - 1)).2 d f l fr
theorem bul_none {d f l fr : Int} {n : Nat} {zs : List Int} (h : n - 1 = 0) : bul d f l fr n zs = 0 := if_pos h
theorem bul_some {d f l fr : Int} {n : Nat} {zs : List Int} (h : n - 1 ≠ 0) : bul d f l fr n zs = bulE (mxS (slpAt d f n zs) (n - 1)) (mxS (slpAt d l n zs.reverse) (n - 1)) (sel gtr (nuAt d f l n fr zs) (n - 1)).2 d f l fr := if_neg h
theorem bulE_low {A B nu d f l fr : Int} (h : low A B d f l = true) : bulE A B nu d f l fr = Go.Proofs.Ytmmhekakihimfaa.Edge.edge nu := by unfold bulE; rw [if_pos h]
theorem bulE_high {A B nu d f l fr : Int} (h : ¬ low A B d f l = true) : bulE A B nu d f l fr = Go.Proofs.Ytmmhekakihimfaa.Edge.edge (bulN A B d f l fr) := by unfold bulE; rw [if_neg h]
theorem low_cases (A B d f l : Int) : (A < near (1000000 * (l - f)) d ∧ low A B d f l = true) ∨ (¬ A < near (1000000 * (l - f)) d ∧ d < 2 ∧ low A B d f l = true) ∨ (¬ A < near (1000000 * (l - f)) d ∧ ¬ d < 2 ∧ A + B ≤ 0 ∧ low A B d f l = true) ∨ (¬ A < near (1000000 * (l - f)) d ∧ ¬ d < 2 ∧ ¬ A + B ≤ 0 ∧ ¬ low A B d f l = true) := by
  by_cases h1 : A < near (1000000 * (l - f)) d
  · exact .inl ⟨h1, by simp [low, h1]⟩
  · by_cases h2 : d < 2
    · exact .inr (.inl ⟨h1, h2, by simp [low, h2]⟩)
    · by_cases h3 : A + B ≤ 0
      · exact .inr (.inr (.inl ⟨h1, h2, h3, by simp [low, h3]⟩))
      · exact .inr (.inr (.inr ⟨h1, h2, h3, by simp [low]; omega⟩))
set_option maxHeartbeats 4000000 in
theorem spec_bullington (g n cap b off : Nat) (d f l fr : Int) (zs : List Int) (w : World) (hn : zs.length = n + 1) (hp : PIn w g d f l (.slice (some ⟨b, off, none⟩) (n + 1) cap)) (hb : b < w.heap.size) (hz : ∀ k, k ≤ n → w.cell? ⟨b, off + k, none⟩ = some (.int .i64 (zs.getD k 0))) (hzb : ∀ k, k ≤ n → 0 ≤ zs.getD k 0 ∧ zs.getD k 0 ≤ 90000)
    (d0 : 1 ≤ d) (d1 : d ≤ 283000) (f0 : 0 ≤ f) (f1 : f ≤ 180000) (l0 : 0 ≤ l) (l1 : l ≤ 180000) (n0 : 1 ≤ n) (n1 : n ≤ 64) (fr0 : 1 ≤ fr) (fr1 : fr ≤ 100000000) :
    Calls Try.prog 66 #[.pointer (some ⟨g, 0, none⟩), .int .i64 fr] w fun e w' => e = .returned (.int .i64 (bul d f l fr n zs)) ∧ On w w' := by
  obtain ⟨val, hval⟩ : ∃ val : Nat → Int, val = nuAt d f l n fr zs := ⟨_, rfl⟩
  have HP := Lib.hid hp
  have hW := fun w' (hw : On w w') hp => spec_l10Worst g n cap b off d f l fr zs w' hp (hw.lts _ hb) (fun k hk => (hw.cell (p := ⟨b, off + k, none⟩) (by exact hb)).trans (hz k (by omega))) hzb d0 d1 f0 f1 l0 l1 n0 n1 fr0 fr1
  rw [← hval] at hW
  by_cases g0 : n - 1 = 0
  · have en := Lib.hid (bul_none (d := d) (f := f) (l := l) (fr := fr) (zs := zs) g0)
    rw [g0, selI_zero] at hW
    have HW := Lib.hid hW
    clear hn hz hzb hval hW g0 hp
    go_enter Try.func66, Try.ntmps66
    go_wp2_with fail
    refine (HW.out _ (by repeat (first | with_reducible exact On.refl _ | apply On.alloc)) HP.out).mono ?_
    rintro e w1 ⟨rfl, h1⟩
    have HO1 := Lib.hid h1
    clear h1
    go_wp2_with fail
    go_ret
    exact ⟨ret_int en.out.symm, HO1.out⟩
  · have en := bul_some (d := d) (f := f) (l := l) (fr := fr) (zs := zs) g0
    have hbd := sel_nu_bd d f l n fr zs (n - 1)
    rw [← hval] at hbd en
    have hs0 := (sel_pos (b := gtr) (val := val) g0).1
    rw [selI_pos g0] at hW
    obtain ⟨s1, hs1⟩ : ∃ s1, s1 = (sel gtr val (n - 1)).1 := ⟨_, rfl⟩
    obtain ⟨s2, hs2⟩ : ∃ s2, s2 = (sel gtr val (n - 1)).2 := ⟨_, rfl⟩
    rw [← hs1] at hs0
    rw [← hs2] at hbd en
    rw [← hs1, ← hs2] at hW
    have hnn : ¬ ((s1 : Int) < 0) := by omega
    have hA := fun w' (hw : On w w') => spec_slope g n cap b off d f l zs w' (hp.on hw) (hw.lts _ hb) (fun k hk => (hw.cell (p := ⟨b, off + k, none⟩) (by exact hb)).trans (hz k (by omega))) hzb d0 d1 f0 f1 n0 n1
    have hT := fun w' (hw : On w w') => spec_back g n cap b off d f l zs w' hn n1 (hw.lts _ hb) (fun k hk => (hw.cell (p := ⟨b, off + k, none⟩) (by exact hb)).trans (hz k (by omega))) (hp.on hw)
    have hB := fun g2 b2 o2 c2 w' hp2 hb2 hz2 => spec_slope g2 n c2 b2 o2 d l f zs.reverse w' hp2 hb2 hz2 (turned_bd hn hzb) d0 d1 l0 l1 n0 n1
    have ab := mxS_bd (val := slpAt d f n zs) g0 (fun j j0 j1 => slp_bd (hzb j (by omega)).1 (hzb j (by omega)).2 d0 d1 f0 f1 (by omega) (by omega) (by omega))
    have bb := mxS_bd (val := slpAt d l n zs.reverse) g0 (fun j j0 j1 => slp_bd (turned_bd hn hzb j (by omega)).1 (turned_bd hn hzb j (by omega)).2 d0 d1 l0 l1 (by omega) (by omega) (by omega))
    generalize mxS (slpAt d f n zs) (n - 1) = A at *
    generalize mxS (slpAt d l n zs.reverse) (n - 1) = B at *
    obtain ⟨zr, hzr⟩ : ∃ zr, zr = zs.reverse := ⟨_, rfl⟩
    rw [← hzr] at hT hB
    have HW := Lib.hid hW
    have HA := Lib.hid hA
    have HT := Lib.hid hT
    have HB := Lib.hid hB
    have HE := Lib.hid (fun w => Go.Proofs.Ytmmhekakihimfaa.Edge.spec_edge s2 w hbd.1 hbd.2)
    have hlr : -180000 ≤ l - f ∧ l - f ≤ 180000 := by omega
    have er : IntKind.i64.wrap (l - f) = l - f := IntWalk.i64_in _ (by omega)
    have er2 : IntKind.i64.wrap (1000000 * (l - f)) = 1000000 * (l - f) := IntWalk.i64_in _ (by omega)
    have eab : IntKind.i64.wrap (A + B) = A + B := IntWalk.i64_in _ (by omega)
    have HL := Lib.hid (fun w => Arith.l01Div (1000000 * (l - f)) d w (by omega) (by omega) (by omega) (by omega) (by omega))
    clear hA hT hB hW hz hzb hval hs1 hs2 hzr g0 hp hn
    rcases low_cases A B d f l with ⟨c1, ha⟩ | ⟨c1, c2, ha⟩ | ⟨c1, c2, c3, ha⟩ | ⟨c1, c2, c3, ha⟩
    · have en := Lib.hid (en.trans (bulE_low ha))
      clear ha
      go_enter Try.func66, Try.ntmps66
      go_wp2_with fail
      refine (HW.out _ (by repeat (first | with_reducible exact On.refl _ | apply On.alloc)) (HP.out.on (by repeat (first | with_reducible exact On.refl _ | apply On.alloc)))).mono ?_
      rintro e w1 ⟨rfl, h1⟩
      have HO1 := Lib.hid (show On w w1 by refine On.trans ?_ h1; repeat (first | with_reducible exact On.refl _ | apply On.alloc))
      obtain ⟨p0, p1, p2, p3⟩ := HP.out.on HO1.out
      have hg1 := World.block_lt_of_cell? w1 _ p0
      clear h1
      go_wp2_with fail
      refine (HT.out _ (On.trans HO1.out (by repeat (first | with_reducible exact On.refl _ | apply On.alloc)))).mono ?_
      rintro e w2 ⟨b2, o2, c2', rfl, hb2, hz2, h2⟩
      have HO2 := Lib.hid (show On w w2 by refine On.trans ?_ h2; repeat (first | with_reducible exact HO1.out | apply On.alloc))
      have HB2 := Lib.hid hb2
      have HZ2 := Lib.hid hz2
      obtain ⟨p0, p1, p2, p3⟩ := HP.out.on HO2.out
      have hg2 := World.block_lt_of_cell? w2 _ p0
      clear h2 hb2 hz2
      go_wp2_with fail
      refine (HA.out _ (On.trans HO2.out (by repeat (first | with_reducible exact On.refl _ | apply On.alloc)))).mono ?_
      rintro e w3 ⟨rfl, h3⟩
      have HO3 := Lib.hid (show On w w3 by refine On.trans ?_ h3; repeat (first | with_reducible exact HO2.out | apply On.alloc))
      have HP2 := Lib.hid (show PIn w3 w2.heap.size d l f (.slice (some ⟨b2, o2, none⟩) (n + 1) c2') from PIn.on ⟨by simp [go_sem], by simp [go_sem], by simp [go_sem], by simp [go_sem]⟩ h3)
      have hb3 : b2 < w3.heap.size := h3.lts _ (by have := HB2.out; simp; omega)
      have HZ3 := Lib.hid (fun k (hk : k ≤ n) => (h3.cell (p := ⟨b2, o2 + k, none⟩) (by have := HB2.out; simp; omega)).trans (((On.alloc (On.refl w2) _).cell (p := ⟨b2, o2 + k, none⟩) (by exact HB2.out)).trans (HZ2.out k hk)))
      have HB3 := Lib.hid hb3
      obtain ⟨p0, p1, p2, p3⟩ := HP.out.on HO3.out
      have hg3 := World.block_lt_of_cell? w3 _ p0
      clear h3 hb3
      go_wp2_with fail
      refine (HB.out _ _ _ _ _ HP2.out HB3.out HZ3.out).mono ?_
      rintro e w4 ⟨rfl, h4⟩
      have HO4 := Lib.hid (HO3.out.trans h4)
      obtain ⟨p0, p1, p2, p3⟩ := HP.out.on HO4.out
      have hg4 := World.block_lt_of_cell? w4 _ p0
      clear h4
      go_wp2_with fail
      refine wp_region_onh (by kernel_rfl) (by kernel_rfl) ?_
      repeat (refine rest_step (fun K hK => ?_); go_simp; first | (refine hK _ ?_; clear hK K) | (apply Exists.intro; refine ⟨fun v1 hv1 => ?_, hK _ ?_⟩; (first | with_reducible exact rfl | with_reducible exact ⟨rfl, rfl⟩ | with_reducible exact Calls.on_same hv1 (HL.out _) | (obtain ⟨hc, hf⟩ := bcell hv1; go_simp; first | with_reducible exact rfl | with_reducible exact ⟨rfl, rfl⟩ | exact rfl | exact ⟨rfl, rfl⟩)); clear hK K))
      refine rest_nil ?_
      intro w5 h5
      have HO5 := Lib.hid (HO4.out.trans h5)
      obtain ⟨p0, p1, p2, p3⟩ := HP.out.on HO5.out
      have hg5 := World.block_lt_of_cell? w5 _ p0
      clear h5
      go_wp2_with fail
      refine (HE.out _).mono ?_
      rintro e w6 ⟨rfl, rfl⟩
      go_wp2_with fail
      go_ret
      exact ⟨ret_int en.out.symm, HO5.out⟩
    · have en := Lib.hid (en.trans (bulE_low ha))
      clear ha
      go_enter Try.func66, Try.ntmps66
      go_wp2_with fail
      refine (HW.out _ (by repeat (first | with_reducible exact On.refl _ | apply On.alloc)) (HP.out.on (by repeat (first | with_reducible exact On.refl _ | apply On.alloc)))).mono ?_
      rintro e w1 ⟨rfl, h1⟩
      have HO1 := Lib.hid (show On w w1 by refine On.trans ?_ h1; repeat (first | with_reducible exact On.refl _ | apply On.alloc))
      obtain ⟨p0, p1, p2, p3⟩ := HP.out.on HO1.out
      have hg1 := World.block_lt_of_cell? w1 _ p0
      clear h1
      go_wp2_with fail
      refine (HT.out _ (On.trans HO1.out (by repeat (first | with_reducible exact On.refl _ | apply On.alloc)))).mono ?_
      rintro e w2 ⟨b2, o2, c2', rfl, hb2, hz2, h2⟩
      have HO2 := Lib.hid (show On w w2 by refine On.trans ?_ h2; repeat (first | with_reducible exact HO1.out | apply On.alloc))
      have HB2 := Lib.hid hb2
      have HZ2 := Lib.hid hz2
      obtain ⟨p0, p1, p2, p3⟩ := HP.out.on HO2.out
      have hg2 := World.block_lt_of_cell? w2 _ p0
      clear h2 hb2 hz2
      go_wp2_with fail
      refine (HA.out _ (On.trans HO2.out (by repeat (first | with_reducible exact On.refl _ | apply On.alloc)))).mono ?_
      rintro e w3 ⟨rfl, h3⟩
      have HO3 := Lib.hid (show On w w3 by refine On.trans ?_ h3; repeat (first | with_reducible exact HO2.out | apply On.alloc))
      have HP2 := Lib.hid (show PIn w3 w2.heap.size d l f (.slice (some ⟨b2, o2, none⟩) (n + 1) c2') from PIn.on ⟨by simp [go_sem], by simp [go_sem], by simp [go_sem], by simp [go_sem]⟩ h3)
      have hb3 : b2 < w3.heap.size := h3.lts _ (by have := HB2.out; simp; omega)
      have HZ3 := Lib.hid (fun k (hk : k ≤ n) => (h3.cell (p := ⟨b2, o2 + k, none⟩) (by have := HB2.out; simp; omega)).trans (((On.alloc (On.refl w2) _).cell (p := ⟨b2, o2 + k, none⟩) (by exact HB2.out)).trans (HZ2.out k hk)))
      have HB3 := Lib.hid hb3
      obtain ⟨p0, p1, p2, p3⟩ := HP.out.on HO3.out
      have hg3 := World.block_lt_of_cell? w3 _ p0
      clear h3 hb3
      go_wp2_with fail
      refine (HB.out _ _ _ _ _ HP2.out HB3.out HZ3.out).mono ?_
      rintro e w4 ⟨rfl, h4⟩
      have HO4 := Lib.hid (HO3.out.trans h4)
      obtain ⟨p0, p1, p2, p3⟩ := HP.out.on HO4.out
      have hg4 := World.block_lt_of_cell? w4 _ p0
      clear h4
      go_wp2_with fail
      refine wp_region_onh (by kernel_rfl) (by kernel_rfl) ?_
      repeat (refine rest_step (fun K hK => ?_); go_simp; first | (refine hK _ ?_; clear hK K) | (apply Exists.intro; refine ⟨fun v1 hv1 => ?_, hK _ ?_⟩; (first | with_reducible exact rfl | with_reducible exact ⟨rfl, rfl⟩ | with_reducible exact Calls.on_same hv1 (HL.out _) | (obtain ⟨hc, hf⟩ := bcell hv1; go_simp; first | with_reducible exact rfl | with_reducible exact ⟨rfl, rfl⟩ | exact rfl | exact ⟨rfl, rfl⟩)); clear hK K))
      refine rest_nil ?_
      intro w5 h5
      have HO5 := Lib.hid (HO4.out.trans h5)
      obtain ⟨p0, p1, p2, p3⟩ := HP.out.on HO5.out
      have hg5 := World.block_lt_of_cell? w5 _ p0
      clear h5
      go_wp2_with fail
      refine (HE.out _).mono ?_
      rintro e w6 ⟨rfl, rfl⟩
      go_wp2_with fail
      go_ret
      exact ⟨ret_int en.out.symm, HO5.out⟩
    · have en := Lib.hid (en.trans (bulE_low ha))
      clear ha
      go_enter Try.func66, Try.ntmps66
      go_wp2_with fail
      refine (HW.out _ (by repeat (first | with_reducible exact On.refl _ | apply On.alloc)) (HP.out.on (by repeat (first | with_reducible exact On.refl _ | apply On.alloc)))).mono ?_
      rintro e w1 ⟨rfl, h1⟩
      have HO1 := Lib.hid (show On w w1 by refine On.trans ?_ h1; repeat (first | with_reducible exact On.refl _ | apply On.alloc))
      obtain ⟨p0, p1, p2, p3⟩ := HP.out.on HO1.out
      have hg1 := World.block_lt_of_cell? w1 _ p0
      clear h1
      go_wp2_with fail
      refine (HT.out _ (On.trans HO1.out (by repeat (first | with_reducible exact On.refl _ | apply On.alloc)))).mono ?_
      rintro e w2 ⟨b2, o2, c2', rfl, hb2, hz2, h2⟩
      have HO2 := Lib.hid (show On w w2 by refine On.trans ?_ h2; repeat (first | with_reducible exact HO1.out | apply On.alloc))
      have HB2 := Lib.hid hb2
      have HZ2 := Lib.hid hz2
      obtain ⟨p0, p1, p2, p3⟩ := HP.out.on HO2.out
      have hg2 := World.block_lt_of_cell? w2 _ p0
      clear h2 hb2 hz2
      go_wp2_with fail
      refine (HA.out _ (On.trans HO2.out (by repeat (first | with_reducible exact On.refl _ | apply On.alloc)))).mono ?_
      rintro e w3 ⟨rfl, h3⟩
      have HO3 := Lib.hid (show On w w3 by refine On.trans ?_ h3; repeat (first | with_reducible exact HO2.out | apply On.alloc))
      have HP2 := Lib.hid (show PIn w3 w2.heap.size d l f (.slice (some ⟨b2, o2, none⟩) (n + 1) c2') from PIn.on ⟨by simp [go_sem], by simp [go_sem], by simp [go_sem], by simp [go_sem]⟩ h3)
      have hb3 : b2 < w3.heap.size := h3.lts _ (by have := HB2.out; simp; omega)
      have HZ3 := Lib.hid (fun k (hk : k ≤ n) => (h3.cell (p := ⟨b2, o2 + k, none⟩) (by have := HB2.out; simp; omega)).trans (((On.alloc (On.refl w2) _).cell (p := ⟨b2, o2 + k, none⟩) (by exact HB2.out)).trans (HZ2.out k hk)))
      have HB3 := Lib.hid hb3
      obtain ⟨p0, p1, p2, p3⟩ := HP.out.on HO3.out
      have hg3 := World.block_lt_of_cell? w3 _ p0
      clear h3 hb3
      go_wp2_with fail
      refine (HB.out _ _ _ _ _ HP2.out HB3.out HZ3.out).mono ?_
      rintro e w4 ⟨rfl, h4⟩
      have HO4 := Lib.hid (HO3.out.trans h4)
      obtain ⟨p0, p1, p2, p3⟩ := HP.out.on HO4.out
      have hg4 := World.block_lt_of_cell? w4 _ p0
      clear h4
      go_wp2_with fail
      refine wp_region_onh (by kernel_rfl) (by kernel_rfl) ?_
      repeat (refine rest_step (fun K hK => ?_); go_simp; first | (refine hK _ ?_; clear hK K) | (apply Exists.intro; refine ⟨fun v1 hv1 => ?_, hK _ ?_⟩; (first | with_reducible exact rfl | with_reducible exact ⟨rfl, rfl⟩ | with_reducible exact Calls.on_same hv1 (HL.out _) | (obtain ⟨hc, hf⟩ := bcell hv1; go_simp; first | with_reducible exact rfl | with_reducible exact ⟨rfl, rfl⟩ | exact rfl | exact ⟨rfl, rfl⟩)); clear hK K))
      refine rest_nil ?_
      intro w5 h5
      have HO5 := Lib.hid (HO4.out.trans h5)
      obtain ⟨p0, p1, p2, p3⟩ := HP.out.on HO5.out
      have hg5 := World.block_lt_of_cell? w5 _ p0
      clear h5
      go_wp2_with fail
      refine (HE.out _).mono ?_
      rintro e w6 ⟨rfl, rfl⟩
      go_wp2_with fail
      go_ret
      exact ⟨ret_int en.out.symm, HO5.out⟩
    · have en := Lib.hid (en.trans (bulE_high ha))
      clear ha
      obtain ⟨t0, t1⟩ := prod_le (x := B) (e := d) bb.1 bb.2 (by omega) d1
      have et : IntKind.i64.wrap (B * d) = B * d := IntWalk.i64_in _ (by omega)
      have et2 : IntKind.i64.wrap (1000000 * (l - f) + B * d) = 1000000 * (l - f) + B * d := IntWalk.i64_in _ (by omega)
      have ed : IntKind.i64.wrap (d - 1) = d - 1 := IntWalk.i64_in _ (by omega)
      have HQ := Lib.hid (fun w => Arith.l01Div (1000000 * (l - f) + B * d) (A + B) w (by omega) (by omega) (by omega) (by omega) (by omega))
      have HMI := Lib.hid (fun w => Turn.spec_min (d - 1) (near (1000000 * (l - f) + B * d) (A + B)) w)
      have hma := fun w => spec_max 1 (Turn.smin (d - 1) (near (1000000 * (l - f) + B * d) (A + B))) w
      rw [show smax 1 (Turn.smin (d - 1) (near (1000000 * (l - f) + B * d) (A + B))) = meet A B (l - f) d from rfl] at hma
      have HMA := Lib.hid hma
      have en2 := Lib.hid (show bulN A B d f l fr = nuOf (rise A (l - f) (meet A B (l - f) d) d) (smax 1 (Earth.fres fr (meet A B (l - f) d) (d - meet A B (l - f) d))) from rfl)
      obtain ⟨m0, m1⟩ : 1 ≤ meet A B (l - f) d ∧ meet A B (l - f) d ≤ d - 1 := far_bd (by omega)
      generalize meet A B (l - f) d = e at *
      obtain ⟨x0, x1⟩ := prod_le (x := A) (e := e) ab.1 ab.2 (by omega) (by omega)
      obtain ⟨y0, y1⟩ := prod_le2 (x := l - f) (e := e) (by omega) (by omega) (by omega) (by omega)
      obtain ⟨u0, u1⟩ := near_mil x0 x1
      obtain ⟨v0, v1⟩ := near_le ((l - f) * e) d (by omega) 50940000000 (by omega) (by omega)
      have ex : IntKind.i64.wrap (A * e) = A * e := IntWalk.i64_in _ (by omega)
      have ey : IntKind.i64.wrap ((l - f) * e) = (l - f) * e := IntWalk.i64_in _ (by omega)
      have ez : IntKind.i64.wrap (near (A * e) 1000000 - near ((l - f) * e) d) = rise A (l - f) e d := IntWalk.i64_in _ (by omega)
      have ede : IntKind.i64.wrap (d - e) = d - e := IntWalk.i64_in _ (by omega)
      have hr : -1000000000000 ≤ rise A (l - f) e d ∧ rise A (l - f) e d ≤ 1000000000000 := by unfold rise; omega
      have HX := Lib.hid (fun w => Arith.l01Div (A * e) 1000000 w (by omega) (by omega) (by omega) (by omega) (by omega))
      have HY := Lib.hid (fun w => Arith.l01Div ((l - f) * e) d w (by omega) (by omega) (by omega) (by omega) (by omega))
      obtain ⟨r0, r1⟩ := fres_bd (a := e) (b := d - e) fr0 fr1 (by omega) (by omega) (by omega) (by omega)
      have HF := Lib.hid (fun w => Earth.spec_fresnel fr e (d - e) w fr0 fr1 (by omega) (by omega) (by omega) (by omega))
      have hN := fun w => spec_of (rise A (l - f) e d) (Earth.fres fr e (d - e)) w hr.1 hr.2 r0 r1
      rw [← en2.out] at hN
      have HN := Lib.hid hN
      obtain ⟨z0, z1⟩ : -1000000 ≤ bulN A B d f l fr ∧ bulN A B d f l fr ≤ 1000000 := lim_bd _
      have HE2 := Lib.hid (fun w => Go.Proofs.Ytmmhekakihimfaa.Edge.spec_edge (bulN A B d f l fr) w z0 z1)
      clear hma hN en2
      generalize bulN A B d f l fr = q at *
      generalize Earth.fres fr e (d - e) = u at *
      generalize rise A (l - f) e d = hh at *
      generalize near (A * e) 1000000 = nx at *
      generalize near ((l - f) * e) d = ny at *
      go_enter Try.func66, Try.ntmps66
      go_wp2_with fail
      refine (HW.out _ (by repeat (first | with_reducible exact On.refl _ | apply On.alloc)) (HP.out.on (by repeat (first | with_reducible exact On.refl _ | apply On.alloc)))).mono ?_
      rintro e w1 ⟨rfl, h1⟩
      have HO1 := Lib.hid (show On w w1 by refine On.trans ?_ h1; repeat (first | with_reducible exact On.refl _ | apply On.alloc))
      obtain ⟨p0, p1, p2, p3⟩ := HP.out.on HO1.out
      have hg1 := World.block_lt_of_cell? w1 _ p0
      clear h1
      go_wp2_with fail
      refine (HT.out _ (On.trans HO1.out (by repeat (first | with_reducible exact On.refl _ | apply On.alloc)))).mono ?_
      rintro e w2 ⟨b2, o2, c2', rfl, hb2, hz2, h2⟩
      have HO2 := Lib.hid (show On w w2 by refine On.trans ?_ h2; repeat (first | with_reducible exact HO1.out | apply On.alloc))
      have HB2 := Lib.hid hb2
      have HZ2 := Lib.hid hz2
      obtain ⟨p0, p1, p2, p3⟩ := HP.out.on HO2.out
      have hg2 := World.block_lt_of_cell? w2 _ p0
      clear h2 hb2 hz2
      go_wp2_with fail
      refine (HA.out _ (On.trans HO2.out (by repeat (first | with_reducible exact On.refl _ | apply On.alloc)))).mono ?_
      rintro e w3 ⟨rfl, h3⟩
      have HO3 := Lib.hid (show On w w3 by refine On.trans ?_ h3; repeat (first | with_reducible exact HO2.out | apply On.alloc))
      have HP2 := Lib.hid (show PIn w3 w2.heap.size d l f (.slice (some ⟨b2, o2, none⟩) (n + 1) c2') from PIn.on ⟨by simp [go_sem], by simp [go_sem], by simp [go_sem], by simp [go_sem]⟩ h3)
      have hb3 : b2 < w3.heap.size := h3.lts _ (by have := HB2.out; simp; omega)
      have HZ3 := Lib.hid (fun k (hk : k ≤ n) => (h3.cell (p := ⟨b2, o2 + k, none⟩) (by have := HB2.out; simp; omega)).trans (((On.alloc (On.refl w2) _).cell (p := ⟨b2, o2 + k, none⟩) (by exact HB2.out)).trans (HZ2.out k hk)))
      have HB3 := Lib.hid hb3
      obtain ⟨p0, p1, p2, p3⟩ := HP.out.on HO3.out
      have hg3 := World.block_lt_of_cell? w3 _ p0
      clear h3 hb3
      go_wp2_with fail
      refine (HB.out _ _ _ _ _ HP2.out HB3.out HZ3.out).mono ?_
      rintro e w4 ⟨rfl, h4⟩
      have HO4 := Lib.hid (HO3.out.trans h4)
      obtain ⟨p0, p1, p2, p3⟩ := HP.out.on HO4.out
      have hg4 := World.block_lt_of_cell? w4 _ p0
      clear h4
      go_wp2_with fail
      refine wp_region_onh (by kernel_rfl) (by kernel_rfl) ?_
      repeat (refine rest_step (fun K hK => ?_); go_simp; first | (refine hK _ ?_; clear hK K) | (apply Exists.intro; refine ⟨fun v1 hv1 => ?_, hK _ ?_⟩; (first | with_reducible exact rfl | with_reducible exact ⟨rfl, rfl⟩ | with_reducible exact Calls.on_same hv1 (HL.out _) | (obtain ⟨hc, hf⟩ := bcell hv1; go_simp; first | with_reducible exact rfl | with_reducible exact ⟨rfl, rfl⟩ | exact rfl | exact ⟨rfl, rfl⟩)); clear hK K))
      refine rest_nil ?_
      intro w5 h5
      have HO5 := Lib.hid (HO4.out.trans h5)
      obtain ⟨p0, p1, p2, p3⟩ := HP.out.on HO5.out
      have hg5 := World.block_lt_of_cell? w5 _ p0
      clear h5
      go_wp2_with fail
      refine wp_region_onh (by kernel_rfl) (by kernel_rfl) ?_
      repeat (refine rest_step (fun K hK => ?_); go_simp; first | (refine hK _ ?_; clear hK K) | (apply Exists.intro; refine ⟨fun v1 hv1 => ?_, hK _ ?_⟩; (first | with_reducible exact rfl | with_reducible exact ⟨rfl, rfl⟩ | with_reducible exact Calls.on_same hv1 (HQ.out _) | (obtain ⟨hc, hf⟩ := bcell hv1; go_simp; first | with_reducible exact rfl | with_reducible exact ⟨rfl, rfl⟩ | exact rfl | exact ⟨rfl, rfl⟩)); clear hK K))
      refine rest_nil ?_
      intro w6 h6
      have HO6 := Lib.hid (HO5.out.trans h6)
      obtain ⟨p0, p1, p2, p3⟩ := HP.out.on HO6.out
      have hg6 := World.block_lt_of_cell? w6 _ p0
      clear h6
      go_wp2_with fail
      refine (HMI.out _).mono ?_
      rintro e7 w7 ⟨rfl, rfl⟩
      go_wp2_with fail
      refine (HMA.out _).mono ?_
      rintro e7 w7 ⟨rfl, rfl⟩
      go_wp2_with fail
      refine wp_region_onh (by kernel_rfl) (by kernel_rfl) ?_
      repeat (refine rest_step (fun K hK => ?_); go_simp; first | (refine hK _ ?_; clear hK K) | (apply Exists.intro; refine ⟨fun v1 hv1 => ?_, hK _ ?_⟩; (first | with_reducible exact rfl | with_reducible exact ⟨rfl, rfl⟩ | with_reducible exact Calls.on_same hv1 (HX.out _) | with_reducible exact Calls.on_same hv1 (HY.out _) | (obtain ⟨hc, hf⟩ := bcell hv1; go_simp; first | with_reducible exact rfl | with_reducible exact ⟨rfl, rfl⟩ | exact rfl | exact ⟨rfl, rfl⟩)); clear hK K))
      refine rest_nil ?_
      intro w8 h8
      have HO8 := Lib.hid (HO6.out.trans h8)
      obtain ⟨p0, p1, p2, p3⟩ := HP.out.on HO8.out
      have hg8 := World.block_lt_of_cell? w8 _ p0
      clear h8
      go_wp2_with fail
      refine (HF.out _).mono ?_
      rintro e7 w7 ⟨rfl, rfl⟩
      go_wp2_with fail
      refine (HN.out _).mono ?_
      rintro e7 w7 ⟨rfl, rfl⟩
      go_wp2_with fail
      refine (HE2.out _).mono ?_
      rintro e7 w7 ⟨rfl, rfl⟩
      go_wp2_with fail
      go_ret
      exact ⟨ret_int en.out.symm, HO8.out⟩
set_option maxHeartbeats 4000000 in
theorem impl_bullington (n cap b off : Nat) (d f l fr : Int) (zs : List Int) (w : World) (hn : zs.length = n + 1) (hok : okP d f l zs = true) (hi : Ints w (.slice (some ⟨b, off, none⟩) (n + 1 : Nat) cap) zs) (hb : b < w.heap.size) (hz : ∀ k, k ≤ n → w.cell? ⟨b, off + k, none⟩ = some (.int .i64 (zs.getD k 0))) (hzb : ∀ k, k ≤ n → 0 ≤ zs.getD k 0 ∧ zs.getD k 0 ≤ 90000)
    (d0 : 1 ≤ d) (d1 : d ≤ 283000) (f0 : 0 ≤ f) (f1 : f ≤ 180000) (l0 : 0 ≤ l) (l1 : l ≤ 180000) (n0 : 2 ≤ n) (n1 : n ≤ 64) (fr0 : 1 ≤ fr) (fr1 : fr ≤ 100000000) :
    Calls Try.prog 67 #[.agg #[.int .i64 d, .int .i64 f, .int .i64 l, .slice (some ⟨b, off, none⟩) (n + 1) cap, .int .i64 fr]] w fun e w' => e = .returned (.int .i64 (bul d f l fr n zs)) ∧ On w w' := by
  obtain ⟨val, hval⟩ : ∃ val : Nat → Int, val = nuAt d f l n fr zs := ⟨_, rfl⟩
  have hW := fun w' (hw : On w w') => impl_worstEdge n cap b off d f l fr zs w' (hw.lts _ hb) (fun k hk => (hw.cell (p := ⟨b, off + k, none⟩) (by exact hb)).trans (hz k (by omega))) hzb d0 d1 f0 f1 l0 l1 (by omega) n1 fr0 fr1
  rw [← hval] at hW
  have g0 : n - 1 ≠ 0 := by omega
  have en := bul_some (d := d) (f := f) (l := l) (fr := fr) (zs := zs) g0
  have hbd := sel_nu_bd d f l n fr zs (n - 1)
  rw [← hval] at hbd en
  have e1 : weI val (n - 1) = ((sel gtr val (n - 1)).1 : Nat) := if_neg g0
  have e2 : weN val (n - 1) = (sel gtr val (n - 1)).2 := if_neg g0
  rw [e1, e2] at hW
  obtain ⟨s1, hs1⟩ : ∃ s1, s1 = (sel gtr val (n - 1)).1 := ⟨_, rfl⟩
  obtain ⟨s2, hs2⟩ : ∃ s2, s2 = (sel gtr val (n - 1)).2 := ⟨_, rfl⟩
  rw [← hs2] at hbd en
  rw [← hs1, ← hs2] at hW
  have hA := fun w' (hw : On w w') => impl_slope n cap b off d f l zs w' (hw.lts _ hb) (fun k hk => (hw.cell (p := ⟨b, off + k, none⟩) (by exact hb)).trans (hz k (by omega))) hzb d0 d1 f0 f1 n0 n1
  have hT := fun w' (hw : On w w') => impl_back n cap b off d f l zs w' hn n1 hok (hi.below hw)
  have hB := fun b2 o2 c2 w' hb2 hz2 => impl_slope n c2 b2 o2 d l f zs.reverse w' hb2 hz2 (turned_bd hn hzb) d0 d1 l0 l1 n0 n1
  have ab := mxS_bd (val := slpAt d f n zs) g0 (fun j j0 j1 => slp_bd (hzb j (by omega)).1 (hzb j (by omega)).2 d0 d1 f0 f1 (by omega) (by omega) (by omega))
  have bb := mxS_bd (val := slpAt d l n zs.reverse) g0 (fun j j0 j1 => slp_bd (turned_bd hn hzb j (by omega)).1 (turned_bd hn hzb j (by omega)).2 d0 d1 l0 l1 (by omega) (by omega) (by omega))
  generalize mxS (slpAt d f n zs) (n - 1) = A at *
  generalize mxS (slpAt d l n zs.reverse) (n - 1) = B at *
  obtain ⟨zr, hzr⟩ : ∃ zr, zr = zs.reverse := ⟨_, rfl⟩
  rw [← hzr] at hT hB
  have HW := Lib.hid hW
  have HA := Lib.hid hA
  have HT := Lib.hid hT
  have HB := Lib.hid hB
  have hE := fun w => Go.Proofs.Ytmmhekakihimfaa.Edge.impl_EdgeLoss s2 w
  rw [Go.Proofs.Ytmmhekakihimfaa.Edge.loss_in (inB_yes hbd.1 hbd.2)] at hE
  have HE := Lib.hid hE
  have hlr : -180000 ≤ l - f ∧ l - f ≤ 180000 := by omega
  have er : IntKind.i64.wrap (l - f) = l - f := IntWalk.i64_in _ (by omega)
  have er2 : IntKind.i64.wrap (1000000 * (l - f)) = 1000000 * (l - f) := IntWalk.i64_in _ (by omega)
  have eab : IntKind.i64.wrap (A + B) = A + B := IntWalk.i64_in _ (by omega)
  have HL := Lib.hid (fun w => Arith.nearest (1000000 * (l - f)) d w (by omega) (by omega) (by omega) (by omega) (by omega))
  clear hA hT hB hW hz hzb hval hs1 hs2 hzr g0 hn e1 e2 hE hi hok
  rcases low_cases A B d f l with ⟨c1, ha⟩ | ⟨c1, c2, ha⟩ | ⟨c1, c2, c3, ha⟩ | ⟨c1, c2, c3, ha⟩
  · have en := Lib.hid (en.trans (bulE_low ha))
    clear ha
    go_enter Try.func67, Try.ntmps67
    go_wp2_with fail
    refine (HT.out _ (by repeat (first | with_reducible exact On.refl _ | apply On.alloc))).mono ?_
    rintro e w2 ⟨b2, o2, c2', rfl, hb2, hz2, h2⟩
    have HO2 := Lib.hid (show On w w2 by refine On.trans ?_ h2; repeat (first | with_reducible exact On.refl _ | apply On.alloc))
    have HP := Lib.hid (show SIn w2 w.heap.size d f l (.slice (some ⟨b, off, none⟩) (n + 1) cap) fr from SIn.on ⟨⟨by simp [go_sem], by simp [go_sem], by simp [go_sem], by simp [go_sem]⟩, by simp [go_sem]⟩ h2)
    have HB2 := Lib.hid hb2
    have HZ2 := Lib.hid hz2
    obtain ⟨⟨p0, p1, p2, p3⟩, p4⟩ := HP.out
    have hg2 := World.block_lt_of_cell? w2 _ p0
    have HAX := Lib.hid (fun w' (h : On w2 w') => HA.out w' (HO2.out.trans h))
    have HBX := Lib.hid (fun w' (h : On w2 w') => HB.out b2 o2 c2' w' (h.lts _ hb2) (fun k hk => (h.cell (p := ⟨b2, o2 + k, none⟩) (by exact hb2)).trans (hz2 k hk)))
    clear h2 hb2 hz2 HB2 HZ2
    go_wp2_with fail
    refine wp_region_onh (by kernel_rfl) (by kernel_rfl) ?_
    repeat (refine rest_step (fun K hK => ?_); go_simp; first | (refine hK _ ?_; clear hK K) | (apply Exists.intro; refine ⟨fun v1 hv1 => ?_, hK _ ?_⟩; (first | with_reducible exact rfl | with_reducible exact ⟨rfl, rfl⟩ | with_reducible exact Calls.on hv1 (HAX.out _ (On.trans (On.alloc (On.refl _) _) hv1)) | with_reducible exact Calls.on hv1 (HBX.out _ (On.trans (On.alloc (On.refl _) _) hv1)) | (obtain ⟨hc, hf⟩ := bcell hv1; go_simp; first | with_reducible exact rfl | with_reducible exact ⟨rfl, rfl⟩ | exact rfl | exact ⟨rfl, rfl⟩)); clear hK K))
    refine rest_nil ?_
    intro w3 h3
    have HO3 := Lib.hid (show On w2 w3 from On.trans (On.alloc (On.refl _) _) h3)
    obtain ⟨⟨p0, p1, p2, p3⟩, p4⟩ := HP.out.on HO3.out
    have hg3 := World.block_lt_of_cell? w3 _ p0
    clear h3
    go_wp2_with fail
    refine (HL.out _).mono ?_
    rintro e4 w4 ⟨rfl, q4, hq4⟩
    have HO34 := Lib.hid (show On w3 w4 from by rw [hq4]; exact (On.refl _).drewN _)
    have HO4 := Lib.hid (show On w w4 from (HO2.out.trans HO3.out).trans HO34.out)
    obtain ⟨⟨p0, p1, p2, p3⟩, p4⟩ := (HP.out.on HO3.out).on HO34.out
    have hg4 := World.block_lt_of_cell? w4 _ p0
    clear hq4
    go_wp2_with fail
    refine (HW.out _ (by repeat (first | with_reducible exact HO4.out | apply On.drewN | apply On.alloc))).mono ?_
    rintro e5 w5 ⟨rfl, h5⟩
    have HO5 := Lib.hid (show On w w5 by refine On.trans ?_ h5; repeat (first | with_reducible exact HO4.out | apply On.drewN | apply On.alloc))
    clear h5
    go_wp2_with fail
    refine (HE.out _).mono ?_
    rintro e6 w6 ⟨rfl, h6⟩
    have HO6 := Lib.hid (HO5.out.trans h6)
    clear h6
    go_wp2_with fail
    go_ret
    exact ⟨ret_int en.out.symm, HO6.out⟩
  · have en := Lib.hid (en.trans (bulE_low ha))
    clear ha
    go_enter Try.func67, Try.ntmps67
    go_wp2_with fail
    refine (HT.out _ (by repeat (first | with_reducible exact On.refl _ | apply On.alloc))).mono ?_
    rintro e w2 ⟨b2, o2, c2', rfl, hb2, hz2, h2⟩
    have HO2 := Lib.hid (show On w w2 by refine On.trans ?_ h2; repeat (first | with_reducible exact On.refl _ | apply On.alloc))
    have HP := Lib.hid (show SIn w2 w.heap.size d f l (.slice (some ⟨b, off, none⟩) (n + 1) cap) fr from SIn.on ⟨⟨by simp [go_sem], by simp [go_sem], by simp [go_sem], by simp [go_sem]⟩, by simp [go_sem]⟩ h2)
    have HB2 := Lib.hid hb2
    have HZ2 := Lib.hid hz2
    obtain ⟨⟨p0, p1, p2, p3⟩, p4⟩ := HP.out
    have hg2 := World.block_lt_of_cell? w2 _ p0
    have HAX := Lib.hid (fun w' (h : On w2 w') => HA.out w' (HO2.out.trans h))
    have HBX := Lib.hid (fun w' (h : On w2 w') => HB.out b2 o2 c2' w' (h.lts _ hb2) (fun k hk => (h.cell (p := ⟨b2, o2 + k, none⟩) (by exact hb2)).trans (hz2 k hk)))
    clear h2 hb2 hz2 HB2 HZ2
    go_wp2_with fail
    refine wp_region_onh (by kernel_rfl) (by kernel_rfl) ?_
    repeat (refine rest_step (fun K hK => ?_); go_simp; first | (refine hK _ ?_; clear hK K) | (apply Exists.intro; refine ⟨fun v1 hv1 => ?_, hK _ ?_⟩; (first | with_reducible exact rfl | with_reducible exact ⟨rfl, rfl⟩ | with_reducible exact Calls.on hv1 (HAX.out _ (On.trans (On.alloc (On.refl _) _) hv1)) | with_reducible exact Calls.on hv1 (HBX.out _ (On.trans (On.alloc (On.refl _) _) hv1)) | (obtain ⟨hc, hf⟩ := bcell hv1; go_simp; first | with_reducible exact rfl | with_reducible exact ⟨rfl, rfl⟩ | exact rfl | exact ⟨rfl, rfl⟩)); clear hK K))
    refine rest_nil ?_
    intro w3 h3
    have HO3 := Lib.hid (show On w2 w3 from On.trans (On.alloc (On.refl _) _) h3)
    obtain ⟨⟨p0, p1, p2, p3⟩, p4⟩ := HP.out.on HO3.out
    have hg3 := World.block_lt_of_cell? w3 _ p0
    clear h3
    go_wp2_with fail
    refine (HL.out _).mono ?_
    rintro e4 w4 ⟨rfl, q4, hq4⟩
    have HO34 := Lib.hid (show On w3 w4 from by rw [hq4]; exact (On.refl _).drewN _)
    have HO4 := Lib.hid (show On w w4 from (HO2.out.trans HO3.out).trans HO34.out)
    obtain ⟨⟨p0, p1, p2, p3⟩, p4⟩ := (HP.out.on HO3.out).on HO34.out
    have hg4 := World.block_lt_of_cell? w4 _ p0
    clear hq4
    go_wp2_with fail
    refine (HW.out _ (by repeat (first | with_reducible exact HO4.out | apply On.drewN | apply On.alloc))).mono ?_
    rintro e5 w5 ⟨rfl, h5⟩
    have HO5 := Lib.hid (show On w w5 by refine On.trans ?_ h5; repeat (first | with_reducible exact HO4.out | apply On.drewN | apply On.alloc))
    clear h5
    go_wp2_with fail
    refine (HE.out _).mono ?_
    rintro e6 w6 ⟨rfl, h6⟩
    have HO6 := Lib.hid (HO5.out.trans h6)
    clear h6
    go_wp2_with fail
    go_ret
    exact ⟨ret_int en.out.symm, HO6.out⟩
  · have en := Lib.hid (en.trans (bulE_low ha))
    clear ha
    go_enter Try.func67, Try.ntmps67
    go_wp2_with fail
    refine (HT.out _ (by repeat (first | with_reducible exact On.refl _ | apply On.alloc))).mono ?_
    rintro e w2 ⟨b2, o2, c2', rfl, hb2, hz2, h2⟩
    have HO2 := Lib.hid (show On w w2 by refine On.trans ?_ h2; repeat (first | with_reducible exact On.refl _ | apply On.alloc))
    have HP := Lib.hid (show SIn w2 w.heap.size d f l (.slice (some ⟨b, off, none⟩) (n + 1) cap) fr from SIn.on ⟨⟨by simp [go_sem], by simp [go_sem], by simp [go_sem], by simp [go_sem]⟩, by simp [go_sem]⟩ h2)
    have HB2 := Lib.hid hb2
    have HZ2 := Lib.hid hz2
    obtain ⟨⟨p0, p1, p2, p3⟩, p4⟩ := HP.out
    have hg2 := World.block_lt_of_cell? w2 _ p0
    have HAX := Lib.hid (fun w' (h : On w2 w') => HA.out w' (HO2.out.trans h))
    have HBX := Lib.hid (fun w' (h : On w2 w') => HB.out b2 o2 c2' w' (h.lts _ hb2) (fun k hk => (h.cell (p := ⟨b2, o2 + k, none⟩) (by exact hb2)).trans (hz2 k hk)))
    clear h2 hb2 hz2 HB2 HZ2
    go_wp2_with fail
    refine wp_region_onh (by kernel_rfl) (by kernel_rfl) ?_
    repeat (refine rest_step (fun K hK => ?_); go_simp; first | (refine hK _ ?_; clear hK K) | (apply Exists.intro; refine ⟨fun v1 hv1 => ?_, hK _ ?_⟩; (first | with_reducible exact rfl | with_reducible exact ⟨rfl, rfl⟩ | with_reducible exact Calls.on hv1 (HAX.out _ (On.trans (On.alloc (On.refl _) _) hv1)) | with_reducible exact Calls.on hv1 (HBX.out _ (On.trans (On.alloc (On.refl _) _) hv1)) | (obtain ⟨hc, hf⟩ := bcell hv1; go_simp; first | with_reducible exact rfl | with_reducible exact ⟨rfl, rfl⟩ | exact rfl | exact ⟨rfl, rfl⟩)); clear hK K))
    refine rest_nil ?_
    intro w3 h3
    have HO3 := Lib.hid (show On w2 w3 from On.trans (On.alloc (On.refl _) _) h3)
    obtain ⟨⟨p0, p1, p2, p3⟩, p4⟩ := HP.out.on HO3.out
    have hg3 := World.block_lt_of_cell? w3 _ p0
    clear h3
    go_wp2_with fail
    refine (HL.out _).mono ?_
    rintro e4 w4 ⟨rfl, q4, hq4⟩
    have HO34 := Lib.hid (show On w3 w4 from by rw [hq4]; exact (On.refl _).drewN _)
    have HO4 := Lib.hid (show On w w4 from (HO2.out.trans HO3.out).trans HO34.out)
    obtain ⟨⟨p0, p1, p2, p3⟩, p4⟩ := (HP.out.on HO3.out).on HO34.out
    have hg4 := World.block_lt_of_cell? w4 _ p0
    clear hq4
    go_wp2_with fail
    refine (HW.out _ (by repeat (first | with_reducible exact HO4.out | apply On.drewN | apply On.alloc))).mono ?_
    rintro e5 w5 ⟨rfl, h5⟩
    have HO5 := Lib.hid (show On w w5 by refine On.trans ?_ h5; repeat (first | with_reducible exact HO4.out | apply On.drewN | apply On.alloc))
    clear h5
    go_wp2_with fail
    refine (HE.out _).mono ?_
    rintro e6 w6 ⟨rfl, h6⟩
    have HO6 := Lib.hid (HO5.out.trans h6)
    clear h6
    go_wp2_with fail
    go_ret
    exact ⟨ret_int en.out.symm, HO6.out⟩
  · have en := Lib.hid (en.trans (bulE_high ha))
    clear ha
    obtain ⟨t0, t1⟩ := prod_le (x := B) (e := d) bb.1 bb.2 (by omega) d1
    have et : IntKind.i64.wrap (B * d) = B * d := IntWalk.i64_in _ (by omega)
    have et2 : IntKind.i64.wrap (1000000 * (l - f) + B * d) = 1000000 * (l - f) + B * d := IntWalk.i64_in _ (by omega)
    have ed : IntKind.i64.wrap (d - 1) = d - 1 := IntWalk.i64_in _ (by omega)
    have HQ := Lib.hid (fun w => Arith.nearest (1000000 * (l - f) + B * d) (A + B) w (by omega) (by omega) (by omega) (by omega) (by omega))
    have hma := fun w => Turn.impl_bounded (near (1000000 * (l - f) + B * d) (A + B)) 1 (d - 1) w
    rw [far_impl, show far (near (1000000 * (l - f) + B * d) (A + B)) d = meet A B (l - f) d from rfl] at hma
    have HMA := Lib.hid hma
    have en2 := Lib.hid (show bulN A B d f l fr = nuOf (rise A (l - f) (meet A B (l - f) d) d) (rad fr (meet A B (l - f) d) (d - meet A B (l - f) d)) from rfl)
    obtain ⟨m0, m1⟩ : 1 ≤ meet A B (l - f) d ∧ meet A B (l - f) d ≤ d - 1 := far_bd (by omega)
    generalize meet A B (l - f) d = e at *
    obtain ⟨x0, x1⟩ := prod_le (x := A) (e := e) ab.1 ab.2 (by omega) (by omega)
    obtain ⟨y0, y1⟩ := prod_le2 (x := l - f) (e := e) (by omega) (by omega) (by omega) (by omega)
    obtain ⟨u0, u1⟩ := near_mil x0 x1
    obtain ⟨v0, v1⟩ := near_le ((l - f) * e) d (by omega) 50940000000 (by omega) (by omega)
    have ex : IntKind.i64.wrap (A * e) = A * e := IntWalk.i64_in _ (by omega)
    have ey : IntKind.i64.wrap ((l - f) * e) = (l - f) * e := IntWalk.i64_in _ (by omega)
    have ez : IntKind.i64.wrap (near (A * e) 1000000 - near ((l - f) * e) d) = rise A (l - f) e d := IntWalk.i64_in _ (by omega)
    have hr : -1000000000000 ≤ rise A (l - f) e d ∧ rise A (l - f) e d ≤ 1000000000000 := by unfold rise; omega
    have HX := Lib.hid (fun w => Arith.nearest (A * e) 1000000 w (by omega) (by omega) (by omega) (by omega) (by omega))
    have HY := Lib.hid (fun w => Arith.nearest ((l - f) * e) d w (by omega) (by omega) (by omega) (by omega) (by omega))
    have hN := fun w => impl_parameterAt d f l fr e (rise A (l - f) e d) (some ⟨b, off, none⟩) (n + 1) cap w d1 (by omega) (by omega) fr0 fr1 hr.1 hr.2
    rw [← en2.out] at hN
    have HN := Lib.hid hN
    obtain ⟨z0, z1⟩ : -1000000 ≤ bulN A B d f l fr ∧ bulN A B d f l fr ≤ 1000000 := lim_bd _
    have hE2 := fun w => Go.Proofs.Ytmmhekakihimfaa.Edge.impl_EdgeLoss (bulN A B d f l fr) w
    rw [Go.Proofs.Ytmmhekakihimfaa.Edge.loss_in (inB_yes z0 z1)] at hE2
    have HE2 := Lib.hid hE2
    clear hma hN en2 hE2
    generalize bulN A B d f l fr = q at *
    generalize rise A (l - f) e d = hh at *
    generalize near (A * e) 1000000 = nx at *
    generalize near ((l - f) * e) d = ny at *
    go_enter Try.func67, Try.ntmps67
    go_wp2_with fail
    refine (HT.out _ (by repeat (first | with_reducible exact On.refl _ | apply On.alloc))).mono ?_
    rintro e w2 ⟨b2, o2, c2', rfl, hb2, hz2, h2⟩
    have HO2 := Lib.hid (show On w w2 by refine On.trans ?_ h2; repeat (first | with_reducible exact On.refl _ | apply On.alloc))
    have HP := Lib.hid (show SIn w2 w.heap.size d f l (.slice (some ⟨b, off, none⟩) (n + 1) cap) fr from SIn.on ⟨⟨by simp [go_sem], by simp [go_sem], by simp [go_sem], by simp [go_sem]⟩, by simp [go_sem]⟩ h2)
    have HB2 := Lib.hid hb2
    have HZ2 := Lib.hid hz2
    obtain ⟨⟨p0, p1, p2, p3⟩, p4⟩ := HP.out
    have hg2 := World.block_lt_of_cell? w2 _ p0
    have HAX := Lib.hid (fun w' (h : On w2 w') => HA.out w' (HO2.out.trans h))
    have HBX := Lib.hid (fun w' (h : On w2 w') => HB.out b2 o2 c2' w' (h.lts _ hb2) (fun k hk => (h.cell (p := ⟨b2, o2 + k, none⟩) (by exact hb2)).trans (hz2 k hk)))
    clear h2 hb2 hz2 HB2 HZ2
    go_wp2_with fail
    refine wp_region_onh (by kernel_rfl) (by kernel_rfl) ?_
    repeat (refine rest_step (fun K hK => ?_); go_simp; first | (refine hK _ ?_; clear hK K) | (apply Exists.intro; refine ⟨fun v1 hv1 => ?_, hK _ ?_⟩; (first | with_reducible exact rfl | with_reducible exact ⟨rfl, rfl⟩ | with_reducible exact Calls.on hv1 (HAX.out _ (On.trans (On.alloc (On.refl _) _) hv1)) | with_reducible exact Calls.on hv1 (HBX.out _ (On.trans (On.alloc (On.refl _) _) hv1)) | (obtain ⟨hc, hf⟩ := bcell hv1; go_simp; first | with_reducible exact rfl | with_reducible exact ⟨rfl, rfl⟩ | exact rfl | exact ⟨rfl, rfl⟩)); clear hK K))
    refine rest_nil ?_
    intro w3 h3
    have HO3 := Lib.hid (show On w2 w3 from On.trans (On.alloc (On.refl _) _) h3)
    obtain ⟨⟨p0, p1, p2, p3⟩, p4⟩ := HP.out.on HO3.out
    have hg3 := World.block_lt_of_cell? w3 _ p0
    clear h3
    go_wp2_with fail
    refine (HL.out _).mono ?_
    rintro e4 w4 ⟨rfl, q4, hq4⟩
    have HO34 := Lib.hid (show On w3 w4 from by rw [hq4]; exact (On.refl _).drewN _)
    have HO4 := Lib.hid (show On w w4 from (HO2.out.trans HO3.out).trans HO34.out)
    obtain ⟨⟨p0, p1, p2, p3⟩, p4⟩ := (HP.out.on HO3.out).on HO34.out
    have hg4 := World.block_lt_of_cell? w4 _ p0
    clear hq4
    go_wp2_with fail
    refine wp_region_onh (by kernel_rfl) (by kernel_rfl) ?_
    repeat (refine rest_step (fun K hK => ?_); go_simp; first | (refine hK _ ?_; clear hK K) | (apply Exists.intro; refine ⟨fun v1 hv1 => ?_, hK _ ?_⟩; (first | with_reducible exact rfl | with_reducible exact ⟨rfl, rfl⟩ | with_reducible exact Calls.on_drew hv1 (HQ.out _) | with_reducible exact Calls.on_same hv1 (HMA.out _) | (obtain ⟨hc, hf⟩ := bcell hv1; go_simp; first | with_reducible exact rfl | with_reducible exact ⟨rfl, rfl⟩ | exact rfl | exact ⟨rfl, rfl⟩)); clear hK K))
    refine rest_nil ?_
    intro w5 h5
    have HO5 := Lib.hid (show On w3 w5 from On.trans HO34.out h5)
    obtain ⟨⟨p0, p1, p2, p3⟩, p4⟩ := (HP.out.on HO3.out).on HO5.out
    have hg5 := World.block_lt_of_cell? w5 _ p0
    clear h5
    go_wp2_with fail
    refine wp_region_onh (by kernel_rfl) (by kernel_rfl) ?_
    repeat (refine rest_step (fun K hK => ?_); go_simp; first | (refine hK _ ?_; clear hK K) | (apply Exists.intro; refine ⟨fun v1 hv1 => ?_, hK _ ?_⟩; (first | with_reducible exact rfl | with_reducible exact ⟨rfl, rfl⟩ | with_reducible exact Calls.on_drew hv1 (HX.out _) | with_reducible exact Calls.on_drew hv1 (HY.out _) | (obtain ⟨hc, hf⟩ := bcell hv1; go_simp; first | with_reducible exact rfl | with_reducible exact ⟨rfl, rfl⟩ | exact rfl | exact ⟨rfl, rfl⟩)); clear hK K))
    refine rest_nil ?_
    intro w6 h6
    have HO6 := Lib.hid (HO5.out.trans h6)
    obtain ⟨⟨p0, p1, p2, p3⟩, p4⟩ := (HP.out.on HO3.out).on HO6.out
    have hg6 := World.block_lt_of_cell? w6 _ p0
    clear h6
    go_wp2_with fail
    refine (HN.out _).mono ?_
    rintro e7 w7 ⟨rfl, h7⟩
    have HO7 := Lib.hid (show On w6 w7 by refine On.trans ?_ h7; repeat (first | with_reducible exact On.refl _ | apply On.drewN | apply On.alloc))
    clear h7
    go_wp2_with fail
    refine (HE2.out _).mono ?_
    rintro e8 w8 ⟨rfl, h8⟩
    have HO8 := Lib.hid (HO7.out.trans h8)
    clear h8
    go_wp2_with fail
    go_ret
    exact ⟨ret_int en.out.symm, ((HO2.out.trans HO3.out).trans HO6.out).trans HO8.out⟩
end Go.Proofs.Ytmmhekakihimfaa.Nu
