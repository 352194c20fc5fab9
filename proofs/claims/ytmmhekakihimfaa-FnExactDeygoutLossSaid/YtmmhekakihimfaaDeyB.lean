
/-
  The loss beside an edge, in the program. Conditions: each theorem's own.
-/
import Derived.Test.YtmmhekakihimfaaDey
namespace Go.Proofs.Ytmmhekakihimfaa.Nu
open Go.RowKit Go.Shelf
open Plain
open Ints (Ints Own)
open Prof (PIn clr off_bd off slice_of okP of_okP ret_ii)

theorem rX_yes (x : Int) : rX 0 x = x := rfl
theorem rZ_yes (zs : List Int) : rZ 0 zs = zs := rfl
theorem rX_six (x : Int) : rX 6 x = 0 := rfl
theorem rZ_six (zs : List Int) : rZ 6 zs = [] := rfl
set_option maxHeartbeats 4000000 in
theorem impl_beside (g gd n cap b off i k : Nat) (d f l fr : Int) (zs : List Int) (w : World) (hs : SIn w g d f l (.slice (some ⟨b, off, none⟩) (n + 1) cap) fr) (hd : w.cell? ⟨gd, 0, none⟩ = some (.int .i64 1))
    (hi : Ints w (.slice (some ⟨b, off, none⟩) (n + 1 : Nat) cap) zs) (hzn : zs.length = n + 1) (hok : okP d f l zs = true) (hik : i < k) (hkn : k ≤ n) (n1 : n ≤ 64) (hcap : zs.length ≤ cap) (fr0 : 1 ≤ fr) (fr1 : fr ≤ 100000000) :
    Calls Try.prog 88 #[.int .i64 i, .int .i64 k, .pointer (some ⟨g, 0, none⟩), .pointer (some ⟨gd, 0, none⟩)] w fun e w' => e = .returned (.int .i64 (sideP d f l fr zs i k)) ∧ On w w' := by
  have hv : (.slice (some ⟨b, off, none⟩) zs.length cap : Value) = .slice (some ⟨b, off, none⟩) (n + 1) cap := by rw [hzn]
  have hpt := fun w' (hw : On w w') => impl_part d f l i k (.slice (some ⟨b, off, none⟩) (n + 1) cap) zs w' (by omega) ⟨hi.below hw, some ⟨b, off, none⟩, cap, hv.symm, hcap⟩
  have hpb : ptB zs (i : Int) (k : Int) = true := by unfold ptB; rw [inB_yes (by omega) (by omega), inB_yes (by omega) (by omega)]; rfl
  have hcl : (ptZ zs i k).length = k - i + 1 := by unfold ptZ; rw [Int.toNat_natCast, Int.toNat_natCast, cut_len (by omega)]; omega
  have no := sideP_no (d := d) (f := f) (l := l) (fr := fr) (i := i) (k := k) (zs := zs)
  have yes := fun h => sideP_yes (d := d) (f := f) (l := l) (fr := fr) (i := i) (k := k) (zs := zs) h hcl
  have c6 := fun q => pt_6 (d := d) (f := f) (l := l) (i := i) (k := k) (zs := zs) hok hpb q
  have c0 := fun q => pt_0 (d := d) (f := f) (l := l) (i := i) (k := k) (zs := zs) hok hpb q
  obtain ⟨m, hm⟩ : ∃ m, m = k - i := ⟨_, rfl⟩
  rw [← hm] at hcl yes
  have hm64 : m ≤ 64 := by omega
  generalize ptC d f l i k zs = C at *
  generalize ptD d zs i k = pd at *
  generalize ptE f l zs i = pe at *
  generalize ptE f l zs k = pk at *
  generalize ptZ zs i k = zz at *
  have HCL := Lib.hid hcl
  have HS := Lib.hid hs
  have HD := Lib.hid hd
  obtain ⟨⟨s0, s1, s2, s3⟩, s4⟩ := hs
  have hg := World.block_lt_of_cell? w _ s0
  have hgd := World.block_lt_of_cell? w _ hd
  clear hm hi hpb hok hv
  cases hq : okP pd pe pk zz with
  | false =>
    have en := Lib.hid (no hq)
    obtain rfl := c6 hq
    simp only [rX_six, rZ_six, List.length_nil] at hpt
    have HPT := Lib.hid hpt
    clear no yes hq hcl c6 c0 hpt hzn
    go_enter Try.func88, Try.ntmps88
    go_wp2_with fail
    refine (HPT.out _ (by repeat (first | with_reducible exact On.refl _ | apply On.alloc))).mono ?_
    rintro e w1 ⟨a', c', rfl, ho, h1⟩
    have HO1 := Lib.hid (show On w w1 by refine On.trans ?_ h1; repeat (first | with_reducible exact On.refl _ | apply On.alloc))
    clear h1 ho
    go_wp2_with fail
    go_ret
    exact ⟨ret_int en.out.symm, by repeat (first | with_reducible exact HO1.out | apply On.alloc)⟩
  | true =>
    have en := Lib.hid (yes hq)
    obtain rfl := c0 hq
    simp only [rX_yes, rZ_yes, hcl] at hpt
    have HPT := Lib.hid hpt
    obtain ⟨n', hzn', m0, m1, hzb, ⟨e0, e1⟩, ⟨f0, f1⟩, ⟨l0, l1⟩, -, -⟩ := see_at (see_ok (fr := fr) hq (inB_yes fr0 fr1))
    obtain rfl : n' = m := by omega
    have HZB := Lib.hid hzb
    clear no yes hq hcl c6 c0 hpt hzn hzn' hzb
    go_enter Try.func88, Try.ntmps88
    go_wp2_with fail
    refine (HPT.out _ (by repeat (first | with_reducible exact On.refl _ | apply On.alloc))).mono ?_
    rintro e w1 ⟨a', c', rfl, ⟨-, ho⟩, h1⟩
    have hi2 : Ints w1 (.slice a' zz.length c') zz := by rw [HCL.out]; exact ho.ints
    obtain ⟨b2, o2, rfl, hb2, hc2⟩ := slice_of hi2 (by have := HCL.out; omega)
    have HO1 := Lib.hid (show On w w1 by refine On.trans ?_ h1; repeat (first | with_reducible exact On.refl _ | apply On.alloc))
    have HDY := Lib.hid (fun w' (h3 : On w1 w') => impl_dey0 n' c' b2 o2 pd pe pk fr zz w' (h3.lts _ hb2) (fun k hk => (h3.cell (p := ⟨b2, o2 + k, none⟩) (by exact hb2)).trans (hc2 k (by have := HCL.out; omega))) HZB.out e0 e1 f0 f1 l0 l1 m0 m1 fr0 fr1)
    obtain ⟨⟨s0, s1, s2, s3⟩, s4⟩ := HS.out.on HO1.out
    have d4 := (HO1.out.cell (p := ⟨gd, 0, none⟩) (by exact hgd)).trans HD.out
    have hg1 := World.block_lt_of_cell? w1 _ s0
    have hgd1 := World.block_lt_of_cell? w1 _ d4
    clear h1 ho hi2 hc2
    go_wp2_with fail
    refine (HDY.out _ (by repeat (first | with_reducible exact On.refl _ | apply On.alloc))).mono ?_
    rintro e w4 ⟨rfl, h4⟩
    have HO4 := Lib.hid (show On w w4 by refine On.trans ?_ h4; repeat (first | with_reducible exact HO1.out | apply On.alloc))
    clear h4
    go_wp2_with fail
    go_ret
    exact ⟨ret_int en.out.symm, HO4.out⟩
end Go.Proofs.Ytmmhekakihimfaa.Nu
