/-
  For all names, gains and widths BeamAntenna of the program returns what the model returns, an antenna of its own memory, the same at a second call: the statement FnExactBeamAntenna, with no condition (a name of more than 1048576 bytes is let pass by the statement itself).
-/
import Derived.Test.YtnambnddoebeiaaRows
import Derived.Test.YtnambnddoebeiaaBm2
import Derived.Test.YtnambnddoebeiaaMark
import Derived.Test.YtnambnddoebeiaaMark2
import Derived.WalkKit
import Derived.ProofKit
import Derived.OpenShut
import Derived.ShutString
import Derived.Below
namespace Go.Proofs.Ytnambnddoebeiaa.fnExactBeamAntenna
open Go.ChangeShapes Go.WideShapes Go.ChangeAt Go.RowKit
open Go.ChangeMaps (open_string shut_string)
set_option linter.unusedVariables false

theorem own : ownKnob Try.prog.godebug = none := by kernel_rfl


/-- The walk. -/
theorem walk (w : World) (a0 : ByteArray) (w0 : a0.size ≤ maxLen) (a1 : Int) (w1 : (Lit.int .i64 a1).wf = true) (a2 : Int) (w2 : (Lit.int .i64 a2).wf = true) (a3 : Int) (w3 : (Lit.int .i64 a3).wf = true) :
    Calls Try.prog 6 #[.string a0, .int .i64 a1, .int .i64 a2, .int .i64 a3] w fun e w' => e = .returned (.bool true) ∧ Below w.heap.size w w' := by
  unfold maxLen at w0
  by_cases hl0 : 1048576 < a0.size
  · go_enter Try.func6, Try.ntmps6
    go_wp2
    go_ret
    exact ⟨rfl, Below.refl _ _⟩
  · have hs0 : a0.size ≤ 1048576 := by omega
    have hS := fun w => Ant.spec_BeamAntenna a0 a1 a2 a3 w hs0
    have hI := fun w => Ant.impl_BeamAntenna a0 a1 a2 a3 w hs0
    have hbd : (Ant.bmL (Ant.bmB a0 a1 a2 a3) (Ant.listOf (Ant.hP a2) 36)).length + (Ant.bmL (Ant.bmB a0 a1 a2 a3) (Ant.listOf (Ant.vP a3) 19)).length ≤ 1048576 := Ant.bm_len (Ant.bmB a0 a1 a2 a3) (Ant.hP a2) (Ant.vP a3)
    generalize Ant.bmT (Ant.bmB a0 a1 a2 a3) a0 = r0 at *
    generalize Ant.bmG (Ant.bmB a0 a1 a2 a3) a1 = r1 at *
    generalize Ant.bmL (Ant.bmB a0 a1 a2 a3) (Ant.listOf (Ant.hP a2) 36) = zr2 at *
    generalize Ant.bmL (Ant.bmB a0 a1 a2 a3) (Ant.listOf (Ant.vP a3) 19) = zr3 at *
    generalize Ant.bmC a0 a1 a2 a3 = co at *
    obtain ⟨n2, hn2⟩ : ∃ n, n = zr2.length := ⟨_, rfl⟩
    rw [← hn2] at hS hI hbd
    obtain ⟨n3, hn3⟩ : ∃ n, n = zr3.length := ⟨_, rfl⟩
    rw [← hn3] at hS hI hbd
    have u2 : zr2.length ≤ 1048576 := by omega
    have HN2 := Lib.hid hn2
    have u3 : zr3.length ≤ 1048576 := by omega
    have HN3 := Lib.hid hn3
    have hcc : (co != co) = false := bne_self_eq_false co
    obtain ⟨q, hq⟩ : ∃ q : Int, q = ((1 + n2 + n3 : Nat) : Int) := ⟨_, rfl⟩
    have hq0 : ¬ q < 0 := by omega
    have hqq : (q != q) = false := bne_self_eq_false q
    have hM := fun (B : Nat) (a2 : Option Addr) (c2 : Nat) (a3 : Option Addr) (c3 : Nat) (w : World) hB h => Ant.markR B 1 r0 r1 a2 n2 c2 a3 n3 c3 zr2 zr3 w (Nat.le_refl _) (by omega) hB h
    have hH := fun (B : Nat) (a2 : Option Addr) (c2 : Nat) (a3 : Option Addr) (c3 : Nat) (w : World) h => Ant.heldR B 1 r0 r1 a2 n2 c2 a3 n3 c3 w (Nat.le_refl _) (by omega) h
    rw [← hq] at hM hH
    have HM := Lib.hid hM
    have HH := Lib.hid hH
    have HS := Lib.hid hS
    have HI := Lib.hid hI
    clear hS hI hM hH hq hbd hn2 hn3 w0 w1 w2 w3
    go_enter Try.func6, Try.ntmps6
    go_wp2_with fail
    refine (HS.out _).mono ?_
    rintro e w3 ⟨s2, sc2, s3, sc3, rfl, i2, i3, h3⟩
    have HO := Lib.hid (h3)
    have J2 := Lib.hid (i2)
    have J3 := Lib.hid (i3)
    have KJ := Lib.hid (On.refl w3)
    have J02 := J2
    have J03 := J3
    have s03 := Lib.hid (show w.heap.size ≤ w3.heap.size from HO.out.size)
    clear h3 i2 i3
    go_wp2_with fail
    refine (HI.out _).mono ?_
    rintro e w5 ⟨g2, gc2, g3, gc3, rfl, og, h5⟩
    have PW0 : Ant.In w5 w3.heap.size r0 r1 (.slice s2 n2 sc2) (.slice s3 n3 sc3) := Ant.In.on ⟨by simp [go_sem], by simp [go_sem], by simp [go_sem], by simp [go_sem]⟩ h5
    have h5t : On w3 w5 := by refine On.trans ?_ h5; repeat (first | with_reducible exact On.refl _ | apply On.drew | apply On.alloc | refine On.setCell ?_ (by (try simp) <;> omega) _)
    have HO_ := Lib.hid (On.trans HO.out h5t)
    clear HO
    have HO := HO_
    clear HO_
    have J2_ := Lib.hid (J2.out.below h5t)
    clear J2
    have J2 := J2_
    clear J2_
    have J3_ := Lib.hid (J3.out.below h5t)
    clear J3
    have J3 := J3_
    clear J3_
    have KJ_ := Lib.hid (On.trans KJ.out h5t)
    clear KJ
    have KJ := KJ_
    clear KJ_
    have PW := Lib.hid (PW0)
    have og1 := og.mono (B' := w3.heap.size + 1) (by simp)
    have OG := Lib.hid (og1)
    have HoffG := Lib.hid (fun g (hg : w5.heap.size ≤ g) => og1.off hg)
    have sz35 := Lib.hid (show w3.heap.size + 1 ≤ w5.heap.size from Nat.succ_le_of_lt (PW0.blk))
    clear og og1 h5 h5t PW0
    obtain ⟨PWc0, PWc1, PWc2, PWc3⟩ := PW.out
    have PWy := PW.out.blk
    go_wp2_with fail
    refine (Ant.eq r0 r1 _ _ _ _ zr2 zr3 _ u2 u3 (OG.out.ints2.below (by repeat (first | with_reducible exact On.refl _ | with_reducible exact Below.refl _ _ | apply On.alloc | refine On.setCell ?_ (by (try simp) <;> omega) _))) (OG.out.ints3.below (by repeat (first | with_reducible exact On.refl _ | with_reducible exact Below.refl _ _ | apply On.alloc | refine On.setCell ?_ (by (try simp) <;> omega) _))) (J2.out.below (by repeat (first | with_reducible exact On.refl _ | with_reducible exact Below.refl _ _ | apply On.alloc | refine On.setCell ?_ (by (try simp) <;> omega) _))) (J3.out.below (by repeat (first | with_reducible exact On.refl _ | with_reducible exact Below.refl _ _ | apply On.alloc | refine On.setCell ?_ (by (try simp) <;> omega) _)))).mono ?_
    rintro e w6 ⟨rfl, h6⟩
    clear PWc0 PWc1 PWc2 PWc3 PWy
    have PG0 : Ant.In w6 w5.heap.size r0 r1 (.slice g2 n2 gc2) (.slice g3 n3 gc3) := Ant.In.on ⟨by simp [go_sem], by simp [go_sem], by simp [go_sem], by simp [go_sem]⟩ h6
    have h6t : On w5 w6 := by refine On.trans ?_ h6; repeat (first | with_reducible exact On.refl _ | apply On.drew | apply On.alloc | refine On.setCell ?_ (by (try simp) <;> omega) _)
    have HO_ := Lib.hid (On.trans HO.out h6t)
    clear HO
    have HO := HO_
    clear HO_
    have J2_ := Lib.hid (J2.out.below h6t)
    clear J2
    have J2 := J2_
    clear J2_
    have J3_ := Lib.hid (J3.out.below h6t)
    clear J3
    have J3 := J3_
    clear J3_
    have KJ_ := Lib.hid (On.trans KJ.out h6t)
    clear KJ
    have KJ := KJ_
    clear KJ_
    have PW_ := Lib.hid (PW.out.on h6t)
    clear PW
    have PW := PW_
    clear PW_
    have OG_ := Lib.hid (OG.out.below h6t)
    clear OG
    have OG := OG_
    clear OG_
    have PG := Lib.hid (PG0)
    have sz56 := Lib.hid (show w5.heap.size + 1 ≤ w6.heap.size from Nat.succ_le_of_lt (PG0.blk))
    clear h6 h6t PG0
    obtain ⟨PWc0, PWc1, PWc2, PWc3⟩ := PW.out
    have PWy := PW.out.blk
    obtain ⟨PGc0, PGc1, PGc2, PGc3⟩ := PG.out
    have PGy := PG.out.blk
    go_wp2_with fail
    refine (HM.out (w3.heap.size + 1) _ _ _ _ _ (by have := sz35.out; have := sz56.out; omega) OG.out).mono ?_
    rintro e w9 ⟨rfl, b9, om, f9, x9⟩
    clear PWc0 PWc1 PWc2 PWc3 PWy
    clear PGc0 PGc1 PGc2 PGc3 PGy
    have PW_ := Lib.hid (PW.out.keep (fun i => b9.cell (p := ⟨w3.heap.size, i, none⟩) (by show w3.heap.size < w3.heap.size + 1; omega)))
    have PG_ := Lib.hid (PG.out.keep (fun i => x9 ⟨w5.heap.size, i, none⟩ PG.out.blk (HoffG.out _ (Nat.le_refl _))))
    have KJ_ := Lib.hid (show On w3 w9 from Below.trans KJ.out (Below.mono b9 (by omega)))
    have HO_ := Lib.hid (show On w w9 from Below.trans HO.out (Below.mono b9 (by have := s03.out; omega)))
    have J2_ := Lib.hid (J02.out.below KJ_.out)
    have J3_ := Lib.hid (J03.out.below KJ_.out)
    clear PW PG KJ HO J2 J3 OG x9 f9 b9
    have PW := PW_
    have PG := PG_
    have KJ := KJ_
    have HO := HO_
    have OG := Lib.hid om
    have J2 := J2_
    have J3 := J3_
    clear PW_ PG_ KJ_ HO_ om J2_ J3_
    obtain ⟨PWc0, PWc1, PWc2, PWc3⟩ := PW.out
    have PWy := PW.out.blk
    obtain ⟨PGc0, PGc1, PGc2, PGc3⟩ := PG.out
    have PGy := PG.out.blk
    go_wp2_with fail
    refine (HH.out (w3.heap.size + 1) _ _ _ _ _ OG.out).mono ?_
    rintro e w12 ⟨rfl, h12⟩
    clear PWc0 PWc1 PWc2 PWc3 PWy
    clear PGc0 PGc1 PGc2 PGc3 PGy
    have HO_ := Lib.hid (On.trans HO.out h12)
    clear HO
    have HO := HO_
    clear HO_
    have J2_ := Lib.hid (J2.out.below h12)
    clear J2
    have J2 := J2_
    clear J2_
    have J3_ := Lib.hid (J3.out.below h12)
    clear J3
    have J3 := J3_
    clear J3_
    have KJ_ := Lib.hid (On.trans KJ.out h12)
    clear KJ
    have KJ := KJ_
    clear KJ_
    have PW_ := Lib.hid (PW.out.on h12)
    clear PW
    have PW := PW_
    clear PW_
    have OG_ := Lib.hid (OG.out.below h12)
    clear OG
    have OG := OG_
    clear OG_
    have PG_ := Lib.hid (PG.out.on h12)
    clear PG
    have PG := PG_
    clear PG_
    clear h12
    obtain ⟨PWc0, PWc1, PWc2, PWc3⟩ := PW.out
    have PWy := PW.out.blk
    obtain ⟨PGc0, PGc1, PGc2, PGc3⟩ := PG.out
    have PGy := PG.out.blk
    go_wp2_with fail
    refine (HI.out _).mono ?_
    rintro e w14 ⟨h2, hc2, h3, hc3, rfl, oh, h14⟩
    clear PWc0 PWc1 PWc2 PWc3 PWy
    clear PGc0 PGc1 PGc2 PGc3 PGy
    have HO_ := Lib.hid (On.trans HO.out h14)
    clear HO
    have HO := HO_
    clear HO_
    have J2_ := Lib.hid (J2.out.below h14)
    clear J2
    have J2 := J2_
    clear J2_
    have J3_ := Lib.hid (J3.out.below h14)
    clear J3
    have J3 := J3_
    clear J3_
    have KJ_ := Lib.hid (On.trans KJ.out h14)
    clear KJ
    have KJ := KJ_
    clear KJ_
    have PW_ := Lib.hid (PW.out.on h14)
    clear PW
    have PW := PW_
    clear PW_
    have OG_ := Lib.hid (OG.out.below h14)
    clear OG
    have OG := OG_
    clear OG_
    have PG_ := Lib.hid (PG.out.on h14)
    clear PG
    have PG := PG_
    clear PG_
    have OH := Lib.hid (oh)
    clear h14 oh
    obtain ⟨PWc0, PWc1, PWc2, PWc3⟩ := PW.out
    have PWy := PW.out.blk
    obtain ⟨PGc0, PGc1, PGc2, PGc3⟩ := PG.out
    have PGy := PG.out.blk
    go_wp2_with fail
    refine (Ant.eq r0 r1 _ _ _ _ zr2 zr3 _ u2 u3 (OH.out.ints2.below (by repeat (first | with_reducible exact On.refl _ | with_reducible exact Below.refl _ _ | apply On.alloc | refine On.setCell ?_ (by (try simp) <;> omega) _))) (OH.out.ints3.below (by repeat (first | with_reducible exact On.refl _ | with_reducible exact Below.refl _ _ | apply On.alloc | refine On.setCell ?_ (by (try simp) <;> omega) _))) (J2.out.below (by repeat (first | with_reducible exact On.refl _ | with_reducible exact Below.refl _ _ | apply On.alloc | refine On.setCell ?_ (by (try simp) <;> omega) _))) (J3.out.below (by repeat (first | with_reducible exact On.refl _ | with_reducible exact Below.refl _ _ | apply On.alloc | refine On.setCell ?_ (by (try simp) <;> omega) _)))).mono ?_
    rintro e w15 ⟨rfl, h15⟩
    clear PWc0 PWc1 PWc2 PWc3 PWy
    clear PGc0 PGc1 PGc2 PGc3 PGy
    have h15t : On w14 w15 := by refine On.trans ?_ h15; repeat (first | with_reducible exact On.refl _ | apply On.drew | apply On.alloc | refine On.setCell ?_ (by (try simp) <;> omega) _)
    have HO_ := Lib.hid (On.trans HO.out h15t)
    clear HO
    have HO := HO_
    clear HO_
    have J2_ := Lib.hid (J2.out.below h15t)
    clear J2
    have J2 := J2_
    clear J2_
    have J3_ := Lib.hid (J3.out.below h15t)
    clear J3
    have J3 := J3_
    clear J3_
    have KJ_ := Lib.hid (On.trans KJ.out h15t)
    clear KJ
    have KJ := KJ_
    clear KJ_
    have PW_ := Lib.hid (PW.out.on h15t)
    clear PW
    have PW := PW_
    clear PW_
    have OG_ := Lib.hid (OG.out.below h15t)
    clear OG
    have OG := OG_
    clear OG_
    have PG_ := Lib.hid (PG.out.on h15t)
    clear PG
    have PG := PG_
    clear PG_
    have OH_ := Lib.hid (OH.out.below h15t)
    clear OH
    have OH := OH_
    clear OH_
    clear h15 h15t
    obtain ⟨PWc0, PWc1, PWc2, PWc3⟩ := PW.out
    have PWy := PW.out.blk
    obtain ⟨PGc0, PGc1, PGc2, PGc3⟩ := PG.out
    have PGy := PG.out.blk
    go_wp2_with fail
    refine (HH.out (w3.heap.size + 1) _ _ _ _ _ OG.out).mono ?_
    rintro e w16 ⟨rfl, h16⟩
    go_wp2_with fail
    go_ret
    exact ⟨rfl, On.trans HO.out h16⟩

set_option maxRecDepth 100000 in
/-- The row's step. -/
theorem lifted (os : Os) (started : os.Started) (H : Type) (enc : TypeId × Value → H) :
    ReturnsInHanded {} Try.checked os 6 .any (Rows.fnExactBeamAntennaSpec.pre6 enc Try.prog Try.f6 Rows.fnExactBeamAntennaRow.domain false) (Rows.fnExactBeamAntennaSpec.post enc Try.prog Try.f6 false true false false) := by
  refine returnsInHanded_of_change (C := Try.checked) own started (by kernel_rfl) Try.func6
    (ChangeSpec.witness6 (enc := enc) (C := Try.checked) false ⟨#[], #[.string ByteArray.empty, .int .i64 0, .int .i64 0, .int .i64 0], []⟩ 8 (by kernel_rfl) (by kernel_rfl) (by kernel_rfl) (by kernel_rfl)) ?_
  intro W base args ds gs before hval0 hW hcnd _
  have hval : ∀ (j : Nat) t v, Try.f6.params[j]? = some t → args[j]? = some v → Value.okWide Try.prog W .any base t v := hval0
  have hW' := hW
  obtain ⟨p, q, hA0, hV, rfl, hfz, hnd⟩ := hW
  have hA : DataW.TrodAll enc Try.prog W 0 (fun _ => true) true Try.f6.params.toList args.toList ds p := hA0
  rw [Try.params6] at hA hval
  obtain ⟨v0, vs0, d0, ds0, p0, q0, hargs, rfl, rfl, h0, r0⟩ := trodAll_cons hA
  obtain ⟨v1, vs1, d1, ds1, p1, q1, rfl, rfl, rfl, h1, r1⟩ := trodAll_cons r0
  obtain ⟨v2, vs2, d2, ds2, p2, q2, rfl, rfl, rfl, h2, r2⟩ := trodAll_cons r1
  obtain ⟨v3, vs3, d3, ds3, p3, q3, rfl, rfl, rfl, h3, r3⟩ := trodAll_cons r2
  obtain ⟨rfl, rfl, rfl⟩ := trodAll_nil r3
  obtain rfl : args = #[v0, v1, v2, v3] := by cases args; simp_all
  obtain ⟨rfl, rfl⟩ := trodVars_none hV
  obtain ⟨a0, rfl, rfl, rfl, w0⟩ := open_string Try.underlying9 (hval 0 9 v0 rfl rfl) h0
  obtain ⟨a1, rfl, rfl, rfl, w1⟩ := open_int Try.underlying2 (hval 1 2 v1 rfl rfl) h1
  obtain ⟨a2, rfl, rfl, rfl, w2⟩ := open_int Try.underlying2 (hval 2 2 v2 rfl rfl) h2
  obtain ⟨a3, rfl, rfl, rfl, w3⟩ := open_int Try.underlying2 (hval 3 2 v3 rfl rfl) h3
  clear hA0
  refine (walk W a0 w0 a1 w1 a2 w2 a3 w3 ).mono fun e W' ⟨he, bel⟩ => ?_
  subst he
  exact ⟨_, rfl, _, _, _, [], _, [], hW', trodAll_mk1 (shut_bool Try.underlying4 _), (trodAll_cons_mk (shut_string Try.underlying9 w0) (trodAll_cons_mk (shut_int Try.underlying2 w1) (trodAll_cons_mk (shut_int Try.underlying2 w2) (trodAll_cons_mk (shut_int Try.underlying2 w3) trodAll_mk0)))), rfl, bel.frame _, fun h => by cases h⟩

theorem proved : Rows.FnExactBeamAntennaSaid :=
  OpenClaim.holds_of_wide 6 Try.f6 rfl rfl rfl rfl rfl rfl rfl ⟨rfl, rfl, rfl, rfl, rfl⟩ rfl rfl rfl rfl rfl (by kernel_rfl) Try.func6 (by kernel_rfl)
    (of_decide_eq_true (by kernel_rfl)) (by unfold Func.isWrapper; first | (rw [if_pos (by decide +kernel)]; kernel_rfl) | (rw [if_neg (by decide +kernel)]; exact ⟨rfl, rfl⟩))
    (fun os started H enc _ => lifted os started H enc)
end Go.Proofs.Ytnambnddoebeiaa.fnExactBeamAntenna
