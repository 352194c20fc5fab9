
/-
  The names of a site's sectors, in the model and in the program. Condition: at most 1048576 elements in each list, and numbers and bytes in each of these.
-/
import Derived.Test.YtpnmodmaabhldaaGreatNetN
import Derived.Test.YtpnmodmaabhldaaGreatBox
import Derived.Test.YtpnmodmaabhldaaGreatMrk
import Derived.Maps.AppendAt
import Derived.Lib.SmallJoins
namespace Go.Proofs.YtpnmodmaabhldaaGreat.Strs
open Go.RowKit
theorem Own.mono {B B' : Nat} {w : World} {v : Value} {zs : List ByteArray} (h : Own B w v zs) (hb : B' ≤ B) : Own B' w v zs := by
  obtain ⟨a, cap, hv, hc⟩ := h
  refine ⟨a, cap, hv, fun h0 => ?_⟩
  obtain ⟨b, off, ha, hB, r⟩ := hc h0
  exact ⟨b, off, ha, Nat.le_trans hb hB, r⟩
theorem Own.off2 {B : Nat} {w w' : World} {v : Value} {zs : List ByteArray} (h : Own B w v zs) (hs : w.heap.size ≤ w'.heap.size) (hf : ∀ p, p.block < w.heap.size → w'.frozen? p = w.frozen? p) (hx : ∀ p : Addr, p.block < w.heap.size → B ≤ p.block → w'.cell? p = w.cell? p) : Own B w' v zs := by
  obtain ⟨a, cap, hv, hc⟩ := h
  refine ⟨a, cap, hv, fun h0 => ?_⟩
  obtain ⟨b, off, ha, hB, hlt, hfz, hcell⟩ := hc h0
  exact ⟨b, off, ha, hB, Nat.lt_of_lt_of_le hlt hs, fun i hi => (hf _ (by exact hlt)).trans (hfz i hi), fun i hi => (hx _ (by exact hlt) (by exact hB)).trans (hcell i hi)⟩
end Go.Proofs.YtpnmodmaabhldaaGreat.Strs
namespace Go.Proofs.YtpnmodmaabhldaaGreat.Net
open Go.RowKit
open Strs (Strs Own noText)
open Mrk (Kd Nst)
/-- A network in memory that may be marked. -/
def Shp (B E : Nat) (w : World) (N : T) (v : Value) : Prop := ∃ v0 v1 v2 v3, v = .agg #[v0, v1, v2, v3] ∧ Sites.ShpS B E w N.f0.length v0 ∧ Secs.ShpS B E w N.f1.length v1 ∧ Ants.ShpS B E w N.f2.length v2 ∧ Rads.ShpS B E w N.f3.length v3
theorem Shp.kd {B E : Nat} {w w' : World} {N : T} {v : Value} (h : Shp B E w N v) (k : Kd B E w w') : Shp B E w' N v := by
  obtain ⟨v0, v1, v2, v3, e, h0, h1, h2, h3⟩ := h
  exact ⟨v0, v1, v2, v3, e, h0.kd k, h1.kd k, h2.kd k, h3.kd k⟩
theorem Shp.of_is {B : Nat} {w : World} {v : Value} {N : T} (h : IsO B w v N) (hs : N.Small 1048576) : Shp B w.heap.size w N v := by
  obtain ⟨v0, v1, v2, v3, e, h0, h1, h2, h3⟩ := h
  exact ⟨v0, v1, v2, v3, e, Sites.ShpS.of_rows h0, Secs.ShpS.of_rows h1, Ants.ShpS.of_rows h2 hs.2.2.1.2, Rads.ShpS.of_rows h3 hs.2.2.2.2⟩
set_option maxHeartbeats 4000000 in
theorem mark (B E k : Nat) (v : Value) (N : T) (w : World) (hN : N.Small 1048576) (hk : k ≤ 144115188075855872) (hB : B ≤ w.heap.size) (h : Shp B E w N v) :
    Calls Tryz.prog 17 #[v, .int .i64 k] w fun e w' => ∃ r : Nat, e = .returned (.int .i64 r) ∧ r ≤ 1152921504606846976 ∧ Kd B E w w' := by
  obtain ⟨v0, v1, v2, v3, rfl, h0, h1, h2, h3⟩ := h
  obtain ⟨n0, hn0⟩ : ∃ n, n = N.f0.length := ⟨_, rfl⟩
  have m0 : n0 ≤ 1048576 := by rw [hn0]; exact hN.1.1
  rw [← hn0] at h0
  have H0 := Lib.hid h0
  obtain ⟨a0, cap0, rfl, -⟩ := h0
  obtain ⟨n1, hn1⟩ : ∃ n, n = N.f1.length := ⟨_, rfl⟩
  have m1 : n1 ≤ 1048576 := by rw [hn1]; exact hN.2.1.1
  rw [← hn1] at h1
  have H1 := Lib.hid h1
  obtain ⟨a1, cap1, rfl, -⟩ := h1
  obtain ⟨n2, hn2⟩ : ∃ n, n = N.f2.length := ⟨_, rfl⟩
  have m2 : n2 ≤ 1048576 := by rw [hn2]; exact hN.2.2.1.1
  rw [← hn2] at h2
  have H2 := Lib.hid h2
  obtain ⟨a2, cap2, rfl, -⟩ := h2
  obtain ⟨n3, hn3⟩ : ∃ n, n = N.f3.length := ⟨_, rfl⟩
  have m3 : n3 ≤ 1048576 := by rw [hn3]; exact hN.2.2.2.1
  rw [← hn3] at h3
  have H3 := Lib.hid h3
  obtain ⟨a3, cap3, rfl, -⟩ := h3
  clear hN hn0 hn1 hn2 hn3
  go_enter Tryz.func17, Tryz.ntmps17
  go_wp2_with fail
  generalize hW0 : w.alloc (.cells #[.slice a0 n0 cap0, .slice a1 n1 cap1, .slice a2 n2 cap2, .slice a3 n3 cap3] 37) = w0
  have K0 := Lib.hid (show Kd B E w w0 by rw [← hW0]; exact Kd.of_on (On.alloc (On.refl _) _) hB)
  have X := Lib.hid (show Bx.Box w0 w.heap.size [.slice a0 n0 cap0, .slice a1 n1 cap1, .slice a2 n2 cap2, .slice a3 n3 cap3] by rw [← hW0]; exact Bx.Box.new _ _ _)
  clear hW0
  refine (Sites.mark B E k n0 _ _ m0 (by omega) (Nat.le_trans hB K0.out.size) (H0.out.kd K0.out)).mono ?_
  rintro e w1 ⟨r1, rfl, hr1, k1⟩
  have y1 := k1.slc _ _ _ _ (X.out.2 1 _ rfl)
  have y2 := k1.slc _ _ _ _ (X.out.2 2 _ rfl)
  have y3 := k1.slc _ _ _ _ (X.out.2 3 _ rfl)
  have xz := X.out.1
  have xz := Nat.lt_of_lt_of_le xz k1.size
  have K1 := Lib.hid (K0.out.trans k1)
  clear k1
  go_wp2_with fail
  refine (Secs.mark B E r1 n1 _ _ m1 (by omega) (Nat.le_trans hB K1.out.size) (H1.out.kd K1.out)).mono ?_
  rintro e w2 ⟨r2, rfl, hr2, k2⟩
  have y2 := k2.slc _ _ _ _ y2
  have y3 := k2.slc _ _ _ _ y3
  have xz := Nat.lt_of_lt_of_le xz k2.size
  have K2 := Lib.hid (K1.out.trans k2)
  clear k2
  go_wp2_with fail
  refine (Ants.mark B E r2 n2 _ _ m2 (by omega) (Nat.le_trans hB K2.out.size) (H2.out.kd K2.out)).mono ?_
  rintro e w3 ⟨r3, rfl, hr3, k3⟩
  have y3 := k3.slc _ _ _ _ y3
  have xz := Nat.lt_of_lt_of_le xz k3.size
  have K3 := Lib.hid (K2.out.trans k3)
  clear k3
  go_wp2_with fail
  refine (Rads.mark B E r3 n3 _ _ m3 (by omega) (Nat.le_trans hB K3.out.size) (H3.out.kd K3.out)).mono ?_
  rintro e w4 ⟨r4, rfl, hr4, k4⟩
  have xz := Nat.lt_of_lt_of_le xz k4.size
  have K4 := Lib.hid (K3.out.trans k4)
  clear k4
  go_wp2_with fail
  go_ret
  exact ⟨r4, rfl, by omega, K4.out⟩

theorem ret_ss {v : Value} {a b : Int} (h : a = b) : Ending.returned (.tuple #[v, .int .i64 a]) = .returned (.tuple #[v, .int .i64 b]) := by rw [h]
theorem infoT : (Tryz.prog.info? 9).map (fun i => (i.zero, i.size, i.bytes)) = some (some (.string ⟨#[]⟩), 1, 16) := by kernel_rfl
def txtCells (zs : List ByteArray) : List Value := zs.map (.string ·)
theorem txt_snoc (zs : List ByteArray) (x : ByteArray) : txtCells zs ++ [.string x] = txtCells (zs ++ [x]) := by unfold txtCells; rw [List.map_append]; rfl
theorem txt_row {w : World} {B : Nat} {e : TypeId} {v : Value} {zs : List ByteArray} (h : w.ownsRow B e 1 v zs.length (txtCells zs)) : Own B w v zs := by
  have hlt := h.lt
  have hc := fun g (hg : v.ownBlock = some g) => h.cells hg
  obtain ⟨_, ⟨rfl, h2⟩ | ⟨g, cap, cur, rfl, hB, hh, _⟩⟩ := h
  · exact ⟨none, 0, by rw [h2], fun h0 => by omega⟩
  · refine ⟨_, cap, rfl, fun _ => ⟨g, 0, rfl, hB, (hlt g rfl).2, fun j hj => ?_, fun j hj => ?_⟩⟩
    · simp [World.frozen?, hh]
    · have := hc g rfl j (.string (zs.getD j noText)) (by simp [txtCells, hj])
      have e : (⟨g, 0, none⟩ : Addr).add j = ⟨g, 0 + j, none⟩ := by cases j <;> simp [Addr.add]
      rw [e] at this
      exact this
theorem own_on {B : Nat} {w w' : World} {v : Value} {zs : List ByteArray} (h : Own B w v zs) {B' : Nat} (hb : B' ≤ B) (ho : On w w') : Own B' w' v zs := by
  obtain ⟨a, cap, hv, hc⟩ := h.below ho
  refine ⟨a, cap, hv, fun h0 => ?_⟩
  obtain ⟨b, off, ha, hB, r⟩ := hc h0
  exact ⟨b, off, ha, Nat.le_trans hb hB, r⟩
theorem txt_one (w : World) (v : Value) (t : TypeId) : ∀ (j : Nat) (u : Value), [v][j]? = some u → (w.alloc (.cells #[v] t)).cell? (Addr.add ⟨w.heap.size, 0, none⟩ j) = some u := by
  intro j u h
  cases j with
  | zero =>
    obtain rfl : v = u := by simpa using h
    simp [Addr.add]
  | succ j => simp at h
/-- The names of the site's sectors among the first k. -/
def namesTo (zs : List Secs.Z) (y : ByteArray) : Nat → List ByteArray
  | 0 => []
  | k + 1 => if (zs.getD k Secs.d0).x1.toList == y.toList then namesTo zs y k ++ [(zs.getD k Secs.d0).x0] else namesTo zs y k
theorem names_len (zs : List Secs.Z) (y : ByteArray) : ∀ k, (namesTo zs y k).length ≤ k
  | 0 => Nat.le_refl _
  | k + 1 => by
    have := names_len zs y k
    rw [namesTo]
    split
    · rw [List.length_append]; simp; omega
    · omega
theorem names_take {zs : List Secs.Z} {y : ByteArray} {k : Nat} {z : Secs.Z} (hz : z = zs.getD k Secs.d0) (h : (z.x1.toList == y.toList) = true) : namesTo zs y (k + 1) = namesTo zs y k ++ [z.x0] := by rw [namesTo, ← hz, if_pos h]
theorem names_keep {zs : List Secs.Z} {y : ByteArray} {k : Nat} {z : Secs.Z} (hz : z = zs.getD k Secs.d0) (h : (z.x1.toList == y.toList) = false) : namesTo zs y (k + 1) = namesTo zs y k := by rw [namesTo, ← hz, if_neg (by rw [h]; simp)]
def atC (N : T) (y : ByteArray) : Int := (siteNamed N y).2
def atV (N : T) (y : ByteArray) : List ByteArray := if (siteNamed N y).2 = 0 then namesTo N.f1 y N.f1.length else []
theorem at_len (N : T) (y : ByteArray) : (atV N y).length ≤ N.f1.length := by
  unfold atV
  split
  · exact names_len _ _ _
  · exact Nat.zero_le _
set_option maxHeartbeats 4000000 in
theorem spec_at (g : Nat) (y : ByteArray) (N : T) (w : World) (hN : N.Small 1048576) (hi1 : In w g N) :
    Calls Tryz.prog 49 #[.pointer (some ⟨g, 0, none⟩), .string y] w fun e w' => ∃ v, e = .returned v ∧ Own w.heap.size w' v (namesTo N.f1 y N.f1.length) ∧ On w w' := by
  obtain ⟨a1, cap1, hc1, h1⟩ := hi1.c1
  have H1 := Lib.hid h1
  have hg := hi1.lt
  obtain ⟨i0, hi, hz0, hz1, hz2⟩ := info_parts infoT
  obtain ⟨n, hn⟩ : ∃ n, n = N.f1.length := ⟨_, rfl⟩
  have nb : n ≤ 1048576 := by rw [hn]; exact hN.2.1.1
  have HL := Lib.hid hn
  rw [← hn] at hc1
  have HC1 := Lib.hid hc1
  clear hc1 h1 hi1
  have hx := HC1.out
  go_enter Tryz.func49, Tryz.ntmps49
  go_wp2_with fail
  clear hx
  go_loopw [5, 6] (fun v i wr => ∃ k : Nat, k ≤ n ∧ i = .int .i64 k ∧ wr.ownsRow w.heap.size 9 1 v (namesTo N.f1 y k).length (txtCells (namesTo N.f1 y k)) ∧ On w wr) (fun _ i _ => n - (intOf i).toNat)
  case atStart => exact ⟨0, Nat.zero_le _, rfl, World.ownsRow_lit w #[] 0 (Nat.le_refl _) (by unfold maxLen; omega) rfl, On.alloc (On.refl _) _⟩
  case round =>
    obtain ⟨k, hk, rfl, hown, ho⟩ := hrel
    have HO := Lib.hid hown
    have HB := Lib.hid ho
    have hsz := ho.size
    have x1 : wr.cell? ⟨g, 1, none⟩ = some (.slice a1 n cap1) := (ho.cell (by exact hg)).trans HC1.out
    have xz : g < wr.heap.size := ho.lts _ hg
    clear hown ho
    by_cases hlt2 : k < n
    · have hlti : (k : Int) < (n : Int) := by omega
      have hl2 : k < N.f1.length := by rw [← HL.out]; exact hlt2
      obtain ⟨b, off, hab, hblt, hcell⟩ := Secs.slice_of H1.out (by omega)
      rw [hab] at x1
      obtain ⟨z, hz⟩ : ∃ z : Secs.Z, z = N.f1.getD k Secs.d0 := ⟨_, rfl⟩
      have E : Secs.El wr b (off + k * 9) z := by rw [hz]; exact (hcell k hl2).on (HB.out)
      have c0 := E.c0
      have c1 := E.c1
      have NL := names_len N.f1 y k
      have hbr : b < wr.heap.size := (HB.out).lts _ hblt
      clear E hcell hab
      cases e : z.x1.toList == y.toList with
      | true =>
        have T := Lib.hid (names_take hz e)
        have pe : z.x1.toList = y.toList := eq_of_beq e
        clear hz
        go_wp2_with (at_builtin; refine wpList_append_own _ rfl (.tmp 27) (.tmp 36) 29 rfl w.heap.size 9 i0 (.string ⟨#[]⟩) 1 16 Tryz.underlying29 hi hz0 hz1 hz2 rfl (by decide) _ (namesTo N.f1 y k).length _ rfl (HO.out.alloc _) ⟨wr.heap.size, 0, none⟩ 1 1 [.string z.x0] rfl rfl ?c1 ?c2 ?c3 ?c4 ?c5 ?_)
        case c1 => exact txt_one _ _ _
        case c2 => intro u hu; simp at hu; subst hu; rfl
        case c3 => unfold maxLen; omega
        case c4 => omega
        case c5 => simp; omega
        intro v' w3 hown' hgrow _
        have hl : (namesTo N.f1 y k).length + 1 = (namesTo N.f1 y (k + 1)).length := by rw [T.out, List.length_append]; rfl
        rw [txt_snoc, ← T.out, hl] at hown'
        have HO2 := Lib.hid hown'
        have HB2 := Lib.hid (show On w w3 from Below.grown (On.alloc HB.out _) hgrow (by simp; omega) (fun k hk => (HO.out.lt k hk).1))
        clear hown' hgrow hl
        go_wp2_with fail
        go_roundw
        case rel => first | exact ⟨k + 1, by omega, by go_num, HO2.out, HB2.out⟩ | ((repeat apply Exists.intro); exact ⟨⟨k + 1, by omega, by go_num, HO2.out, HB2.out⟩, rfl⟩)
        case measure => simp [intOf]; omega
      | false =>
        have T := Lib.hid (names_keep hz e)
        have pe : ¬ z.x1.toList = y.toList := ne_of_beq_false e
        clear hz
        go_wp2_with fail
        go_roundw
        case rel => exact ⟨k + 1, by omega, by go_num, (by rw [T.out]; exact HO.out), HB.out⟩
        case measure => simp [intOf]; omega
    · obtain rfl : n = k := by omega
      have hlti : ¬ (n : Int) < (n : Int) := by omega
      have hov := txt_row HO.out
      have HV := Lib.hid hov
      clear hov
      go_wp2_with fail
      go_ret
      exact ⟨_, rfl, (by rw [← HL.out]; exact HV.out), HB.out⟩
set_option maxHeartbeats 4000000 in
theorem spec_SectorsAt (v : Value) (y : ByteArray) (N : T) (w : World) (hN : N.Small 1048576) (h : Is w v N) :
    Calls Tryz.prog 12 #[v, .string y] w fun e w' => ∃ g, e = .returned (.tuple #[g, .int .i64 (atC N y)]) ∧ Own w.heap.size w' g (atV N y) ∧ On w w' := by
  obtain ⟨v0, v1, v2, v3, rfl, h0, h1, h2, h3⟩ := h
  have H0 := Lib.hid h0
  have H1 := Lib.hid h1
  have H2 := Lib.hid h2
  have H3 := Lib.hid h3
  obtain ⟨a0, cap0, rfl, -⟩ := h0
  obtain ⟨a1, cap1, rfl, -⟩ := h1
  obtain ⟨a2, cap2, rfl, -⟩ := h2
  obtain ⟨a3, cap3, rfl, -⟩ := h3
  go_enter Tryz.func12, Tryz.ntmps12
  go_wp2_with fail
  generalize hW0 : w.alloc (.cells #[.slice a0 N.f0.length cap0, .slice a1 N.f1.length cap1, .slice a2 N.f2.length cap2, .slice a3 N.f3.length cap3] 37) = w0
  have O0 := Lib.hid (show On w w0 by rw [← hW0]; repeat (first | with_reducible exact On.refl _ | with_reducible apply On.alloc | with_reducible apply On.drewN | with_reducible apply On.drew | with_reducible refine On.setCell ?_ (by (try simp) <;> omega) _))
  have I0 := Lib.hid (show In w0 w.heap.size N by rw [← hW0]; exact In.box w _ _ _ _ _ _ _ _ N _ H0.out H1.out H2.out H3.out)
  have X0 := Lib.hid (show Bx.Box w0 w.heap.size [.slice a0 N.f0.length cap0, .slice a1 N.f1.length cap1, .slice a2 N.f2.length cap2, .slice a3 N.f3.length cap3] by rw [← hW0]; exact Bx.Box.new _ _ _)
  clear hW0
  refine (spec_ok w.heap.size N _ hN I0.out).mono ?_
  rintro e w1 ⟨rfl, h1⟩
  have O1 := Lib.hid (O0.out.trans h1)
  have I1 := Lib.hid (I0.out.on h1)
  have X1 := Lib.hid (X0.out.on h1)
  clear h1
  cases g : okB N with
  | false =>
    have ec := Lib.hid (show atC N y = 1 by unfold atC; rw [siteNamed_no g])
    have en := Lib.hid (show atV N y = [] by unfold atV; rw [siteNamed_no g]; rfl)
    clear g
    go_wp2_with fail
    go_ret2
    exact ⟨_, ret_ss ec.out.symm, (by rw [en.out]; exact ⟨none, 0, rfl, fun h => by simp at h⟩), O1.out⟩
  | true =>
    have HR := Lib.hid (Sites.rise_of (of_okB g).1)
    go_wp2_with fail
    refine (spec_find0 w.heap.size y N _ hN I1.out).mono ?_
    rintro e w2 ⟨rfl, hw⟩
    subst hw
    rcases Nam.first_or (Nam.is Sites.nm Sites.d0 N.f0 y) N.f0.length with ⟨e1, hno⟩ | ⟨k, hk, e1, hyes, -⟩
    · rw [show Nam.find Sites.nm Sites.d0 N.f0 y = -1 from e1]
      have hs : siteNamed N y = (Sites.d0, 3) := by
        rw [siteNamed_yes g, Sites.look_of HR.out (y := y) (z := Sites.d0) (c := 3) (.inr ⟨fun k hk e => by have := hno k hk; rw [Sites.is_iff, e] at this; simp at this, rfl, rfl⟩)]
      have ec := Lib.hid (show atC N y = 3 by unfold atC; rw [hs])
      have en := Lib.hid (show atV N y = [] by unfold atV; rw [hs]; rfl)
      clear e1 hno g hs
      go_wp2_with fail
      go_ret2
      exact ⟨_, ret_ss ec.out.symm, (by rw [en.out]; exact ⟨none, 0, rfl, fun h => by simp at h⟩), O1.out⟩
    · rw [show Nam.find Sites.nm Sites.d0 N.f0 y = (k : Int) from e1]
      rw [Sites.is_iff] at hyes
      have hs : siteNamed N y = (N.f0.getD k Sites.d0, 0) := by
        rw [siteNamed_yes g, Sites.look_of HR.out (y := y) (z := N.f0.getD k Sites.d0) (c := 0) (.inl ⟨k, hk, of_decide_eq_true hyes, rfl, rfl⟩)]
      have ec := Lib.hid (show atC N y = 0 by unfold atC; rw [hs])
      have en := Lib.hid (show atV N y = namesTo N.f1 y N.f1.length by unfold atV; rw [hs]; rfl)
      have hk0 : ¬ (k : Int) < 0 := by omega
      clear e1 hyes hk g hs
      go_wp2_with fail
      refine (spec_at w.heap.size y N _ hN I1.out).mono ?_
      rintro e w2 ⟨v, rfl, hv, h2⟩
      have HV := Lib.hid hv
      have O2 := Lib.hid (O1.out.trans h2)
      clear hv h2
      go_wp2_with fail
      go_ret2
      exact ⟨_, ret_ss ec.out.symm, (by rw [en.out]; exact own_on HV.out O1.out.size (On.refl _)), O2.out⟩
set_option maxHeartbeats 4000000 in
theorem impl_SectorsAt (v : Value) (y : ByteArray) (N : T) (w : World) (hN : N.Small 1048576) (h : Is w v N) :
    Calls Tryz.prog 14 #[v, .string y] w fun e w' => ∃ g, e = .returned (.tuple #[g, .int .i64 (atC N y)]) ∧ Own w.heap.size w' g (atV N y) ∧ On w w' := by
  obtain ⟨v0, v1, v2, v3, rfl, h0, h1, h2, h3⟩ := h
  have H0 := Lib.hid h0
  have H1 := Lib.hid h1
  have H2 := Lib.hid h2
  have H3 := Lib.hid h3
  obtain ⟨a0, cap0, rfl, -⟩ := h0
  obtain ⟨a1, cap1, rfl, -⟩ := h1
  obtain ⟨a2, cap2, rfl, -⟩ := h2
  obtain ⟨a3, cap3, rfl, -⟩ := h3
  obtain ⟨i0, hi, hz0, hz1, hz2⟩ := info_parts infoT
  obtain ⟨n, hn⟩ : ∃ n, n = N.f1.length := ⟨_, rfl⟩
  have nb : n ≤ 1048576 := by rw [hn]; exact hN.2.1.1
  have HL := Lib.hid hn
  go_enter Tryz.func14, Tryz.ntmps14
  go_wp2_with fail
  generalize hW0 : w.alloc (.cells #[.slice a0 N.f0.length cap0, .slice a1 N.f1.length cap1, .slice a2 N.f2.length cap2, .slice a3 N.f3.length cap3] 37) = w0
  have O0 := Lib.hid (show On w w0 by rw [← hW0]; repeat (first | with_reducible exact On.refl _ | with_reducible apply On.alloc | with_reducible apply On.drewN | with_reducible apply On.drew | with_reducible refine On.setCell ?_ (by (try simp) <;> omega) _))
  have I0 := Lib.hid (show In w0 w.heap.size N by rw [← hW0]; exact In.box w _ _ _ _ _ _ _ _ N _ H0.out H1.out H2.out H3.out)
  have X0 := Lib.hid (show Bx.Box w0 w.heap.size [.slice a0 N.f0.length cap0, .slice a1 N.f1.length cap1, .slice a2 N.f2.length cap2, .slice a3 N.f3.length cap3] by rw [← hW0]; exact Bx.Box.new _ _ _)
  clear hW0
  refine (impl_SiteNamed _ y N w0 hN ⟨_, _, _, _, rfl, H0.out.on O0.out, H1.out.on O0.out, H2.out.on O0.out, H3.out.on O0.out⟩).mono ?_
  rintro e w1 ⟨s, c, rfl, hs, h1⟩
  have O1 := Lib.hid (O0.out.trans h1)
  have X1 := Lib.hid (X0.out.on h1)
  clear h1
  rw [← hn] at X1
  have xz := X1.out.1
  have x0 := X1.out.2 0 _ rfl
  have x1 := X1.out.2 1 _ rfl
  have x2 := X1.out.2 2 _ rfl
  have x3 := X1.out.2 3 _ rfl
  have ec := Lib.hid (show atC N y = c by unfold atC; rw [hs])
  by_cases hc0 : c = 0
  case neg =>
    have en := Lib.hid (show atV N y = [] by unfold atV; rw [hs]; exact if_neg hc0)
    have b0 : (c == 0) = false := beq_eq_false_iff_ne.2 hc0
    have b1 : (c != 0) = true := by rw [bne, b0]; rfl
    clear hs
    go_wp2_with fail
    go_ret2
    exact ⟨_, ret_ss ec.out.symm, (by rw [en.out]; exact ⟨none, 0, rfl, fun h => by simp at h⟩), by repeat (first | with_reducible exact On.refl _ | with_reducible apply On.alloc | with_reducible apply On.drewN | with_reducible apply On.drew | with_reducible refine On.setCell ?_ (by (try simp) <;> omega) _ | refine On.trans ?_ O1.out)⟩
  subst hc0
  have en := Lib.hid (show atV N y = namesTo N.f1 y N.f1.length by unfold atV; rw [hs]; rfl)
  clear hs
  go_wp2_with fail
  go_loopw [8, 23] (fun v i wr => ∃ k : Nat, k ≤ n ∧ i = .int .i64 k ∧ wr.ownsRow w1.heap.size 9 1 v (namesTo N.f1 y k).length (txtCells (namesTo N.f1 y k)) ∧ On w1 wr) (fun _ i _ => n - (intOf i).toNat)
  case atStart => exact ⟨0, Nat.zero_le _, rfl, World.ownsRow_nil _ _ _ _, On.alloc (On.refl _) _⟩
  case round =>
    obtain ⟨k, hk, rfl, hown, ho⟩ := hrel
    have HO := Lib.hid hown
    have HB := Lib.hid ho
    have hsz := ho.size
    clear hown ho
    by_cases hlt2 : k < n
    · have hlti : (k : Int) < (n : Int) := by omega
      have hl2 : k < N.f1.length := by rw [← HL.out]; exact hlt2
      obtain ⟨b, off, hab, hblt, hcell⟩ := Secs.slice_of H1.out (by omega)
      subst hab
      obtain ⟨z, hz⟩ : ∃ z : Secs.Z, z = N.f1.getD k Secs.d0 := ⟨_, rfl⟩
      have E : Secs.El wr b (off + k * 9) z := by rw [hz]; exact (hcell k hl2).on (O1.out.trans HB.out)
      have c0 := E.c0
      have c1 := E.c1
      have c2 := E.c2
      have c3 := E.c3
      have c4 := E.c4
      have c5 := E.c5
      have c6 := E.c6
      have c7 := E.c7
      have c8 := E.c8
      have NL := names_len N.f1 y k
      have hbr : b < wr.heap.size := (O1.out.trans HB.out).lts _ hblt
      clear E hcell
      cases e : z.x1.toList == y.toList with
      | true =>
        have T := Lib.hid (names_take hz e)
        have pe : z.x1.toList = y.toList := eq_of_beq e
        clear hz
        go_wp2_with (at_builtin; refine wpList_append_own _ rfl (.tmp 31) (.tmp 34) 29 rfl w1.heap.size 9 i0 (.string ⟨#[]⟩) 1 16 Tryz.underlying29 hi hz0 hz1 hz2 rfl (by decide) _ (namesTo N.f1 y k).length _ rfl ((HO.out.alloc _).alloc _) ⟨wr.heap.size + 1, 0, none⟩ 1 1 [.string z.x0] rfl rfl ?c1 ?c2 ?c3 ?c4 ?c5 ?_)
        case c1 => have := txt_one (wr.alloc (.cells #[.string z.x0, .string z.x1, .string z.x2, .string z.x3, .string z.x4, .int .i64 z.x5, .int .i64 z.x6, .int .i64 z.x7, .int .i64 z.x8] 66)) (.string z.x0) 9; rw [World.size_alloc] at this; exact this
        case c2 => intro u hu; simp at hu; subst hu; rfl
        case c3 => unfold maxLen; omega
        case c4 => omega
        case c5 => simp; omega
        intro v' w3 hown' hgrow _
        have hl : (namesTo N.f1 y k).length + 1 = (namesTo N.f1 y (k + 1)).length := by rw [T.out, List.length_append]; rfl
        rw [txt_snoc, ← T.out, hl] at hown'
        have HO2 := Lib.hid hown'
        have HB2 := Lib.hid (show On w1 w3 from Below.grown (On.alloc (On.alloc HB.out _) _) hgrow (by simp; omega) (fun k hk => (HO.out.lt k hk).1))
        clear hown' hgrow hl
        go_wp2_with fail
        go_roundw
        case rel => first | exact ⟨k + 1, by omega, by go_num, HO2.out, HB2.out⟩ | ((repeat apply Exists.intro); exact ⟨⟨k + 1, by omega, by go_num, HO2.out, HB2.out⟩, rfl⟩)
        case measure => simp [intOf]; omega
      | false =>
        have T := Lib.hid (names_keep hz e)
        have pe : ¬ z.x1.toList = y.toList := ne_of_beq_false e
        clear hz
        go_wp2_with fail
        go_roundw
        case rel => exact ⟨k + 1, by omega, by go_num, (by rw [T.out]; exact HO.out.alloc _), On.alloc HB.out _⟩
        case measure => simp [intOf]; omega
    · obtain rfl : n = k := by omega
      have hlti : ¬ (n : Int) < (n : Int) := by omega
      have hov := txt_row HO.out
      have HV := Lib.hid hov
      clear hov
      go_wp2_with fail
      go_ret2
      exact ⟨_, ret_ss ec.out.symm, (by rw [en.out, ← HL.out]; exact own_on HV.out O1.out.size (On.refl _)), O1.out.trans HB.out⟩
end Go.Proofs.YtpnmodmaabhldaaGreat.Net
