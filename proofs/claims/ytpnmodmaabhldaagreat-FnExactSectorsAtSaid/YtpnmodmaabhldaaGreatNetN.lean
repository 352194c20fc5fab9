
/-
  The site and the sector with a name, in the model and in the program. Condition: at most 1048576 elements in each list, and numbers and bytes in each of these.
-/
import Derived.Test.YtpnmodmaabhldaaGreatNetI
import Derived.Test.YtpnmodmaabhldaaGreatLokS
import Derived.Test.YtpnmodmaabhldaaGreatLokX
namespace Go.Proofs.YtpnmodmaabhldaaGreat.Net
open Go.RowKit

/-- A box that holds a network. -/
theorem In.box (w : World) (a0 a1 a2 a3 : Option Addr) (c0 c1 c2 c3 : Nat) (N : T) (t : TypeId) (h0 : Sites.Rows w (.slice a0 N.f0.length c0) N.f0) (h1 : Secs.Rows w (.slice a1 N.f1.length c1) N.f1) (h2 : Ants.Rows w (.slice a2 N.f2.length c2) N.f2) (h3 : Rads.Rows w (.slice a3 N.f3.length c3) N.f3) :
    In (w.alloc (.cells #[.slice a0 N.f0.length c0, .slice a1 N.f1.length c1, .slice a2 N.f2.length c2, .slice a3 N.f3.length c3] t)) w.heap.size N :=
  ⟨⟨a0, c0, by simp [go_sem], h0.on (On.alloc (On.refl _) _)⟩, ⟨a1, c1, by simp [go_sem], h1.on (On.alloc (On.refl _) _)⟩, ⟨a2, c2, by simp [go_sem], h2.on (On.alloc (On.refl _) _)⟩, ⟨a3, c3, by simp [go_sem], h3.on (On.alloc (On.refl _) _)⟩⟩
theorem of_okB {N : T} (h : okB N = true) : Nam.allN Sites.ok Sites.nm Sites.d0 N.f0 = true ∧ Nam.allN Secs.ok Secs.nm Secs.d0 N.f1 = true ∧ Nam.allN Ants.ok Ants.nm Ants.d0 N.f2 = true ∧ Nam.allN Rads.ok Rads.nm Rads.d0 N.f3 = true ∧ refsB N N.f1 = true ∧ N.f0.length ≤ 12 ∧ N.f1.length ≤ 24 ∧ N.f2.length ≤ 8 ∧ N.f3.length ≤ 8 := by
  rw [← okI_eq] at h
  unfold okI Nam.listN at h
  simp only [Bool.and_eq_true, decide_eq_true_eq] at h
  obtain ⟨⟨h1, h2⟩, ⟨h3, h4⟩, ⟨h5, h6⟩, ⟨h7, h8⟩, h9⟩ := h
  exact ⟨h2, h4, h6, h8, h9, h1, h3, h5, h7⟩

def siteNamed (N : T) (y : ByteArray) : Sites.Z × Int := if okB N then Sites.look N.f0 y else (Sites.d0, 1)
theorem siteNamed_no {N : T} {y : ByteArray} (h : okB N = false) : siteNamed N y = (Sites.d0, 1) := by unfold siteNamed; rw [h]; rfl
theorem siteNamed_yes {N : T} {y : ByteArray} (h : okB N = true) : siteNamed N y = Sites.look N.f0 y := by unfold siteNamed; rw [h]; rfl
set_option maxHeartbeats 2000000 in
theorem impl_SiteNamed (v : Value) (y : ByteArray) (N : T) (w : World) (hN : N.Small 1048576) (h : Is w v N) :
    Calls Tryz.prog 54 #[v, .string y] w fun e w' => ∃ z c, e = .returned (.tuple #[.agg #[.string z.x0, .string z.x1, .int .i64 z.x2, .int .i64 z.x3], .int .i64 c]) ∧ siteNamed N y = (z, c) ∧ On w w' := by
  obtain ⟨v0, v1, v2, v3, rfl, h0, h1, h2, h3⟩ := h
  have H0 := Lib.hid h0
  have H1 := Lib.hid h1
  have H2 := Lib.hid h2
  have H3 := Lib.hid h3
  obtain ⟨a0, cap0, rfl, -⟩ := h0
  obtain ⟨a1, cap1, rfl, -⟩ := h1
  obtain ⟨a2, cap2, rfl, -⟩ := h2
  obtain ⟨a3, cap3, rfl, -⟩ := h3
  go_enter Tryz.func54, Tryz.ntmps54
  go_wp2_with fail
  generalize hW0 : (w.alloc (.cells #[.slice a0 N.f0.length cap0, .slice a1 N.f1.length cap1, .slice a2 N.f2.length cap2, .slice a3 N.f3.length cap3] 37)).alloc (.cells #[.string ⟨#[]⟩, .string ⟨#[]⟩, .int .i64 0, .int .i64 0] 58) = w0
  have O0 := Lib.hid (show On w w0 by rw [← hW0]; repeat (first | with_reducible exact On.refl _ | with_reducible apply On.alloc | with_reducible apply On.drewN | with_reducible apply On.drew | with_reducible refine On.setCell ?_ (by (try simp) <;> omega) _))
  have I0 := Lib.hid (show In w0 w.heap.size N by rw [← hW0]; exact (In.box w _ _ _ _ _ _ _ _ N _ H0.out H1.out H2.out H3.out).on (On.alloc (On.refl _) _))
  have R0 := Lib.hid (show Sites.Res w0 (w.heap.size + 1) by rw [← hW0]; have := Sites.Res.new (w.alloc (.cells #[.slice a0 N.f0.length cap0, .slice a1 N.f1.length cap1, .slice a2 N.f2.length cap2, .slice a3 N.f3.length cap3] 37)) 58; rw [World.size_alloc] at this; exact this)
  clear hW0
  have HV := impl_ValidNetwork _ N w0 hN ⟨_, _, _, _, rfl, H0.out.on O0.out, H1.out.on O0.out, H2.out.on O0.out, H3.out.on O0.out⟩
  refine HV.mono ?_
  rintro e w1 ⟨rfl, h1⟩
  have O1 := Lib.hid (O0.out.trans h1)
  have I1 := Lib.hid (I0.out.on h1)
  have R1 := Lib.hid (R0.out.on h1)
  clear h1 HV
  have r0 := R1.out.1.2 0 _ rfl
  have r1 := R1.out.1.2 1 _ rfl
  have r2 := R1.out.1.2 2 _ rfl
  have r3 := R1.out.1.2 3 _ rfl
  have f0 := R1.out.2 0
  have f1 := R1.out.2 1
  have f2 := R1.out.2 2
  have f3 := R1.out.2 3
  have zr := R1.out.1.1
  cases g : okB N with
  | false =>
    have en := Lib.hid (siteNamed_no (y := y) g)
    clear g
    go_wp2_with fail
    refine bodyPost_ret (v := .tuple #[.agg #[.string ⟨#[]⟩, .string ⟨#[]⟩, .int .i64 0, .int .i64 0], .int .i64 1]) (by simp [results, Tryz.results54, go_sem, r0, r1, r2, r3]) rfl ⟨Sites.d0, 1, rfl, en.out, by repeat (first | with_reducible exact On.refl _ | with_reducible apply On.alloc | with_reducible apply On.drewN | with_reducible apply On.drew | with_reducible refine On.setCell ?_ (by (try simp) <;> omega) _ | refine On.trans ?_ O1.out)⟩
  | true =>
    have en := Lib.hid (siteNamed_yes (y := y) g)
    have HR := Lib.hid (Sites.rise_of (of_okB g).1)
    clear g
    obtain ⟨q0, d0, k0, g0⟩ := I1.out.c0
    have zb := I1.out.lt
    have HL := Lib.hid (fun w' (ho : On w1 w') => Sites.impl_look _ y N.f0 w' hN.1.1 HR.out (g0.on ho))
    clear g0
    go_wp2_with fail
    refine (HL.out _ (On.refl _)).mono ?_
    rintro e w2 ⟨z, c, rfl, hl, h2⟩
    have R2 := Lib.hid (R1.out.on h2)
    have EL := Lib.hid hl
    have O2 := Lib.hid (O1.out.trans h2)
    clear r0 r1 r2 r3 f0 f1 f2 f3 zr hl h2 k0 zb
    have r0 := R2.out.1.2 0 _ rfl
    have r1 := R2.out.1.2 1 _ rfl
    have r2 := R2.out.1.2 2 _ rfl
    have r3 := R2.out.1.2 3 _ rfl
    have f0 := R2.out.2 0
    have f1 := R2.out.2 1
    have f2 := R2.out.2 2
    have f3 := R2.out.2 3
    have zr := R2.out.1.1
    go_wp2_with fail
    refine bodyPost_ret (v := .tuple #[.agg #[.string z.x0, .string z.x1, .int .i64 z.x2, .int .i64 z.x3], .int .i64 c]) (by simp [results, Tryz.results54, go_sem, r0, r1, r2, r3]) rfl ⟨z, c, rfl, en.out.trans EL.out, by repeat (first | with_reducible exact On.refl _ | with_reducible apply On.alloc | with_reducible apply On.drewN | with_reducible apply On.drew | with_reducible refine On.setCell ?_ (by (try simp) <;> omega) _ | refine On.trans ?_ O2.out)⟩
def sectorNamed (N : T) (y : ByteArray) : Secs.Z × Int := if okB N then Secs.look N.f1 y else (Secs.d0, 1)
theorem sectorNamed_no {N : T} {y : ByteArray} (h : okB N = false) : sectorNamed N y = (Secs.d0, 1) := by unfold sectorNamed; rw [h]; rfl
theorem sectorNamed_yes {N : T} {y : ByteArray} (h : okB N = true) : sectorNamed N y = Secs.look N.f1 y := by unfold sectorNamed; rw [h]; rfl
set_option maxHeartbeats 2000000 in
theorem impl_SectorNamed (v : Value) (y : ByteArray) (N : T) (w : World) (hN : N.Small 1048576) (h : Is w v N) :
    Calls Tryz.prog 66 #[v, .string y] w fun e w' => ∃ z c, e = .returned (.tuple #[.agg #[.string z.x0, .string z.x1, .string z.x2, .string z.x3, .string z.x4, .int .i64 z.x5, .int .i64 z.x6, .int .i64 z.x7, .int .i64 z.x8], .int .i64 c]) ∧ sectorNamed N y = (z, c) ∧ On w w' := by
  obtain ⟨v0, v1, v2, v3, rfl, h0, h1, h2, h3⟩ := h
  have H0 := Lib.hid h0
  have H1 := Lib.hid h1
  have H2 := Lib.hid h2
  have H3 := Lib.hid h3
  obtain ⟨a0, cap0, rfl, -⟩ := h0
  obtain ⟨a1, cap1, rfl, -⟩ := h1
  obtain ⟨a2, cap2, rfl, -⟩ := h2
  obtain ⟨a3, cap3, rfl, -⟩ := h3
  go_enter Tryz.func66, Tryz.ntmps66
  go_wp2_with fail
  generalize hW0 : (w.alloc (.cells #[.slice a0 N.f0.length cap0, .slice a1 N.f1.length cap1, .slice a2 N.f2.length cap2, .slice a3 N.f3.length cap3] 37)).alloc (.cells #[.string ⟨#[]⟩, .string ⟨#[]⟩, .string ⟨#[]⟩, .string ⟨#[]⟩, .string ⟨#[]⟩, .int .i64 0, .int .i64 0, .int .i64 0, .int .i64 0] 66) = w0
  have O0 := Lib.hid (show On w w0 by rw [← hW0]; repeat (first | with_reducible exact On.refl _ | with_reducible apply On.alloc | with_reducible apply On.drewN | with_reducible apply On.drew | with_reducible refine On.setCell ?_ (by (try simp) <;> omega) _))
  have I0 := Lib.hid (show In w0 w.heap.size N by rw [← hW0]; exact (In.box w _ _ _ _ _ _ _ _ N _ H0.out H1.out H2.out H3.out).on (On.alloc (On.refl _) _))
  have R0 := Lib.hid (show Secs.Res w0 (w.heap.size + 1) by rw [← hW0]; have := Secs.Res.new (w.alloc (.cells #[.slice a0 N.f0.length cap0, .slice a1 N.f1.length cap1, .slice a2 N.f2.length cap2, .slice a3 N.f3.length cap3] 37)) 66; rw [World.size_alloc] at this; exact this)
  clear hW0
  have HV := impl_ValidNetwork _ N w0 hN ⟨_, _, _, _, rfl, H0.out.on O0.out, H1.out.on O0.out, H2.out.on O0.out, H3.out.on O0.out⟩
  refine HV.mono ?_
  rintro e w1 ⟨rfl, h1⟩
  have O1 := Lib.hid (O0.out.trans h1)
  have I1 := Lib.hid (I0.out.on h1)
  have R1 := Lib.hid (R0.out.on h1)
  clear h1 HV
  have r0 := R1.out.1.2 0 _ rfl
  have r1 := R1.out.1.2 1 _ rfl
  have r2 := R1.out.1.2 2 _ rfl
  have r3 := R1.out.1.2 3 _ rfl
  have r4 := R1.out.1.2 4 _ rfl
  have r5 := R1.out.1.2 5 _ rfl
  have r6 := R1.out.1.2 6 _ rfl
  have r7 := R1.out.1.2 7 _ rfl
  have r8 := R1.out.1.2 8 _ rfl
  have f0 := R1.out.2 0
  have f1 := R1.out.2 1
  have f2 := R1.out.2 2
  have f3 := R1.out.2 3
  have f4 := R1.out.2 4
  have f5 := R1.out.2 5
  have f6 := R1.out.2 6
  have f7 := R1.out.2 7
  have f8 := R1.out.2 8
  have zr := R1.out.1.1
  cases g : okB N with
  | false =>
    have en := Lib.hid (sectorNamed_no (y := y) g)
    clear g
    go_wp2_with fail
    refine bodyPost_ret (v := .tuple #[.agg #[.string ⟨#[]⟩, .string ⟨#[]⟩, .string ⟨#[]⟩, .string ⟨#[]⟩, .string ⟨#[]⟩, .int .i64 0, .int .i64 0, .int .i64 0, .int .i64 0], .int .i64 1]) (by simp [results, Tryz.results66, go_sem, r0, r1, r2, r3, r4, r5, r6, r7, r8]) rfl ⟨Secs.d0, 1, rfl, en.out, by repeat (first | with_reducible exact On.refl _ | with_reducible apply On.alloc | with_reducible apply On.drewN | with_reducible apply On.drew | with_reducible refine On.setCell ?_ (by (try simp) <;> omega) _ | refine On.trans ?_ O1.out)⟩
  | true =>
    have en := Lib.hid (sectorNamed_yes (y := y) g)
    have HR := Lib.hid (Secs.rise_of (of_okB g).2.1)
    clear g
    obtain ⟨q0, d0, k0, g0⟩ := I1.out.c1
    have zb := I1.out.lt
    have HL := Lib.hid (fun w' (ho : On w1 w') => Secs.impl_look _ y N.f1 w' hN.2.1.1 HR.out (g0.on ho))
    clear g0
    go_wp2_with fail
    refine (HL.out _ (On.refl _)).mono ?_
    rintro e w2 ⟨z, c, rfl, hl, h2⟩
    have R2 := Lib.hid (R1.out.on h2)
    have EL := Lib.hid hl
    have O2 := Lib.hid (O1.out.trans h2)
    clear r0 r1 r2 r3 r4 r5 r6 r7 r8 f0 f1 f2 f3 f4 f5 f6 f7 f8 zr hl h2 k0 zb
    have r0 := R2.out.1.2 0 _ rfl
    have r1 := R2.out.1.2 1 _ rfl
    have r2 := R2.out.1.2 2 _ rfl
    have r3 := R2.out.1.2 3 _ rfl
    have r4 := R2.out.1.2 4 _ rfl
    have r5 := R2.out.1.2 5 _ rfl
    have r6 := R2.out.1.2 6 _ rfl
    have r7 := R2.out.1.2 7 _ rfl
    have r8 := R2.out.1.2 8 _ rfl
    have f0 := R2.out.2 0
    have f1 := R2.out.2 1
    have f2 := R2.out.2 2
    have f3 := R2.out.2 3
    have f4 := R2.out.2 4
    have f5 := R2.out.2 5
    have f6 := R2.out.2 6
    have f7 := R2.out.2 7
    have f8 := R2.out.2 8
    have zr := R2.out.1.1
    go_wp2_with fail
    refine bodyPost_ret (v := .tuple #[.agg #[.string z.x0, .string z.x1, .string z.x2, .string z.x3, .string z.x4, .int .i64 z.x5, .int .i64 z.x6, .int .i64 z.x7, .int .i64 z.x8], .int .i64 c]) (by simp [results, Tryz.results66, go_sem, r0, r1, r2, r3, r4, r5, r6, r7, r8]) rfl ⟨z, c, rfl, en.out.trans EL.out, by repeat (first | with_reducible exact On.refl _ | with_reducible apply On.alloc | with_reducible apply On.drewN | with_reducible apply On.drew | with_reducible refine On.setCell ?_ (by (try simp) <;> omega) _ | refine On.trans ?_ O2.out)⟩
end Go.Proofs.YtpnmodmaabhldaaGreat.Net
