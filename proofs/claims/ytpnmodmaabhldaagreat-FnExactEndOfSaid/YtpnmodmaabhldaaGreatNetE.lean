
/-
  The end of a path at a sector, in the model and in the program. Condition: at most 1048576 elements in each list, and numbers and bytes in each of these.
-/
import Derived.Test.YtpnmodmaabhldaaGreatNetN
import Derived.Test.YtpnmodmaabhldaaGreatTail
namespace Go.Proofs.YtpnmodmaabhldaaGreat.Net
open Go.RowKit

/-- The site of a sector. -/
def siteOf (N : T) (s : Secs.Z) : Sites.Z := (Sites.look N.f0 s.x1).1
theorem site_at {N : T} {s : Secs.Z} (h : Nam.has Sites.nm Sites.d0 N.f0 s.x1 = true) : ∃ k : Nat, k < N.f0.length ∧ Nam.find Sites.nm Sites.d0 N.f0 s.x1 = (k : Int) ∧ siteOf N s = N.f0.getD k Sites.d0 ∧ Sites.look N.f0 s.x1 = (siteOf N s, 0) := by
  rcases Nam.first_or (Nam.is Sites.nm Sites.d0 N.f0 s.x1) N.f0.length with ⟨e, _⟩ | ⟨k, hk, e, _, _⟩
  · unfold Nam.has at h
    rw [show Nam.find Sites.nm Sites.d0 N.f0 s.x1 = -1 from e] at h
    cases h
  · have e' : Nam.find Sites.nm Sites.d0 N.f0 s.x1 = (k : Int) := e
    have hl : Sites.look N.f0 s.x1 = (N.f0.getD k Sites.d0, 0) := by
      unfold Sites.look
      rw [e', if_pos (by omega)]
      rfl
    exact ⟨k, hk, e', by unfold siteOf; rw [hl], by unfold siteOf; rw [hl]⟩
theorem ref_at {N : T} (h : okB N = true) {k : Nat} (hk : k < N.f1.length) : refB N (N.f1.getD k Secs.d0) = true := by
  have h1 := (of_okB h).2.2.2.2.1
  rw [refs_all] at h1
  have := List.all_eq_true.1 h1 (N.f1.getD k Secs.d0) (by rw [List.getD_eq_getElem?_getD, List.getElem?_eq_getElem hk]; exact List.getElem_mem hk)
  exact this
theorem has_site {N : T} {s : Secs.Z} (h : refB N s = true) : Nam.has Sites.nm Sites.d0 N.f0 s.x1 = true := by
  unfold refB at h
  rw [Bool.and_eq_true] at h
  exact h.1
set_option maxHeartbeats 2000000 in
theorem spec_end (g k : Nat) (N : T) (w : World) (hN : N.Small 1048576) (hok : okB N = true) (hk : k < N.f1.length) (hi : In w g N) :
    Calls Tryz.prog 65 #[.pointer (some ⟨g, 0, none⟩), .int .i64 k] w fun e w' => e = .returned (.agg #[.int .i64 (siteOf N (N.f1.getD k Secs.d0)).x2, .int .i64 (siteOf N (N.f1.getD k Secs.d0)).x3, .int .i64 (N.f1.getD k Secs.d0).x7]) ∧ On w w' := by
  obtain ⟨s, hs⟩ : ∃ s : Secs.Z, s = N.f1.getD k Secs.d0 := ⟨_, rfl⟩
  have hr := has_site (ref_at hok hk)
  rw [← hs] at hr
  obtain ⟨q, hq, e1, e2, -⟩ := site_at hr
  obtain ⟨p, hp⟩ : ∃ p : Sites.Z, p = N.f0.getD q Sites.d0 := ⟨_, rfl⟩
  have ep : siteOf N s = p := e2.trans hp.symm
  rw [← hs, ep]
  have hF := fun w' (ho : On w w') => spec_find0 g s.x1 N w' hN (hi.on ho)
  rw [e1] at hF
  have HF := Lib.hid (fun w' (ho : On w w') => (hF w' ho).mono fun e w'' h => (⟨h.1, h.2 ▸ On.refl _⟩ : e = _ ∧ On w' w''))
  have HI := Lib.hid hi
  obtain ⟨a0, cap0, c0, r0⟩ := hi.c0
  obtain ⟨a1, cap1, c1, r1⟩ := hi.c1
  have zg := hi.lt
  obtain ⟨b0, off0, hab0, hlt0, hcell0⟩ := Sites.slice_of r0 (by omega)
  obtain ⟨b1, off1, hab1, hlt1, hcell1⟩ := Secs.slice_of r1 (by omega)
  rw [hab0] at c0
  rw [hab1] at c1
  have E0 : Sites.El w b0 (off0 + q * 4) p := by rw [hp]; exact hcell0 q hq
  have E1 : Secs.El w b1 (off1 + k * 9) s := by rw [hs]; exact hcell1 k hk
  have k2 := E0.c2
  have k3 := E0.c3
  have s1 := E1.c1
  have s7 := E1.c7
  have hki : (k : Int) < (N.f1.length : Int) := by omega
  have hqi : (q : Int) < (N.f0.length : Int) := by omega
  clear hF hr e1 e2 hp ep hs r0 r1 hcell0 hcell1 E0 E1 hi hab0 hab1 hok hN
  go_enter Tryz.func65, Tryz.ntmps65
  go_wp2_with fail
  generalize hW0 : w.alloc _ = w0
  have O0 := Lib.hid (show On w w0 by rw [← hW0]; exact On.alloc (On.refl _) _)
  have zr : w.heap.size < w0.heap.size := by rw [← hW0]; simp
  have rr : w0.cell? ⟨w.heap.size, 0, none⟩ = some (.int .i64 0) ∧ w0.cell? ⟨w.heap.size, 1, none⟩ = some (.int .i64 0) ∧ w0.cell? ⟨w.heap.size, 2, none⟩ = some (.int .i64 0) ∧ ∀ i, w0.frozen? ⟨w.heap.size, i, none⟩ = false := by rw [← hW0]; exact ⟨by simp [go_sem], by simp [go_sem], by simp [go_sem], fun i => by simp [go_sem]⟩
  clear hW0
  obtain ⟨y0, y1, y2, yf⟩ := rr
  have f0 := yf 0
  have f1 := yf 1
  have f2 := yf 2
  obtain ⟨hcw, hfw⟩ := bcell O0.out
  rw [← hcw _ _ zg] at c0 c1
  rw [← hcw _ _ hlt0] at k2 k3
  rw [← hcw _ _ hlt1] at s1 s7
  have zg0 := O0.out.lts _ zg
  have zb0 := O0.out.lts _ hlt0
  have zb1 := O0.out.lts _ hlt1
  clear hcw hfw yf
  go_wp2_with fail
  refine wp_region_on_tail 18 (by kernel_rfl) (by kernel_rfl) ?_
  simp only [List.take_succ_cons, List.take_zero, List.drop_succ_cons, List.drop_zero]
  repeat (refine wpQuiet_step (fun K hK => ?_); go_simp; first | (refine hK _ ?_; clear hK K) | (apply Exists.intro; refine ⟨fun v1 hv1 => ?_, hK _ ?_⟩; (first | with_reducible exact rfl | with_reducible exact ⟨rfl, rfl⟩ | with_reducible exact Calls.on hv1 (HF.out _ (O0.out.trans hv1)) | (obtain ⟨hc, hf⟩ := bcell hv1; go_simp; first | exact rfl | exact ⟨rfl, rfl⟩)); clear hK K))
  refine wpQuiet_nil ?_
  intro w1 h1
  obtain ⟨hc1, hf1⟩ := bcell h1
  have zr1 := h1.lts _ zr
  go_wp2_with fail
  refine bodyPost_ret (v := .agg #[.int .i64 p.x2, .int .i64 p.x3, .int .i64 s.x7]) (by simp [results, Tryz.results65, go_sem, hc1, zr, y0, y1, y2]) rfl ⟨rfl, ?_⟩
  iterate 3 refine On.setCell ?_ (by simp) _
  exact O0.out.trans h1
set_option maxHeartbeats 2000000 in
theorem impl_end (v : Value) (s : Secs.Z) (N : T) (w : World) (hN : N.Small 1048576) (hok : okB N = true) (hr : refB N s = true) (h : Is w v N) :
    Calls Tryz.prog 67 #[v, .agg #[.string s.x0, .string s.x1, .string s.x2, .string s.x3, .string s.x4, .int .i64 s.x5, .int .i64 s.x6, .int .i64 s.x7, .int .i64 s.x8]] w fun e w' => e = .returned (.agg #[.int .i64 (siteOf N s).x2, .int .i64 (siteOf N s).x3, .int .i64 s.x7]) ∧ On w w' := by
  obtain ⟨v0, v1, v2, v3, rfl, h0, h1, h2, h3⟩ := h
  have H0 := Lib.hid h0
  have H1 := Lib.hid h1
  have H2 := Lib.hid h2
  have H3 := Lib.hid h3
  obtain ⟨a0, cap0, rfl, -⟩ := h0
  obtain ⟨a1, cap1, rfl, -⟩ := h1
  obtain ⟨a2, cap2, rfl, -⟩ := h2
  obtain ⟨a3, cap3, rfl, -⟩ := h3
  have HL := Lib.hid (fun w' (ho : On w w') => Sites.impl_look _ s.x1 N.f0 w' hN.1.1 (Sites.rise_of (of_okB hok).1) (H0.out.on ho))
  obtain ⟨q, hq, e1, e2, e3⟩ := site_at (has_site hr)
  have E3 := Lib.hid e3
  generalize siteOf N s = p at *
  clear e1 e2 e3 hq hr hok
  go_enter Tryz.func67, Tryz.ntmps67
  go_wp2_with fail
  generalize hW0 : ((w.alloc (.cells #[.slice a0 N.f0.length cap0, .slice a1 N.f1.length cap1, .slice a2 N.f2.length cap2, .slice a3 N.f3.length cap3] 37)).alloc (.cells #[.string s.x0, .string s.x1, .string s.x2, .string s.x3, .string s.x4, .int .i64 s.x5, .int .i64 s.x6, .int .i64 s.x7, .int .i64 s.x8] 66)).alloc _ = w0
  have O0 := Lib.hid (show On w w0 by rw [← hW0]; repeat (first | with_reducible exact On.refl _ | with_reducible apply On.alloc | with_reducible apply On.drewN | with_reducible apply On.drew | with_reducible refine On.setCell ?_ (by (try simp) <;> omega) _))
  have zr : w.heap.size + 2 < w0.heap.size := by rw [← hW0]; simp
  have rr : w0.cell? ⟨w.heap.size + 2, 0, none⟩ = some (.int .i64 0) ∧ w0.cell? ⟨w.heap.size + 2, 1, none⟩ = some (.int .i64 0) ∧ w0.cell? ⟨w.heap.size + 2, 2, none⟩ = some (.int .i64 0) ∧ (∀ i, w0.frozen? ⟨w.heap.size + 2, i, none⟩ = false) ∧ w0.cell? ⟨w.heap.size + 1, 7, none⟩ = some (.int .i64 s.x7) := by rw [← hW0]; exact ⟨by simp [go_sem], by simp [go_sem], by simp [go_sem], fun i => by simp [go_sem], by simp [go_sem]⟩
  clear hW0
  refine (HL.out _ O0.out).mono ?_
  rintro e w1 ⟨z, c, rfl, hl, h1⟩
  obtain ⟨rfl, rfl⟩ : p = z ∧ (0 : Int) = c := Prod.mk.inj (E3.out.symm.trans hl)
  have O1 := Lib.hid (O0.out.trans h1)
  obtain ⟨hc, hf⟩ := bcell h1
  obtain ⟨y0, y1, y2, yf, y7⟩ := rr
  have zr1 := h1.lts _ zr
  have zs1 : w.heap.size + 1 < w1.heap.size := by omega
  rw [← hc _ _ zr] at y0 y1 y2
  rw [← hc _ _ (by omega)] at y7
  have f0 := (hf _ _ zr).trans (yf 0)
  have f1 := (hf _ _ zr).trans (yf 1)
  have f2 := (hf _ _ zr).trans (yf 2)
  clear hc hf yf hl h1 HL
  have zn : ¬ w1.heap.size = w.heap.size + 1 := by omega
  have zn2 : ¬ w1.heap.size = w.heap.size + 2 := by omega
  have zm : ¬ w.heap.size + 1 = w1.heap.size := by omega
  have zm2 : ¬ w.heap.size + 2 = w1.heap.size := by omega
  go_wp2_with fail
  refine bodyPost_ret (v := .agg #[.int .i64 p.x2, .int .i64 p.x3, .int .i64 s.x7]) (by simp [results, Tryz.results67, go_sem, zr1, World.cell?_alloc_lt, y0, y1, y2]) rfl ⟨rfl, ?_⟩
  repeat (first | with_reducible exact On.refl _ | with_reducible apply On.alloc | with_reducible apply On.drewN | with_reducible apply On.drew | with_reducible refine On.setCell ?_ (by (try simp) <;> omega) _ | refine On.trans ?_ O1.out)
/-- The end at the sector with a name: its place, its height; a code. -/
def endOf (N : T) (y : ByteArray) : (Int × Int × Int) × Int := match sectorNamed N y with
  | (s, 0) => (((siteOf N s).x2, (siteOf N s).x3, s.x7), 0)
  | (_, c) => ((0, 0, 0), c)
/-- The block g holds a result that can be stored: no end, and nothing frozen. -/
def ResE (w : World) (g : Nat) : Prop := Bx.Box w g [.int .i64 0, .int .i64 0, .int .i64 0] ∧ ∀ i, w.frozen? ⟨g, i, none⟩ = false
theorem ResE.on {w w' : World} {g : Nat} (h : ResE w g) (ho : On w w') : ResE w' g := ⟨h.1.on ho, fun i => (ho.frozen (p := ⟨g, i, none⟩) (by exact h.1.1)).trans (h.2 i)⟩
theorem ResE.new (w : World) (t : TypeId) : ResE (w.alloc (.cells #[.int .i64 0, .int .i64 0, .int .i64 0] t)) w.heap.size := ⟨Bx.Box.new _ _ _, fun i => by simp [go_sem]⟩
theorem sector_code {N : T} {y : ByteArray} {s : Secs.Z} {c : Int} (h : sectorNamed N y = (s, c)) : (c = 0 ∧ okB N = true ∧ ∃ k, k < N.f1.length ∧ s = N.f1.getD k Secs.d0) ∨ (c ≠ 0 ∧ s = Secs.d0) := by
  cases g : okB N with
  | false =>
    rw [sectorNamed_no g] at h
    obtain ⟨rfl, rfl⟩ := Prod.mk.inj h
    exact .inr ⟨by decide, rfl⟩
  | true =>
    rw [sectorNamed_yes g] at h
    rcases Secs.look_is N.f1 y with ⟨k, hk, _, e1, e2⟩ | ⟨_, e1, e2⟩
    · rw [h] at e1 e2
      have e1' : s = N.f1.getD k Secs.d0 := e1
      have e2' : c = 0 := e2
      exact .inl ⟨e2', rfl, k, hk, e1'⟩
    · rw [h] at e1 e2
      have e1' : s = Secs.d0 := e1
      have e2' : c = 3 := e2
      exact .inr ⟨by rw [e2']; decide, e1'⟩
set_option maxHeartbeats 4000000 in
theorem impl_EndOf (v : Value) (y : ByteArray) (N : T) (w : World) (hN : N.Small 1048576) (h : Is w v N) :
    Calls Tryz.prog 21 #[v, .string y] w fun e w' => ∃ p q r c, e = .returned (.tuple #[.agg #[.int .i64 p, .int .i64 q, .int .i64 r], .int .i64 c]) ∧ endOf N y = ((p, q, r), c) ∧ On w w' := by
  obtain ⟨v0, v1, v2, v3, rfl, h0, h1, h2, h3⟩ := h
  have H0 := Lib.hid h0
  have H1 := Lib.hid h1
  have H2 := Lib.hid h2
  have H3 := Lib.hid h3
  obtain ⟨a0, cap0, rfl, -⟩ := h0
  obtain ⟨a1, cap1, rfl, -⟩ := h1
  obtain ⟨a2, cap2, rfl, -⟩ := h2
  obtain ⟨a3, cap3, rfl, -⟩ := h3
  go_enter Tryz.func21, Tryz.ntmps21
  go_wp2_with fail
  generalize hW0 : (w.alloc (.cells #[.slice a0 N.f0.length cap0, .slice a1 N.f1.length cap1, .slice a2 N.f2.length cap2, .slice a3 N.f3.length cap3] 37)).alloc (.cells #[.int .i64 0, .int .i64 0, .int .i64 0] 47) = w0
  have O0 := Lib.hid (show On w w0 by rw [← hW0]; repeat (first | with_reducible exact On.refl _ | with_reducible apply On.alloc | with_reducible apply On.drewN | with_reducible apply On.drew | with_reducible refine On.setCell ?_ (by (try simp) <;> omega) _))
  have I0 := Lib.hid (show In w0 w.heap.size N by rw [← hW0]; exact (In.box w _ _ _ _ _ _ _ _ N _ H0.out H1.out H2.out H3.out).on (On.alloc (On.refl _) _))
  have B0 := Lib.hid (show Bx.Box w0 w.heap.size [.slice a0 N.f0.length cap0, .slice a1 N.f1.length cap1, .slice a2 N.f2.length cap2, .slice a3 N.f3.length cap3] by rw [← hW0]; exact (Bx.Box.new _ _ _).on (On.alloc (On.refl _) _))
  have R0 := Lib.hid (show ResE w0 (w.heap.size + 1) by rw [← hW0]; have := ResE.new (w.alloc (.cells #[.slice a0 N.f0.length cap0, .slice a1 N.f1.length cap1, .slice a2 N.f2.length cap2, .slice a3 N.f3.length cap3] 37)) 47; rw [World.size_alloc] at this; exact this)
  clear hW0
  have HV := impl_SectorNamed _ y N w0 hN ⟨_, _, _, _, rfl, H0.out.on O0.out, H1.out.on O0.out, H2.out.on O0.out, H3.out.on O0.out⟩
  refine HV.mono ?_
  rintro e w1 ⟨s, c, rfl, hs, h1⟩
  have O1 := Lib.hid (O0.out.trans h1)
  have B1 := Lib.hid (B0.out.on h1)
  have R1 := Lib.hid (R0.out.on h1)
  clear h1 HV
  have zs1 : ¬ w.heap.size + 1 = w1.heap.size := Nat.ne_of_lt R1.out.1.1
  have zs2 : ¬ w1.heap.size = w.heap.size + 1 := fun e => zs1 e.symm
  have r0 := R1.out.1.2 0 _ rfl
  have r1 := R1.out.1.2 1 _ rfl
  have r2 := R1.out.1.2 2 _ rfl
  have f0 := R1.out.2 0
  have f1 := R1.out.2 1
  have f2 := R1.out.2 2
  have zr := R1.out.1.1
  rcases sector_code hs with ⟨rfl, hok, k, hk, hsk⟩ | ⟨hc, rfl⟩
  · have en := Lib.hid (show endOf N y = (((siteOf N s).x2, (siteOf N s).x3, s.x7), 0) by unfold endOf; rw [hs]; rfl)
    have hr := ref_at hok hk
    rw [← hsk] at hr
    have HE := Lib.hid (fun w' (ho : On w w') => impl_end _ s N w' hN hok hr ⟨_, _, _, _, rfl, H0.out.on ho, H1.out.on ho, H2.out.on ho, H3.out.on ho⟩)
    have k0 := B1.out.2 0 _ rfl
    have k1 := B1.out.2 1 _ rfl
    have k2 := B1.out.2 2 _ rfl
    have k3 := B1.out.2 3 _ rfl
    have kz := B1.out.1
    clear hs hsk hr hk hok
    go_wp2_with fail
    refine (HE.out _ (by repeat (first | with_reducible exact On.refl _ | with_reducible apply On.alloc | with_reducible apply On.drewN | with_reducible apply On.drew | with_reducible refine On.setCell ?_ (by (try simp) <;> omega) _ | refine On.trans ?_ O1.out))).mono ?_
    rintro e w2 ⟨rfl, h2⟩
    have g2 : On w1 w2 := On.trans (On.alloc (On.refl _) _) h2
    have O2 := Lib.hid (O1.out.trans g2)
    have R2 := Lib.hid (R1.out.on g2)
    clear r0 r1 r2 f0 f1 f2 zr h2 g2 k0 k1 k2 k3 kz
    have r0 := R2.out.1.2 0 _ rfl
    have r1 := R2.out.1.2 1 _ rfl
    have r2 := R2.out.1.2 2 _ rfl
    have f0 := R2.out.2 0
    have f1 := R2.out.2 1
    have f2 := R2.out.2 2
    have zr := R2.out.1.1
    go_wp2_with fail
    refine bodyPost_ret (v := .tuple #[.agg #[.int .i64 (siteOf N s).x2, .int .i64 (siteOf N s).x3, .int .i64 s.x7], .int .i64 0]) (by simp [results, Tryz.results21, go_sem, r0, r1, r2]) rfl ⟨_, _, _, 0, rfl, en.out, by repeat (first | with_reducible exact On.refl _ | with_reducible apply On.alloc | with_reducible apply On.drewN | with_reducible apply On.drew | with_reducible refine On.setCell ?_ (by (try simp) <;> omega) _ | refine On.trans ?_ O2.out)⟩
  · have en := Lib.hid (show endOf N y = ((0, 0, 0), c) by
      unfold endOf
      rw [hs]
      split
      · rename_i h; exact absurd (Prod.mk.inj h).2 hc
      · rename_i h; rw [(Prod.mk.inj h).2])
    have hc0 : (c == 0) = false := beq_eq_false_iff_ne.2 hc
    have hc1 : (c != 0) = true := by rw [bne, hc0]; rfl
    clear hs hc
    go_wp2_with fail
    refine bodyPost_ret (v := .tuple #[.agg #[.int .i64 0, .int .i64 0, .int .i64 0], .int .i64 c]) (by simp [results, Tryz.results21, go_sem, r0, r1, r2, World.cell?_alloc_lt, zr]) rfl ⟨0, 0, 0, c, rfl, en.out, by repeat (first | with_reducible exact On.refl _ | with_reducible apply On.alloc | with_reducible apply On.drewN | with_reducible apply On.drew | with_reducible refine On.setCell ?_ (by (try simp) <;> omega) _ | refine On.trans ?_ O1.out)⟩
set_option maxHeartbeats 4000000 in
theorem spec_EndOf (v : Value) (y : ByteArray) (N : T) (w : World) (hN : N.Small 1048576) (h : Is w v N) :
    Calls Tryz.prog 20 #[v, .string y] w fun e w' => ∃ p q r c, e = .returned (.tuple #[.agg #[.int .i64 p, .int .i64 q, .int .i64 r], .int .i64 c]) ∧ endOf N y = ((p, q, r), c) ∧ On w w' := by
  obtain ⟨v0, v1, v2, v3, rfl, h0, h1, h2, h3⟩ := h
  have H0 := Lib.hid h0
  have H1 := Lib.hid h1
  have H2 := Lib.hid h2
  have H3 := Lib.hid h3
  obtain ⟨a0, cap0, rfl, -⟩ := h0
  obtain ⟨a1, cap1, rfl, -⟩ := h1
  obtain ⟨a2, cap2, rfl, -⟩ := h2
  obtain ⟨a3, cap3, rfl, -⟩ := h3
  go_enter Tryz.func20, Tryz.ntmps20
  go_wp2_with fail
  generalize hW0 : (w.alloc (.cells #[.slice a0 N.f0.length cap0, .slice a1 N.f1.length cap1, .slice a2 N.f2.length cap2, .slice a3 N.f3.length cap3] 37)).alloc (.cells #[.int .i64 0, .int .i64 0, .int .i64 0] 47) = w0
  have O0 := Lib.hid (show On w w0 by rw [← hW0]; repeat (first | with_reducible exact On.refl _ | with_reducible apply On.alloc | with_reducible apply On.drewN | with_reducible apply On.drew | with_reducible refine On.setCell ?_ (by (try simp) <;> omega) _))
  have I0 := Lib.hid (show In w0 w.heap.size N by rw [← hW0]; exact (In.box w _ _ _ _ _ _ _ _ N _ H0.out H1.out H2.out H3.out).on (On.alloc (On.refl _) _))
  have B0 := Lib.hid (show Bx.Box w0 w.heap.size [.slice a0 N.f0.length cap0, .slice a1 N.f1.length cap1, .slice a2 N.f2.length cap2, .slice a3 N.f3.length cap3] by rw [← hW0]; exact (Bx.Box.new _ _ _).on (On.alloc (On.refl _) _))
  have R0 := Lib.hid (show ResE w0 (w.heap.size + 1) by rw [← hW0]; have := ResE.new (w.alloc (.cells #[.slice a0 N.f0.length cap0, .slice a1 N.f1.length cap1, .slice a2 N.f2.length cap2, .slice a3 N.f3.length cap3] 37)) 47; rw [World.size_alloc] at this; exact this)
  clear hW0
  refine (spec_ok w.heap.size N _ hN I0.out).mono ?_
  rintro e w1 ⟨rfl, h1⟩
  have O1 := Lib.hid (O0.out.trans h1)
  have I1 := Lib.hid (I0.out.on h1)
  have R1 := Lib.hid (R0.out.on h1)
  clear h1
  have r0 := R1.out.1.2 0 _ rfl
  have r1 := R1.out.1.2 1 _ rfl
  have r2 := R1.out.1.2 2 _ rfl
  have f0 := R1.out.2 0
  have f1 := R1.out.2 1
  have f2 := R1.out.2 2
  have zr := R1.out.1.1
  cases g : okB N with
  | false =>
    have en := Lib.hid (show endOf N y = ((0, 0, 0), 1) by unfold endOf; rw [sectorNamed_no g]; rfl)
    clear g
    go_wp2_with fail
    refine bodyPost_ret (v := .tuple #[.agg #[.int .i64 0, .int .i64 0, .int .i64 0], .int .i64 1]) (by simp [results, Tryz.results20, go_sem, r0, r1, r2]) rfl ⟨0, 0, 0, 1, rfl, en.out, by repeat (first | with_reducible exact On.refl _ | with_reducible apply On.alloc | with_reducible apply On.drewN | with_reducible apply On.drew | with_reducible refine On.setCell ?_ (by (try simp) <;> omega) _ | refine On.trans ?_ O1.out)⟩
  | true =>
    have HR := Lib.hid (Secs.rise_of (of_okB g).2.1)
    go_wp2_with fail
    refine (spec_find1 w.heap.size y N _ hN I1.out).mono ?_
    rintro e w2 ⟨rfl, hw⟩
    subst hw
    rcases Nam.first_or (Nam.is Secs.nm Secs.d0 N.f1 y) N.f1.length with ⟨e1, hno⟩ | ⟨k, hk, e1, hyes, -⟩
    · rw [show Nam.find Secs.nm Secs.d0 N.f1 y = -1 from e1]
      have en := Lib.hid (show endOf N y = ((0, 0, 0), 3) by
        unfold endOf
        rw [sectorNamed_yes g, Secs.look_of HR.out (y := y) (z := Secs.d0) (c := 3) (.inr ⟨fun k hk e => by have := hno k hk; rw [Secs.is_iff, e] at this; simp at this, rfl, rfl⟩)]
        rfl)
      clear e1 hno g
      go_wp2_with fail
      refine bodyPost_ret (v := .tuple #[.agg #[.int .i64 0, .int .i64 0, .int .i64 0], .int .i64 3]) (by simp [results, Tryz.results20, go_sem, r0, r1, r2]) rfl ⟨0, 0, 0, 3, rfl, en.out, by repeat (first | with_reducible exact On.refl _ | with_reducible apply On.alloc | with_reducible apply On.drewN | with_reducible apply On.drew | with_reducible refine On.setCell ?_ (by (try simp) <;> omega) _ | refine On.trans ?_ O1.out)⟩
    · rw [show Nam.find Secs.nm Secs.d0 N.f1 y = (k : Int) from e1]
      rw [Secs.is_iff] at hyes
      have en := Lib.hid (show endOf N y = (((siteOf N (N.f1.getD k Secs.d0)).x2, (siteOf N (N.f1.getD k Secs.d0)).x3, (N.f1.getD k Secs.d0).x7), 0) by
        unfold endOf
        rw [sectorNamed_yes g, Secs.look_of HR.out (y := y) (z := N.f1.getD k Secs.d0) (c := 0) (.inl ⟨k, hk, of_decide_eq_true hyes, rfl, rfl⟩)]
        rfl)
      have HE := Lib.hid (spec_end w.heap.size k N w1 hN g hk I1.out)
      generalize (siteOf N (N.f1.getD k Secs.d0)).x2 = p2 at *
      generalize (siteOf N (N.f1.getD k Secs.d0)).x3 = p3 at *
      generalize (N.f1.getD k Secs.d0).x7 = p7 at *
      have hk0 : ¬ (k : Int) < 0 := by omega
      clear e1 hyes hk g
      go_wp2_with fail
      refine HE.out.mono ?_
      rintro e w2 ⟨rfl, h2⟩
      have O2 := Lib.hid (O1.out.trans h2)
      have R2 := Lib.hid (R1.out.on h2)
      clear r0 r1 r2 f0 f1 f2 zr h2
      have r0 := R2.out.1.2 0 _ rfl
      have r1 := R2.out.1.2 1 _ rfl
      have r2 := R2.out.1.2 2 _ rfl
      have f0 := R2.out.2 0
      have f1 := R2.out.2 1
      have f2 := R2.out.2 2
      have zr := R2.out.1.1
      go_wp2_with fail
      refine bodyPost_ret (v := .tuple #[.agg #[.int .i64 p2, .int .i64 p3, .int .i64 p7], .int .i64 0]) (by simp [results, Tryz.results20, go_sem, r0, r1, r2]) rfl ⟨_, _, _, 0, rfl, en.out, by repeat (first | with_reducible exact On.refl _ | with_reducible apply On.alloc | with_reducible apply On.drewN | with_reducible apply On.drew | with_reducible refine On.setCell ?_ (by (try simp) <;> omega) _ | refine On.trans ?_ O2.out)⟩
/-- The laws' comparison of two ends. -/
theorem eqEnd (p q r : Int) (w : World) :
    Calls Tryz.prog 22 #[.agg #[.int .i64 p, .int .i64 q, .int .i64 r], .agg #[.int .i64 p, .int .i64 q, .int .i64 r]] w fun e w' => e = .returned (.bool true) ∧ On w w' := by
  go_enter Tryz.func22, Tryz.ntmps22
  go_wp2_with fail
  refine (Sites.eqPoint _ _ _).mono ?_
  rintro e w1 ⟨rfl, h1⟩
  obtain ⟨hc1, hf1⟩ := bcell h1
  have s1 := h1.size
  go_wp2_with fail
  go_ret
  exact ⟨rfl, by repeat (first | with_reducible exact On.refl _ | with_reducible apply On.alloc | with_reducible apply On.drewN | with_reducible apply On.drew | with_reducible refine On.setCell ?_ (by (try simp) <;> omega) _ | refine On.trans ?_ h1)⟩
end Go.Proofs.YtpnmodmaabhldaaGreat.Net
