
/-
  BeamAntenna, in the model and in the program: an antenna of its own memory. Condition: a name of at most 1048576 bytes.
-/
import Derived.Test.YtnambnddoebeiaaBmS
import Derived.Test.YtnambnddoebeiaaBmW
import Derived.Test.YtnambnddoebeiaaText1
namespace Go.Proofs.Ytnambnddoebeiaa.Ant
open Go.RowKit
open Plain
open Ints (Ints Own)

def bmB (s : ByteArray) (g u v : Int) : Bool := nameB s.data.toList && (inB g (-60000) 60000 && (inB u 1 360 && inB v 1 360))
def bmC (s : ByteArray) (g u v : Int) : Int := if nameB s.data.toList = true then (if (inB g (-60000) 60000 && (inB u 1 360 && inB v 1 360)) = true then 0 else 2) else 1
def bmT (b : Bool) (s : ByteArray) : ByteArray := if b = true then s else ⟨#[]⟩
def bmG (b : Bool) (g : Int) : Int := if b = true then g else 0
def bmL (b : Bool) (zs : List Int) : List Int := if b = true then zs else []
theorem bm_no (s : ByteArray) (g : Int) : bmT false s = ⟨#[]⟩ ∧ bmG false g = 0 := ⟨rfl, rfl⟩
theorem bm_yes (s : ByteArray) (g : Int) : bmT true s = s ∧ bmG true g = g := ⟨rfl, rfl⟩
theorem bmL_no (zs : List Int) : bmL false zs = [] := rfl
theorem bmL_yes (zs : List Int) : bmL true zs = zs := rfl
theorem bm_len (b : Bool) (p q : Nat → Int) : (bmL b (listOf p 36)).length + (bmL b (listOf q 19)).length ≤ 1048576 := by
  cases b
  · rw [bmL_no, bmL_no]; decide
  · rw [bmL_yes, bmL_yes, listOf_len, listOf_len]; decide
theorem bm_1 {s : ByteArray} {g u v : Int} (h : nameB s.data.toList = false) : bmB s g u v = false ∧ bmC s g u v = 1 := by unfold bmB bmC; rw [h]; exact ⟨rfl, rfl⟩
theorem bm_2 {s : ByteArray} {g u v : Int} (h : nameB s.data.toList = true) (h2 : inB g (-60000) 60000 = false ∨ inB u 1 360 = false ∨ inB v 1 360 = false) : bmB s g u v = false ∧ bmC s g u v = 2 := by
  unfold bmB bmC
  rw [h]
  rcases h2 with h2 | h2 | h2 <;> rw [h2] <;> simp
theorem bm_0 {s : ByteArray} {g u v : Int} (h : nameB s.data.toList = true) (h2 : inB g (-60000) 60000 = true) (h3 : inB u 1 360 = true) (h4 : inB v 1 360 = true) : bmB s g u v = true ∧ bmC s g u v = 0 := by unfold bmB bmC; rw [h, h2, h3, h4]; exact ⟨rfl, rfl⟩
theorem nilR (w : World) (B : Nat) : OwnR B w none 0 0 none 0 0 [] [] := ⟨rfl, rfl, Own.empty B w none 0, Own.empty B w none 0, fun h _ => absurd h (by decide)⟩
set_option maxHeartbeats 2000000 in
theorem spec_BeamAntenna (s : ByteArray) (g u v : Int) (w : World) (q0 : s.size ≤ 1048576) :
    Calls Try.prog 24 #[.string s, .int .i64 g, .int .i64 u, .int .i64 v] w fun e w' => ∃ a2 c2 a3 c3, e = .returned (.tuple #[.agg #[.string (bmT (bmB s g u v) s), .int .i64 (bmG (bmB s g u v) g), .slice a2 (bmL (bmB s g u v) (listOf (hP u) 36)).length c2, .slice a3 (bmL (bmB s g u v) (listOf (vP v) 19)).length c3], .int .i64 (bmC s g u v)]) ∧ Ints w' (.slice a2 (bmL (bmB s g u v) (listOf (hP u) 36)).length c2) (bmL (bmB s g u v) (listOf (hP u) 36)) ∧ Ints w' (.slice a3 (bmL (bmB s g u v) (listOf (vP v) 19)).length c3) (bmL (bmB s g u v) (listOf (vP v) 19)) ∧ On w w' := by
  have HN := Lib.hid (fun w => Text1.spec_l01Name s w q0)
  have HG := Lib.hid (fun w => spec_gain g w)
  have HU := Lib.hid (fun w => Arith.l00In u 1 360 w)
  have HV := Lib.hid (fun w => Arith.l00In v 1 360 w)
  cases h1 : nameB s.data.toList with
  | false =>
    rw [h1] at HN
    obtain ⟨e1, e2⟩ := bm_1 (g := g) (u := u) (v := v) h1
    rw [e1, e2]
    obtain ⟨o1, o2⟩ := bm_no s g
    rw [o1, o2, bmL_no, bmL_no]
    clear e1 e2 o1 o2
    go_enter Try.func24, Try.ntmps24
    go_wp2_with (first | (go_at_call 42; refine (HN.out _).mono ?_; rintro e w' ⟨rfl, rfl⟩))
    refine bodyPost_ret (v := .tuple #[.agg #[.string ⟨#[]⟩, .int .i64 0, .slice none 0 0, .slice none 0 0], .int .i64 1]) (by simp [results, Try.results24, go_sem]) rfl ⟨_, _, _, _, rfl, (Own.empty 0 _ none 0).ints, (Own.empty 0 _ none 0).ints, ?_⟩
    repeat (first | with_reducible exact On.refl _ | apply On.alloc | apply On.drew | apply On.drewN | refine On.setCell ?_ (by (try simp) <;> omega) _)
  | true =>
    rw [h1] at HN
    cases h2 : inB g (-60000) 60000 with
    | false =>
      rw [h2] at HG
      obtain ⟨e1, e2⟩ := bm_2 (u := u) (v := v) h1 (.inl h2)
      rw [e1, e2]
      obtain ⟨o1, o2⟩ := bm_no s g
      rw [o1, o2, bmL_no, bmL_no]
      clear e1 e2 o1 o2
      go_enter Try.func24, Try.ntmps24
      go_wp2_with (first | (go_at_call 42; refine (HN.out _).mono ?_; rintro e w' ⟨rfl, rfl⟩) | (go_at_call 50; refine (HG.out _).mono ?_; rintro e w' ⟨rfl, rfl⟩))
      refine bodyPost_ret (v := .tuple #[.agg #[.string ⟨#[]⟩, .int .i64 0, .slice none 0 0, .slice none 0 0], .int .i64 2]) (by simp [results, Try.results24, go_sem]) rfl ⟨_, _, _, _, rfl, (Own.empty 0 _ none 0).ints, (Own.empty 0 _ none 0).ints, ?_⟩
      repeat (first | with_reducible exact On.refl _ | apply On.alloc | apply On.drew | apply On.drewN | refine On.setCell ?_ (by (try simp) <;> omega) _)
    | true =>
      rw [h2] at HG
      cases h3 : inB u 1 360 with
      | false =>
        rw [h3] at HU
        obtain ⟨e1, e2⟩ := bm_2 (v := v) h1 (.inr (.inl h3))
        rw [e1, e2]
        obtain ⟨o1, o2⟩ := bm_no s g
        rw [o1, o2, bmL_no, bmL_no]
        clear e1 e2 o1 o2
        go_enter Try.func24, Try.ntmps24
        go_wp2_with (first | (go_at_call 42; refine (HN.out _).mono ?_; rintro e w' ⟨rfl, rfl⟩) | (go_at_call 50; refine (HG.out _).mono ?_; rintro e w' ⟨rfl, rfl⟩) | (go_at_call 28; (first | with_reducible refine (HU.out _).mono ?_ | with_reducible refine (HV.out _).mono ?_); rintro e w' ⟨rfl, rfl⟩))
        refine bodyPost_ret (v := .tuple #[.agg #[.string ⟨#[]⟩, .int .i64 0, .slice none 0 0, .slice none 0 0], .int .i64 2]) (by simp [results, Try.results24, go_sem]) rfl ⟨_, _, _, _, rfl, (Own.empty 0 _ none 0).ints, (Own.empty 0 _ none 0).ints, ?_⟩
        repeat (first | with_reducible exact On.refl _ | apply On.alloc | apply On.drew | apply On.drewN | refine On.setCell ?_ (by (try simp) <;> omega) _)
      | true =>
        rw [h3] at HU
        cases h4 : inB v 1 360 with
        | false =>
          rw [h4] at HV
          obtain ⟨e1, e2⟩ := bm_2 h1 (.inr (.inr h4))
          rw [e1, e2]
          obtain ⟨o1, o2⟩ := bm_no s g
          rw [o1, o2, bmL_no, bmL_no]
          clear e1 e2 o1 o2
          go_enter Try.func24, Try.ntmps24
          go_wp2_with (first | (go_at_call 42; refine (HN.out _).mono ?_; rintro e w' ⟨rfl, rfl⟩) | (go_at_call 50; refine (HG.out _).mono ?_; rintro e w' ⟨rfl, rfl⟩) | (go_at_call 28; (first | with_reducible refine (HU.out _).mono ?_ | with_reducible refine (HV.out _).mono ?_); rintro e w' ⟨rfl, rfl⟩))
          refine bodyPost_ret (v := .tuple #[.agg #[.string ⟨#[]⟩, .int .i64 0, .slice none 0 0, .slice none 0 0], .int .i64 2]) (by simp [results, Try.results24, go_sem]) rfl ⟨_, _, _, _, rfl, (Own.empty 0 _ none 0).ints, (Own.empty 0 _ none 0).ints, ?_⟩
          repeat (first | with_reducible exact On.refl _ | apply On.alloc | apply On.drew | apply On.drewN | refine On.setCell ?_ (by (try simp) <;> omega) _)
        | true =>
          rw [h4] at HV
          obtain ⟨u0, u1⟩ := of_inB h3
          obtain ⟨v0, v1⟩ := of_inB h4
          obtain ⟨e1, e2⟩ := bm_0 h1 h2 h3 h4
          rw [e1, e2]
          obtain ⟨o1, o2⟩ := bm_yes s g
          rw [o1, o2, bmL_yes, bmL_yes, listOf_len, listOf_len]
          clear e1 e2 o1 o2 h1 h2 h3 h4
          have HC := Lib.hid (fun w => spec_beam s g u v w u0 u1 v0 v1)
          go_enter Try.func24, Try.ntmps24
          go_wp2_with (first | (go_at_call 42; refine (HN.out _).mono ?_; rintro e w' ⟨rfl, rfl⟩) | (go_at_call 50; refine (HG.out _).mono ?_; rintro e w' ⟨rfl, rfl⟩) | (go_at_call 28; (first | with_reducible refine (HU.out _).mono ?_ | with_reducible refine (HV.out _).mono ?_); rintro e w' ⟨rfl, rfl⟩))
          refine (HC.out _).mono ?_
          rintro e w1 ⟨a2, c2, a3, c3, rfl, p2, p3, h5⟩
          have P2 := Lib.hid (p2.mono (B' := w.heap.size + 1) (by simp))
          have P3 := Lib.hid (p3.mono (B' := w.heap.size + 1) (by simp))
          have h3' : On w w1 := by refine On.trans ?_ h5; repeat (first | with_reducible exact On.refl _ | apply On.alloc | apply On.drew | apply On.drewN | refine On.setCell ?_ (by (try simp) <;> omega) _)
          have z1 : w.heap.size < w1.heap.size := by have := h5.size; simp at this; omega
          obtain ⟨hc3, hf3⟩ := bcell h5
          have H3 := Lib.hid h3'
          clear p2 p3 h5 h3'
          go_wp2_with fail
          refine bodyPost_ret (v := .tuple #[.agg #[.string s, .int .i64 g, .slice a2 36 c2, .slice a3 19 c3], .int .i64 0]) (by simp [results, Try.results24, go_sem, hc3]) rfl ⟨_, _, _, _, rfl, ?_, ?_, ?_⟩
          · refine Own.ints (B := w.heap.size + 1) ?_
            have q := P2.out
            repeat (first | with_reducible exact q | refine Own.setCell ?_ (by (try simp) <;> omega) _)
          · refine Own.ints (B := w.heap.size + 1) ?_
            have q := P3.out
            repeat (first | with_reducible exact q | refine Own.setCell ?_ (by (try simp) <;> omega) _)
          · repeat (first | with_reducible exact H3.out | refine On.setCell ?_ (by (try simp) <;> omega) _)
set_option maxHeartbeats 2000000 in
theorem impl_BeamAntenna (s : ByteArray) (g u v : Int) (w : World) (q0 : s.size ≤ 1048576) :
    Calls Try.prog 25 #[.string s, .int .i64 g, .int .i64 u, .int .i64 v] w fun e w' => ∃ a2 c2 a3 c3, e = .returned (.tuple #[.agg #[.string (bmT (bmB s g u v) s), .int .i64 (bmG (bmB s g u v) g), .slice a2 (bmL (bmB s g u v) (listOf (hP u) 36)).length c2, .slice a3 (bmL (bmB s g u v) (listOf (vP v) 19)).length c3], .int .i64 (bmC s g u v)]) ∧ OwnR w.heap.size w' a2 (bmL (bmB s g u v) (listOf (hP u) 36)).length c2 a3 (bmL (bmB s g u v) (listOf (vP v) 19)).length c3 (bmL (bmB s g u v) (listOf (hP u) 36)) (bmL (bmB s g u v) (listOf (vP v) 19)) ∧ On w w' := by
  have HN := Lib.hid (fun w => Text1.impl_isName s w q0)
  have HG := Lib.hid (fun w => impl_isGain g w)
  have HU := Lib.hid (fun w => Arith.within u 1 360 w)
  have HV := Lib.hid (fun w => Arith.within v 1 360 w)
  cases h1 : nameB s.data.toList with
  | false =>
    rw [h1] at HN
    obtain ⟨e1, e2⟩ := bm_1 (g := g) (u := u) (v := v) h1
    rw [e1, e2]
    obtain ⟨o1, o2⟩ := bm_no s g
    rw [o1, o2, bmL_no, bmL_no]
    clear e1 e2 o1 o2
    go_enter Try.func25, Try.ntmps25
    go_wp2_with (first | (go_at_call 46; refine (HN.out _).mono ?_; rintro e w' ⟨rfl, rfl⟩))
    refine bodyPost_ret (v := .tuple #[.agg #[.string ⟨#[]⟩, .int .i64 0, .slice none 0 0, .slice none 0 0], .int .i64 1]) (by simp [results, Try.results25, go_sem]) rfl ⟨_, _, _, _, rfl, nilR _ _, ?_⟩
    repeat (first | with_reducible exact On.refl _ | apply On.alloc | apply On.drew | apply On.drewN | refine On.setCell ?_ (by (try simp) <;> omega) _)
  | true =>
    rw [h1] at HN
    cases h2 : inB g (-60000) 60000 with
    | false =>
      rw [h2] at HG
      obtain ⟨e1, e2⟩ := bm_2 (u := u) (v := v) h1 (.inl h2)
      rw [e1, e2]
      obtain ⟨o1, o2⟩ := bm_no s g
      rw [o1, o2, bmL_no, bmL_no]
      clear e1 e2 o1 o2
      go_enter Try.func25, Try.ntmps25
      go_wp2_with (first | (go_at_call 46; refine (HN.out _).mono ?_; rintro e w' ⟨rfl, rfl⟩) | (go_at_call 52; refine (HG.out _).mono ?_; rintro e w' ⟨rfl, rfl⟩))
      refine bodyPost_ret (v := .tuple #[.agg #[.string ⟨#[]⟩, .int .i64 0, .slice none 0 0, .slice none 0 0], .int .i64 2]) (by simp [results, Try.results25, go_sem]) rfl ⟨_, _, _, _, rfl, nilR _ _, ?_⟩
      repeat (first | with_reducible exact On.refl _ | apply On.alloc | apply On.drew | apply On.drewN | refine On.setCell ?_ (by (try simp) <;> omega) _)
    | true =>
      rw [h2] at HG
      cases h3 : inB u 1 360 with
      | false =>
        rw [h3] at HU
        obtain ⟨e1, e2⟩ := bm_2 (v := v) h1 (.inr (.inl h3))
        rw [e1, e2]
        obtain ⟨o1, o2⟩ := bm_no s g
        rw [o1, o2, bmL_no, bmL_no]
        clear e1 e2 o1 o2
        go_enter Try.func25, Try.ntmps25
        go_wp2_with (first | (go_at_call 46; refine (HN.out _).mono ?_; rintro e w' ⟨rfl, rfl⟩) | (go_at_call 52; refine (HG.out _).mono ?_; rintro e w' ⟨rfl, rfl⟩) | (go_at_call 53; (first | with_reducible refine (HU.out _).mono ?_ | with_reducible refine (HV.out _).mono ?_); rintro e w' ⟨rfl, rfl⟩))
        refine bodyPost_ret (v := .tuple #[.agg #[.string ⟨#[]⟩, .int .i64 0, .slice none 0 0, .slice none 0 0], .int .i64 2]) (by simp [results, Try.results25, go_sem]) rfl ⟨_, _, _, _, rfl, nilR _ _, ?_⟩
        repeat (first | with_reducible exact On.refl _ | apply On.alloc | apply On.drew | apply On.drewN | refine On.setCell ?_ (by (try simp) <;> omega) _)
      | true =>
        rw [h3] at HU
        cases h4 : inB v 1 360 with
        | false =>
          rw [h4] at HV
          obtain ⟨e1, e2⟩ := bm_2 h1 (.inr (.inr h4))
          rw [e1, e2]
          obtain ⟨o1, o2⟩ := bm_no s g
          rw [o1, o2, bmL_no, bmL_no]
          clear e1 e2 o1 o2
          go_enter Try.func25, Try.ntmps25
          go_wp2_with (first | (go_at_call 46; refine (HN.out _).mono ?_; rintro e w' ⟨rfl, rfl⟩) | (go_at_call 52; refine (HG.out _).mono ?_; rintro e w' ⟨rfl, rfl⟩) | (go_at_call 53; (first | with_reducible refine (HU.out _).mono ?_ | with_reducible refine (HV.out _).mono ?_); rintro e w' ⟨rfl, rfl⟩))
          refine bodyPost_ret (v := .tuple #[.agg #[.string ⟨#[]⟩, .int .i64 0, .slice none 0 0, .slice none 0 0], .int .i64 2]) (by simp [results, Try.results25, go_sem]) rfl ⟨_, _, _, _, rfl, nilR _ _, ?_⟩
          repeat (first | with_reducible exact On.refl _ | apply On.alloc | apply On.drew | apply On.drewN | refine On.setCell ?_ (by (try simp) <;> omega) _)
        | true =>
          rw [h4] at HV
          obtain ⟨u0, u1⟩ := of_inB h3
          obtain ⟨v0, v1⟩ := of_inB h4
          obtain ⟨e1, e2⟩ := bm_0 h1 h2 h3 h4
          rw [e1, e2]
          obtain ⟨o1, o2⟩ := bm_yes s g
          rw [o1, o2, bmL_yes, bmL_yes, listOf_len, listOf_len]
          clear e1 e2 o1 o2 h1 h2 h3 h4
          have HB := Lib.hid (fun (v : Int) w => impl_beamOf v w)
          have HC := Lib.hid (fun (g1 g2 : Nat) w h1 h2 => antennaWith s g u v g1 g2 w u0 u1 v0 v1 h1 h2)
          go_enter Try.func25, Try.ntmps25
          go_wp2_with (first | (go_at_call 46; refine (HN.out _).mono ?_; rintro e w' ⟨rfl, rfl⟩) | (go_at_call 52; refine (HG.out _).mono ?_; rintro e w' ⟨rfl, rfl⟩) | (go_at_call 53; (first | with_reducible refine (HU.out _).mono ?_ | with_reducible refine (HV.out _).mono ?_); rintro e w' ⟨rfl, rfl⟩))
          refine (HB.out _ _).mono ?_
          rintro e wx ⟨g1, rfl, hg1, lg1, hx⟩
          have hx' : On w wx := by refine On.trans ?_ hx; repeat (first | with_reducible exact On.refl _ | apply On.alloc | apply On.drew | apply On.drewN | refine On.setCell ?_ (by (try simp) <;> omega) _)
          have zx : w.heap.size < wx.heap.size := by have := hx.size; simp at this; omega
          obtain ⟨hcx, hfx⟩ := bcell hx
          have r0 : wx.cell? ⟨w.heap.size, 0, none⟩ = some (.string ⟨#[]⟩) := (hcx w.heap.size 0 (by simp)).trans (by simp [go_sem])
          have r1 : wx.cell? ⟨w.heap.size, 1, none⟩ = some (.int .i64 0) := (hcx w.heap.size 1 (by simp)).trans (by simp [go_sem])
          have r2 : wx.cell? ⟨w.heap.size, 2, none⟩ = some (.slice none 0 0) := (hcx w.heap.size 2 (by simp)).trans (by simp [go_sem])
          have r3 : wx.cell? ⟨w.heap.size, 3, none⟩ = some (.slice none 0 0) := (hcx w.heap.size 3 (by simp)).trans (by simp [go_sem])
          have HR := Lib.hid (show In wx w.heap.size ⟨#[]⟩ 0 (.slice none 0 0) (.slice none 0 0) from ⟨r0, r1, r2, r3⟩)
          have HFZ := Lib.hid (fun q => (hfx w.heap.size q (by simp)).trans (show (w.alloc (.cells #[.string ⟨#[]⟩, .int .i64 0, .slice none 0 0, .slice none 0 0] 42)).frozen? ⟨w.heap.size, q, none⟩ = false by simp [go_sem]))
          have HX := Lib.hid hx'
          clear hcx hfx hx hx' r0 r1 r2 r3
          go_wp2_with fail
          refine (HB.out _ _).mono ?_
          rintro e wy ⟨g2, rfl, hg2, lg2, hy⟩
          have k1 := (hy.cell (World.block_lt_of_cell? _ _ hg1)).trans hg1
          have HR2 := Lib.hid (HR.out.on hy)
          have HFZ2 := Lib.hid (fun q => (hy.frozen (p := ⟨w.heap.size, q, none⟩) (by exact zx)).trans (HFZ.out q))
          have HX2 := Lib.hid (HX.out.trans hy)
          have zy := hy.lts _ zx
          clear hy hg1
          go_wp2_with fail
          refine (HC.out _ _ _ k1 hg2).mono ?_
          rintro e w1 ⟨a2, c2, a3, c3, rfl, ho, h5⟩
          have HO := Lib.hid (ho.mono (B' := w.heap.size + 1) (by omega))
          have h3' : On w w1 := HX2.out.trans h5
          have HR3 := HR2.out.on h5
          obtain ⟨r0, r1, r2, r3⟩ := HR3
          have z1 := h5.lts _ zy
          have f0 := (h5.frozen (p := ⟨w.heap.size, 0, none⟩) (by exact zy)).trans (HFZ2.out 0)
          have f1 := (h5.frozen (p := ⟨w.heap.size, 1, none⟩) (by exact zy)).trans (HFZ2.out 1)
          have f2 := (h5.frozen (p := ⟨w.heap.size, 2, none⟩) (by exact zy)).trans (HFZ2.out 2)
          have f3 := (h5.frozen (p := ⟨w.heap.size, 3, none⟩) (by exact zy)).trans (HFZ2.out 3)
          have H3 := Lib.hid h3'
          clear ho h5 h3' hg2 k1
          go_wp2_with fail
          refine bodyPost_ret (v := .tuple #[.agg #[.string s, .int .i64 g, .slice a2 36 c2, .slice a3 19 c3], .int .i64 0]) (by simp [results, Try.results25, go_sem, r0, r1, r2, r3]) rfl ⟨_, _, _, _, rfl, ?_, ?_⟩
          · refine OwnR.mono (B := w.heap.size + 1) ?_ (by omega)
            obtain ⟨l0, l1, p0, p1, pd⟩ := HO.out
            exact ⟨l0, l1, by repeat (first | with_reducible exact p0 | refine Own.setCell ?_ (by (try simp) <;> omega) _), by repeat (first | with_reducible exact p1 | refine Own.setCell ?_ (by (try simp) <;> omega) _), pd⟩
          · repeat (first | with_reducible exact H3.out | refine On.setCell ?_ (by (try simp) <;> omega) _)
end Go.Proofs.Ytnambnddoebeiaa.Ant
