
/-
  Records Site by their names, in the program, which halves the list. Conditions: at most 1048576 records with increasing names.
-/
import Derived.Test.YtpnmodmaabhldaaGreatNarS
import Derived.Test.YtpnmodmaabhldaaGreatCmp
import Derived.Test.YtpnmodmaabhldaaGreatBox
namespace Go.Proofs.YtpnmodmaabhldaaGreat.Sites
open Go.RowKit

def nmK (zs : List Z) (k : Nat) : ByteArray := (zs.getD k d0).x0
set_option maxHeartbeats 1000000 in
theorem impl_cmp (z : Z) (y : ByteArray) (w : World) :
    Calls Tryz.prog 130 #[.agg #[.string z.x0, .string z.x1, .int .i64 z.x2, .int .i64 z.x3], .string y] w fun e w' => e = .returned (.int .i64 (Nmd.cmp z.x0 y)) ∧ On w w' := by
  have hm := methodName
  go_enter Tryz.func130, Tryz.ntmps130
  go_wp2_with fail
  refine (impl_name z _).mono ?_
  rintro e w1 ⟨rfl, h1⟩
  go_wp2_with fail
  refine (Nmd.compare z.x0 y _).mono ?_
  rintro e w2 ⟨rfl, rfl⟩
  go_wp2_with fail
  go_ret
  exact ⟨rfl, by repeat (first | with_reducible exact On.refl _ | with_reducible apply On.alloc | with_reducible apply On.drewN | with_reducible apply On.drew | with_reducible refine On.setCell ?_ (by (try simp) <;> omega) _ | refine On.trans ?_ h1)⟩
/-- The place of the name: i, and whether it is there. -/
def Found (zs : List Z) (y : ByteArray) (i : Nat) (f : Bool) : Prop := Nmd.At (nmK zs) zs.length y i ∧ (f = true ↔ i < zs.length ∧ nmK zs i = y)
set_option maxHeartbeats 4000000 in
theorem search_some (b off cap : Nat) (y : ByteArray) (zs : List Z) (w : World) (hn : zs.length ≤ 1048576) (hr : Nmd.Rise (nmK zs) zs.length) (hlt : b < w.heap.size)
    (hcell : ∀ k, k < zs.length → El w b (off + k * 4) (zs.getD k d0)) :
    Calls Tryz.prog 129 #[.slice (some ⟨b, off, none⟩) zs.length cap, .string y, .func (Fn.func 130) #[] #[]] w fun e w' => ∃ (i : Nat) (f : Bool), e = .returned (.tuple #[.int .i64 i, .bool f]) ∧ Found zs y i f ∧ On w w' := by
  have HC := Lib.hid hcell
  have M := Lib.hid hr
  obtain ⟨n, hnn⟩ : ∃ n, n = zs.length := ⟨_, rfl⟩
  have HL := Lib.hid hnn
  have HQ := Lib.hid (fun z w' => impl_cmp z y w')
  rw [← hnn] at hn ⊢
  clear hcell hr hnn
  go_enter Tryz.func129, Tryz.ntmps129
  go_wp2
  go_loopg [9, 10] n (fun kx s9 s10 wr => ∃ lo hi : Nat, s9 = .int .i64 lo ∧ s10 = .int .i64 hi ∧ lo ≤ hi ∧ hi ≤ n ∧ hi - lo ≤ kx ∧ On w wr ∧
    Aside ((∀ t, t < lo → Nmd.lt (nmK zs t) y = true) ∧ (∀ t, hi ≤ t → t < n → Nmd.lt (nmK zs t) y = false)))
  case atStart => exact ⟨0, n, rfl, rfl, Nat.zero_le _, Nat.le_refl _, by omega, On.refl _, (⟨fun t ht => absurd ht (Nat.not_lt_zero _), fun t h1 h2 => by omega⟩ : (∀ t, t < 0 → Nmd.lt (nmK zs t) y = true) ∧ (∀ t, n ≤ t → t < n → Nmd.lt (nmK zs t) y = false))⟩
  case round =>
    obtain ⟨lo, hi, rfl, rfl, hlh, hin, hg, ho, I⟩ := hrel
    have HB := Lib.hid ho
    have hbr : b < wr.heap.size := ho.lts _ hlt
    clear ho
    by_cases hlth : lo < hi
    · obtain ⟨m, hm⟩ : ∃ m, m = (lo + hi) / 2 := ⟨_, rfl⟩
      have hl2 : m < zs.length := by rw [← HL.out]; omega
      obtain ⟨z, hz⟩ : ∃ z : Z, z = zs.getD m d0 := ⟨_, rfl⟩
      have E : El wr b (off + m * 4) z := by rw [hz]; exact (HC.out m hl2).on HB.out
      have c0 := E.c0
      have c1 := E.c1
      have c2 := E.c2
      have c3 := E.c3
      rw [hm] at c0 c1 c2 c3
      have hx : nmK zs m = z.x0 := by unfold nmK; rw [← hz]
      have HX := Lib.hid hx
      have HM := Lib.hid hm
      clear hz hx hm E 
      by_cases hyx : Nmd.cmp z.x0 y < 0
      · go_wp2_with fail
        refine (HQ.out z _).mono ?_
        rintro e w1 ⟨rfl, h1⟩
        have HO1 := Lib.hid (HB.out.trans h1)
        clear h1
        go_wp2_with fail
        go_roundg (hi - ((lo + hi) / 2 + 1))
        case measure => omega
        case rel =>
          have I2 : Aside ((∀ t, t < (lo + hi) / 2 + 1 → Nmd.lt (nmK zs t) y = true) ∧ (∀ t, hi ≤ t → t < n → Nmd.lt (nmK zs t) y = false)) := ⟨fun t ht => M.out.mono (a := t) (b := m) (by have := HM.out; omega) hl2 (by rw [HX.out]; exact (Nmd.cmp_lt _ _).1 hyx), I.out.2⟩
          exact ⟨(lo + hi) / 2 + 1, hi, by rw [show ((lo : Int) + (hi : Int)) / 2 + 1 = (((lo + hi) / 2 + 1 : Nat) : Int) by omega], rfl, by omega, hin, Nat.le_refl _, HO1.out, I2⟩
      · go_wp2_with fail
        refine (HQ.out z _).mono ?_
        rintro e w1 ⟨rfl, h1⟩
        have HO1 := Lib.hid (HB.out.trans h1)
        clear h1
        go_wp2_with fail
        go_roundg ((lo + hi) / 2 - lo)
        case measure => omega
        case rel =>
          have I2 : Aside ((∀ t, t < lo → Nmd.lt (nmK zs t) y = true) ∧ (∀ t, (lo + hi) / 2 ≤ t → t < n → Nmd.lt (nmK zs t) y = false)) := ⟨I.out.1, fun t ht htn => by
            cases e : Nmd.lt (nmK zs t) y with
            | false => rfl
            | true =>
              have := M.out.mono (a := m) (b := t) (by have := HM.out; omega) (by rw [← HL.out]; exact htn) e
              rw [HX.out] at this
              exact absurd ((Nmd.cmp_lt _ _).2 this) (by omega)⟩
          exact ⟨lo, (lo + hi) / 2, rfl, by rw [show ((lo : Int) + (hi : Int)) / 2 = (((lo + hi) / 2 : Nat) : Int) by omega], by omega, by omega, Nat.le_refl _, HO1.out, I2⟩
    · obtain rfl : hi = lo := by omega
      have HAt := Lib.hid (show Nmd.At (nmK zs) zs.length y hi by rw [← HL.out]; exact ⟨hin, I.out.1, I.out.2⟩)
      by_cases hln : hi < n
      · have hl2 : hi < zs.length := by rw [← HL.out]; exact hln
        obtain ⟨z, hz⟩ : ∃ z : Z, z = zs.getD hi d0 := ⟨_, rfl⟩
        have E : El wr b (off + hi * 4) z := by rw [hz]; exact (HC.out hi hl2).on HB.out
        have c0 := E.c0
        have c1 := E.c1
        have c2 := E.c2
        have c3 := E.c3
        have hx : nmK zs hi = z.x0 := by unfold nmK; rw [← hz]
        have HX := Lib.hid hx
        clear hz hx E 
        by_cases hyx : Nmd.cmp z.x0 y = 0
        · go_wp2_with fail
          refine (HQ.out z _).mono ?_
          rintro e w1 ⟨rfl, h1⟩
          have HO1 := Lib.hid (HB.out.trans h1)
          clear h1
          go_wp2_with fail
          go_ret2
          exact ⟨hi, true, rfl, ⟨HAt.out, by simp only [true_iff]; exact ⟨hl2, by rw [HX.out]; exact (Nmd.cmp_zero _ _).1 hyx⟩⟩, HO1.out⟩
        · have hq0 : (Nmd.cmp z.x0 y == 0) = false := by simpa using hyx
          go_wp2_with fail
          refine (HQ.out z _).mono ?_
          rintro e w1 ⟨rfl, h1⟩
          have HO1 := Lib.hid (HB.out.trans h1)
          clear h1
          go_wp2_with fail
          go_ret2
          exact ⟨hi, false, rfl, ⟨HAt.out, fun g => by (cases g), fun g => absurd ((Nmd.cmp_zero _ _).2 (by rw [← HX.out]; exact g.2)) hyx⟩, HO1.out⟩
      · go_wp2
        go_ret2
        exact ⟨hi, false, rfl, ⟨HAt.out, fun g => by (cases g), fun g => absurd g.1 (by rw [← HL.out]; exact hln)⟩, HB.out⟩
theorem search_none (a : Option Addr) (cap : Nat) (y : ByteArray) (w : World) :
    Calls Tryz.prog 129 #[.slice a 0 cap, .string y, .func (Fn.func 130) #[] #[]] w fun e w' => ∃ (i : Nat) (f : Bool), e = .returned (.tuple #[.int .i64 i, .bool f]) ∧ Found [] y i f ∧ On w w' := by
  go_enter Tryz.func129, Tryz.ntmps129
  go_wp2
  refine wp_loop_rounds 1 ?_
  rw [rounds_succ]
  go_wp2
  go_ret2
  exact ⟨0, false, rfl, ⟨⟨Nat.le_refl _, fun t ht => absurd ht (Nat.not_lt_zero _), fun t h1 h2 => absurd h2 (Nat.not_lt_zero _)⟩, by simp⟩, On.refl _⟩
theorem place (v : Value) (y : ByteArray) (zs : List Z) (w : World) (hn : zs.length ≤ 1048576) (hr : Nmd.Rise (nmK zs) zs.length) (h : Rows w v zs) :
    Calls Tryz.prog 81 #[v, .string y] w fun e w' => ∃ (i : Nat) (f : Bool), e = .returned (.tuple #[.int .i64 i, .bool f]) ∧ Found zs y i f ∧ On w w' := by
  have hS : ∀ w', On w w' → Calls Tryz.prog 129 #[v, .string y, .func (Fn.func 130) #[] #[]] w' fun e w'' => ∃ (i : Nat) (f : Bool), e = .returned (.tuple #[.int .i64 i, .bool f]) ∧ Found zs y i f ∧ On w' w'' := fun w' ho => by
    have h' := h.on ho
    have h'' := h'
    obtain ⟨a, cap, rfl, -⟩ := h'
    by_cases h0 : 0 < zs.length
    · obtain ⟨b, off, rfl, hlt, hcell⟩ := slice_of h'' h0
      exact search_some b off cap y zs w' hn hr hlt hcell
    · have : zs = [] := List.eq_nil_of_length_eq_zero (by omega)
      subst this
      exact search_none a cap y w'
  have HS := Lib.hid hS
  clear hS h hr
  go_enter Tryz.func81, Tryz.ntmps81
  go_wp2_with fail
  refine (HS.out _ (On.refl _)).mono ?_
  rintro e w1 ⟨i, f, rfl, hf, h1⟩
  have HF := Lib.hid hf
  clear hf
  go_wp2_with fail
  go_ret2
  exact ⟨i, f, rfl, HF.out, h1⟩
/-- What a look for a name returns: the record and 0, or none and 3. -/
def Look (zs : List Z) (y : ByteArray) (z : Z) (c : Int) : Prop := (∃ k, k < zs.length ∧ nmK zs k = y ∧ z = zs.getD k d0 ∧ c = 0) ∨ ((∀ k, k < zs.length → nmK zs k ≠ y) ∧ z = d0 ∧ c = 3)
theorem Look.same {zs : List Z} {y : ByteArray} {z z2 : Z} {c c2 : Int} (hr : Nmd.Rise (nmK zs) zs.length) (h : Look zs y z c) (h2 : Look zs y z2 c2) : z = z2 ∧ c = c2 := by
  rcases h with ⟨k, hk, e, rfl, rfl⟩ | ⟨hno, rfl, rfl⟩ <;> rcases h2 with ⟨k2, hk2, e2, rfl, rfl⟩ | ⟨hno2, rfl, rfl⟩
  · have := hr.inj hk hk2 (e.trans e2.symm); subst this; exact ⟨rfl, rfl⟩
  · exact absurd e (hno2 k hk)
  · exact absurd e2 (hno k2 hk2)
  · exact ⟨rfl, rfl⟩
theorem Found.look_yes {zs : List Z} {y : ByteArray} {i : Nat} (h : Found zs y i true) : i < zs.length ∧ nmK zs i = y := h.2.1 rfl
theorem Found.look_no {zs : List Z} {y : ByteArray} {i : Nat} (h : Found zs y i false) (hr : Nmd.Rise (nmK zs) zs.length) : ∀ k, k < zs.length → nmK zs k ≠ y := fun k hk e => by
  have := h.1.found hr hk e
  subst this
  have := h.2.2 ⟨hk, e⟩
  cases this
/-- The record that a look returns, as a function. -/
def look (zs : List Z) (y : ByteArray) : Z × Int := if 0 ≤ Nam.find nm d0 zs y then (zs.getD (Nam.find nm d0 zs y).toNat d0, 0) else (d0, 3)
theorem is_iff (zs : List Z) (y : ByteArray) (k : Nat) : Nam.is nm d0 zs y k = decide (nmK zs k = y) := Nmd.beq_toList _ _
theorem look_is (zs : List Z) (y : ByteArray) : Look zs y (look zs y).1 (look zs y).2 := by
  unfold look
  rcases Nam.first_or (Nam.is nm d0 zs y) zs.length with ⟨h, h2⟩ | ⟨k, hk, h, h2, _⟩
  · rw [show Nam.find nm d0 zs y = -1 from h, if_neg (by decide)]
    exact .inr ⟨fun k hk e => by have := h2 k hk; rw [is_iff, e] at this; simp at this, rfl, rfl⟩
  · rw [show Nam.find nm d0 zs y = (k : Int) from h, if_pos (by omega)]
    rw [is_iff] at h2
    exact .inl ⟨k, hk, of_decide_eq_true h2, rfl, rfl⟩
theorem look_of {zs : List Z} {y : ByteArray} {z : Z} {c : Int} (hr : Nmd.Rise (nmK zs) zs.length) (h : Look zs y z c) : look zs y = (z, c) := by
  obtain ⟨h1, h2⟩ := (look_is zs y).same hr h
  exact Prod.ext h1 h2
theorem rise_of {o : Z → Bool} {zs : List Z} (h : Nam.allN o nm d0 zs = true) : Nmd.Rise (nmK zs) zs.length := by
  refine Nmd.rise_of fun k hk => ?_
  have := Nam.of_all h (k + 1) hk
  unfold Nam.step at this
  rw [Bool.and_eq_true, decide_eq_false (by omega), Bool.false_or] at this
  exact this.2
/-- The block g holds a result that can be stored: no record, and nothing frozen. -/
def Res (w : World) (g : Nat) : Prop := Bx.Box w g [.string ⟨#[]⟩, .string ⟨#[]⟩, .int .i64 0, .int .i64 0] ∧ ∀ i, w.frozen? ⟨g, i, none⟩ = false
theorem Res.on {w w' : World} {g : Nat} (h : Res w g) (ho : On w w') : Res w' g := ⟨h.1.on ho, fun i => (ho.frozen (p := ⟨g, i, none⟩) (by exact h.1.1)).trans (h.2 i)⟩
theorem Res.new (w : World) (t : TypeId) : Res (w.alloc (.cells #[.string ⟨#[]⟩, .string ⟨#[]⟩, .int .i64 0, .int .i64 0] t)) w.heap.size := ⟨Bx.Box.new _ _ _, fun i => by simp [go_sem]⟩
set_option maxHeartbeats 1000000 in
theorem impl_look (v : Value) (y : ByteArray) (zs : List Z) (w : World) (hn : zs.length ≤ 1048576) (hr : Nmd.Rise (nmK zs) zs.length) (h : Rows w v zs) :
    Calls Tryz.prog 100 #[v, .string y] w fun e w' => ∃ z c, e = .returned (.tuple #[.agg #[.string z.x0, .string z.x1, .int .i64 z.x2, .int .i64 z.x3], .int .i64 c]) ∧ look zs y = (z, c) ∧ On w w' := by
  have HS := Lib.hid (fun w' (ho : On w w') => place v y zs w' hn hr (h.on ho))
  have HV := Lib.hid h
  have HR := Lib.hid hr
  clear hr
  obtain ⟨a, cap, hv, -⟩ := h
  subst hv
  go_enter Tryz.func100, Tryz.ntmps100
  go_wp2_with fail
  refine (HS.out _ (by repeat (first | with_reducible exact On.refl _ | with_reducible apply On.alloc | with_reducible apply On.drewN | with_reducible apply On.drew | with_reducible refine On.setCell ?_ (by (try simp) <;> omega) _))).mono ?_
  rintro e w1 ⟨i, f, rfl, hf, h1⟩
  have HR1 := Lib.hid (show Res w1 w.heap.size from (Res.new _ _).on h1)
  have z1 : w.heap.size < w1.heap.size := HR1.out.1.1
  have z1a : ¬ w.heap.size = w1.heap.size := by omega
  have z1b : ¬ w1.heap.size = w.heap.size := by omega
  have r0 := HR1.out.1.2 0 _ rfl
  have r1 := HR1.out.1.2 1 _ rfl
  have r2 := HR1.out.1.2 2 _ rfl
  have r3 := HR1.out.1.2 3 _ rfl
  have f0 := HR1.out.2 0
  have f1 := HR1.out.2 1
  have f2 := HR1.out.2 2
  have f3 := HR1.out.2 3
  have HO1 := Lib.hid (show On w w1 from by repeat (first | with_reducible exact On.refl _ | with_reducible apply On.alloc | with_reducible apply On.drewN | with_reducible apply On.drew | with_reducible refine On.setCell ?_ (by (try simp) <;> omega) _ | refine On.trans ?_ h1))
  cases f with
  | false =>
    have HN := Lib.hid (look_of HR.out (z := d0) (c := 3) (.inr ⟨hf.look_no HR.out, rfl, rfl⟩))
    clear hf
    go_wp2_with fail
    refine bodyPost_ret (v := .tuple #[.agg #[.string ⟨#[]⟩, .string ⟨#[]⟩, .int .i64 0, .int .i64 0], .int .i64 3]) (by simp [results, Tryz.results100, go_sem, r0, r1, r2, r3, World.cell?_alloc_lt, z1]) rfl ⟨d0, 3, rfl, HN.out, by repeat (first | with_reducible exact On.refl _ | with_reducible apply On.alloc | with_reducible apply On.drewN | with_reducible apply On.drew | with_reducible refine On.setCell ?_ (by (try simp) <;> omega) _ | refine On.trans ?_ HO1.out)⟩
  | true =>
    obtain ⟨hi, hy⟩ := hf.look_yes
    obtain ⟨b, off, hab, hlt, hcell⟩ := slice_of HV.out (by omega)
    subst hab
    have HC := Lib.hid hcell
    clear hcell hf
    obtain ⟨z, hz⟩ : ∃ z : Z, z = zs.getD i d0 := ⟨_, rfl⟩
    have E : El w1 b (off + i * 4) z := by rw [hz]; exact (HC.out i hi).on HO1.out
    have c0 := E.c0
    have c1 := E.c1
    have c2 := E.c2
    have c3 := E.c3
    have hbr : b < w1.heap.size := HO1.out.lts _ hlt
    have hbn : b ≠ w.heap.size := Nat.ne_of_lt hlt
    have HN := Lib.hid (look_of HR.out (z := z) (c := 0) (.inl ⟨i, hi, hy, hz, rfl⟩))
    clear hz hy E
    go_wp2_with fail
    refine bodyPost_ret (v := .tuple #[.agg #[.string z.x0, .string z.x1, .int .i64 z.x2, .int .i64 z.x3], .int .i64 0]) (by simp [results, Tryz.results100, go_sem, r0, r1, r2, r3]) rfl ⟨z, 0, rfl, HN.out, by repeat (first | with_reducible exact On.refl _ | with_reducible apply On.alloc | with_reducible apply On.drewN | with_reducible apply On.drew | with_reducible refine On.setCell ?_ (by (try simp) <;> omega) _ | refine On.trans ?_ HO1.out)⟩
end Go.Proofs.YtpnmodmaabhldaaGreat.Sites
