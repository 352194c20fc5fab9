
/-
  The band with a name, in the model and in the program: the program halves the list. Conditions: at most 1048576 bands with increasing names.
-/
import Derived.Test.YtbmhhhhodlfcbaaDoorBndsV
import Derived.Test.YtbmhhhhodlfcbaaDoorNmd
import Derived.Deep.LoopGhost
import Derived.Shelf.Small.Strs
namespace Go.Proofs.YtbmhhhhodlfcbaaDoor.Bnds
open Go.RowKit
open Bnd (okB)

def nmB (zs : List B5) (k : Nat) : ByteArray := (zs.getD k d5).1
set_option maxRecDepth 100000 in
theorem compareString (x y : ByteArray) (w : World) :
    Calls Tryd.prog 138 #[.string x, .string y] w fun e w' => e = .returned (.int .i64 (Nmd.cmp x y)) ∧ w' = w := by
  go_enter Tryd.func138, Tryd.ntmps138
  go_wp2
  rw [run_callFunc_extern Tryd.func156 (by kernel_rfl) (by kernel_rfl) (by kernel_rfl) (e := Extern.BytealgCompare.compare) (by kernel_rfl), Lib.run_compareString]
  simp only [Result.andThen]
  rw [Oper.upon_value]
  go_wp2
  go_ret
  exact ⟨rfl, rfl⟩
theorem compare (x y : ByteArray) (w : World) :
    Calls Tryd.prog 122 #[.string x, .string y] w fun e w' => e = .returned (.int .i64 (Nmd.cmp x y)) ∧ w' = w := by
  go_enter Tryd.func122, Tryd.ntmps122
  go_wp2_with fail
  refine (compareString x y _).mono ?_
  rintro e w' ⟨rfl, rfl⟩
  go_wp2_with fail
  go_ret
  exact ⟨rfl, rfl⟩
set_option maxHeartbeats 1000000 in
theorem impl_cmp (x : ByteArray) (l h r d : Int) (y : ByteArray) (w : World) :
    Calls Tryd.prog 121 #[.agg #[.string x, .int .i64 l, .int .i64 h, .int .i64 r, .int .i64 d], .string y] w fun e w' => e = .returned (.int .i64 (Nmd.cmp x y)) ∧ On w w' := by
  have hm := methodName
  go_enter Tryd.func121, Tryd.ntmps121
  go_wp2_with fail
  refine (impl_name x l h r d _).mono ?_
  rintro e w1 ⟨rfl, h1⟩
  go_wp2_with fail
  refine (compare x y _).mono ?_
  rintro e w2 ⟨rfl, rfl⟩
  go_wp2_with fail
  go_ret
  exact ⟨rfl, by repeat (first | with_reducible exact On.refl _ | with_reducible apply On.alloc | with_reducible apply On.drewN | with_reducible apply On.drew | with_reducible refine On.setCell ?_ (by (try simp) <;> omega) _ | refine On.trans ?_ h1)⟩

/-- The place of the name: i, and whether it is there. -/
def Found (zs : List B5) (y : ByteArray) (i : Nat) (f : Bool) : Prop := Nmd.At (nmB zs) zs.length y i ∧ (f = true ↔ i < zs.length ∧ nmB zs i = y)
set_option maxHeartbeats 4000000 in
theorem search_some (b off cap : Nat) (y : ByteArray) (zs : List B5) (w : World) (hn : zs.length ≤ 1048576) (hr : Nmd.Rise (nmB zs) zs.length) (hlt : b < w.heap.size)
    (hcell : ∀ k, k < zs.length → ∀ q, q < 5 → w.cell? ⟨b, off + k * 5 + q, none⟩ = some (cellOf (zs.getD k d5) q)) :
    Calls Tryd.prog 120 #[.slice (some ⟨b, off, none⟩) zs.length cap, .string y, .func (Fn.func 121) #[] #[]] w fun e w' => ∃ (i : Nat) (f : Bool), e = .returned (.tuple #[.int .i64 i, .bool f]) ∧ Found zs y i f ∧ On w w' := by
  have HC := Lib.hid hcell
  have M := Lib.hid hr
  obtain ⟨n, hnn⟩ : ∃ n, n = zs.length := ⟨_, rfl⟩
  have HL := Lib.hid hnn
  have HQ := Lib.hid (fun x l h r d w' => impl_cmp x l h r d y w')
  rw [← hnn] at hn ⊢
  clear hcell hr hnn
  go_enter Tryd.func120, Tryd.ntmps120
  go_wp2
  go_loopg [9, 10] n (fun kx s9 s10 wr => ∃ lo hi : Nat, s9 = .int .i64 lo ∧ s10 = .int .i64 hi ∧ lo ≤ hi ∧ hi ≤ n ∧ hi - lo ≤ kx ∧ On w wr ∧
    Aside ((∀ t, t < lo → Nmd.lt (nmB zs t) y = true) ∧ (∀ t, hi ≤ t → t < n → Nmd.lt (nmB zs t) y = false)))
  case atStart => exact ⟨0, n, rfl, rfl, Nat.zero_le _, Nat.le_refl _, by omega, On.refl _, (⟨fun t ht => absurd ht (Nat.not_lt_zero _), fun t h1 h2 => by omega⟩ : (∀ t, t < 0 → Nmd.lt (nmB zs t) y = true) ∧ (∀ t, n ≤ t → t < n → Nmd.lt (nmB zs t) y = false))⟩
  case round =>
    obtain ⟨lo, hi, rfl, rfl, hlh, hin, hg, ho, I⟩ := hrel
    have HB := Lib.hid ho
    have hbr : b < wr.heap.size := ho.lts _ hlt
    clear ho
    by_cases hlth : lo < hi
    · obtain ⟨m, hm⟩ : ∃ m, m = (lo + hi) / 2 := ⟨_, rfl⟩
      have hl2 : m < zs.length := by rw [← HL.out]; omega
      obtain ⟨⟨x, l, h, r, d⟩, hz⟩ : ∃ z : B5, z = zs.getD m d5 := ⟨_, rfl⟩
      have c0 : wr.cell? ⟨b, off + m * 5, none⟩ = some (.string x) := by have := HC.out m hl2 0 (by omega); rw [← hz] at this; exact (HB.out.cell (by exact hlt)).trans this
      have c1 : wr.cell? ⟨b, off + m * 5 + 1, none⟩ = some (.int .i64 l) := by have := HC.out m hl2 1 (by omega); rw [← hz] at this; exact (HB.out.cell (by exact hlt)).trans this
      have c2 : wr.cell? ⟨b, off + m * 5 + 2, none⟩ = some (.int .i64 h) := by have := HC.out m hl2 2 (by omega); rw [← hz] at this; exact (HB.out.cell (by exact hlt)).trans this
      have c3 : wr.cell? ⟨b, off + m * 5 + 3, none⟩ = some (.int .i64 r) := by have := HC.out m hl2 3 (by omega); rw [← hz] at this; exact (HB.out.cell (by exact hlt)).trans this
      have c4 : wr.cell? ⟨b, off + m * 5 + 4, none⟩ = some (.int .i64 d) := by have := HC.out m hl2 4 (by omega); rw [← hz] at this; exact (HB.out.cell (by exact hlt)).trans this
      rw [hm] at c0 c1 c2 c3 c4
      have hx : nmB zs m = x := by unfold nmB; rw [← hz]
      have HX := Lib.hid hx
      have HM := Lib.hid hm
      clear hz hx hm
      by_cases hyx : Nmd.cmp x y < 0
      · go_wp2_with fail
        refine (HQ.out x l h r d _).mono ?_
        rintro e w1 ⟨rfl, h1⟩
        have HO1 := Lib.hid (HB.out.trans h1)
        clear h1
        go_wp2_with fail
        go_roundg (hi - ((lo + hi) / 2 + 1))
        case measure => omega
        case rel =>
          have I2 : Aside ((∀ t, t < (lo + hi) / 2 + 1 → Nmd.lt (nmB zs t) y = true) ∧ (∀ t, hi ≤ t → t < n → Nmd.lt (nmB zs t) y = false)) := ⟨fun t ht => M.out.mono (a := t) (b := m) (by have := HM.out; omega) hl2 (by rw [HX.out]; exact (Nmd.cmp_lt _ _).1 hyx), I.out.2⟩
          exact ⟨(lo + hi) / 2 + 1, hi, by rw [show ((lo : Int) + (hi : Int)) / 2 + 1 = (((lo + hi) / 2 + 1 : Nat) : Int) by omega], rfl, by omega, hin, Nat.le_refl _, HO1.out, I2⟩
      · go_wp2_with fail
        refine (HQ.out x l h r d _).mono ?_
        rintro e w1 ⟨rfl, h1⟩
        have HO1 := Lib.hid (HB.out.trans h1)
        clear h1
        go_wp2_with fail
        go_roundg ((lo + hi) / 2 - lo)
        case measure => omega
        case rel =>
          have I2 : Aside ((∀ t, t < lo → Nmd.lt (nmB zs t) y = true) ∧ (∀ t, (lo + hi) / 2 ≤ t → t < n → Nmd.lt (nmB zs t) y = false)) := ⟨I.out.1, fun t ht htn => by
            cases e : Nmd.lt (nmB zs t) y with
            | false => rfl
            | true =>
              have := M.out.mono (a := m) (b := t) (by have := HM.out; omega) (by rw [← HL.out]; exact htn) e
              rw [HX.out] at this
              exact absurd ((Nmd.cmp_lt _ _).2 this) (by omega)⟩
          exact ⟨lo, (lo + hi) / 2, rfl, by rw [show ((lo : Int) + (hi : Int)) / 2 = (((lo + hi) / 2 : Nat) : Int) by omega], by omega, by omega, Nat.le_refl _, HO1.out, I2⟩
    · obtain rfl : hi = lo := by omega
      have HAt := Lib.hid (show Nmd.At (nmB zs) zs.length y hi by rw [← HL.out]; exact ⟨hin, I.out.1, I.out.2⟩)
      by_cases hln : hi < n
      · have hl2 : hi < zs.length := by rw [← HL.out]; exact hln
        obtain ⟨⟨x, l, h, r, d⟩, hz⟩ : ∃ z : B5, z = zs.getD hi d5 := ⟨_, rfl⟩
        have c0 : wr.cell? ⟨b, off + hi * 5, none⟩ = some (.string x) := by have := HC.out hi hl2 0 (by omega); rw [← hz] at this; exact (HB.out.cell (by exact hlt)).trans this
        have c1 : wr.cell? ⟨b, off + hi * 5 + 1, none⟩ = some (.int .i64 l) := by have := HC.out hi hl2 1 (by omega); rw [← hz] at this; exact (HB.out.cell (by exact hlt)).trans this
        have c2 : wr.cell? ⟨b, off + hi * 5 + 2, none⟩ = some (.int .i64 h) := by have := HC.out hi hl2 2 (by omega); rw [← hz] at this; exact (HB.out.cell (by exact hlt)).trans this
        have c3 : wr.cell? ⟨b, off + hi * 5 + 3, none⟩ = some (.int .i64 r) := by have := HC.out hi hl2 3 (by omega); rw [← hz] at this; exact (HB.out.cell (by exact hlt)).trans this
        have c4 : wr.cell? ⟨b, off + hi * 5 + 4, none⟩ = some (.int .i64 d) := by have := HC.out hi hl2 4 (by omega); rw [← hz] at this; exact (HB.out.cell (by exact hlt)).trans this
        have hx : nmB zs hi = x := by unfold nmB; rw [← hz]
        have HX := Lib.hid hx
        clear hz hx
        by_cases hyx : Nmd.cmp x y = 0
        · go_wp2_with fail
          refine (HQ.out x l h r d _).mono ?_
          rintro e w1 ⟨rfl, h1⟩
          have HO1 := Lib.hid (HB.out.trans h1)
          clear h1
          go_wp2_with fail
          go_ret2
          exact ⟨hi, true, rfl, ⟨HAt.out, by simp only [true_iff]; exact ⟨hl2, by rw [HX.out]; exact (Nmd.cmp_zero _ _).1 hyx⟩⟩, HO1.out⟩
        · have hq0 : (Nmd.cmp x y == 0) = false := by simpa using hyx
          go_wp2_with fail
          refine (HQ.out x l h r d _).mono ?_
          rintro e w1 ⟨rfl, h1⟩
          have HO1 := Lib.hid (HB.out.trans h1)
          clear h1
          go_wp2_with fail
          go_ret2
          exact ⟨hi, false, rfl, ⟨HAt.out, fun g => by (cases g), fun g => absurd ((Nmd.cmp_zero _ _).2 (by rw [← HX.out]; exact g.2)) hyx⟩, HO1.out⟩
      · go_wp2
        go_ret2
        exact ⟨hi, false, rfl, ⟨HAt.out, fun g => by (cases g), fun g => absurd g.1 (by rw [← HL.out]; exact hln)⟩, HB.out⟩
theorem search_none (a : Option Addr) (cap : Nat) (y : ByteArray) (w : World) :
    Calls Tryd.prog 120 #[.slice a 0 cap, .string y, .func (Fn.func 121) #[] #[]] w fun e w' => ∃ (i : Nat) (f : Bool), e = .returned (.tuple #[.int .i64 i, .bool f]) ∧ Found [] y i f ∧ On w w' := by
  go_enter Tryd.func120, Tryd.ntmps120
  go_wp2
  refine wp_loop_rounds 1 ?_
  rw [rounds_succ]
  go_wp2
  go_ret2
  exact ⟨0, false, rfl, ⟨⟨Nat.le_refl _, fun t ht => absurd ht (Nat.not_lt_zero _), fun t h1 h2 => absurd h2 (Nat.not_lt_zero _)⟩, by simp⟩, On.refl _⟩
theorem place (v : Value) (y : ByteArray) (zs : List B5) (w : World) (hn : zs.length ≤ 1048576) (hr : Nmd.Rise (nmB zs) zs.length) (h : Rows w v zs) :
    Calls Tryd.prog 100 #[v, .string y] w fun e w' => ∃ (i : Nat) (f : Bool), e = .returned (.tuple #[.int .i64 i, .bool f]) ∧ Found zs y i f ∧ On w w' := by
  have hS : ∀ w', On w w' → Calls Tryd.prog 120 #[v, .string y, .func (Fn.func 121) #[] #[]] w' fun e w'' => ∃ (i : Nat) (f : Bool), e = .returned (.tuple #[.int .i64 i, .bool f]) ∧ Found zs y i f ∧ On w' w'' := fun w' ho => by
    have h' := h.below ho
    have h'' := h'
    obtain ⟨a, cap, rfl, -⟩ := h'
    by_cases h0 : 0 < zs.length
    · obtain ⟨b, off, rfl, hlt, hcell⟩ := slice_of h'' h0
      exact search_some b off cap y zs w' hn hr hlt hcell
    · have : zs = [] := List.eq_nil_of_length_eq_zero (by omega)
      subst this
      exact search_none a cap y w'
  have HS := Lib.hid hS
  clear hS h hr
  go_enter Tryd.func100, Tryd.ntmps100
  go_wp2_with fail
  refine (HS.out _ (On.refl _)).mono ?_
  rintro e w1 ⟨i, f, rfl, hf, h1⟩
  have HF := Lib.hid hf
  clear hf
  go_wp2_with fail
  go_ret2
  exact ⟨i, f, rfl, HF.out, h1⟩

/-- The block g holds a result that can be stored: the band z, and nothing frozen. -/
def ResB (w : World) (g : Nat) : Prop := Bnd.In w g ⟨#[]⟩ 0 0 0 0 ∧ ∀ i, w.frozen? ⟨g, i, none⟩ = false
theorem ResB.on {w w' : World} {g : Nat} (h : ResB w g) (ho : On w w') : ResB w' g := ⟨h.1.on ho, fun i => (ho.frozen (p := ⟨g, i, none⟩) (by exact h.1.lt)).trans (h.2 i)⟩
/-- What a look for a name returns: the band and 0, or none and 3. -/
def valB (z : B5) : Value := .agg #[.string z.1, .int .i64 z.2.1, .int .i64 z.2.2.1, .int .i64 z.2.2.2.1, .int .i64 z.2.2.2.2]
def Look (zs : List B5) (y : ByteArray) (z : B5) (c : Int) : Prop := (∃ k, k < zs.length ∧ nmB zs k = y ∧ z = zs.getD k d5 ∧ c = 0) ∨ ((∀ k, k < zs.length → nmB zs k ≠ y) ∧ z = d5 ∧ c = 3)
theorem Look.same {zs : List B5} {y : ByteArray} {z z2 : B5} {c c2 : Int} (hr : Nmd.Rise (nmB zs) zs.length) (h : Look zs y z c) (h2 : Look zs y z2 c2) : z = z2 ∧ c = c2 := by
  rcases h with ⟨k, hk, e, rfl, rfl⟩ | ⟨hno, rfl, rfl⟩ <;> rcases h2 with ⟨k2, hk2, e2, rfl, rfl⟩ | ⟨hno2, rfl, rfl⟩
  · have := hr.inj hk hk2 (e.trans e2.symm); subst this; exact ⟨rfl, rfl⟩
  · exact absurd e (hno2 k hk)
  · exact absurd e2 (hno k2 hk2)
  · exact ⟨rfl, rfl⟩
theorem Found.look_yes {zs : List B5} {y : ByteArray} {i : Nat} (h : Found zs y i true) : i < zs.length ∧ nmB zs i = y := h.2.1 rfl
theorem Found.look_no {zs : List B5} {y : ByteArray} {i : Nat} (h : Found zs y i false) (hr : Nmd.Rise (nmB zs) zs.length) : ∀ k, k < zs.length → nmB zs k ≠ y := fun k hk e => by
  have := h.1.found hr hk e
  subst this
  have := h.2.2 ⟨hk, e⟩
  cases this
set_option maxHeartbeats 1000000 in
theorem impl_look (v : Value) (y : ByteArray) (zs : List B5) (w : World) (hn : zs.length ≤ 1048576) (hr : Nmd.Rise (nmB zs) zs.length) (h : Rows w v zs) :
    Calls Tryd.prog 71 #[v, .string y] w fun e w' => ∃ z c, e = .returned (.tuple #[valB z, .int .i64 c]) ∧ Look zs y z c ∧ On w w' := by
  have HS := Lib.hid (fun w' (ho : On w w') => place v y zs w' hn hr (h.below ho))
  have HV := Lib.hid h
  have HR := Lib.hid hr
  clear hr
  obtain ⟨a, cap, hv, -⟩ := h
  subst hv
  go_enter Tryd.func71, Tryd.ntmps71
  go_wp2_with fail
  refine (HS.out _ (by repeat (first | with_reducible exact On.refl _ | with_reducible apply On.alloc | with_reducible apply On.drewN | with_reducible apply On.drew | with_reducible refine On.setCell ?_ (by (try simp) <;> omega) _))).mono ?_
  rintro e w1 ⟨i, f, rfl, hf, h1⟩
  have HR1 := Lib.hid (show ResB w1 w.heap.size from ResB.on ⟨⟨by simp [go_sem], by simp [go_sem], by simp [go_sem], by simp [go_sem], by simp [go_sem]⟩, fun i => by simp [go_sem]⟩ h1)
  have z1 : w.heap.size < w1.heap.size := HR1.out.1.lt
  obtain ⟨r0, r1, r2, r3, r4⟩ := HR1.out.1
  have f0 := HR1.out.2 0
  have f1 := HR1.out.2 1
  have f2 := HR1.out.2 2
  have f3 := HR1.out.2 3
  have f4 := HR1.out.2 4
  have HO1 := Lib.hid (show On w w1 from by repeat (first | with_reducible exact On.refl _ | with_reducible apply On.alloc | with_reducible apply On.drewN | with_reducible apply On.drew | with_reducible refine On.setCell ?_ (by (try simp) <;> omega) _ | refine On.trans ?_ h1))
  cases f with
  | false =>
    have HN := Lib.hid (hf.look_no HR.out)
    clear hf
    go_wp2_with fail
    refine bodyPost_ret (v := .tuple #[.agg #[.string ⟨#[]⟩, .int .i64 0, .int .i64 0, .int .i64 0, .int .i64 0], .int .i64 3]) (by simp [results, Tryd.results71, go_sem, r0, r1, r2, r3, r4, World.cell?_alloc_lt, z1]) rfl ⟨d5, 3, rfl, .inr ⟨HN.out, rfl, rfl⟩, by repeat (first | with_reducible exact On.refl _ | with_reducible apply On.alloc | with_reducible apply On.drewN | with_reducible apply On.drew | with_reducible refine On.setCell ?_ (by (try simp) <;> omega) _ | refine On.trans ?_ HO1.out)⟩
  | true =>
    obtain ⟨hi, hy⟩ := hf.look_yes
    obtain ⟨b, off, hab, hlt, hcell⟩ := slice_of HV.out (by omega)
    subst hab
    have HC := Lib.hid hcell
    clear hcell hf
    obtain ⟨⟨x, l, h, r, d⟩, hz⟩ : ∃ z : B5, z = zs.getD i d5 := ⟨_, rfl⟩
    have c0 : w1.cell? ⟨b, off + i * 5, none⟩ = some (.string x) := by have := HC.out i hi 0 (by omega); rw [← hz] at this; exact (HO1.out.cell (by exact hlt)).trans this
    have c1 : w1.cell? ⟨b, off + i * 5 + 1, none⟩ = some (.int .i64 l) := by have := HC.out i hi 1 (by omega); rw [← hz] at this; exact (HO1.out.cell (by exact hlt)).trans this
    have c2 : w1.cell? ⟨b, off + i * 5 + 2, none⟩ = some (.int .i64 h) := by have := HC.out i hi 2 (by omega); rw [← hz] at this; exact (HO1.out.cell (by exact hlt)).trans this
    have c3 : w1.cell? ⟨b, off + i * 5 + 3, none⟩ = some (.int .i64 r) := by have := HC.out i hi 3 (by omega); rw [← hz] at this; exact (HO1.out.cell (by exact hlt)).trans this
    have c4 : w1.cell? ⟨b, off + i * 5 + 4, none⟩ = some (.int .i64 d) := by have := HC.out i hi 4 (by omega); rw [← hz] at this; exact (HO1.out.cell (by exact hlt)).trans this
    have hbr : b < w1.heap.size := HO1.out.lts _ hlt
    have hbn : b ≠ w.heap.size := Nat.ne_of_lt hlt
    have HZ := Lib.hid hz
    have HY := Lib.hid hy
    clear hz hy
    go_wp2_with fail
    refine bodyPost_ret (v := .tuple #[.agg #[.string x, .int .i64 l, .int .i64 h, .int .i64 r, .int .i64 d], .int .i64 0]) (by simp [results, Tryd.results71, go_sem, r0, r1, r2, r3, r4]) rfl ⟨(x, l, h, r, d), 0, rfl, .inl ⟨i, hi, HY.out, HZ.out, rfl⟩, by repeat (first | with_reducible exact On.refl _ | with_reducible apply On.alloc | with_reducible apply On.drewN | with_reducible apply On.drew | with_reducible refine On.setCell ?_ (by (try simp) <;> omega) _ | refine On.trans ?_ HO1.out)⟩

theorem rise_of_list {zs : List B5} (h : listB zs = true) : Nmd.Rise (nmB zs) zs.length := by
  unfold listB at h
  rw [Bool.and_eq_true, List.all_eq_true] at h
  refine Nmd.rise_of fun k hk => ?_
  have := h.2 (k + 1) (List.mem_range.2 hk)
  unfold stepB ltN at this
  rw [Bool.and_eq_true, decide_eq_false (by omega), Bool.false_or] at this
  exact this.2
/-- What BandNamed returns. -/
def Named (zs : List B5) (y : ByteArray) (z : B5) (c : Int) : Prop := (listB zs = false ∧ z = d5 ∧ c = 1) ∨ (listB zs = true ∧ Look zs y z c)
theorem Named.same {zs : List B5} {y : ByteArray} {z z2 : B5} {c c2 : Int} (h : Named zs y z c) (h2 : Named zs y z2 c2) : z = z2 ∧ c = c2 := by
  rcases h with ⟨e, rfl, rfl⟩ | ⟨e, h⟩ <;> rcases h2 with ⟨e2, rfl, rfl⟩ | ⟨e2, h2⟩
  · exact ⟨rfl, rfl⟩
  · rw [e] at e2; cases e2
  · rw [e] at e2; cases e2
  · exact h.same (rise_of_list e) h2
set_option maxHeartbeats 1000000 in
theorem impl_BandNamed (v : Value) (y : ByteArray) (zs : List B5) (w : World) (hn : zs.length ≤ 1048576) (hs : ∀ i, i < zs.length → (zs.getD i d5).1.size ≤ 1048576) (hg : Span.SpanG w) (h : Rows w v zs) :
    Calls Tryd.prog 39 #[v, .string y] w fun e w' => ∃ z c, e = .returned (.tuple #[valB z, .int .i64 c]) ∧ Named zs y z c ∧ On w w' := by
  have HL := Lib.hid (fun w' (ho : On w w') => impl_ValidBands v zs w' hn hs (hg.on ho) (h.below ho))
  have HV := Lib.hid h
  clear h hg
  go_enter Tryd.func39, Tryd.ntmps39
  go_wp2_with fail
  refine (HL.out _ (by repeat (first | with_reducible exact On.refl _ | with_reducible apply On.alloc | with_reducible apply On.drewN | with_reducible apply On.drew | with_reducible refine On.setCell ?_ (by (try simp) <;> omega) _))).mono ?_
  rintro e w1 ⟨rfl, h1⟩
  have HR1 := Lib.hid (show ResB w1 w.heap.size from ResB.on ⟨⟨by simp [go_sem], by simp [go_sem], by simp [go_sem], by simp [go_sem], by simp [go_sem]⟩, fun i => by simp [go_sem]⟩ h1)
  have z1 : w.heap.size < w1.heap.size := HR1.out.1.lt
  obtain ⟨r0, r1, r2, r3, r4⟩ := HR1.out.1
  have f0 := HR1.out.2 0
  have f1 := HR1.out.2 1
  have f2 := HR1.out.2 2
  have f3 := HR1.out.2 3
  have f4 := HR1.out.2 4
  have HO1 := Lib.hid (show On w w1 from by repeat (first | with_reducible exact On.refl _ | with_reducible apply On.alloc | with_reducible apply On.drewN | with_reducible apply On.drew | with_reducible refine On.setCell ?_ (by (try simp) <;> omega) _ | refine On.trans ?_ h1))
  cases g : listB zs with
  | false =>
    go_wp2_with fail
    refine bodyPost_ret (v := .tuple #[.agg #[.string ⟨#[]⟩, .int .i64 0, .int .i64 0, .int .i64 0, .int .i64 0], .int .i64 1]) (by simp [results, Tryd.results39, go_sem, r0, r1, r2, r3, r4]) rfl ⟨d5, 1, rfl, .inl ⟨g, rfl, rfl⟩, by repeat (first | with_reducible exact On.refl _ | with_reducible apply On.alloc | with_reducible apply On.drewN | with_reducible apply On.drew | with_reducible refine On.setCell ?_ (by (try simp) <;> omega) _ | refine On.trans ?_ HO1.out)⟩
  | true =>
    go_wp2_with fail
    refine (impl_look v y zs _ hn (rise_of_list g) (HV.out.below HO1.out)).mono ?_
    rintro e w2 ⟨⟨x, l, h, r, d⟩, c, rfl, hf, h2⟩
    have HF := Lib.hid hf
    clear hf
    have HR2 := Lib.hid (HR1.out.on h2)
    clear r0 r1 r2 r3 r4 f0 f1 f2 f3 f4
    have z2 : w.heap.size < w2.heap.size := HR2.out.1.lt
    obtain ⟨r0, r1, r2, r3, r4⟩ := HR2.out.1
    have f0 := HR2.out.2 0
    have f1 := HR2.out.2 1
    have f2 := HR2.out.2 2
    have f3 := HR2.out.2 3
    have f4 := HR2.out.2 4
    simp only [valB]
    go_wp2_with fail
    refine bodyPost_ret (v := .tuple #[.agg #[.string x, .int .i64 l, .int .i64 h, .int .i64 r, .int .i64 d], .int .i64 c]) (by simp [results, Tryd.results39, go_sem, r0, r1, r2, r3, r4]) rfl ⟨(x, l, h, r, d), c, rfl, .inr ⟨g, HF.out⟩, by repeat (first | with_reducible exact On.refl _ | with_reducible apply On.alloc | with_reducible apply On.drewN | with_reducible apply On.drew | with_reducible refine On.setCell ?_ (by (try simp) <;> omega) _ | refine On.trans ?_ h2 | refine On.trans ?_ HO1.out)⟩

set_option maxHeartbeats 1000000 in
theorem find_some (b off cap : Nat) (y : ByteArray) (zs : List B5) (w : World) (hn : zs.length ≤ 1048576) (hlt : b < w.heap.size)
    (hcell : ∀ k, k < zs.length → ∀ q, q < 5 → w.cell? ⟨b, off + k * 5 + q, none⟩ = some (cellOf (zs.getD k d5) q)) :
    Calls Tryd.prog 70 #[.slice (some ⟨b, off, none⟩) zs.length cap, .string y] w fun e w' => ∃ r : Int, e = .returned (.int .i64 r) ∧ Nmd.Find (nmB zs) zs.length y r ∧ On w w' := by
  have HC := Lib.hid hcell
  obtain ⟨n, hnn⟩ : ∃ n, n = zs.length := ⟨_, rfl⟩
  have HL := Lib.hid hnn
  rw [← hnn] at hn ⊢
  clear hcell hnn
  go_enter Tryd.func70, Tryd.ntmps70
  go_wp2_with fail
  go_loopw [5] (fun i wr => ∃ k : Nat, k ≤ n ∧ i = .int .i64 k ∧ (∀ j, j < k → nmB zs j ≠ y) ∧ On w wr) (fun i _ => n - (intOf i).toNat)
  case atStart => exact ⟨0, Nat.zero_le _, rfl, fun j hj => absurd hj (Nat.not_lt_zero _), On.refl _⟩
  case round =>
    obtain ⟨k, hk, rfl, hall, ho⟩ := hrel
    have HA := Lib.hid hall
    have HB := Lib.hid ho
    have hbr : b < wr.heap.size := ho.lts _ hlt
    clear hall ho
    by_cases hlt0 : k < n
    · have hl2 : k < zs.length := by rw [← HL.out]; exact hlt0
      have hlti : (k : Int) < (n : Int) := by omega
      obtain ⟨⟨x, l, h, r, d⟩, hz⟩ : ∃ z : B5, z = zs.getD k d5 := ⟨_, rfl⟩
      have c0 : wr.cell? ⟨b, off + k * 5, none⟩ = some (.string x) := by have := HC.out k hl2 0 (by omega); rw [← hz] at this; exact (HB.out.cell (by exact hlt)).trans this
      have hx : nmB zs k = x := by unfold nmB; rw [← hz]
      have HX := Lib.hid hx
      clear hz hx
      have hq := Nmd.beq_toList x y
      by_cases g : x = y
      · rw [decide_eq_true g] at hq
        have HG := Lib.hid g
        clear g
        go_wp2_with fail
        go_ret
        exact ⟨k, rfl, .inl ⟨k, hlt0, HX.out.trans HG.out, rfl⟩, HB.out⟩
      · rw [decide_eq_false g] at hq
        have HU2 := Lib.hid (show ∀ j, j < k + 1 → nmB zs j ≠ y from fun j hj => by
          by_cases e : j = k
          · rw [e, HX.out]; exact g
          · exact HA.out j (by omega))
        clear g hl2
        have hl2 := hlt0
        go_wp2_with fail
        go_roundw
        case rel => first | exact ⟨_, hl2, by go_num, HU2.out, HB.out⟩ | ((repeat apply Exists.intro); exact ⟨hl2, by go_num, HU2.out, HB.out⟩)
        case measure => simp [intOf]; omega
    · obtain rfl : k = n := by omega
      go_wp2
      go_ret
      exact ⟨-1, rfl, .inr ⟨rfl, HA.out⟩, HB.out⟩
theorem find_none (a : Option Addr) (cap : Nat) (y : ByteArray) (w : World) :
    Calls Tryd.prog 70 #[.slice a 0 cap, .string y] w fun e w' => ∃ r : Int, e = .returned (.int .i64 r) ∧ Nmd.Find (nmB []) ([] : List B5).length y r ∧ On w w' := by
  go_enter Tryd.func70, Tryd.ntmps70
  go_wp2
  refine wp_loop_rounds 1 ?_
  rw [rounds_succ]
  go_wp2
  go_ret
  exact ⟨-1, rfl, .inr ⟨rfl, fun k hk => absurd hk (Nat.not_lt_zero _)⟩, On.refl _⟩
theorem spec_find (v : Value) (y : ByteArray) (zs : List B5) (w : World) (hn : zs.length ≤ 1048576) (h : Rows w v zs) :
    Calls Tryd.prog 70 #[v, .string y] w fun e w' => ∃ r : Int, e = .returned (.int .i64 r) ∧ Nmd.Find (nmB zs) zs.length y r ∧ On w w' := by
  have h' := h
  obtain ⟨a, cap, rfl, -⟩ := h
  by_cases h0 : 0 < zs.length
  · obtain ⟨b, off, rfl, hlt, hcell⟩ := slice_of h' h0
    exact find_some b off cap y zs w hn hlt hcell
  · have : zs = [] := List.eq_nil_of_length_eq_zero (by omega)
    subst this
    exact find_none a cap y w
set_option maxHeartbeats 1000000 in
theorem spec_BandNamed (v : Value) (y : ByteArray) (zs : List B5) (w : World) (hn : zs.length ≤ 1048576) (hs : ∀ i, i < zs.length → (zs.getD i d5).1.size ≤ 1048576) (h : Rows w v zs) :
    Calls Tryd.prog 38 #[v, .string y] w fun e w' => ∃ z c, e = .returned (.tuple #[valB z, .int .i64 c]) ∧ Named zs y z c ∧ On w w' := by
  have HL := Lib.hid (fun w' (ho : On w w') => spec_list v zs w' hn hs (h.below ho))
  have HF := Lib.hid (fun w' (ho : On w w') => spec_find v y zs w' hn (h.below ho))
  have HV := Lib.hid h
  obtain ⟨a, cap, hv, -⟩ := h
  subst hv
  go_enter Tryd.func38, Tryd.ntmps38
  go_wp2_with fail
  refine (HL.out _ (by repeat (first | with_reducible exact On.refl _ | with_reducible apply On.alloc | with_reducible apply On.drewN | with_reducible apply On.drew | with_reducible refine On.setCell ?_ (by (try simp) <;> omega) _))).mono ?_
  rintro e w1 ⟨rfl, h1⟩
  have HR1 := Lib.hid (show ResB w1 w.heap.size from ResB.on ⟨⟨by simp [go_sem], by simp [go_sem], by simp [go_sem], by simp [go_sem], by simp [go_sem]⟩, fun i => by simp [go_sem]⟩ h1)
  have z1 : w.heap.size < w1.heap.size := HR1.out.1.lt
  obtain ⟨r0, r1, r2, r3, r4⟩ := HR1.out.1
  have f0 := HR1.out.2 0
  have f1 := HR1.out.2 1
  have f2 := HR1.out.2 2
  have f3 := HR1.out.2 3
  have f4 := HR1.out.2 4
  have HO1 := Lib.hid (show On w w1 from by repeat (first | with_reducible exact On.refl _ | with_reducible apply On.alloc | with_reducible apply On.drewN | with_reducible apply On.drew | with_reducible refine On.setCell ?_ (by (try simp) <;> omega) _ | refine On.trans ?_ h1))
  cases g : listB zs with
  | false =>
    go_wp2_with fail
    refine bodyPost_ret (v := .tuple #[.agg #[.string ⟨#[]⟩, .int .i64 0, .int .i64 0, .int .i64 0, .int .i64 0], .int .i64 1]) (by simp [results, Tryd.results38, go_sem, r0, r1, r2, r3, r4]) rfl ⟨d5, 1, rfl, .inl ⟨g, rfl, rfl⟩, by repeat (first | with_reducible exact On.refl _ | with_reducible apply On.alloc | with_reducible apply On.drewN | with_reducible apply On.drew | with_reducible refine On.setCell ?_ (by (try simp) <;> omega) _ | refine On.trans ?_ HO1.out)⟩
  | true =>
    go_wp2_with fail
    refine (HF.out _ HO1.out).mono ?_
    rintro e w2 ⟨rr, rfl, hf, h2⟩
    have HR2 := Lib.hid (HR1.out.on h2)
    clear r0 r1 r2 r3 r4 f0 f1 f2 f3 f4
    have z2 : w.heap.size < w2.heap.size := HR2.out.1.lt
    obtain ⟨r0, r1, r2, r3, r4⟩ := HR2.out.1
    have f0 := HR2.out.2 0
    have f1 := HR2.out.2 1
    have f2 := HR2.out.2 2
    have f3 := HR2.out.2 3
    have f4 := HR2.out.2 4
    have HO2 := Lib.hid (HO1.out.trans h2)
    rcases hf with ⟨i, hi, hy, rfl⟩ | ⟨rfl, hno⟩
    · obtain ⟨b, off, hab, hlt, hcell⟩ := slice_of HV.out (by omega)
      subst hab
      have HC := Lib.hid hcell
      clear hcell
      obtain ⟨⟨x, l, h, r, d⟩, hz⟩ : ∃ z : B5, z = zs.getD i d5 := ⟨_, rfl⟩
      have c0 : w2.cell? ⟨b, off + i * 5, none⟩ = some (.string x) := by have := HC.out i hi 0 (by omega); rw [← hz] at this; exact (HO2.out.cell (by exact hlt)).trans this
      have c1 : w2.cell? ⟨b, off + i * 5 + 1, none⟩ = some (.int .i64 l) := by have := HC.out i hi 1 (by omega); rw [← hz] at this; exact (HO2.out.cell (by exact hlt)).trans this
      have c2 : w2.cell? ⟨b, off + i * 5 + 2, none⟩ = some (.int .i64 h) := by have := HC.out i hi 2 (by omega); rw [← hz] at this; exact (HO2.out.cell (by exact hlt)).trans this
      have c3 : w2.cell? ⟨b, off + i * 5 + 3, none⟩ = some (.int .i64 r) := by have := HC.out i hi 3 (by omega); rw [← hz] at this; exact (HO2.out.cell (by exact hlt)).trans this
      have c4 : w2.cell? ⟨b, off + i * 5 + 4, none⟩ = some (.int .i64 d) := by have := HC.out i hi 4 (by omega); rw [← hz] at this; exact (HO2.out.cell (by exact hlt)).trans this
      have hbr : b < w2.heap.size := HO2.out.lts _ hlt
      have hbn : b ≠ w.heap.size := Nat.ne_of_lt hlt
      have hi0 : ¬ (i : Int) < 0 := by omega
      have HZ := Lib.hid hz
      have HY := Lib.hid hy
      clear hz hy
      go_wp2_with fail
      refine bodyPost_ret (v := .tuple #[.agg #[.string x, .int .i64 l, .int .i64 h, .int .i64 r, .int .i64 d], .int .i64 0]) (by simp [results, Tryd.results38, go_sem, r0, r1, r2, r3, r4]) rfl ⟨(x, l, h, r, d), 0, rfl, .inr ⟨g, .inl ⟨i, hi, HY.out, HZ.out, rfl⟩⟩, by repeat (first | with_reducible exact On.refl _ | with_reducible apply On.alloc | with_reducible apply On.drewN | with_reducible apply On.drew | with_reducible refine On.setCell ?_ (by (try simp) <;> omega) _ | refine On.trans ?_ HO2.out)⟩
    · have HN := Lib.hid hno
      clear hno
      go_wp2_with fail
      refine bodyPost_ret (v := .tuple #[.agg #[.string ⟨#[]⟩, .int .i64 0, .int .i64 0, .int .i64 0, .int .i64 0], .int .i64 3]) (by simp [results, Tryd.results38, go_sem, r0, r1, r2, r3, r4]) rfl ⟨d5, 3, rfl, .inr ⟨g, .inr ⟨HN.out, rfl, rfl⟩⟩, by repeat (first | with_reducible exact On.refl _ | with_reducible apply On.alloc | with_reducible apply On.drewN | with_reducible apply On.drew | with_reducible refine On.setCell ?_ (by (try simp) <;> omega) _ | refine On.trans ?_ HO2.out)⟩
end Go.Proofs.YtbmhhhhodlfcbaaDoor.Bnds
