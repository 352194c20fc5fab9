
/-
  Slices of slices of numbers in memory of their own, each row in a block of its own: what the laws' marking and the look at the marks return. Conditions: at most 1048576 lists, marks up to 1048576.
-/
import Derived.Test.YtofoffdmhekceaaMatsC
import Derived.Test.YtofoffdmhekceaaMark2
import Derived.Test.YtofoffdmhekceaaMrk0
namespace Go.Proofs.Ytofoffdmhekceaa.Mats
open Go.RowKit
open Mrk (Kd Nst)
open Go.Proofs.Ytofoffdmhekceaa.Mark (marks marks_length marks_get)

/-- Where the rows of a slice of slices lie: the outer one at b, off, the row i at f i, o i; all in blocks from B to E, not frozen, no two rows in one block. -/
structure Lay (B E b off n : Nat) (ls f o e : Nat → Nat) (D : Nat → Option Addr) (w : World) : Prop where
  lt : b < w.heap.size
  ge : B ≤ b
  le : b < E
  out : ∀ i, i < n → w.cell? ⟨b, off + i, none⟩ = some (.slice (D i) (ls i) (e i))
  adr : ∀ i, i < n → 0 < ls i → D i = some ⟨f i, o i, none⟩ ∧ B ≤ f i ∧ f i < E ∧ f i < w.heap.size ∧ f i ≠ b
  sep : ∀ i j, i < n → j < n → i ≠ j → 0 < ls i → 0 < ls j → f i ≠ f j
  unf : ∀ i, i < n → ∀ k, k < ls i → w.frozen? ⟨f i, o i + k, none⟩ = false
def Val (f o : Nat → Nat) (w : World) (i : Nat) (z : List Int) : Prop := ∀ k, k < z.length → w.cell? ⟨f i, o i + k, none⟩ = some (.int .i64 (z.getD k 0))
/-- The value v is a slice of slices that reads as the lists zss, in memory as Lay says. -/
def OwnX (B E : Nat) (w : World) (v : Value) (zss : List (List Int)) : Prop :=
  ∃ a cap, v = .slice a zss.length cap ∧ (0 < zss.length → ∃ b off f o e D, a = some ⟨b, off, none⟩ ∧ Lay B E b off zss.length (fun i => (zss.getD i []).length) f o e D w ∧ ∀ i, i < zss.length → Val f o w i (zss.getD i []))
theorem Lay.move {B E b off n : Nat} {ls f o e : Nat → Nat} {D : Nat → Option Addr} {w w' : World} (h : Lay B E b off n ls f o e D w) (hs : w.heap.size ≤ w'.heap.size) (hf : ∀ p : Addr, p.block < w.heap.size → w'.frozen? p = w.frozen? p)
    (hx : ∀ i, i < n → w'.cell? ⟨b, off + i, none⟩ = w.cell? ⟨b, off + i, none⟩) : Lay B E b off n ls f o e D w' where
  lt := Nat.lt_of_lt_of_le h.lt hs
  ge := h.ge
  le := h.le
  out := fun i hi => (hx i hi).trans (h.out i hi)
  adr := fun i hi h0 => by obtain ⟨h1, h2, h3, h4, h5⟩ := h.adr i hi h0; exact ⟨h1, h2, h3, Nat.lt_of_lt_of_le h4 hs, h5⟩
  sep := h.sep
  unf := fun i hi k hk => (hf _ (h.adr i hi (by omega)).2.2.2.1).trans (h.unf i hi k hk)
theorem Lay.on {B E b off n : Nat} {ls f o e : Nat → Nat} {D : Nat → Option Addr} {w w' : World} (h : Lay B E b off n ls f o e D w) (ho : On w w') : Lay B E b off n ls f o e D w' :=
  h.move ho.size (fun _ hp => ho.frozen hp) fun i _ => ho.cell (by exact h.lt)
theorem OwnX.move {B E : Nat} {w w' : World} {v : Value} {zss : List (List Int)} (h : OwnX B E w v zss) (hs : w.heap.size ≤ w'.heap.size) (hf : ∀ p : Addr, p.block < w.heap.size → w'.frozen? p = w.frozen? p)
    (hx : ∀ p : Addr, p.block < w.heap.size → B ≤ p.block → p.block < E → w'.cell? p = w.cell? p) : OwnX B E w' v zss := by
  obtain ⟨a, cap, hv, hc⟩ := h
  refine ⟨a, cap, hv, fun h0 => ?_⟩
  obtain ⟨b, off, f, o, e, D, ha, hl, hval⟩ := hc h0
  refine ⟨b, off, f, o, e, D, ha, hl.move hs hf fun i hi => hx _ hl.lt hl.ge hl.le, fun i hi k hk => ?_⟩
  obtain ⟨h1, h2, h3, h4, h5⟩ := hl.adr i hi (by omega)
  exact (hx ⟨f i, o i + k, none⟩ h4 h2 h3).trans (hval i hi k hk)
theorem OwnX.below {B E : Nat} {w w' : World} {v : Value} {zss : List (List Int)} (h : OwnX B E w v zss) (ho : On w w') : OwnX B E w' v zss :=
  h.move ho.size (fun _ hp => ho.frozen hp) fun _ hp _ _ => ho.cell hp
theorem OwnX.off2 {B E : Nat} {w w' : World} {v : Value} {zss : List (List Int)} (h : OwnX B E w v zss) (hs : w.heap.size ≤ w'.heap.size) (hf : ∀ p : Addr, p.block < w.heap.size → w'.frozen? p = w.frozen? p)
    (hx : ∀ p : Addr, p.block < w.heap.size → B ≤ p.block → w'.cell? p = w.cell? p) : OwnX B E w' v zss := h.move hs hf fun p hp hB _ => hx p hp hB
theorem OwnX.mono {B B' E E' : Nat} {w : World} {v : Value} {zss : List (List Int)} (h : OwnX B E w v zss) (hb : B' ≤ B) (he : E ≤ E') : OwnX B' E' w v zss := by
  obtain ⟨a, cap, hv, hc⟩ := h
  refine ⟨a, cap, hv, fun h0 => ?_⟩
  obtain ⟨b, off, f, o, e, D, ha, hl, hval⟩ := hc h0
  exact ⟨b, off, f, o, e, D, ha, ⟨hl.lt, Nat.le_trans hb hl.ge, Nat.lt_of_lt_of_le hl.le he, hl.out, fun i hi h0 => by obtain ⟨h1, h2, h3, h4, h5⟩ := hl.adr i hi h0; exact ⟨h1, Nat.le_trans hb h2, Nat.lt_of_lt_of_le h3 he, h4, h5⟩, hl.sep, hl.unf⟩, hval⟩
theorem OwnX.rows {B E : Nat} {w : World} {v : Value} {zss : List (List Int)} (h : OwnX B E w v zss) : Rows w v zss := by
  obtain ⟨a, cap, hv, hc⟩ := h
  refine ⟨a, cap, hv, fun h0 => ?_⟩
  obtain ⟨b, off, f, o, e, D, ha, hl, hval⟩ := hc h0
  refine ⟨b, off, ha, hl.lt, fun i hi => ⟨_, hl.out i hi, D i, e i, rfl, fun hp => ?_⟩⟩
  obtain ⟨h1, h2, h3, h4, h5⟩ := hl.adr i hi hp
  exact ⟨f i, o i, h1, h4, fun k hk => hval i hi k hk⟩
theorem OwnX.empty (B E : Nat) (w : World) (a : Option Addr) (cap : Nat) : OwnX B E w (.slice a 0 cap) [] := ⟨a, cap, rfl, fun h => by simp at h⟩
/-- How many numbers the first k rows have. -/
def pre (zss : List (List Int)) : Nat → Nat
  | 0 => 0
  | k + 1 => pre zss k + (zss.getD k []).length
def tot (zss : List (List Int)) : Nat := pre zss zss.length
theorem pre_mono (zss : List (List Int)) {i j : Nat} (h : i ≤ j) : pre zss i ≤ pre zss j := by
  induction h with
  | refl => exact Nat.le_refl _
  | step _ ih => exact Nat.le_trans ih (Nat.le_add_right _ _)
def markRow (k : Nat) (zss : List (List Int)) (i : Nat) : List Int := marks (k + pre zss i) (zss.getD i []).length
def marksM (k : Nat) (zss : List (List Int)) : List (List Int) := (List.range zss.length).map (markRow k zss)
theorem marksM_length (k : Nat) (zss : List (List Int)) : (marksM k zss).length = zss.length := by simp [marksM]
theorem marksM_get (k : Nat) (zss : List (List Int)) (i : Nat) (h : i < zss.length) : (marksM k zss).getD i [] = markRow k zss i := by simp [marksM, h]
theorem markRow_length (k : Nat) (zss : List (List Int)) (i : Nat) : (markRow k zss i).length = (zss.getD i []).length := marks_length _ _
theorem own_row {B E b off n : Nat} {ls f o e : Nat → Nat} {D : Nat → Option Addr} {w : World} {z : List Int} {i : Nat} (h : Lay B E b off n ls f o e D w) (hi : i < n) (hz : z.length = ls i) (hv : Val f o w i z) : Ints.Own B w (.slice (D i) z.length (e i)) z := by
  refine ⟨D i, e i, rfl, fun h0 => ?_⟩
  obtain ⟨h1, h2, h3, h4, h5⟩ := h.adr i hi (by omega)
  exact ⟨f i, o i, h1, h2, h4, fun k hk => h.unf i hi k (by omega), hv⟩
set_option maxHeartbeats 4000000 in
/-- The marking of a slice of slices of its own. -/
theorem markX (B E k : Nat) (v : Value) (zss : List (List Int)) (w : World) (hn : zss.length ≤ 1048576) (hk : k + tot zss ≤ 1048576) (h : OwnX B E w v zss) :
    Calls Try.prog 26 #[v, .int .i64 k] w fun e w' => e = .returned (.int .i64 ((k + tot zss : Nat) : Int)) ∧ Below B w w' ∧ OwnX B E w' v (marksM k zss) ∧ (∀ p, w'.frozen? p = w.frozen? p) ∧ ∀ p : Addr, (p.block < B ∨ E ≤ p.block) → w'.cell? p = w.cell? p := by
  obtain ⟨a, cap, rfl, hc⟩ := h
  by_cases h0 : 0 < zss.length
  case neg =>
    have : zss = [] := List.eq_nil_of_length_eq_zero (by omega)
    subst this
    clear hc
    go_enter Try.func26, Try.ntmps26
    go_wp2
    refine wp_loop_rounds 1 ?_
    rw [rounds_succ]
    go_wp2
    go_ret
    exact ⟨rfl, Below.refl _ _, OwnX.empty _ _ _ _ _, fun _ => rfl, fun _ _ => rfl⟩
  obtain ⟨b, off, f, o, e, D, rfl, hl, hval⟩ := hc h0
  have HL := Lib.hid hl
  have HV := Lib.hid hval
  have HT := Lib.hid (show ∀ i, i ≤ zss.length → k + pre zss i ≤ 1048576 from fun i hi => Nat.le_trans (Nat.add_le_add_left (pre_mono zss hi) k) hk)
  have HTT := Lib.hid (show tot zss = pre zss zss.length from rfl)
  obtain ⟨n, hnn⟩ : ∃ n, n = zss.length := ⟨_, rfl⟩
  have HN := Lib.hid hnn
  rw [← hnn] at hn h0 ⊢
  clear hl hval hk hc hnn
  go_enter Try.func26, Try.ntmps26
  go_wp2_with fail
  go_loopw [1, 5] (fun s i wr => ∃ q : Nat, q ≤ n ∧ i = .int .i64 q ∧ s = .int .i64 ((k + pre zss q : Nat) : Int) ∧ Below B w wr ∧ Lay B E b off zss.length (fun i => (zss.getD i []).length) f o e D wr ∧ (∀ i, i < q → Val f o wr i (markRow k zss i)) ∧ (∀ i, q ≤ i → i < zss.length → Val f o wr i (zss.getD i [])) ∧ (∀ p, wr.frozen? p = w.frozen? p) ∧ ∀ p : Addr, (p.block < B ∨ E ≤ p.block) → wr.cell? p = w.cell? p) (fun _ i _ => n - (intOf i).toNat)
  case atStart => exact ⟨0, Nat.zero_le _, rfl, rfl, Below.refl _ _, HL.out, fun i hi => absurd hi (by omega), fun i _ hi => HV.out i hi, fun _ => rfl, fun _ _ => rfl⟩
  case round =>
    obtain ⟨q, hq, rfl, rfl, hb, hl, hm, hv, hf, hx⟩ := hrel
    have LB := Lib.hid hb
    have LL := Lib.hid hl
    have LM := Lib.hid hm
    have LV := Lib.hid hv
    have LF := Lib.hid hf
    have LX := Lib.hid hx
    clear hb hl hm hv hf hx
    by_cases hlt : q < n
    · have hlti : (q : Int) < (n : Int) := by omega
      have hqz : q < zss.length := by rw [← HN.out]; exact hlt
      have c1 : wr.cell? ⟨b, off + q, none⟩ = some (.slice (D q) (zss.getD q []).length (e q)) := LL.out.out q hqz
      have s1 := LL.out.lt
      obtain ⟨l, hll⟩ : ∃ l, l = (zss.getD q []).length := ⟨_, rfl⟩
      have hT1 := HT.out (q + 1) (by omega)
      have hT2 : k + pre zss q + (zss.getD q []).length ≤ 1048576 := by have e : pre zss (q + 1) = pre zss q + (zss.getD q []).length := rfl; omega
      have HM := Lib.hid (Mark.markOnly B (k + pre zss q) (D q) (e q) (zss.getD q []) wr (by omega) (by omega) (own_row LL.out hqz rfl (LV.out q (Nat.le_refl _) hqz)))
      have HP := Lib.hid (show ((k + pre zss q + (zss.getD q []).length : Nat) : Int) = ((k + pre zss (q + 1) : Nat) : Int) by rw [show pre zss (q + 1) = pre zss q + (zss.getD q []).length from rfl, Nat.add_assoc])
      have HLL := Lib.hid hll
      rw [← hll] at c1 HM HP
      clear hT1 hT2 hll
      go_wp2_with fail
      refine HM.out.mono ?_
      rintro e1 w1 ⟨rfl, gb, go, gf, gx⟩
      rw [HP.out]
      have GB := Lib.hid (LB.out.trans gb)
      have hsz := gb.size
      have GFF := Lib.hid gf
      have GXX := Lib.hid gx
      have HLW := Lib.hid (LL.out.move hsz (fun p _ => gf p) fun i hi => gx _ fun hp a ha => by
        have := LL.out.adr q hqz (by rw [← HLL.out]; exact hp)
        rw [this.1] at ha; cases ha; exact fun h => this.2.2.2.2 h.symm)
      have HOW := Lib.hid go
      have HM2 := Lib.hid (show ∀ i, i < q + 1 → Val f o w1 i (markRow k zss i) from fun i hi kk hkk => by
        by_cases g : i = q
        · subst g
          obtain ⟨a', cap', ha', hc'⟩ := HOW.out
          injection ha' with ha1 ha2 ha3
          rw [marks_length] at hc'
          have hp : 0 < l := by rw [markRow_length, ← HLL.out] at hkk; omega
          obtain ⟨b', o', hb', _, _, _, hcl⟩ := hc' hp
          have h1 := (LL.out.adr i hqz (by rw [← HLL.out]; exact hp)).1
          rw [← ha1, h1] at hb'
          cases hb'
          have := hcl kk (by rw [markRow_length, ← HLL.out] at hkk; exact hkk)
          unfold markRow
          rw [← HLL.out]
          exact this
        · have h0 : 0 < (zss.getD i []).length := by rw [markRow_length] at hkk; omega
          refine (GXX.out ⟨f i, o i + kk, none⟩ fun hp a ha => ?_).trans (LM.out i (by omega) kk hkk)
          have h1 := LL.out.adr q hqz (by rw [← HLL.out]; exact hp)
          rw [h1.1] at ha; cases ha
          exact LL.out.sep i q (by omega) hqz g h0 (by rw [← HLL.out]; exact hp))
      have HV2 := Lib.hid (show ∀ i, q + 1 ≤ i → i < zss.length → Val f o w1 i (zss.getD i []) from fun i hi hiz kk hkk => by
          refine (GXX.out ⟨f i, o i + kk, none⟩ fun hp a ha => ?_).trans (LV.out i (by omega) hiz kk hkk)
          have h1 := LL.out.adr q hqz (by rw [← HLL.out]; exact hp)
          rw [h1.1] at ha; cases ha
          exact LL.out.sep i q hiz hqz (by omega) (by omega) (by rw [← HLL.out]; exact hp))
      have HX2 := Lib.hid (show ∀ p : Addr, (p.block < B ∨ E ≤ p.block) → w1.cell? p = w.cell? p from fun p hp => by
          refine (GXX.out p fun hp2 a ha => ?_).trans (LX.out p hp)
          have h1 := LL.out.adr q hqz (by rw [← HLL.out]; exact hp2)
          rw [h1.1] at ha; cases ha
          show p.block ≠ f q
          omega)
      have HF2 := Lib.hid (show ∀ p, w1.frozen? p = w.frozen? p from fun p => (GFF.out p).trans (LF.out p))
      clear gb go gf gx hsz
      go_wp2_with fail
      go_roundw
      case rel => exact ⟨q + 1, by omega, by go_num, rfl, GB.out, HLW.out, HM2.out, HV2.out, HF2.out, HX2.out⟩
      case measure => simp [intOf]; omega
    · obtain rfl : q = n := by omega
      have HR := Lib.hid (show OwnX B E wr (.slice (some ⟨b, off, none⟩) q cap) (marksM k zss) from ⟨_, cap, by rw [marksM_length, HN.out], fun _ => ⟨b, off, f, o, e, D, rfl, by
        have hl := LL.out
        rw [marksM_length]
        exact ⟨hl.lt, hl.ge, hl.le, fun i hi => by rw [marksM_get _ _ _ hi, markRow_length]; exact hl.out i hi, fun i hi h0 => by rw [marksM_get _ _ _ hi, markRow_length] at h0; exact hl.adr i hi h0, fun i j hi hj hij h1 h2 => by rw [marksM_get _ _ _ hi, markRow_length] at h1; rw [marksM_get _ _ _ hj, markRow_length] at h2; exact hl.sep i j hi hj hij h1 h2, fun i hi kk hkk => by rw [marksM_get _ _ _ hi, markRow_length] at hkk; exact hl.unf i hi kk hkk⟩, fun i hi => by
        rw [marksM_length] at hi
        rw [marksM_get _ _ _ hi]
        exact LM.out i (by rw [HN.out]; exact hi)⟩⟩)
      have en := Lib.hid (show ((k + pre zss q : Nat) : Int) = ((k + tot zss : Nat) : Int) by rw [HTT.out, ← HN.out])
      go_wp2_with fail
      go_ret
      exact ⟨ret_int en.out, LB.out, HR.out, LF.out, LX.out⟩
set_option maxHeartbeats 4000000 in
/-- The look at the marks. -/
theorem heldX (B E k : Nat) (v : Value) (zss : List (List Int)) (w : World) (hn : zss.length ≤ 1048576) (hk : k + tot zss ≤ 1048576) (h : OwnX B E w v (marksM k zss)) :
    Calls Try.prog 27 #[v, .int .i64 k] w fun e w' => e = .returned (.int .i64 ((k + tot zss : Nat) : Int)) ∧ w' = w := by
  obtain ⟨a, cap, rfl, hc⟩ := h
  rw [marksM_length] at hc ⊢
  by_cases h0 : 0 < zss.length
  case neg =>
    have : zss = [] := List.eq_nil_of_length_eq_zero (by omega)
    subst this
    clear hc
    go_enter Try.func27, Try.ntmps27
    go_wp2
    refine wp_loop_rounds 1 ?_
    rw [rounds_succ]
    go_wp2
    go_ret
    exact ⟨rfl, rfl⟩
  obtain ⟨b, off, f, o, e, D, rfl, hl, hval⟩ := hc h0
  have HL := Lib.hid hl
  have HV := Lib.hid hval
  have HT := Lib.hid (show ∀ i, i ≤ zss.length → k + pre zss i ≤ 1048576 from fun i hi => Nat.le_trans (Nat.add_le_add_left (pre_mono zss hi) k) hk)
  have HTT := Lib.hid (show tot zss = pre zss zss.length from rfl)
  obtain ⟨n, hnn⟩ : ∃ n, n = zss.length := ⟨_, rfl⟩
  have HN := Lib.hid hnn
  rw [← hnn] at hn h0 ⊢
  clear hval hk hc hnn
  have s1 := hl.lt
  clear hl
  go_enter Try.func27, Try.ntmps27
  go_wp2_with fail
  go_loop [1, 5] (fun s i => ∃ q : Nat, q ≤ n ∧ i = .int .i64 q ∧ s = .int .i64 ((k + pre zss q : Nat) : Int)) (fun _ i => n - (intOf i).toNat)
  case atStart => exact ⟨0, Nat.zero_le _, rfl, rfl⟩
  case round =>
    obtain ⟨q, hq, rfl, rfl⟩ := hrel
    by_cases hlt : q < n
    · have hlti : (q : Int) < (n : Int) := by omega
      have hqz : q < zss.length := by rw [← HN.out]; exact hlt
      have c1 : w.cell? ⟨b, off + q, none⟩ = some (.slice (D q) (zss.getD q []).length (e q)) := by have := HL.out.out q hqz; rw [marksM_get _ _ _ hqz, markRow_length] at this; exact this
      obtain ⟨l, hll⟩ : ∃ l, l = (zss.getD q []).length := ⟨_, rfl⟩
      have hT1 := HT.out (q + 1) (by omega)
      have hT2 : k + pre zss q + (zss.getD q []).length ≤ 1048576 := by have e : pre zss (q + 1) = pre zss q + (zss.getD q []).length := rfl; omega
      have hmr : (marksM k zss).getD q [] = marks (k + pre zss q) (zss.getD q []).length := by rw [marksM_get _ _ _ hqz]; rfl
      have hvq := HV.out q hqz
      rw [hmr] at hvq
      have hown : Ints.Own B w (.slice (D q) (zss.getD q []).length (e q)) (marks (k + pre zss q) (zss.getD q []).length) := by
        have := own_row (z := marks (k + pre zss q) (zss.getD q []).length) HL.out hqz (by rw [marks_length, hmr, marks_length]) hvq
        rw [marks_length] at this
        exact this
      have HM := Lib.hid (Mark.held B (k + pre zss q) (zss.getD q []).length _ w (by omega) (by omega) hown)
      have HP := Lib.hid (show ((k + pre zss q + (zss.getD q []).length : Nat) : Int) = ((k + pre zss (q + 1) : Nat) : Int) by rw [show pre zss (q + 1) = pre zss q + (zss.getD q []).length from rfl, Nat.add_assoc])
      rw [← hll] at c1 HM HP
      have hp0 : ¬ ((k + pre zss (q + 1) : Nat) : Int) < 0 := by omega
      clear hT1 hT2 hll hmr hvq hown
      go_wp2_with fail
      refine HM.out.mono ?_
      rintro e1 w1 ⟨rfl, hw⟩
      subst hw
      rw [HP.out]
      have hp1 : ¬ (k : Int) + ((pre zss (q + 1) : Nat) : Int) < 0 := by omega
      go_wp2_with fail
      go_round
      case rel => exact ⟨q + 1, by omega, by go_num, rfl⟩
      case measure => simp [intOf]; omega
    · obtain rfl : q = n := by omega
      have en := Lib.hid (show ((k + pre zss q : Nat) : Int) = ((k + tot zss : Nat) : Int) by rw [HTT.out, ← HN.out])
      go_wp2_with fail
      go_ret
      exact ⟨ret_int en.out, rfl⟩
end Go.Proofs.Ytofoffdmhekceaa.Mats
