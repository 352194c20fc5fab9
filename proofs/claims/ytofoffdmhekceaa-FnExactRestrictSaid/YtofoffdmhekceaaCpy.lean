
/-
  Copies of lists of lists of numbers, in the model and in the program, each row in a block of its own. Condition: at least one list, at least one number in each, at most 1048576.
-/
import Derived.Test.YtofoffdmhekceaaClone
import Derived.Test.YtofoffdmhekceaaGrow
import Derived.Test.YtofoffdmhekceaaConR
namespace Go.Proofs.Ytofoffdmhekceaa.Cpy
open Go.RowKit
open Ints (Ints Own)
open Clone (intCells own_of_row news ones cells_len)
open Mats (OwnX Lay Val block_lt)

theorem own_fit {w : World} {B : Nat} {e : TypeId} {v : Value} {zs : List Int} (h : w.ownsRow B e 1 v zs.length (intCells zs)) : ∃ a cap, v = .slice a zs.length cap ∧ Own B w (.slice a zs.length cap) zs ∧ zs.length ≤ cap := by
  obtain ⟨a, cap, hv, ho⟩ := own_of_row h
  refine ⟨a, cap, hv, ho, ?_⟩
  subst hv
  obtain ⟨_, ⟨h1, h2⟩ | ⟨g, c, cur, h1, hB, hh, hn, _⟩⟩ := h
  · rw [h2]; exact Nat.zero_le _
  · injection h1 with h1 h2 h3
    omega
set_option maxRecDepth 1000000 in
set_option maxHeartbeats 1000000 in
theorem spec_own (b off cap : Nat) (zs : List Int) (w : World) (h0 : 0 < zs.length) (hn : zs.length ≤ 1048576) (hb : b < w.heap.size) (hc : ∀ i, i < zs.length → w.cell? ⟨b, off + i, none⟩ = some (.int .i64 (zs.getD i 0))) :
    Calls Try.prog 87 #[.slice (some ⟨b, off, none⟩) zs.length cap] w fun e w' => ∃ a' cap', e = .returned (.slice a' zs.length cap') ∧ Own w.heap.size w' (.slice a' zs.length cap') zs ∧ zs.length ≤ cap' ∧ On w w' := by
  obtain ⟨i0, hi, hz0, hz1, hz2⟩ := info_parts Ints.info
  have HC := Lib.hid hc
  obtain ⟨n, hn'⟩ : ∃ n, n = zs.length := ⟨_, rfl⟩
  have HL := Lib.hid hn'
  have HW0 : (w.alloc (.cells #[] 2)).ownsRow w.heap.size 2 1 (.slice (some ⟨w.heap.size, 0, none⟩) 0 0) 0 [] := World.ownsRow_lit w #[] 0 (Nat.le_refl _) (by unfold maxLen; omega) rfl
  clear hc hn'
  go_enter Try.func87, Try.ntmps87
  go_wp2_with (at_builtin; refine wpList_append_own _ rfl (.tmp 3) (.tmp 4) 32 rfl w.heap.size 2 i0 (.int .i64 0) 1 8 Try.underlying32 hi hz0 hz1 hz2 rfl (by decide) _ 0 [] rfl HW0 ⟨b, off, none⟩ zs.length cap (intCells zs) rfl (cells_len zs) ?c1 (ones zs) ?c3 ?c4 ?c5 ?_)
  case c1 => exact news (fun i hi => ((On.alloc (On.refl w) _).cell (by exact hb)).trans (HC.out i hi))
  case c3 => unfold maxLen; omega
  case c4 => omega
  case c5 => simp
  intro v' w3 hown' hgrow _
  have hown2 : w3.ownsRow w.heap.size 2 1 v' zs.length (intCells zs) := by simpa using hown'
  obtain ⟨a', cap', rfl, ho, hfit⟩ := own_fit hown2
  have HO := Lib.hid ho
  have HB := Lib.hid (((Below.refl w.heap.size w).alloc (Nat.le_refl _) _).grown hgrow (by simp) (fun k hk => (HW0.lt k hk).1))
  clear hown' hown2 hgrow ho
  go_wp2_with fail
  go_ret
  exact ⟨a', cap', rfl, HO.out, hfit, HB.out⟩
set_option maxRecDepth 1000000 in
set_option maxHeartbeats 1000000 in
/-- The library's copy. -/
theorem lib_clone (b off cap : Nat) (zs : List Int) (w : World) (h0 : 0 < zs.length) (hn : zs.length ≤ 1048576) (hb : b < w.heap.size) (hc : ∀ i, i < zs.length → w.cell? ⟨b, off + i, none⟩ = some (.int .i64 (zs.getD i 0))) :
    Calls Try.prog 76 #[.slice (some ⟨b, off, none⟩) zs.length cap] w fun e w' => ∃ a' cap', e = .returned (.slice a' zs.length cap') ∧ Own w.heap.size w' (.slice a' zs.length cap') zs ∧ zs.length ≤ cap' ∧ On w w' := by
  obtain ⟨i0, hi, hz0, hz1, hz2⟩ := info_parts Ints.info
  have HC := Lib.hid hc
  obtain ⟨n, hn'⟩ : ∃ n, n = zs.length := ⟨_, rfl⟩
  have HL := Lib.hid hn'
  have HW0 : (w.alloc (.cells #[] 2)).ownsRow w.heap.size 2 1 (.slice (some ⟨w.heap.size, 0, none⟩) 0 0) 0 [] := World.ownsRow_lit w #[] 0 (Nat.le_refl _) (by unfold maxLen; omega) rfl
  clear hc hn'
  have hnil : ∀ w n c, (binOp .eql 32 (.slice (some ⟨b, off, none⟩) n c) (.slice none 0 0)).run Try.prog w = .ok (.bool false) w := fun w n c => Lib.run_eql_slice_nil w _ _ _ n c 0 0 Try.underlying32
  go_enter Try.func76, Try.ntmps76
  go_wp2_with (at_builtin; refine wpList_append_own _ rfl (.tmp 5) (.tmp 6) 32 rfl w.heap.size 2 i0 (.int .i64 0) 1 8 Try.underlying32 hi hz0 hz1 hz2 rfl (by decide) _ 0 [] rfl HW0 ⟨b, off, none⟩ zs.length cap (intCells zs) rfl (cells_len zs) ?c1 (ones zs) ?c3 ?c4 ?c5 ?_)
  case c1 => exact news (fun i hi => ((On.alloc (On.refl w) _).cell (by exact hb)).trans (HC.out i hi))
  case c3 => unfold maxLen; omega
  case c4 => omega
  case c5 => simp
  intro v' w3 hown' hgrow _
  have hown2 : w3.ownsRow w.heap.size 2 1 v' zs.length (intCells zs) := by simpa using hown'
  obtain ⟨a', cap', rfl, ho, hfit⟩ := own_fit hown2
  have HO := Lib.hid ho
  have HB := Lib.hid (((Below.refl w.heap.size w).alloc (Nat.le_refl _) _).grown hgrow (by simp) (fun k hk => (HW0.lt k hk).1))
  clear hown' hown2 hgrow ho
  go_wp2_with fail
  go_ret
  exact ⟨a', cap', rfl, HO.out, hfit, HB.out⟩
theorem own_on {w w' : World} {B : Nat} {e : TypeId} {size n : Nat} {v : Value} {xs : List Value} (h : w.ownsRow B e size v n xs) (k : On w w') : w'.ownsRow B e size v n xs := by
  refine ⟨h.1, ?_⟩
  rcases h.2 with hn | ⟨g, cap, cur, rfl, hB, hg, rest⟩
  · exact .inl hn
  · exact .inr ⟨g, cap, cur, rfl, hB, (Below.block k g (block_lt hg)).trans hg, rest⟩
/-- The rows that have been made so far. -/
structure RowsK (B : Nat) (zss : List (List Int)) (us : List Value) (f o e : Nat → Nat) (k : Nat) (w : World) : Prop where
  len : us.length = k
  val : ∀ j, j < k → us[j]? = some (.slice (some ⟨f j, o j, none⟩) (zss.getD j []).length (e j))
  rng : ∀ j, j < k → B ≤ f j ∧ f j < w.heap.size
  inc : ∀ i j, i < j → j < k → f i < f j
  unf : ∀ j, j < k → ∀ q, q < (zss.getD j []).length → w.frozen? ⟨f j, o j + q, none⟩ = false
  row : ∀ j, j < k → Val f o w j (zss.getD j [])
  fit : ∀ j, j < k → (zss.getD j []).length ≤ e j
theorem RowsK.zero (B : Nat) (zss : List (List Int)) (w : World) : RowsK B zss [] (fun _ => 0) (fun _ => 0) (fun _ => 0) 0 w :=
  ⟨rfl, fun j h => absurd h (by omega), fun j h => absurd h (by omega), fun i j _ h => absurd h (by omega), fun j h => absurd h (by omega), fun j h => absurd h (by omega), fun j h => absurd h (by omega)⟩
theorem RowsK.move {B k : Nat} {zss : List (List Int)} {us : List Value} {f o e : Nat → Nat} {w w' : World} (h : RowsK B zss us f o e k w) (hs : w.heap.size ≤ w'.heap.size)
    (hb : ∀ j, j < k → w'.heap[f j]? = w.heap[f j]?) : RowsK B zss us f o e k w' where
  len := h.len
  val := h.val
  rng := fun j hj => ⟨(h.rng j hj).1, Nat.lt_of_lt_of_le (h.rng j hj).2 hs⟩
  inc := h.inc
  unf := fun j hj q hq => (World.frozen?_of_block (by exact hb j hj)).trans (h.unf j hj q hq)
  row := fun j hj q hq => (World.cell?_of_block (by exact hb j hj)).trans (h.row j hj q hq)
  fit := h.fit
theorem RowsK.on {B k : Nat} {zss : List (List Int)} {us : List Value} {f o e : Nat → Nat} {w w' : World} (h : RowsK B zss us f o e k w) (ho : On w w') : RowsK B zss us f o e k w' :=
  h.move ho.size fun j hj => Below.block ho _ (h.rng j hj).2
theorem RowsK.snoc {B k : Nat} {zss : List (List Int)} {us : List Value} {f o e : Nat → Nat} {w w' : World} (h : RowsK B zss us f o e k w) (ho : On w w') (hB : B ≤ w.heap.size) {d : Option Addr} {c : Nat}
    (h0 : 0 < (zss.getD k []).length) (hown : Own w.heap.size w' (.slice d (zss.getD k []).length c) (zss.getD k [])) (hfit : (zss.getD k []).length ≤ c) :
    ∃ f' o' e', RowsK B zss (us ++ [.slice d (zss.getD k []).length c]) f' o' e' (k + 1) w' ∧ (∀ j, j < k → f' j = f j) ∧ w.heap.size ≤ f' k := by
  obtain ⟨a', cap', hv, hc⟩ := hown
  cases hv
  obtain ⟨b, off, rfl, hb1, hb2, hf, hcell⟩ := hc h0
  have g := h.on ho
  refine ⟨fun j => if j = k then b else f j, fun j => if j = k then off else o j, fun j => if j = k then c else e j, ⟨by simp [h.len], fun j hj => ?_, fun j hj => ?_, fun i j hij hj => ?_, fun j hj q hq => ?_, fun j hj q hq => ?_, fun j hj => ?_⟩, fun j hj => if_neg (by omega), ?_⟩
  · try dsimp only
    by_cases q : j = k
    · subst q; rw [if_pos rfl, if_pos rfl, if_pos rfl, ← h.len]; simp
    · rw [if_neg q, if_neg q, if_neg q, List.getElem?_append_left (by rw [h.len]; omega)]; exact g.val j (by omega)
  · try dsimp only
    by_cases q : j = k
    · rw [if_pos q]; exact ⟨by omega, hb2⟩
    · rw [if_neg q]; exact g.rng j (by omega)
  · show (if i = k then b else f i) < (if j = k then b else f j)
    rw [if_neg (by omega)]
    by_cases q : j = k
    · rw [if_pos q]; have := (h.rng i (by omega)).2; omega
    · rw [if_neg q]; exact g.inc i j hij (by omega)
  · try dsimp only
    by_cases p : j = k
    · subst p; rw [if_pos rfl, if_pos rfl]; exact hf q hq
    · rw [if_neg p, if_neg p]; exact g.unf j (by omega) q hq
  · try dsimp only
    by_cases p : j = k
    · subst p; rw [if_pos rfl, if_pos rfl]; exact hcell q hq
    · rw [if_neg p, if_neg p]; exact g.row j (by omega) q hq
  · try dsimp only
    by_cases p : j = k
    · subst p; rw [if_pos rfl]; exact hfit
    · rw [if_neg p]; exact g.fit j (by omega)
  · show w.heap.size ≤ (if k = k then b else f k); rw [if_pos rfl]; exact hb1
/-- Where all rows and the outer slice lie. -/
theorem RowsK.lay {B n g : Nat} {zss : List (List Int)} {us : List Value} {f o e : Nat → Nat} {w : World} (h : RowsK B zss us f o e n w) (hg : g < w.heap.size) (hB : B ≤ g) (hne : ∀ j, j < n → f j ≠ g)
    (hc : ∀ i, i < n → w.cell? ⟨g, i, none⟩ = us[i]?) : Lay B w.heap.size g 0 n (fun i => (zss.getD i []).length) f o e (fun i => some ⟨f i, o i, none⟩) w where
  lt := hg
  ge := hB
  le := hg
  out := fun i hi => by rw [Nat.zero_add, hc i hi]; exact h.val i hi
  adr := fun i hi _ => ⟨rfl, (h.rng i hi).1, (h.rng i hi).2, (h.rng i hi).2, hne i hi⟩
  sep := fun i j hi hj hij _ _ => by
    rcases Nat.lt_or_ge i j with q | q
    · have := h.inc i j q hj; omega
    · have := h.inc j i (by omega) hi; omega
  unf := h.unf
set_option maxRecDepth 1000000 in
set_option maxHeartbeats 4000000 in
/-- The model's copy. -/
theorem spec_lists (v : Value) (zss : List (List Int)) (w : World) (hn : zss.length ≤ 1048576) (hr : ∀ i, i < zss.length → 0 < (zss.getD i []).length ∧ (zss.getD i []).length ≤ 1048576) (h : Mats.Rows w v zss) :
    Calls Try.prog 75 #[v] w fun e w' => ∃ a c, e = .returned (.slice a zss.length c) ∧ OwnX w.heap.size w'.heap.size w' (.slice a zss.length c) zss ∧ (∀ g, (Value.slice a zss.length c).ownBlock = some g → ∀ j, w'.frozen? ⟨g, j, none⟩ = false) ∧ On w w' := by
  obtain ⟨i0, hi, hz0, hz1, hz2⟩ := info_parts Mats.infoS
  have h' := h
  obtain ⟨a, cap, rfl, -⟩ := h
  have HC := Lib.hid (fun h0 => Con.lists_at h' h0)
  have HR := Lib.hid hr
  obtain ⟨n, hnn⟩ : ∃ n, n = zss.length := ⟨_, rfl⟩
  have HN := Lib.hid hnn
  rw [← hnn] at hn ⊢
  clear h' hr hnn
  go_enter Try.func75, Try.ntmps75
  go_wp2_with fail
  go_loopw [3, 4] (fun v i wr => ∃ (k : Nat) (us : List Value) (f o e : Nat → Nat), k ≤ n ∧ i = .int .i64 k ∧ wr.ownsRow w.heap.size 32 1 v k us ∧ RowsK w.heap.size zss us f o e k wr ∧ (∀ j, j < k → v.ownBlock ≠ some (f j)) ∧ On w wr) (fun _ i _ => n - (intOf i).toNat)
  case atStart => exact ⟨0, [], _, _, _, Nat.zero_le _, rfl, World.ownsRow_lit w #[] 0 (Nat.le_refl _) (by unfold maxLen; omega) rfl, RowsK.zero _ _ _, fun j hj => absurd hj (by omega), On.alloc (On.refl _) _⟩
  case round =>
    obtain ⟨k, us, f, o, e, hk, rfl, hown, hrk, hne, ho⟩ := hrel
    have X1 := Lib.hid hown
    have X2 := Lib.hid hrk
    have X3 := Lib.hid hne
    have HO := Lib.hid ho
    clear hown hrk hne
    by_cases hlt : k < n
    · have hlti : (k : Int) < (n : Int) := by omega
      obtain ⟨b, off, rfl, hb, hrow⟩ := HC.out (by rw [← HN.out]; omega)
      obtain ⟨d, ee, hu, hz⟩ := hrow k (by rw [← HN.out]; exact hlt)
      have c1 : wr.cell? ⟨b, off + k, none⟩ = some (.slice d (zss.getD k []).length ee) := (ho.cell (by exact hb)).trans hu
      have s1 := ho.lts _ hb
      have hz1 := hz.below ho
      obtain ⟨r0, r1⟩ := HR.out k (by rw [← HN.out]; exact hlt)
      obtain ⟨d', e', hv, hcc⟩ := hz1
      cases hv
      obtain ⟨b1, o1, rfl, hb1, hcell1⟩ := hcc r0
      have HL := Lib.hid (spec_own b1 o1 ee (zss.getD k []) wr r0 r1 hb1 hcell1)
      have HR0 := Lib.hid r0
      have hsz := ho.size
      obtain ⟨l, hl⟩ : ∃ l, l = (zss.getD k []).length := ⟨_, rfl⟩
      have HLL := Lib.hid hl
      rw [← hl] at c1 HL
      clear hu hz hrow hcc hcell1 r0 r1 hl ho
      go_wp2_with fail
      refine HL.out.mono ?_
      rintro er w1 ⟨da, dc, rfl, hown1, hfit, h1⟩
      obtain ⟨f', o', e', hrk2, hff, hfk⟩ := X2.out.snoc h1 hsz HR0.out (by rw [← HLL.out]; exact hown1) (by rw [← HLL.out]; exact hfit)
      have Y1 := Lib.hid (own_on X1.out h1)
      have HNE := Lib.hid (show ∀ j, j < k + 1 → u3.ownBlock ≠ some (f' j) from fun j hj => by
        by_cases g : j = k
        · rw [g]; intro q; have := (X1.out.lt _ q).2; omega
        · rw [hff j (by omega)]; exact X3.out j (by omega))
      rw [← HLL.out] at hrk2
      have HRK := Lib.hid hrk2
      have HO1 := Lib.hid (HO.out.trans h1)
      have hsz1 := HO1.out.size
      clear hrk2 hff hfk hown1 hfit h1
      go_wp2_with (at_builtin; refine wpList_append_own_at _ rfl (.tmp 12) (.tmp 18) 22 rfl w.heap.size 32 i0 (.slice none 0 0) 1 24 Try.underlying22 hi hz0 hz1 hz2 rfl (by decide) _ k us rfl (Y1.out.alloc _) ⟨w1.heap.size, 0, none⟩ 1 1 [.slice da l dc] rfl rfl ?c1 ?c2 ?c3 ?c4 ?c5 ?_)
      case c1 => exact cell_one_new _ _ _
      case c2 => intro u hu; simp at hu; subst hu; rfl
      case c3 => unfold maxLen; omega
      case c4 => omega
      case c5 => simp; omega
      intro v' w4 hown' hgrow _ hat
      have hat2 : v'.ownBlock = u3.ownBlock ∨ v'.ownBlock = some (w1.heap.size + 1) := by simpa using hat
      have HR4 := Lib.hid (show RowsK w.heap.size zss (us ++ [.slice da l dc]) f' o' e' (k + 1) w4 from HRK.out.move (by have := hgrow.size; simp at this; omega) (fun j hj => (hgrow.block _ (by have := (HRK.out.rng j hj).2; simp; omega) (fun q => HNE.out j hj q.symm)).trans (Below.block (On.alloc (On.refl _) _) _ (HRK.out.rng j hj).2)))
      have HN4 := Lib.hid (show ∀ j, j < k + 1 → v'.ownBlock ≠ some (f' j) from fun j hj => by
        rcases hat2 with q | q
        · rw [q]; exact HNE.out j hj
        · rw [q]; intro q2; injection q2 with q2; have := (HRK.out.rng j hj).2; omega)
      have HO4 := Lib.hid (show On w w4 from Below.grown (On.alloc HO1.out _) hgrow (by simp; omega) (fun q hq => (Y1.out.lt q hq).1))
      have HW4 := Lib.hid hown'
      clear hown' hgrow hat hat2 hsz hsz1
      go_wp2
      go_roundw
      case rel => first | exact ⟨k + 1, _, f', o', e', by omega, by go_num, HW4.out, HR4.out, HN4.out, HO4.out⟩ | ((repeat apply Exists.intro); exact ⟨⟨k + 1, _, f', o', e', by omega, by go_num, HW4.out, HR4.out, HN4.out, HO4.out⟩, rfl⟩)
      case measure => simp [intOf]; omega
    · obtain rfl : k = n := by omega
      obtain ⟨a2, c2, rfl, hox, hfz⟩ : ∃ a c, u3 = .slice a k c ∧ OwnX w.heap.size wr.heap.size wr (.slice a k c) zss ∧ ∀ g, (Value.slice a k c).ownBlock = some g → ∀ j, wr.frozen? ⟨g, j, none⟩ = false := by
        rcases X1.out.2 with ⟨hv, hn0⟩ | ⟨g, cap, cur, hv, hB, hg, hnc, hcm, hcs, htake⟩
        · have hz0 : zss = [] := List.eq_nil_of_length_eq_zero (by rw [← HN.out]; exact hn0)
          refine ⟨none, 0, by rw [hv, hn0], ?_, fun g hg => by simp [Value.ownBlock] at hg⟩
          rw [hz0, hn0]
          exact OwnX.empty _ _ _ _ _
        · refine ⟨_, cap, hv, ⟨_, cap, by rw [HN.out], fun _ => ⟨g, 0, f, o, e, fun i => some ⟨f i, o i, none⟩, rfl, ?_, fun i hi => X2.out.row i (by rw [HN.out]; exact hi)⟩⟩, fun g' hg' j => by simp [Value.ownBlock] at hg'; subst hg'; simp [World.frozen?, hg]⟩
          rw [← HN.out]
          refine X2.out.lay (block_lt hg) hB (fun j hj q => X3.out j hj (by rw [hv]; simp [Value.ownBlock, q])) fun i hi => ?_
          rw [cell_of_row wr g i cur _ (0, 0) hg]
          have hl2 := X2.out.len
          rw [← htake, List.getElem?_take, if_pos (by omega)]
          simp
      have HX := Lib.hid hox
      have HFZ := Lib.hid hfz
      clear hox ho hfz
      go_wp2_with fail
      go_ret
      exact ⟨_, _, rfl, HX.out, HFZ.out, HO.out⟩
set_option maxRecDepth 1000000 in
set_option maxHeartbeats 4000000 in
/-- The program's copy: the outer slice lies in the first new block. -/
theorem impl_copyOf (v : Value) (zss : List (List Int)) (w : World) (hn : zss.length ≤ 1048576) (h0 : 0 < zss.length) (hr : ∀ i, i < zss.length → 0 < (zss.getD i []).length ∧ (zss.getD i []).length ≤ 1048576) (h : Mats.Rows w v zss) :
    Calls Try.prog 55 #[v] w fun e w' => e = .returned (.slice (some ⟨w.heap.size, 0, none⟩) zss.length zss.length) ∧ On w w' ∧ ∃ us f o ee, RowsK (w.heap.size + 1) zss us f o ee zss.length w' ∧ w'.rowIs w.heap.size 32 zss.length (fun j => us.getD j (.slice none 0 0)) := by
  have h' := h
  obtain ⟨a, cap, rfl, -⟩ := h
  obtain ⟨b, off, rfl, hb, hrow⟩ := Con.lists_at h' h0
  have HC := Lib.hid hrow
  have HR := Lib.hid hr
  obtain ⟨n, hnn⟩ : ∃ n, n = zss.length := ⟨_, rfl⟩
  have HN := Lib.hid hnn
  rw [← hnn] at hn h0 ⊢
  have hmk := fun w => run_make_row' (P := Try.prog) 22 32 (.slice none 0 0) 24 Try.underlying22 Mats.infoS rfl .i64 .i64 n (by omega) (by omega) w
  clear h' hr hnn hrow
  go_enter Try.func55, Try.ntmps55
  go_wp2_with fail
  clear hmk
  go_loopw [11] (fun i wr => ∃ (k : Nat) (us : List Value) (f o e : Nat → Nat), k ≤ n ∧ i = .int .i64 k ∧ wr.rowIs w.heap.size 32 n (fun j => us.getD j (.slice none 0 0)) ∧ RowsK (w.heap.size + 1) zss us f o e k wr ∧ On w wr) (fun i _ => n - (intOf i).toNat)
  case atStart =>
    refine ⟨0, [], _, _, _, Nat.zero_le _, rfl, ?_, RowsK.zero _ _ _, On.alloc (On.refl _) _⟩
    exact (World.rowIs_made w (.slice none 0 0) n _).congr fun i _ => by simp
  case round =>
    obtain ⟨k, us, f, o, e, hk, rfl, hrow, hrk, ho⟩ := hrel
    have X1 := Lib.hid hrow
    have X2 := Lib.hid hrk
    have HO := Lib.hid ho
    clear hrow hrk
    by_cases hlt : k < n
    · have hlti : (k : Int) < (n : Int) := by omega
      obtain ⟨d, ee, hu, hz⟩ := HC.out k (by rw [← HN.out]; exact hlt)
      have c1 : wr.cell? ⟨b, off + k, none⟩ = some (.slice d (zss.getD k []).length ee) := (ho.cell (by exact hb)).trans hu
      have s1 := ho.lts _ hb
      have hz1 := hz.below ho
      obtain ⟨r0, r1⟩ := HR.out k (by rw [← HN.out]; exact hlt)
      obtain ⟨d', e', hv, hcc⟩ := hz1
      cases hv
      obtain ⟨b1, o1, rfl, hb1, hcell1⟩ := hcc r0
      have HL := Lib.hid (lib_clone b1 o1 ee (zss.getD k []) wr r0 r1 hb1 hcell1)
      have HR0 := Lib.hid r0
      have hsz := ho.size
      have hlt0 := X1.out.lt
      obtain ⟨l, hl⟩ : ∃ l, l = (zss.getD k []).length := ⟨_, rfl⟩
      have HLL := Lib.hid hl
      rw [← hl] at c1 HL
      clear hu hz hcc hcell1 r0 r1 hl ho
      go_wp2_with fail
      refine HL.out.mono ?_
      rintro er w1 ⟨da, dc, rfl, hown1, hfit, h1⟩
      obtain ⟨f', o', e', hrk2, hff, hfk⟩ := X2.out.snoc h1 (by omega) HR0.out (by rw [← HLL.out]; exact hown1) (by rw [← HLL.out]; exact hfit)
      rw [← HLL.out] at hrk2
      have hl0 := X2.out.len
      have hR1 := X1.out.of_block (Below.block h1 _ hlt0)
      have d0 : ∃ u, w1.cell? ⟨w.heap.size, k, none⟩ = some u := ⟨_, hR1.cell hlt⟩
      obtain ⟨u0, d0⟩ := d0
      have f0 : w1.frozen? ⟨w.heap.size, k, none⟩ = false := hR1.frozen _
      have HRK := Lib.hid (show RowsK (w.heap.size + 1) zss (us ++ [.slice da l dc]) f' o' e' (k + 1) (w1.setCell ⟨w.heap.size, k, none⟩ (.slice da l dc)) from hrk2.move (by simp) fun j hj => by
        have := (hrk2.rng j hj).1
        exact Below.heap_setCell _ _ _ _ (by show f' j ≠ w.heap.size; omega))
      have HRO := Lib.hid (show (w1.setCell ⟨w.heap.size, k, none⟩ (.slice da l dc)).rowIs w.heap.size 32 n (fun j => (us ++ [Value.slice da l dc]).getD j (Value.slice none 0 0)) from (hR1.set k _).congr fun j hj => by rw [Mats.snoc_at, hl0])
      have HO1 := Lib.hid (HO.out.trans h1)
      clear hrk2 hff hfk hown1 hfit h1 hR1 hl0
      go_wp2_with fail
      go_roundw
      case rel => exact ⟨k + 1, _, f', o', e', by omega, by go_num, HRO.out, HRK.out, HO1.out.setCell (by exact Nat.le_refl _) _⟩
      case measure => simp [intOf]; omega
    · obtain rfl : k = n := by omega
      clear ho
      go_wp2_with fail
      go_ret
      exact ⟨rfl, HO.out, us, f, o, e, X2.out, X1.out⟩
end Go.Proofs.Ytofoffdmhekceaa.Cpy
