
/-
  The violations of a list of channels, in the model and in the program. Conditions: a valid problem, channels from 0 to 999, one for each item.
-/
import Derived.Test.YtofoffdmhekceaaFit17
import Derived.Test.YtofoffdmhekceaaGrow
namespace Go.Proofs.Ytofoffdmhekceaa.Asg
open Go.RowKit
open Plain
open Ints (Ints)
open Prb (T)
open Con
open Mats (Grow OwnX)

/-- Whether two channels are nearer than some difference. -/
def nearB (a b d : Int) : Bool := decide (a - b < d) && decide (b - a < d)
def badB (N : T) (zs : List Int) (i k : Nat) : Bool := nearB (zs.getD i 0) (zs.getD k 0) (at2 N.f1 i k)
def rowUp (N : T) (zs : List Int) (i : Nat) : Nat → List (List Int)
  | 0 => []
  | j + 1 => rowUp N zs i j ++ (if i < j ∧ badB N zs i j = true then [[(i : Int), (j : Int)]] else [])
def brkTo (N : T) (zs : List Int) (n : Nat) : Nat → List (List Int)
  | 0 => []
  | i + 1 => brkTo N zs n i ++ rowUp N zs i n
def brk (N : T) (zs : List Int) : List (List Int) := brkTo N zs zs.length zs.length
def cur (N : T) (zs : List Int) (n i j : Nat) : List (List Int) := brkTo N zs n i ++ rowUp N zs i j
theorem rowUp_nil (N : T) (zs : List Int) (i : Nat) : ∀ j, j ≤ i + 1 → rowUp N zs i j = []
  | 0, _ => rfl
  | j + 1, h => by
    have h1 := rowUp_nil N zs i j (by omega)
    simp only [rowUp]
    rw [h1, if_neg (by omega)]; rfl
theorem cur_start (N : T) (zs : List Int) (n i : Nat) : cur N zs n i (i + 1) = brkTo N zs n i := by unfold cur; rw [rowUp_nil N zs i (i + 1) (Nat.le_refl _), List.append_nil]
theorem cur_end (N : T) (zs : List Int) (n i : Nat) : cur N zs n i n = brkTo N zs n (i + 1) := rfl
theorem cur_bad {N : T} {zs : List Int} {n i j : Nat} (h : i < j) (hb : badB N zs i j = true) : cur N zs n i (j + 1) = cur N zs n i j ++ [[(i : Int), (j : Int)]] := by
  unfold cur; simp only [rowUp]; rw [if_pos ⟨h, hb⟩, List.append_assoc]
theorem cur_good {N : T} {zs : List Int} {n i j : Nat} (hb : badB N zs i j = false) : cur N zs n i (j + 1) = cur N zs n i j := by
  unfold cur; simp only [rowUp]; rw [if_neg (by rw [hb]; rintro ⟨-, h⟩; cases h), List.append_nil]
theorem rowUp_len (N : T) (zs : List Int) (i : Nat) : ∀ j, (rowUp N zs i j).length ≤ j
  | 0 => by simp [rowUp]
  | j + 1 => by
    have := rowUp_len N zs i j
    simp only [rowUp, List.length_append]
    split <;> simp <;> omega
theorem brkTo_len (N : T) (zs : List Int) (n : Nat) : ∀ i, (brkTo N zs n i).length ≤ i * n
  | 0 => by simp [brkTo]
  | i + 1 => by
    have h1 := brkTo_len N zs n i
    have h2 := rowUp_len N zs i n
    simp only [brkTo, List.length_append]
    rw [Nat.succ_mul]; omega
theorem cur_len {N : T} {zs : List Int} {n i j : Nat} (hn : n ≤ 24) (hi : i < n) (hj : j ≤ n) : (cur N zs n i j).length ≤ 600 := by
  have h1 := brkTo_len N zs n i
  have h2 := rowUp_len N zs i j
  have h3 : i * n ≤ 23 * 24 := Nat.mul_le_mul (by omega) hn
  unfold cur
  rw [List.length_append]
  omega
theorem brk_len {N : T} {zs : List Int} (hn : zs.length ≤ 24) : (brk N zs).length ≤ 576 := by
  have h1 := brkTo_len N zs zs.length zs.length
  have h3 : zs.length * zs.length ≤ 24 * 24 := Nat.mul_le_mul hn hn
  unfold brk; omega
theorem rowUp_row (N : T) (zs : List Int) (i : Nat) : ∀ j, ∀ z ∈ rowUp N zs i j, z.length = 2
  | 0, z, h => by simp [rowUp] at h
  | j + 1, z, h => by
    simp only [rowUp, List.mem_append] at h
    rcases h with h | h
    · exact rowUp_row N zs i j z h
    · split at h
      · simp at h; rw [h]; rfl
      · simp at h
theorem brkTo_row (N : T) (zs : List Int) (n : Nat) : ∀ i, ∀ z ∈ brkTo N zs n i, z.length = 2
  | 0, z, h => by simp [brkTo] at h
  | i + 1, z, h => by
    simp only [brkTo, List.mem_append] at h
    rcases h with h | h
    · exact brkTo_row N zs n i z h
    · exact rowUp_row N zs i n z h
theorem brk_row {N : T} {zs : List Int} (i : Nat) (h : i < (brk N zs).length) : ((brk N zs).getD i []).length = 2 := by
  rw [show (brk N zs).getD i [] = (brk N zs)[i] from by simp [h]]
  exact brkTo_row N zs _ _ _ (List.getElem_mem h)
theorem brk_pre {N : T} {zs : List Int} : ∀ k, k ≤ (brk N zs).length → Mats.pre (brk N zs) k = 2 * k
  | 0, _ => rfl
  | k + 1, h => by
    have h1 := brk_pre (N := N) (zs := zs) k (by omega)
    simp only [Mats.pre]
    rw [h1, brk_row k (by omega)]; omega
theorem brk_tot {N : T} {zs : List Int} (hn : zs.length ≤ 24) : Mats.tot (brk N zs) ≤ 1152 := by
  unfold Mats.tot
  rw [brk_pre _ (Nat.le_refl _)]
  have := brk_len (N := N) hn
  omega
theorem spec_near (a b d : Int) (w : World) (ha : 0 ≤ a ∧ a ≤ 999) (hb : 0 ≤ b ∧ b ≤ 999) :
    Calls Try.prog 73 #[.int .i64 a, .int .i64 b, .int .i64 d] w fun e w' => e = .returned (.bool (nearB a b d)) ∧ w = w' := by
  obtain ⟨a0, a1⟩ := ha
  obtain ⟨b0, b1⟩ := hb
  by_cases h1 : a - b < d
  · by_cases h2 : b - a < d
    · have en := Lib.hid (show nearB a b d = true by unfold nearB; rw [decide_eq_true h1, decide_eq_true h2]; rfl)
      go_enter Try.func73, Try.ntmps73
      go_wp2_with fail
      go_ret
      exact ⟨ret_bool en.out.symm, rfl⟩
    · have en := Lib.hid (show nearB a b d = false by unfold nearB; rw [decide_eq_false h2, Bool.and_false])
      have h2d : decide (b - a < d) = false := decide_eq_false h2
      go_enter Try.func73, Try.ntmps73
      go_wp2_with fail
      go_ret
      exact ⟨ret_bool en.out.symm, rfl⟩
  · have en := Lib.hid (show nearB a b d = false by unfold nearB; rw [decide_eq_false h1]; rfl)
    have h1d : decide (a - b < d) = false := decide_eq_false h1
    go_enter Try.func73, Try.ntmps73
    go_wp2_with fail
    go_ret
    exact ⟨ret_bool en.out.symm, rfl⟩
theorem impl_gr (a b : Int) (w : World) :
    Calls Try.prog 85 #[.int .i64 a, .int .i64 b] w fun e w' => e = .returned (.int .i64 (if a < b then b else a)) ∧ w = w' := by
  by_cases h : a < b
  · rw [if_pos h]
    go_enter Try.func85, Try.ntmps85
    go_wp2
    go_ret
    exact ⟨rfl, rfl⟩
  · rw [if_neg h]
    go_enter Try.func85, Try.ntmps85
    go_wp2
    go_ret
    exact ⟨rfl, rfl⟩
theorem impl_le (a b : Int) (w : World) :
    Calls Try.prog 86 #[.int .i64 a, .int .i64 b] w fun e w' => e = .returned (.int .i64 (if b < a then b else a)) ∧ w = w' := by
  by_cases h : b < a
  · rw [if_pos h]
    go_enter Try.func86, Try.ntmps86
    go_wp2
    go_ret
    exact ⟨rfl, rfl⟩
  · rw [if_neg h]
    go_enter Try.func86, Try.ntmps86
    go_wp2
    go_ret
    exact ⟨rfl, rfl⟩
def dif (a b : Int) : Int := if a < b then b - a else a - b
theorem dif_near (a b d : Int) : decide (dif a b < d) = nearB a b d := by
  unfold dif nearB
  rw [Bool.eq_iff_iff, Bool.and_eq_true]
  split <;> simp <;> omega
theorem impl_dif (a b : Int) (w : World) (ha : 0 ≤ a ∧ a ≤ 999) (hb : 0 ≤ b ∧ b ≤ 999) :
    Calls Try.prog 74 #[.int .i64 a, .int .i64 b] w fun e w' => e = .returned (.int .i64 (dif a b)) ∧ w = w' := by
  obtain ⟨a0, a1⟩ := ha
  obtain ⟨b0, b1⟩ := hb
  have e1 := Lib.hid (fun w => impl_gr a b w)
  have e2 := Lib.hid (fun w => impl_le a b w)
  by_cases h : a < b
  · have en := Lib.hid (show dif a b = b - a from if_pos h)
    go_enter Try.func74, Try.ntmps74
    go_wp2_with fail
    refine (e1.out _).mono ?_
    rintro e w1 ⟨rfl, rfl⟩
    rw [if_pos h]
    go_wp2_with fail
    refine (e2.out _).mono ?_
    rintro e w1 ⟨rfl, rfl⟩
    rw [if_neg (by omega)]
    go_wp2_with fail
    go_ret
    exact ⟨ret_int en.out.symm, rfl⟩
  · have en := Lib.hid (show dif a b = a - b from if_neg h)
    by_cases h2 : b < a
    · go_enter Try.func74, Try.ntmps74
      go_wp2_with fail
      refine (e1.out _).mono ?_
      rintro e w1 ⟨rfl, rfl⟩
      rw [if_neg (show ¬ a < b by omega)]
      go_wp2_with fail
      refine (e2.out _).mono ?_
      rintro e w1 ⟨rfl, rfl⟩
      rw [if_pos h2]
      go_wp2_with fail
      go_ret
      exact ⟨ret_int en.out.symm, rfl⟩
    · go_enter Try.func74, Try.ntmps74
      go_wp2_with fail
      refine (e1.out _).mono ?_
      rintro e w1 ⟨rfl, rfl⟩
      rw [if_neg (show ¬ a < b by omega)]
      go_wp2_with fail
      refine (e2.out _).mono ?_
      rintro e w1 ⟨rfl, rfl⟩
      rw [if_neg (show ¬ b < a by omega)]
      go_wp2_with fail
      go_ret
      exact ⟨ret_int (by have := en.out; omega), rfl⟩
set_option maxRecDepth 1000000 in
set_option maxHeartbeats 8000000 in
theorem spec_broken (g : Nat) (N : T) (a0 a1 : Option Addr) (c0 c1 : Nat) (v : Value) (zs : List Int) (w : World) (hk : Ok N) (hz : zs.length = N.f0.length) (hbd : ∀ i, i < N.f0.length → 0 ≤ zs.getD i 0 ∧ zs.getD i 0 ≤ 999) (h : At w g N a0 a1 c0 c1) (hl : Ints w v zs) :
    Calls Try.prog 46 #[.pointer (some ⟨g, 0, none⟩), v] w fun e w' => ∃ a c, e = .returned (.slice a (brk N zs).length c) ∧ OwnX w.heap.size w'.heap.size w' (.slice a (brk N zs).length c) (brk N zs) ∧ On w w' := by
  have hlt := h.lt
  have k1 := h.k1
  have r1 := h.r1
  obtain ⟨i0, hi, hz0, hz1, hz2⟩ := info_parts Mats.infoS
  obtain ⟨n, hn⟩ : ∃ n, n = N.f0.length := ⟨_, rfl⟩
  have n1 : 1 ≤ n := by rw [hn]; exact hk.n1
  have n2 : n ≤ 24 := by rw [hn]; exact hk.n2
  have hl1 : N.f1.length = n := by rw [hn]; exact hk.len
  have hlz : zs.length = n := by rw [hn]; exact hz
  obtain ⟨b1, o1, rfl, hb1, hrow⟩ := rows_at (n := n) r1 (by omega) hl1 (fun i hi => by rw [hn]; exact hk.row i (by omega))
  obtain ⟨b, off, hsl, hb, hcell⟩ : ∃ b off, (∃ cap, v = .slice (some ⟨b, off, none⟩) n cap) ∧ b < w.heap.size ∧ ∀ i, i < n → w.cell? ⟨b, off + i, none⟩ = some (.int .i64 (zs.getD i 0)) := by
    obtain ⟨a, cap, rfl, hc⟩ := hl
    rw [hlz] at hc ⊢
    obtain ⟨b, off, rfl, hb, hcell⟩ := hc (by omega)
    exact ⟨b, off, ⟨cap, rfl⟩, hb, hcell⟩
  obtain ⟨cap, rfl⟩ := hsl
  have HR := Lib.hid hrow
  have HC := Lib.hid hcell
  have HB := Lib.hid (show ∀ i, i < n → 0 ≤ zs.getD i 0 ∧ zs.getD i 0 ≤ 999 from fun i hi => hbd i (by omega))
  have HE := Lib.hid (show brkTo N zs n n = brk N zs by unfold brk; rw [hlz])
  rw [hl1] at k1
  clear hrow hcell hbd hz hn hl hl1 hlz h hk r1
  go_enter Try.func46, Try.ntmps46
  go_wp2_with fail
  go_loopw [5, 6] (fun v i wr => ∃ k : Nat, k ≤ n ∧ i = .int .i64 k ∧ Grow w.heap.size wr v (brkTo N zs n k) ∧ On w wr) (fun _ i _ => n - (intOf i).toNat)
  case atStart => exact ⟨0, Nat.zero_le _, rfl, Grow.lit (World.ownsRow_lit _ #[] 0 (Nat.le_refl _) (by unfold maxLen; omega) rfl), On.alloc (On.refl _) _⟩
  case round =>
    obtain ⟨k, hk, rfl, hgr, ho⟩ := hrel
    have HG := Lib.hid hgr
    have HO := Lib.hid ho
    clear hgr
    by_cases hlt2 : k < n
    · have hlti : (k : Int) < (n : Int) := by omega
      clear ho
      go_wp2_with fail
      go_loopw [5, 7] (fun v i wq => ∃ j : Nat, k + 1 ≤ j ∧ j ≤ n ∧ i = .int .i64 j ∧ Grow w.heap.size wq v (cur N zs n k j) ∧ On w wq) (fun _ i _ => n - (intOf i).toNat)
      case atStart => exact ⟨k + 1, Nat.le_refl _, hlt2, by go_num, by rw [cur_start]; exact HG.out, HO.out⟩
      case round =>
        obtain ⟨j, hj0, hj, rfl, hgr, ho⟩ := hrel
        have HG2 := Lib.hid hgr
        have HO2 := Lib.hid ho
        clear hgr
        by_cases hlt3 : j < n
        · have hji : (j : Int) < (n : Int) := by omega
          have hoo := ho
          obtain ⟨b2, o2, c2, hu, hb2, hk2⟩ := HR.out k hlt2
          obtain ⟨x, hx⟩ : ∃ x, x = zs.getD k 0 := ⟨_, rfl⟩
          obtain ⟨y, hy⟩ : ∃ y, y = zs.getD j 0 := ⟨_, rfl⟩
          obtain ⟨d, hd⟩ : ∃ d, d = at2 N.f1 k j := ⟨_, rfl⟩
          have q0 : wr.cell? ⟨g, 1, none⟩ = some (.slice (some ⟨b1, o1, none⟩) n c1) := (ho.cell (by exact hlt)).trans k1
          have q1 : wr.cell? ⟨b1, o1 + k, none⟩ = some (.slice (some ⟨b2, o2, none⟩) n c2) := (hoo.cell (by exact hb1)).trans hu
          have q2 : wr.cell? ⟨b2, o2 + j, none⟩ = some (.int .i64 d) := (hoo.cell (by exact hb2)).trans (by rw [hd]; exact hk2 j hlt3)
          have q3 : wr.cell? ⟨b, off + k, none⟩ = some (.int .i64 x) := (hoo.cell (by exact hb)).trans (by rw [hx]; exact HC.out k hlt2)
          have q4 : wr.cell? ⟨b, off + j, none⟩ = some (.int .i64 y) := (hoo.cell (by exact hb)).trans (by rw [hy]; exact HC.out j hlt3)
          have s0 := ho.lts _ hlt
          have s1 := hoo.lts _ hb1
          have s2 := hoo.lts _ hb2
          have s3 := hoo.lts _ hb
          have bx := HB.out k hlt2
          have by_ := HB.out j hlt3
          rw [← hx] at bx
          rw [← hy] at by_
          obtain ⟨q, hq⟩ : ∃ q, q = badB N zs k j := ⟨_, rfl⟩
          have HBD := Lib.hid (show q = nearB x y d by rw [hq, hx, hy, hd]; rfl)
          have HQ := Lib.hid hq
          have HI := Lib.hid (show ∀ w1, Calls Try.prog 73 #[.int .i64 x, .int .i64 y, .int .i64 d] w1 (fun e w' => e = .returned (.bool q) ∧ w1 = w') from fun w1 => by have := spec_near x y d w1 bx by_; rw [← HBD.out] at this; exact this)
          clear hx hy hd hu hk2 hq ho hoo bx by_
          cases q with
          | false =>
            have HS := Lib.hid (cur_good (n := n) HQ.out.symm)
            go_wp2_with fail
            refine wp_region_onh (by kernel_rfl) (by kernel_rfl) ?_
            repeat (refine rest_step (fun K hK => ?_); go_simp; first | (refine hK _ ?_; clear hK K) | (apply Exists.intro; refine ⟨fun v1 hv1 => ?_, hK _ ?_⟩; (first | with_reducible exact rfl | with_reducible exact ⟨rfl, rfl⟩ | with_reducible exact Calls.on_same hv1 (HI.out _) | (obtain ⟨hc, hf⟩ := bcell hv1; go_simp; first | with_reducible exact rfl | with_reducible exact ⟨rfl, rfl⟩ | exact rfl | exact ⟨rfl, rfl⟩)); clear hK K))
            refine rest_nil ?_
            intro w9 hw9
            go_wp2_with fail
            go_roundw
            case rel => exact ⟨j + 1, by omega, by omega, by go_num, by rw [HS.out]; exact HG2.out.on hw9, HO2.out.trans hw9⟩
            case measure => simp [intOf]; omega
          | true =>
            have HS := Lib.hid (cur_bad (n := n) (show k < j by omega) HQ.out.symm)
            have HLN := Lib.hid (cur_len (N := N) (zs := zs) n2 hlt2 hj)
            go_wp2_with fail
            refine wp_region_onh (by kernel_rfl) (by kernel_rfl) ?_
            repeat (refine rest_step (fun K hK => ?_); go_simp; first | (refine hK _ ?_; clear hK K) | (apply Exists.intro; refine ⟨fun v1 hv1 => ?_, hK _ ?_⟩; (first | with_reducible exact rfl | with_reducible exact ⟨rfl, rfl⟩ | with_reducible exact Calls.on_same hv1 (HI.out _) | (obtain ⟨hc, hf⟩ := bcell hv1; go_simp; first | with_reducible exact rfl | with_reducible exact ⟨rfl, rfl⟩ | exact rfl | exact ⟨rfl, rfl⟩)); clear hK K))
            refine rest_nil ?_
            intro w9 hw9
            have HO9 := Lib.hid (HO2.out.trans hw9)
            obtain ⟨us, f, g1, g2, g3, g4⟩ := HG2.out.on hw9
            have X1 := Lib.hid g1
            have X2 := Lib.hid g2
            have X3 := Lib.hid g3
            have X4 := Lib.hid g4
            have hsz := HO9.out.size
            clear g1 g2 g3 g4 hw9
            have hln := HLN.out
            go_wp2_with (at_builtin; refine wpList_append_own_at _ rfl (.tmp 42) (.tmp 46) 22 rfl w.heap.size 32 i0 (.slice none 0 0) 1 24 Try.underlying22 hi hz0 hz1 hz2 rfl (by decide) _ (cur N zs n k j).length us rfl ((X1.out.alloc _).alloc _) ⟨w9.heap.size + 1, 0, none⟩ 1 1 [.slice (some ⟨w9.heap.size, 0, none⟩) 2 2] rfl rfl ?c1 ?c2 ?c3 ?c4 ?c5 ?_)
            case c1 => simpa using cell_one_new (w9.alloc (.cells #[.int .i64 k, .int .i64 j] 2)) (.slice (some ⟨w9.heap.size, 0, none⟩) 2 2) 32
            case c2 => intro u hu; simp at hu; subst hu; rfl
            case c3 => unfold maxLen; omega
            case c4 => omega
            case c5 => simp; omega
            intro v' w4 hown' hgrow _ hat
            have HG3 := Lib.hid (show Grow w.heap.size w4 v' (cur N zs n k (j + 1)) by rw [HS.out]; exact Grow.snoc (z := [(k : Int), (j : Int)]) X1.out X2.out X3.out X4.out hsz hown' hgrow (by simpa using hat))
            have HO4 := Lib.hid (show On w w4 from Below.grown (On.alloc (On.alloc HO9.out _) _) hgrow (by simp; omega) (fun q hq => (X1.out.lt q hq).1))
            clear hown' hgrow hat hln hsz
            go_wp2
            go_roundw
            case rel => first | exact ⟨j + 1, by omega, by omega, by go_num, HG3.out, HO4.out⟩ | ((repeat apply Exists.intro); exact ⟨⟨j + 1, by omega, by omega, by go_num, HG3.out, HO4.out⟩, rfl⟩)
            case measure => simp [intOf]; omega
        · obtain rfl : j = n := by omega
          have HE2 := Lib.hid (cur_end N zs j k)
          clear ho
          go_wp2_with fail
          go_roundw
          case rel => exact ⟨k + 1, by omega, by go_num, by rw [← HE2.out]; exact HG2.out, HO2.out⟩
          case measure => simp [intOf]; omega
    · obtain rfl : k = n := by omega
      clear ho
      have hgo := HG.out
      rw [HE.out] at hgo
      obtain ⟨a', c', rfl, hox⟩ := hgo.own
      have HX := Lib.hid hox
      clear hgo hox HG
      generalize hL : (brk N zs).length = L at *
      have HLL := Lib.hid hL
      clear hL
      go_wp2_with fail
      go_ret
      have hLL := HLL.out
      subst hLL
      exact ⟨_, _, rfl, HX.out, HO.out⟩
set_option maxRecDepth 1000000 in
set_option maxHeartbeats 8000000 in
theorem impl_violations (u : Value) (N : T) (v : Value) (zs : List Int) (w : World) (hk : Ok N) (hz : zs.length = N.f0.length) (hbd : ∀ i, i < N.f0.length → 0 ≤ zs.getD i 0 ∧ zs.getD i 0 ≤ 999) (h : Prb.Is w u N) (hl : Ints w v zs) :
    Calls Try.prog 48 #[u, v] w fun e w' => ∃ a c, e = .returned (.slice a (brk N zs).length c) ∧ OwnX w.heap.size w'.heap.size w' (.slice a (brk N zs).length c) (brk N zs) ∧ On w w' := by
  obtain ⟨a0, a1, c0, c1, rfl, -, r1⟩ := Is.shape h
  obtain ⟨i0, hi, hz0, hz1, hz2⟩ := info_parts Mats.infoS
  obtain ⟨n, hn⟩ : ∃ n, n = N.f0.length := ⟨_, rfl⟩
  have n1 : 1 ≤ n := by rw [hn]; exact hk.n1
  have n2 : n ≤ 24 := by rw [hn]; exact hk.n2
  have hl1 : N.f1.length = n := by rw [hn]; exact hk.len
  have hlz : zs.length = n := by rw [hn]; exact hz
  obtain ⟨b1, o1, rfl, hb1, hrow⟩ := rows_at (n := n) r1 (by omega) hl1 (fun i hi => by rw [hn]; exact hk.row i (by omega))
  obtain ⟨b, off, hsl, hb, hcell⟩ : ∃ b off, (∃ cap, v = .slice (some ⟨b, off, none⟩) n cap) ∧ b < w.heap.size ∧ ∀ i, i < n → w.cell? ⟨b, off + i, none⟩ = some (.int .i64 (zs.getD i 0)) := by
    obtain ⟨a, cap, rfl, hc⟩ := hl
    rw [hlz] at hc ⊢
    obtain ⟨b, off, rfl, hb, hcell⟩ := hc (by omega)
    exact ⟨b, off, ⟨cap, rfl⟩, hb, hcell⟩
  obtain ⟨cap, rfl⟩ := hsl
  have HR := Lib.hid hrow
  have HC := Lib.hid hcell
  have HB := Lib.hid (show ∀ i, i < n → 0 ≤ zs.getD i 0 ∧ zs.getD i 0 ≤ 999 from fun i hi => hbd i (by omega))
  have HE := Lib.hid (show brkTo N zs n n = brk N zs by unfold brk; rw [hlz])
  rw [hl1]
  clear hrow hcell hbd hz hl hl1 hlz h hk r1
  rw [← hn]
  clear hn
  go_enter Try.func48, Try.ntmps48
  go_wp2_with fail
  generalize hW0 : w.alloc (.cells #[.slice a0 n c0, .slice (some ⟨b1, o1, none⟩) n c1] 27) = w0
  have HO0 := Lib.hid (show On w w0 by rw [← hW0]; exact On.alloc (On.refl _) _)
  have k1 : w0.cell? ⟨w.heap.size, 1, none⟩ = some (.slice (some ⟨b1, o1, none⟩) n c1) := by rw [← hW0]; simp [go_sem]
  have hlt : w.heap.size < w0.heap.size := by rw [← hW0]; simp
  clear hW0
  go_loopw [5, 10] (fun v i wr => ∃ k : Nat, k ≤ n ∧ i = .int .i64 k ∧ Grow w0.heap.size wr v (brkTo N zs n k) ∧ On w0 wr) (fun _ i _ => n - (intOf i).toNat)
  case atStart => exact ⟨0, Nat.zero_le _, rfl, Grow.nil _ _, On.refl _⟩
  case round =>
    obtain ⟨k, hk, rfl, hgr, ho⟩ := hrel
    have HG := Lib.hid hgr
    have HO := Lib.hid ho
    clear hgr
    by_cases hlt2 : k < n
    · have hlti : (k : Int) < (n : Int) := by omega
      clear ho
      go_wp2_with fail
      go_loopw [5, 7] (fun v i wq => ∃ j : Nat, k + 1 ≤ j ∧ j ≤ n ∧ i = .int .i64 j ∧ Grow w0.heap.size wq v (cur N zs n k j) ∧ On w0 wq) (fun _ i _ => n - (intOf i).toNat)
      case atStart => exact ⟨k + 1, Nat.le_refl _, hlt2, by go_num, by rw [cur_start]; exact HG.out, HO.out⟩
      case round =>
        obtain ⟨j, hj0, hj, rfl, hgr, ho⟩ := hrel
        have HG2 := Lib.hid hgr
        have HO2 := Lib.hid ho
        clear hgr
        by_cases hlt3 : j < n
        · have hji : (j : Int) < (n : Int) := by omega
          have hoo := HO0.out.trans ho
          obtain ⟨b2, o2, c2, hu, hb2, hk2⟩ := HR.out k hlt2
          obtain ⟨x, hx⟩ : ∃ x, x = zs.getD k 0 := ⟨_, rfl⟩
          obtain ⟨y, hy⟩ : ∃ y, y = zs.getD j 0 := ⟨_, rfl⟩
          obtain ⟨d, hd⟩ : ∃ d, d = at2 N.f1 k j := ⟨_, rfl⟩
          have q0 : wr.cell? ⟨w.heap.size, 1, none⟩ = some (.slice (some ⟨b1, o1, none⟩) n c1) := (ho.cell (by exact hlt)).trans k1
          have q1 : wr.cell? ⟨b1, o1 + k, none⟩ = some (.slice (some ⟨b2, o2, none⟩) n c2) := (hoo.cell (by exact hb1)).trans hu
          have q2 : wr.cell? ⟨b2, o2 + j, none⟩ = some (.int .i64 d) := (hoo.cell (by exact hb2)).trans (by rw [hd]; exact hk2 j hlt3)
          have q3 : wr.cell? ⟨b, off + k, none⟩ = some (.int .i64 x) := (hoo.cell (by exact hb)).trans (by rw [hx]; exact HC.out k hlt2)
          have q4 : wr.cell? ⟨b, off + j, none⟩ = some (.int .i64 y) := (hoo.cell (by exact hb)).trans (by rw [hy]; exact HC.out j hlt3)
          have s0 := ho.lts _ hlt
          have s1 := hoo.lts _ hb1
          have s2 := hoo.lts _ hb2
          have s3 := hoo.lts _ hb
          have bx := HB.out k hlt2
          have by_ := HB.out j hlt3
          rw [← hx] at bx
          rw [← hy] at by_
          obtain ⟨q, hq⟩ : ∃ q, q = badB N zs k j := ⟨_, rfl⟩
          have HBD := Lib.hid (show q = nearB x y d by rw [hq, hx, hy, hd]; rfl)
          have HQ := Lib.hid hq
          have HI := Lib.hid (fun w1 => impl_dif x y w1 bx by_)
          clear hx hy hd hu hk2 hq ho hoo bx by_
          have hdd := dif_near x y d
          rw [← HBD.out] at hdd
          generalize dif x y = xy at *
          cases q with
          | false =>
            have HS := Lib.hid (cur_good (n := n) HQ.out.symm)
            have hd2 : ¬ xy < d := of_decide_eq_false hdd
            clear hdd
            go_wp2_with fail
            refine wp_region_onh (by kernel_rfl) (by kernel_rfl) ?_
            repeat (refine rest_step (fun K hK => ?_); go_simp; first | (refine hK _ ?_; clear hK K) | (apply Exists.intro; refine ⟨fun v1 hv1 => ?_, hK _ ?_⟩; (first | with_reducible exact rfl | with_reducible exact ⟨rfl, rfl⟩ | with_reducible exact Calls.on_same hv1 (HI.out _) | (obtain ⟨hc, hf⟩ := bcell hv1; go_simp; first | with_reducible exact rfl | with_reducible exact ⟨rfl, rfl⟩ | exact rfl | exact ⟨rfl, rfl⟩)); clear hK K))
            refine rest_nil ?_
            intro w9 hw9
            go_wp2_with fail
            go_roundw
            case rel => exact ⟨j + 1, by omega, by omega, by go_num, by rw [HS.out]; exact HG2.out.on hw9, HO2.out.trans hw9⟩
            case measure => simp [intOf]; omega
          | true =>
            have HS := Lib.hid (cur_bad (n := n) (show k < j by omega) HQ.out.symm)
            have HLN := Lib.hid (cur_len (N := N) (zs := zs) n2 hlt2 hj)
            have hd2 : xy < d := of_decide_eq_true hdd
            clear hdd
            go_wp2_with fail
            refine wp_region_onh (by kernel_rfl) (by kernel_rfl) ?_
            repeat (refine rest_step (fun K hK => ?_); go_simp; first | (refine hK _ ?_; clear hK K) | (apply Exists.intro; refine ⟨fun v1 hv1 => ?_, hK _ ?_⟩; (first | with_reducible exact rfl | with_reducible exact ⟨rfl, rfl⟩ | with_reducible exact Calls.on_same hv1 (HI.out _) | (obtain ⟨hc, hf⟩ := bcell hv1; go_simp; first | with_reducible exact rfl | with_reducible exact ⟨rfl, rfl⟩ | exact rfl | exact ⟨rfl, rfl⟩)); clear hK K))
            refine rest_nil ?_
            intro w9 hw9
            have HO9 := Lib.hid (HO2.out.trans hw9)
            obtain ⟨us, f, g1, g2, g3, g4⟩ := HG2.out.on hw9
            have X1 := Lib.hid g1
            have X2 := Lib.hid g2
            have X3 := Lib.hid g3
            have X4 := Lib.hid g4
            have hsz := HO9.out.size
            clear g1 g2 g3 g4 hw9
            have hln := HLN.out
            go_wp2_with (at_builtin; refine wpList_append_own_at _ rfl (.tmp 39) (.tmp 43) 22 rfl w0.heap.size 32 i0 (.slice none 0 0) 1 24 Try.underlying22 hi hz0 hz1 hz2 rfl (by decide) _ (cur N zs n k j).length us rfl ((X1.out.alloc _).alloc _) ⟨w9.heap.size + 1, 0, none⟩ 1 1 [.slice (some ⟨w9.heap.size, 0, none⟩) 2 2] rfl rfl ?c1 ?c2 ?c3 ?c4 ?c5 ?_)
            case c1 => simpa using cell_one_new (w9.alloc (.cells #[.int .i64 k, .int .i64 j] 2)) (.slice (some ⟨w9.heap.size, 0, none⟩) 2 2) 32
            case c2 => intro u hu; simp at hu; subst hu; rfl
            case c3 => unfold maxLen; omega
            case c4 => omega
            case c5 => simp; omega
            intro v' w4 hown' hgrow _ hat
            have HG3 := Lib.hid (show Grow w0.heap.size w4 v' (cur N zs n k (j + 1)) by rw [HS.out]; exact Grow.snoc (z := [(k : Int), (j : Int)]) X1.out X2.out X3.out X4.out hsz hown' hgrow (by simpa using hat))
            have HO4 := Lib.hid (show On w0 w4 from Below.grown (On.alloc (On.alloc HO9.out _) _) hgrow (by simp; omega) (fun q hq => (X1.out.lt q hq).1))
            clear hown' hgrow hat hln hsz
            go_wp2
            go_roundw
            case rel => first | exact ⟨j + 1, by omega, by omega, by go_num, HG3.out, HO4.out⟩ | ((repeat apply Exists.intro); exact ⟨⟨j + 1, by omega, by omega, by go_num, HG3.out, HO4.out⟩, rfl⟩)
            case measure => simp [intOf]; omega
        · obtain rfl : j = n := by omega
          have HE2 := Lib.hid (cur_end N zs j k)
          clear ho
          go_wp2_with fail
          go_roundw
          case rel => exact ⟨k + 1, by omega, by go_num, by rw [← HE2.out]; exact HG2.out, HO2.out⟩
          case measure => simp [intOf]; omega
    · obtain rfl : k = n := by omega
      clear ho
      have hgo := HG.out
      rw [HE.out] at hgo
      obtain ⟨a', c', rfl, hox⟩ := hgo.own
      have HX := Lib.hid hox
      clear hgo hox HG
      generalize hL : (brk N zs).length = L at *
      have HLL := Lib.hid hL
      clear hL
      go_wp2_with fail
      go_ret
      have hLL := HLL.out
      subst hLL
      exact ⟨_, _, rfl, HX.out.mono HO0.out.size (Nat.le_refl _), HO0.out.trans HO.out⟩
end Go.Proofs.Ytofoffdmhekceaa.Asg
