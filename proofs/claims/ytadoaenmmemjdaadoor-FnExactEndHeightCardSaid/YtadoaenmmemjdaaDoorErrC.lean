
/-
  The code of the errors of a path's arguments, the errors of a terrain and of ends in it, the error of equal places. Condition: the program's variables of errors hold sentinels that differ.
-/
import Derived.Test.YtadoaenmmemjdaaDoorErrJ
import Derived.Test.YtadoaenmmemjdaaDoorTerrIn
import Derived.Test.YtadoaenmmemjdaaDoorEnd
namespace Go.Proofs.YtadoaenmmemjdaaDoor.Errs
open Go.RowKit
open Plain
open Ints (Ints)
open EndOk (okE)
open Terr (okT inT TIn sizeB of_okT of_size)

def codeS (S : Nat → Bool) : Int := if S 0 = true then 1 else if S 1 = true then 2 else if S 2 = true then 5 else if S 3 = true then 6 else 0
theorem code_0 {S : Nat → Bool} (h : S 0 = true) : codeS S = 1 := by simp [codeS, h]
theorem code_1 {S : Nat → Bool} (h0 : S 0 = false) (h : S 1 = true) : codeS S = 2 := by simp [codeS, h0, h]
theorem code_2 {S : Nat → Bool} (h0 : S 0 = false) (h1 : S 1 = false) (h : S 2 = true) : codeS S = 5 := by simp [codeS, h0, h1, h]
theorem code_3 {S : Nat → Bool} (h0 : S 0 = false) (h1 : S 1 = false) (h2 : S 2 = false) (h : S 3 = true) : codeS S = 6 := by simp [codeS, h0, h1, h2, h]
theorem code_4 {S : Nat → Bool} (h0 : S 0 = false) (h1 : S 1 = false) (h2 : S 2 = false) (h : S 3 = false) : codeS S = 0 := by simp [codeS, h0, h1, h2, h]
set_option maxHeartbeats 2000000 in
theorem impl_codeOf (A : Nat → Addr) (a : Option Addr) (n cap : Nat) (u : Nat → Value) (S : Nat → Nat → Bool) (w : World) (hs : Sens w A) (hn : n ≤ 1048580) (hu : Row w a n u) (hk : ∀ i, i < n → Kind A w (u i) (S i)) :
    Calls Tryd.prog 27 #[.slice a n cap] w fun e w' => e = .returned (.int .i64 (codeS fun m => anyTo (fun i => S i m) n)) ∧ On w w' := by
  have HJ := Lib.hid (join A a n cap u S w hn hu hk)
  have HS := Lib.hid hs
  clear hu hk hs
  generalize hQ : (fun m => anyTo (fun i => S i m) n) = Q at *
  clear hQ
  cases h0 : Q 0 with
  | true =>
    have en := Lib.hid (code_0 h0)
    go_enter Tryd.func27, Tryd.ntmps27
    go_wp2_with fail
    refine HJ.out.mono ?_
    rintro e w1 ⟨v, rfl, hk, ho⟩
    have HK := Lib.hid hk
    have HO := Lib.hid ho
    have s0 := (HS.out.on ho).cell 0 (by decide)
    have s1 := (HS.out.on ho).cell 1 (by decide)
    have s2 := (HS.out.on ho).cell 2 (by decide)
    have s3 := (HS.out.on ho).cell 3 (by decide)
    unfold gl E at s0 s1 s2 s3
    have I0 := Lib.hid (fun m hm => is_any A m v Q w1 hm HK.out)
    unfold E at I0
    clear hk ho
    go_wp2_with fail
    refine (I0.out 0 (by decide)).mono ?_
    rintro e w2 ⟨rfl, rfl⟩
    rw [h0]
    go_wp2_with fail
    go_ret
    exact ⟨ret_int en.out.symm, HO.out⟩
  | false =>
    cases h1 : Q 1 with
    | true =>
      have en := Lib.hid (code_1 h0 h1)
      go_enter Tryd.func27, Tryd.ntmps27
      go_wp2_with fail
      refine HJ.out.mono ?_
      rintro e w1 ⟨v, rfl, hk, ho⟩
      have HK := Lib.hid hk
      have HO := Lib.hid ho
      have s0 := (HS.out.on ho).cell 0 (by decide)
      have s1 := (HS.out.on ho).cell 1 (by decide)
      have s2 := (HS.out.on ho).cell 2 (by decide)
      have s3 := (HS.out.on ho).cell 3 (by decide)
      unfold gl E at s0 s1 s2 s3
      have I0 := Lib.hid (fun m hm => is_any A m v Q w1 hm HK.out)
      unfold E at I0
      clear hk ho
      go_wp2_with fail
      refine (I0.out 0 (by decide)).mono ?_
      rintro e w2 ⟨rfl, rfl⟩
      rw [h0]
      go_wp2_with fail
      refine (I0.out 1 (by decide)).mono ?_
      rintro e w2 ⟨rfl, rfl⟩
      rw [h1]
      go_wp2_with fail
      go_ret
      exact ⟨ret_int en.out.symm, HO.out⟩
    | false =>
      cases h2 : Q 2 with
      | true =>
        have en := Lib.hid (code_2 h0 h1 h2)
        go_enter Tryd.func27, Tryd.ntmps27
        go_wp2_with fail
        refine HJ.out.mono ?_
        rintro e w1 ⟨v, rfl, hk, ho⟩
        have HK := Lib.hid hk
        have HO := Lib.hid ho
        have s0 := (HS.out.on ho).cell 0 (by decide)
        have s1 := (HS.out.on ho).cell 1 (by decide)
        have s2 := (HS.out.on ho).cell 2 (by decide)
        have s3 := (HS.out.on ho).cell 3 (by decide)
        unfold gl E at s0 s1 s2 s3
        have I0 := Lib.hid (fun m hm => is_any A m v Q w1 hm HK.out)
        unfold E at I0
        clear hk ho
        go_wp2_with fail
        refine (I0.out 0 (by decide)).mono ?_
        rintro e w2 ⟨rfl, rfl⟩
        rw [h0]
        go_wp2_with fail
        refine (I0.out 1 (by decide)).mono ?_
        rintro e w2 ⟨rfl, rfl⟩
        rw [h1]
        go_wp2_with fail
        refine (I0.out 2 (by decide)).mono ?_
        rintro e w2 ⟨rfl, rfl⟩
        rw [h2]
        go_wp2_with fail
        go_ret
        exact ⟨ret_int en.out.symm, HO.out⟩
      | false =>
        cases h3 : Q 3 with
        | true =>
          have en := Lib.hid (code_3 h0 h1 h2 h3)
          go_enter Tryd.func27, Tryd.ntmps27
          go_wp2_with fail
          refine HJ.out.mono ?_
          rintro e w1 ⟨v, rfl, hk, ho⟩
          have HK := Lib.hid hk
          have HO := Lib.hid ho
          have s0 := (HS.out.on ho).cell 0 (by decide)
          have s1 := (HS.out.on ho).cell 1 (by decide)
          have s2 := (HS.out.on ho).cell 2 (by decide)
          have s3 := (HS.out.on ho).cell 3 (by decide)
          unfold gl E at s0 s1 s2 s3
          have I0 := Lib.hid (fun m hm => is_any A m v Q w1 hm HK.out)
          unfold E at I0
          clear hk ho
          go_wp2_with fail
          refine (I0.out 0 (by decide)).mono ?_
          rintro e w2 ⟨rfl, rfl⟩
          rw [h0]
          go_wp2_with fail
          refine (I0.out 1 (by decide)).mono ?_
          rintro e w2 ⟨rfl, rfl⟩
          rw [h1]
          go_wp2_with fail
          refine (I0.out 2 (by decide)).mono ?_
          rintro e w2 ⟨rfl, rfl⟩
          rw [h2]
          go_wp2_with fail
          refine (I0.out 3 (by decide)).mono ?_
          rintro e w2 ⟨rfl, rfl⟩
          rw [h3]
          go_wp2_with fail
          go_ret
          exact ⟨ret_int en.out.symm, HO.out⟩
        | false =>
          have en := Lib.hid (code_4 h0 h1 h2 h3)
          go_enter Tryd.func27, Tryd.ntmps27
          go_wp2_with fail
          refine HJ.out.mono ?_
          rintro e w1 ⟨v, rfl, hk, ho⟩
          have HK := Lib.hid hk
          have HO := Lib.hid ho
          have s0 := (HS.out.on ho).cell 0 (by decide)
          have s1 := (HS.out.on ho).cell 1 (by decide)
          have s2 := (HS.out.on ho).cell 2 (by decide)
          have s3 := (HS.out.on ho).cell 3 (by decide)
          unfold gl E at s0 s1 s2 s3
          have I0 := Lib.hid (fun m hm => is_any A m v Q w1 hm HK.out)
          unfold E at I0
          clear hk ho
          go_wp2_with fail
          refine (I0.out 0 (by decide)).mono ?_
          rintro e w2 ⟨rfl, rfl⟩
          rw [h0]
          go_wp2_with fail
          refine (I0.out 1 (by decide)).mono ?_
          rintro e w2 ⟨rfl, rfl⟩
          rw [h1]
          go_wp2_with fail
          refine (I0.out 2 (by decide)).mono ?_
          rintro e w2 ⟨rfl, rfl⟩
          rw [h2]
          go_wp2_with fail
          refine (I0.out 3 (by decide)).mono ?_
          rintro e w2 ⟨rfl, rfl⟩
          rw [h3]
          go_wp2_with fail
          go_ret
          exact ⟨ret_int en.out.symm, HO.out⟩
/-- A slice of ends reads as z says. -/
def Ends (w : World) (a : Option Addr) (n : Nat) (z : Nat → Int × Int × Int) : Prop :=
  0 < n → ∃ b off, a = some ⟨b, off, none⟩ ∧ b < w.heap.size ∧ ∀ i, i < n → w.cell? ⟨b, off + i * 3, none⟩ = some (.int .i64 (z i).1) ∧ w.cell? ⟨b, off + i * 3 + 1, none⟩ = some (.int .i64 (z i).2.1) ∧ w.cell? ⟨b, off + i * 3 + 2, none⟩ = some (.int .i64 (z i).2.2)
theorem Ends.on {w w' : World} {a : Option Addr} {n : Nat} {z : Nat → Int × Int × Int} (h : Ends w a n z) (ho : On w w') : Ends w' a n z := fun h0 => by
  obtain ⟨b, off, ha, hb, hc⟩ := h h0
  exact ⟨b, off, ha, ho.lts _ hb, fun i hi => ⟨(ho.cell (by exact hb)).trans (hc i hi).1, (ho.cell (by exact hb)).trans (hc i hi).2.1, (ho.cell (by exact hb)).trans (hc i hi).2.2⟩⟩
/-- The fault of an end in a terrain of these measures. -/
def faultOf (s x y : Int) (e : Int × Int × Int) : Option Nat := if okE e.1 e.2.1 e.2.2 = false then some 0 else if inT s x y e.1 e.2.1 = false then some 1 else none
def endS (s x y : Int) (e : Int × Int × Int) (m : Nat) : Bool := faultOf s x y e == some m
def fl (s x y : Int) (z : Nat → Int × Int × Int) : Nat → List Nat
  | 0 => []
  | k + 1 => match faultOf s x y (z k) with
    | none => fl s x y z k
    | some c => fl s x y z k ++ [c]
theorem fl_none {s x y : Int} {z : Nat → Int × Int × Int} {k : Nat} (h : faultOf s x y (z k) = none) : fl s x y z (k + 1) = fl s x y z k := by simp [fl, h]
theorem fl_some {s x y : Int} {z : Nat → Int × Int × Int} {k c : Nat} (h : faultOf s x y (z k) = some c) : fl s x y z (k + 1) = fl s x y z k ++ [c] := by simp [fl, h]
theorem fl_len (s x y : Int) (z : Nat → Int × Int × Int) : ∀ k, (fl s x y z k).length ≤ k
  | 0 => Nat.le_refl _
  | k + 1 => by
    have := fl_len s x y z k
    cases h : faultOf s x y (z k) with
    | none => rw [fl_none h]; omega
    | some c => rw [fl_some h, List.length_append]; simp; omega
theorem fl_mem (s x y : Int) (z : Nat → Int × Int × Int) (m : Nat) : ∀ k, m ∈ fl s x y z k ↔ ∃ i, i < k ∧ endS s x y (z i) m = true
  | 0 => by simp [fl]
  | k + 1 => by
    cases h : faultOf s x y (z k) with
    | none =>
      rw [fl_none h, fl_mem s x y z m k]
      constructor
      · rintro ⟨i, a, b⟩; exact ⟨i, by omega, b⟩
      · rintro ⟨i, a, b⟩
        by_cases g : i = k
        · subst g; unfold endS at b; rw [h] at b; simp at b
        · exact ⟨i, by omega, b⟩
    | some c =>
      rw [fl_some h, List.mem_append, fl_mem s x y z m k, List.mem_singleton]
      constructor
      · rintro (⟨i, a, b⟩ | rfl)
        · exact ⟨i, by omega, b⟩
        · exact ⟨k, by omega, by unfold endS; rw [h]; simp⟩
      · rintro ⟨i, a, b⟩
        by_cases g : i = k
        · subst g; unfold endS at b; rw [h] at b; simp at b; exact .inr b.symm
        · exact .inl ⟨i, by omega, b⟩
theorem fl_lt (s x y : Int) (z : Nat → Int × Int × Int) (k m : Nat) (h : m ∈ fl s x y z k) : m < 4 := by
  obtain ⟨i, _, hb⟩ := (fl_mem s x y z m k).1 h
  unfold endS faultOf at hb
  split at hb
  · simp at hb; omega
  · split at hb
    · simp at hb; omega
    · simp at hb
theorem any_fl (s x y : Int) (z : Nat → Int × Int × Int) (n m : Nat) : anyTo (fun i => (fl s x y z n).getD i 0 == m) (fl s x y z n).length = anyTo (fun i => endS s x y (z i) m) n := by
  cases h : anyTo (fun i => endS s x y (z i) m) n with
  | true =>
    obtain ⟨i, hi, hb⟩ := anyTo_some h
    obtain ⟨q, hq, he⟩ := List.getElem_of_mem ((fl_mem s x y z m n).2 ⟨i, hi, hb⟩)
    exact anyTo_at hq (by show ((fl s x y z n).getD q 0 == m) = true; rw [show (fl s x y z n).getD q 0 = (fl s x y z n)[q] by simp [hq], he]; simp)
  | false =>
    refine anyTo_none fun q hq => ?_
    have hm : (fl s x y z n)[q] ∈ fl s x y z n := List.getElem_mem hq
    obtain ⟨i, hi, hb⟩ := (fl_mem s x y z _ n).1 hm
    rw [show (fl s x y z n).getD q 0 = (fl s x y z n)[q] by simp [hq]]
    refine beq_eq_false_iff_ne.2 fun g => ?_
    rw [g] at hb
    rw [anyTo_at hi hb] at h
    cases h
def endsS (s x y : Int) (zs cs : List Int) (z : Nat → Int × Int × Int) (n m : Nat) : Bool := if okT s x y zs cs = false then 0 == m else anyTo (fun i => endS s x y (z i) m) n
theorem ends_bad {s x y : Int} {zs cs : List Int} (z : Nat → Int × Int × Int) (n : Nat) (h : okT s x y zs cs = false) : endsS s x y zs cs z n = fun m => 0 == m := by funext m; simp [endsS, h]
theorem ends_ok {s x y : Int} {zs cs : List Int} (z : Nat → Int × Int × Int) (n : Nat) (h : okT s x y zs cs = true) : endsS s x y zs cs z n = fun m => anyTo (fun i => endS s x y (z i) m) n := by funext m; simp [endsS, h]
def cellsF (A : Nat → Addr) (l : List Nat) : List Value := l.map fun c => E (A c)
theorem infoE0 : (Tryd.prog.info? 59).map (fun i => (i.zero, i.size, i.bytes)) = some (some .nilIface, 1, 16) := by kernel_rfl
theorem own_below {w w' : World} {B e n : Nat} {v : Value} {xs : List Value} (h : w.ownsRow B e 1 v n xs) (ho : On w w') : w'.ownsRow B e 1 v n xs := by
  refine ⟨h.1, ?_⟩
  rcases h.2 with h | ⟨g, cap, cur, rfl, hb, hg, hr⟩
  · exact .inl h
  · exact .inr ⟨g, cap, cur, rfl, hb, (ho.block g (heap_lt hg)).trans hg, hr⟩
theorem own_row {w : World} {B : Nat} {A : Nat → Addr} {v : Value} {l : List Nat} (h : w.ownsRow B 59 1 v l.length (cellsF A l)) : ∃ a c, v = .slice a l.length c ∧ Row w a l.length (fun i => E (A (l.getD i 0))) := by
  have hlt := h.lt
  have hc := fun g (hg : v.ownBlock = some g) => h.cells hg
  obtain ⟨_, ⟨rfl, h2⟩ | ⟨g, cap, cur, rfl, hB, _⟩⟩ := h
  · exact ⟨none, 0, by rw [h2], fun h0 => by omega⟩
  · refine ⟨_, cap, rfl, fun _ => ⟨g, 0, rfl, (hlt g rfl).2, fun j hj => ?_⟩⟩
    have := hc g rfl j (E (A (l.getD j 0))) (by simp [cellsF, hj])
    have e : (⟨g, 0, none⟩ : Addr).add j = ⟨g, 0 + j, none⟩ := by cases j <;> simp [Addr.add]
    rw [e] at this
    exact this
set_option maxRecDepth 100000 in
set_option maxHeartbeats 4000000 in
theorem impl_checkEnds (A : Nat → Addr) (s x y : Int) (a b : Option Addr) (n cap m dap : Nat) (zs cs : List Int) (ea : Option Addr) (en ecap : Nat) (z : Nat → Int × Int × Int) (w : World) (hs : Sens w A) (hzn : zs.length = n) (hcm : cs.length = m) (hn : n ≤ 1048576) (hm : m ≤ 1048576) (h : Ints w (.slice a n cap) zs) (k : Ints w (.slice b m dap) cs)
    (hen : en ≤ 1048577) (he : Ends w ea en z) :
    Calls Tryd.prog 28 #[.agg #[.int .i64 s, .int .i64 x, .int .i64 y, .slice a n cap, .slice b m dap], .slice ea en ecap] w fun e w' => ∃ v, e = .returned v ∧ Kind A w' v (endsS s x y zs cs z en) ∧ On w w' := by
  have HV := Lib.hid (fun w' (ho : On w w') => Terr.impl_validT s x y a b n cap m dap zs cs w' hzn hcm hn hm (h.below ho) (k.below ho))
  have HS := Lib.hid hs
  have HE0 := Lib.hid he
  clear h k hs he
  cases hv : okT s x y zs cs with
  | false =>
    rw [ends_bad z en hv]
    rw [hv] at HV
    clear hv
    go_enter Tryd.func28, Tryd.ntmps28
    go_wp2_with fail
    refine (HV.out _ (by repeat (first | with_reducible exact On.refl _ | apply On.alloc))).mono ?_
    rintro e w1 ⟨rfl, h1⟩
    have HO1 := Lib.hid (show On w w1 by refine On.trans ?_ h1; repeat (first | with_reducible exact On.refl _ | apply On.alloc))
    have gs := (HS.out.on HO1.out).cell 0 (by decide)
    have HL := Lib.hid (kind_leaf (HS.out.on HO1.out) (k := 0) (by decide))
    unfold gl E at gs
    unfold E at HL
    clear h1
    go_wp2_with fail
    go_ret
    exact ⟨_, rfl, HL.out, HO1.out⟩
  | true =>
    obtain ⟨q1, q2, q3, q4⟩ := of_okT hv
    obtain ⟨⟨s0, s1⟩, ⟨x0, x1⟩, ⟨y0, y1⟩, r0, r1⟩ := of_size q1
    rw [ends_ok z en hv]
    rw [hv] at HV
    have HGI := Lib.hid (fun w' px py => Terr.impl_contains s x y px py w' s0 s1 x0 x1 y0 y1)
    have HGR := Lib.hid (fun w' => Terr.impl_grid s x y a b n cap m dap w')
    obtain ⟨i0, hi, hz0, hz1, hz2⟩ := info_parts infoE0
    have HL := Lib.hid (fl_len s x y z)
    clear hv q1 q2 q3 q4 r0 r1
    go_enter Tryd.func28, Tryd.ntmps28
    go_wp2_with fail
    refine (HV.out _ (by repeat (first | with_reducible exact On.refl _ | apply On.alloc))).mono ?_
    rintro e w1 ⟨rfl, h1⟩
    have HO1 := Lib.hid (show On w w1 by refine On.trans ?_ h1; repeat (first | with_reducible exact On.refl _ | apply On.alloc))
    obtain ⟨W0, hW0⟩ : ∃ W0, W0 = w.heap.size + 1 := ⟨_, rfl⟩
    have hsz1 : W0 ≤ w1.heap.size := by have := h1.size; simp at this; omega
    have HT := Lib.hid (show TIn w1 w.heap.size s x y (.slice a n cap) (.slice b m dap) from TIn.on ⟨by simp [go_sem], by simp [go_sem], by simp [go_sem], by simp [go_sem], by simp [go_sem]⟩ h1)
    have hlW : w.heap.size < W0 := by omega
    have HTB := Lib.hid (fun w' (hb : Below W0 w1 w') => show TIn w' w.heap.size s x y (.slice a n cap) (.slice b m dap) from
      ⟨(hb.cell (p := ⟨w.heap.size, 0, none⟩) hlW).trans HT.out.1, (hb.cell (p := ⟨w.heap.size, 1, none⟩) hlW).trans HT.out.2.1, (hb.cell (p := ⟨w.heap.size, 2, none⟩) hlW).trans HT.out.2.2.1, (hb.cell (p := ⟨w.heap.size, 3, none⟩) hlW).trans HT.out.2.2.2.1, (hb.cell (p := ⟨w.heap.size, 4, none⟩) hlW).trans HT.out.2.2.2.2⟩)
    have HOB := Lib.hid (fun w' (hb : Below W0 w1 w') => show On w w' from Below.trans HO1.out (hb.mono (Nat.le_of_lt hlW)))
    have HW0 := Lib.hid hW0
    clear h1 hW0
    go_wp2_with fail
    go_loopw [5, 14] (fun v i wr => ∃ k : Nat, k ≤ en ∧ i = .int .i64 k ∧ wr.ownsRow W0 59 1 v (fl s x y z k).length (cellsF A (fl s x y z k)) ∧ Below W0 w1 wr) (fun _ i _ => en - (intOf i).toNat)
    case atStart => exact ⟨0, Nat.zero_le _, rfl, World.ownsRow_nil _ _ _ _, Below.refl _ _⟩
    case round =>
      obtain ⟨k, hk, rfl, hown, hw⟩ := hrel
      have HO := Lib.hid hown
      have HB := Lib.hid hw
      have HW := Lib.hid (HOB.out _ hw)
      have hszr : W0 ≤ wr.heap.size := Nat.le_trans hsz1 hw.size
      have hkl := HL.out k
      clear hown hw
      by_cases hlt : k < en
      · have hlti : (k : Int) < (en : Int) := by omega
        obtain ⟨eb, eo, rfl, heb, hec⟩ := HE0.out (by omega)
        obtain ⟨c0, c1, c2⟩ := hec k hlt
        have d0 := (HW.out.cell (p := ⟨eb, eo + k * 3, none⟩) (by exact heb)).trans c0
        have d1 := (HW.out.cell (p := ⟨eb, eo + k * 3 + 1, none⟩) (by exact heb)).trans c1
        have d2 := (HW.out.cell (p := ⟨eb, eo + k * 3 + 2, none⟩) (by exact heb)).trans c2
        have hebr := HW.out.lts _ heb
        obtain ⟨t, ht⟩ : ∃ t, t = z k := ⟨_, rfl⟩
        rw [← ht] at d0 d1 d2
        obtain ⟨ex, ey, eh⟩ := t
        clear c0 c1 c2 hec
        have HP := Lib.hid (fun w => EndOk.impl_ValidEnd ex ey eh w)
        cases hok : okE ex ey eh with
        | false =>
          have hflt : faultOf s x y (z k) = some 0 := by rw [← ht]; unfold faultOf; rw [hok]; rfl
          rw [hok] at HP
          clear ht hok
          go_wp2_with fail
          refine (HP.out _).mono ?_
          rintro e w2 ⟨rfl, h2⟩
          have HB1 := Lib.hid (show Below W0 w1 w2 from Below.trans (Below.alloc HB.out hszr _) (Below.mono h2 (by simp; omega)))
          have HO1' := Lib.hid (own_below (HO.out.alloc _) h2)
          clear h2
          have HE := Lib.hid (fl_some hflt)
          have HE2 := Lib.hid (show cellsF A (fl s x y z k ++ [0]) = cellsF A (fl s x y z k) ++ [.iface 129 (.pointer (some (A 0)))] by unfold cellsF; rw [List.map_append]; rfl)
          have gs := (HS.out.on (HOB.out _ HB1.out)).cell 0 (by decide)
          unfold gl E at gs
          have hszb := HB1.out.size
          clear hflt
          go_wp2_with (at_builtin; refine wpList_append_own _ rfl (.tmp 21) (.tmp 23) 73 rfl W0 59 i0 .nilIface 1 16 Tryd.underlying73 hi hz0 hz1 hz2 rfl (by decide) _ (fl s x y z k).length _ rfl (HO1'.out.alloc _) ⟨_, 0, none⟩ 1 1 [.iface 129 (.pointer (some (A 0)))] rfl rfl ?c1 ?c2 ?c3 ?c4 ?c5 ?_)
          case c1 =>
            intro j y hj
            match j, hj with
            | 0, hj => simp at hj; subst hj; simp [Addr.add]
          case c2 => intro y hy; simp at hy; subst hy; rfl
          case c3 => unfold maxLen; omega
          case c4 => omega
          case c5 => simp; omega
          intro v' w4 hown' hgrow _
          have HB4 := Lib.hid (show Below W0 w1 w4 from Below.grown (Below.alloc HB1.out (by omega) _) hgrow (by simp; omega) (fun k hk => (HO1'.out.lt k hk).1))
          have HO4 := Lib.hid hown'
          obtain ⟨ao, n', cap', rfl⟩ : ∃ ao n' cap', v' = .slice ao n' cap' := by
            rcases hown'.2 with ⟨hv, _⟩ | ⟨g, cap, cur, hv, _⟩
            · exact ⟨_, _, _, hv⟩
            · exact ⟨_, _, _, hv⟩
          clear hown' hgrow
          go_wp2
          go_roundw
          case rel =>
            refine ⟨k + 1, by omega, by go_num, ?_, HB4.out⟩
            rw [HE.out, HE2.out, List.length_append]
            exact HO4.out
          case measure => simp [intOf]; omega
        | true =>
          rw [hok] at HP
          cases hin : inT s x y ex ey with
          | false =>
            have hflt : faultOf s x y (z k) = some 1 := by rw [← ht]; unfold faultOf; rw [hok, hin]; rfl
            have HC := Lib.hid (fun w' => HGI.out w' ex ey)
            rw [hin] at HC
            clear ht hok hin
            go_wp2_with fail
            refine (HP.out _).mono ?_
            rintro e w2 ⟨rfl, h2⟩
            have HB1 := Lib.hid (show Below W0 w1 w2 from Below.trans (Below.alloc HB.out hszr _) (Below.mono h2 (by simp; omega)))
            have HO1' := Lib.hid (own_below (HO.out.alloc _) h2)
            obtain ⟨hc2, hf2⟩ := bcell h2
            have z2 : wr.heap.size < w2.heap.size := by have := h2.size; simp at this; omega
            have e0 : w2.cell? ⟨wr.heap.size, 0, none⟩ = some (.int .i64 ex) := by rw [hc2 wr.heap.size 0 (by simp)]; simp [go_sem]
            have e1 : w2.cell? ⟨wr.heap.size, 1, none⟩ = some (.int .i64 ey) := by rw [hc2 wr.heap.size 1 (by simp)]; simp [go_sem]
            obtain ⟨t0, t1, t2, t3, t4⟩ := HTB.out _ HB1.out
            have z3 := World.block_lt_of_cell? w2 _ t0
            clear h2 hc2 hf2
            go_wp2_with fail
            refine wp_region_onh (by kernel_rfl) (by kernel_rfl) ?_
            repeat (refine rest_step (fun K hK => ?_); go_simp; first | (refine hK _ ?_; clear hK K) | (apply Exists.intro; refine ⟨fun v1 hv1 => ?_, hK _ ?_⟩; (first | with_reducible exact rfl | with_reducible exact ⟨rfl, rfl⟩ | with_reducible exact Calls.on hv1 (HGR.out _) | with_reducible exact Calls.on hv1 (HC.out _) | (obtain ⟨hc, hf⟩ := bcell hv1; go_simp; first | with_reducible exact rfl | with_reducible exact ⟨rfl, rfl⟩ | exact rfl | exact ⟨rfl, rfl⟩)); clear hK K))
            refine rest_nil ?_
            intro w3 h3
            have HB2 := Lib.hid (show Below W0 w1 w3 from Below.trans HB1.out (Below.mono h3 (by have := HB1.out.size; omega)))
            have HO2 := Lib.hid (own_below HO1'.out h3)
            clear h3 t0 t1 t2 t3 t4 e0 e1
            have HE := Lib.hid (fl_some hflt)
            have HE2 := Lib.hid (show cellsF A (fl s x y z k ++ [1]) = cellsF A (fl s x y z k) ++ [.iface 129 (.pointer (some (A 1)))] by unfold cellsF; rw [List.map_append]; rfl)
            have gs := (HS.out.on (HOB.out _ HB2.out)).cell 1 (by decide)
            unfold gl E at gs
            have hszb := HB2.out.size
            clear hflt
            go_wp2_with (at_builtin; refine wpList_append_own _ rfl (.tmp 31) (.tmp 33) 73 rfl W0 59 i0 .nilIface 1 16 Tryd.underlying73 hi hz0 hz1 hz2 rfl (by decide) _ (fl s x y z k).length _ rfl (HO2.out.alloc _) ⟨_, 0, none⟩ 1 1 [.iface 129 (.pointer (some (A 1)))] rfl rfl ?c1 ?c2 ?c3 ?c4 ?c5 ?_)
            case c1 =>
              intro j y hj
              match j, hj with
              | 0, hj => simp at hj; subst hj; simp [Addr.add]
            case c2 => intro y hy; simp at hy; subst hy; rfl
            case c3 => unfold maxLen; omega
            case c4 => omega
            case c5 => simp; omega
            intro v' w4 hown' hgrow _
            have HB4 := Lib.hid (show Below W0 w1 w4 from Below.grown (Below.alloc HB2.out (by omega) _) hgrow (by simp; omega) (fun k hk => (HO2.out.lt k hk).1))
            have HO4 := Lib.hid hown'
            obtain ⟨ao, n', cap', rfl⟩ : ∃ ao n' cap', v' = .slice ao n' cap' := by
              rcases hown'.2 with ⟨hv, _⟩ | ⟨g, cap, cur, hv, _⟩
              · exact ⟨_, _, _, hv⟩
              · exact ⟨_, _, _, hv⟩
            clear hown' hgrow
            go_wp2
            go_roundw
            case rel =>
              refine ⟨k + 1, by omega, by go_num, ?_, HB4.out⟩
              rw [HE.out, HE2.out, List.length_append]
              exact HO4.out
            case measure => simp [intOf]; omega
          | true =>
            have HE := Lib.hid (fl_none (show faultOf s x y (z k) = none by rw [← ht]; unfold faultOf; rw [hok, hin]; rfl))
            have HC := Lib.hid (fun w' => HGI.out w' ex ey)
            rw [hin] at HC
            clear ht hok hin
            go_wp2_with fail
            refine (HP.out _).mono ?_
            rintro e w2 ⟨rfl, h2⟩
            have HB1 := Lib.hid (show Below W0 w1 w2 from Below.trans (Below.alloc HB.out hszr _) (Below.mono h2 (by simp; omega)))
            have HO1' := Lib.hid (own_below (HO.out.alloc _) h2)
            obtain ⟨hc2, hf2⟩ := bcell h2
            have z2 : wr.heap.size < w2.heap.size := by have := h2.size; simp at this; omega
            have e0 : w2.cell? ⟨wr.heap.size, 0, none⟩ = some (.int .i64 ex) := by rw [hc2 wr.heap.size 0 (by simp)]; simp [go_sem]
            have e1 : w2.cell? ⟨wr.heap.size, 1, none⟩ = some (.int .i64 ey) := by rw [hc2 wr.heap.size 1 (by simp)]; simp [go_sem]
            obtain ⟨t0, t1, t2, t3, t4⟩ := HTB.out _ HB1.out
            have z3 := World.block_lt_of_cell? w2 _ t0
            clear h2 hc2 hf2
            go_wp2_with fail
            refine wp_region_onh (by kernel_rfl) (by kernel_rfl) ?_
            repeat (refine rest_step (fun K hK => ?_); go_simp; first | (refine hK _ ?_; clear hK K) | (apply Exists.intro; refine ⟨fun v1 hv1 => ?_, hK _ ?_⟩; (first | with_reducible exact rfl | with_reducible exact ⟨rfl, rfl⟩ | with_reducible exact Calls.on hv1 (HGR.out _) | with_reducible exact Calls.on hv1 (HC.out _) | (obtain ⟨hc, hf⟩ := bcell hv1; go_simp; first | with_reducible exact rfl | with_reducible exact ⟨rfl, rfl⟩ | exact rfl | exact ⟨rfl, rfl⟩)); clear hK K))
            refine rest_nil ?_
            intro w3 h3
            have HB2 := Lib.hid (show Below W0 w1 w3 from Below.trans HB1.out (Below.mono h3 (by have := HB1.out.size; omega)))
            have HO2 := Lib.hid (own_below HO1'.out h3)
            clear h3 t0 t1 t2 t3 t4 e0 e1
            go_wp2_with fail
            go_roundw
            case rel => exact ⟨k + 1, by omega, by go_num, by rw [HE.out]; exact HO2.out, HB2.out⟩
            case measure => simp [intOf]; omega
      · obtain rfl : k = en := by omega
        obtain ⟨fa, fc, rfl, hrow⟩ := own_row HO.out
        have HJ := Lib.hid (join A fa _ fc _ (fun i m => (fl s x y z k).getD i 0 == m) wr (by omega) hrow (fun i hi => kind_leaf (HS.out.on HW.out) (fl_lt s x y z k _ (by rw [show (fl s x y z k).getD i 0 = (fl s x y z k)[i] by simp [hi]]; exact List.getElem_mem hi))))
        clear hrow
        go_wp2_with fail
        refine HJ.out.mono ?_
        rintro e w2 ⟨v2, rfl, hk2, ho2⟩
        have HK2 := Lib.hid hk2
        have HO2 := Lib.hid ho2
        clear hk2 ho2
        go_wp2_with fail
        go_ret
        refine ⟨_, rfl, ?_, On.trans HW.out HO2.out⟩
        have e := funext (fun m => any_fl s x y z k m)
        have := HK2.out
        rw [e] at this
        exact this
/-- Whether one of n ends is at a place. -/
def apartS (px py : Int) (z : Nat → Int × Int × Int) (n m : Nat) : Bool := anyTo (fun i => decide ((z i).1 = px ∧ (z i).2.1 = py)) n && (3 == m)
set_option maxHeartbeats 2000000 in
theorem impl_checkApart (A : Nat → Addr) (px py ph : Int) (ea : Option Addr) (en ecap : Nat) (z : Nat → Int × Int × Int) (w : World) (hs : Sens w A) (hen : en ≤ 1048577) (he : Ends w ea en z) :
    Calls Tryd.prog 33 #[.agg #[.int .i64 px, .int .i64 py, .int .i64 ph], .slice ea en ecap] w fun e w' => ∃ v, e = .returned v ∧ Kind A w' v (apartS px py z en) ∧ On w w' := by
  have HS := Lib.hid hs
  have HE0 := Lib.hid he
  clear hs he
  go_enter Tryd.func33, Tryd.ntmps33
  go_wp2_with fail
  go_loopw [9] (fun i wr => ∃ k : Nat, k ≤ en ∧ i = .int .i64 k ∧ (∀ q, q < k → decide ((z q).1 = px ∧ (z q).2.1 = py) = false) ∧ On (w.alloc (.cells #[.int .i64 px, .int .i64 py, .int .i64 ph] 36)) wr) (fun i _ => en - (intOf i).toNat)
  case atStart => exact ⟨0, Nat.zero_le _, rfl, fun q h => by omega, On.refl _⟩
  case round =>
    obtain ⟨k, hk, rfl, hall, ho⟩ := hrel
    have HA := Lib.hid hall
    have HO := Lib.hid ho
    have HW := Lib.hid (show On w wr from On.trans (On.alloc (On.refl _) _) ho)
    obtain ⟨hc, hf⟩ := bcell ho
    have zw : w.heap.size < wr.heap.size := by have := ho.size; simp at this; omega
    have p0 : wr.cell? ⟨w.heap.size, 0, none⟩ = some (.int .i64 px) := by rw [hc w.heap.size 0 (by simp)]; simp [go_sem]
    have p1 : wr.cell? ⟨w.heap.size, 1, none⟩ = some (.int .i64 py) := by rw [hc w.heap.size 1 (by simp)]; simp [go_sem]
    clear hall ho hc hf
    by_cases hlt : k < en
    · have hlti : (k : Int) < (en : Int) := by omega
      obtain ⟨eb, eo, rfl, heb, hec⟩ := HE0.out (by omega)
      obtain ⟨c0, c1, c2⟩ := hec k hlt
      have d0 := (HW.out.cell (p := ⟨eb, eo + k * 3, none⟩) (by exact heb)).trans c0
      have d1 := (HW.out.cell (p := ⟨eb, eo + k * 3 + 1, none⟩) (by exact heb)).trans c1
      have d2 := (HW.out.cell (p := ⟨eb, eo + k * 3 + 2, none⟩) (by exact heb)).trans c2
      have hebr := HW.out.lts _ heb
      obtain ⟨t, ht⟩ : ∃ t, t = z k := ⟨_, rfl⟩
      rw [← ht] at d0 d1 d2
      obtain ⟨ex, ey, eh⟩ := t
      clear c0 c1 c2 hec
      by_cases hx : ex = px
      · by_cases hy : ey = py
        · have en' := Lib.hid (show apartS px py z en = fun m => 3 == m by
            funext m
            unfold apartS
            rw [anyTo_at hlt (show decide ((z k).1 = px ∧ (z k).2.1 = py) = true by rw [← ht]; exact decide_eq_true ⟨hx, hy⟩), Bool.true_and])
          have gs := (HS.out.on HW.out).cell 3 (by decide)
          have HL := Lib.hid (kind_leaf (HS.out.on (On.alloc HW.out (.cells #[.int .i64 ex, .int .i64 ey, .int .i64 eh] 36))) (k := 3) (by decide))
          unfold gl E at gs
          unfold E at HL
          have gz := World.block_lt_of_cell? wr _ gs
          simp only [] at gz
          subst hx hy
          clear ht
          go_wp2_with fail
          go_ret
          exact ⟨_, rfl, by rw [en'.out]; exact HL.out, On.alloc HW.out _⟩
        · have hyb : (ey == py) = false := beq_eq_false_iff_ne.2 hy
          have HN := Lib.hid (show ∀ q, q < k + 1 → decide ((z q).1 = px ∧ (z q).2.1 = py) = false from fun q hq => by
            by_cases g : q = k
            · subst g; rw [← ht]; exact decide_eq_false fun h => hy h.2
            · exact HA.out q (by omega))
          subst hx
          clear ht
          go_wp2_with fail
          go_roundw
          case rel => exact ⟨k + 1, by omega, by go_num, HN.out, On.alloc HO.out _⟩
          case measure => simp [intOf]; omega
      · have hxb : (ex == px) = false := beq_eq_false_iff_ne.2 hx
        have HN := Lib.hid (show ∀ q, q < k + 1 → decide ((z q).1 = px ∧ (z q).2.1 = py) = false from fun q hq => by
          by_cases g : q = k
          · subst g; rw [← ht]; exact decide_eq_false fun h => hx h.1
          · exact HA.out q (by omega))
        clear ht
        go_wp2_with fail
        go_roundw
        case rel => exact ⟨k + 1, by omega, by go_num, HN.out, On.alloc HO.out _⟩
        case measure => simp [intOf]; omega
    · obtain rfl : k = en := by omega
      have en' := Lib.hid (show apartS px py z k = fun _ => false by
        funext m
        unfold apartS
        rw [anyTo_none HA.out, Bool.false_and])
      go_wp2_with fail
      go_ret
      exact ⟨_, rfl, by rw [en'.out]; exact kind_nil A _, HW.out⟩
end Go.Proofs.YtadoaenmmemjdaaDoor.Errs
