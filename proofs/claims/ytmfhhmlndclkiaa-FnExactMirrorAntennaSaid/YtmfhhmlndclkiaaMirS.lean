
/-
  The mirrored antenna, in the model. Condition: at most 1048576 bytes and losses.
-/
import Derived.Test.YtmfhhmlndclkiaaMirP
import Derived.Test.YtmfhhmlndclkiaaTail
namespace Go.Proofs.Ytmfhhmlndclkiaa.Ant
open Go.RowKit
open Plain
open Ints (Ints Own)

def miT (b : Bool) (s : ByteArray) : ByteArray := if b = true then s else ⟨#[]⟩
def miG (b : Bool) (g : Int) : Int := if b = true then g else 0
def miL (b : Bool) (z : List Int) : List Int := if b = true then z else []
def miC (b : Bool) : Int := if b = true then 0 else 1
theorem mi_len {b : Bool} {z u : List Int} (h : z.length + u.length ≤ 1048576) : (miL b z).length + (miL b u).length ≤ 1048576 := by cases b with | true => exact h | false => exact (show ([] : List Int).length + ([] : List Int).length ≤ 1048576 by decide)
theorem mi_bd (s : ByteArray) (g : Int) (z2 z3 : List Int) : (miL (okA s g z2 z3) (mir z2)).length + (miL (okA s g z2 z3) z3).length ≤ 1048576 := by
  cases hb : okA s g z2 z3 with
  | false => exact (show ([] : List Int).length + ([] : List Int).length ≤ 1048576 by decide)
  | true =>
    have := (of_loss (of_okA hb).2.2.2).1
    show (mir z2).length + z3.length ≤ 1048576
    unfold mir
    rw [mirK_len, this]
    decide
theorem miNil (w : World) (B : Nat) : OwnR B w none 0 0 none 0 0 [] [] := ⟨rfl, rfl, Own.empty B w none 0, Own.empty B w none 0, fun h _ => absurd h (by decide)⟩
set_option maxRecDepth 100000 in
set_option maxHeartbeats 4000000 in
theorem spec_Mirror (x0 : ByteArray) (x1 : Int) (v2 v3 : Value) (z2 z3 : List Int) (w : World) (q0 : x0.size ≤ 1048576) (q2 : z2.length ≤ 1048576) (q3 : z3.length ≤ 1048576) (h2 : Ints w v2 z2) (h3 : Ints w v3 z3) :
    Calls Try.prog 31 #[.agg #[.string x0, .int .i64 x1, v2, v3]] w fun e w' => ∃ a2 c2 a3 c3, e = .returned (.tuple #[.agg #[.string (miT (okA x0 x1 z2 z3) x0), .int .i64 (miG (okA x0 x1 z2 z3) x1), .slice a2 (miL (okA x0 x1 z2 z3) (mir z2)).length c2, .slice a3 (miL (okA x0 x1 z2 z3) z3).length c3], .int .i64 (miC (okA x0 x1 z2 z3))]) ∧ OwnR w.heap.size w' a2 (miL (okA x0 x1 z2 z3) (mir z2)).length c2 a3 (miL (okA x0 x1 z2 z3) z3).length c3 (miL (okA x0 x1 z2 z3) (mir z2)) (miL (okA x0 x1 z2 z3) z3) ∧ On w w' := by
  cases hok : okA x0 x1 z2 z3 with
  | false =>
    have HK := Lib.hid (fun w' (ho : On w w') (g : Nat) (hp : In w' g x0 x1 v2 v3) => show Calls Try.prog 69 #[.pointer (some ⟨g, 0, none⟩)] w' (fun e w'' => e = .returned (.bool false) ∧ w' = w'') from by have := spec_ok g x0 x1 v2 v3 z2 z3 w' q0 q2 q3 hp (h2.below ho) (h3.below ho); rw [hok] at this; exact this)
    obtain ⟨a2, cap2, rfl, -⟩ := h2
    obtain ⟨a3, cap3, rfl, -⟩ := h3
    go_enter Try.func31, Try.ntmps31
    go_wp2_with fail
    refine (HK.out _ (On.alloc (On.alloc (On.refl _) _) _) _ ⟨by simp [go_sem], by simp [go_sem], by simp [go_sem], by simp [go_sem]⟩).mono ?_
    rintro e w' ⟨rfl, rfl⟩
    go_wp2_with fail
    refine bodyPost_ret (v := .tuple #[.agg #[.string ⟨#[]⟩, .int .i64 0, .slice none 0 0, .slice none 0 0], .int .i64 1]) (by simp [results, Try.results31, go_sem]) rfl ⟨_, _, _, _, rfl, miNil _ _, ?_⟩
    exact On.alloc (On.alloc (On.refl _) _) _
  | true =>
    have HK := Lib.hid (fun w' (ho : On w w') (g : Nat) (hp : In w' g x0 x1 v2 v3) => show Calls Try.prog 69 #[.pointer (some ⟨g, 0, none⟩)] w' (fun e w'' => e = .returned (.bool true) ∧ w' = w'') from by have := spec_ok g x0 x1 v2 v3 z2 z3 w' q0 q2 q3 hp (h2.below ho) (h3.below ho); rw [hok] at this; exact this)
    obtain ⟨l2, -, -⟩ := of_loss (of_okA hok).2.2.1
    obtain ⟨l3, -, -⟩ := of_loss (of_okA hok).2.2.2
    clear hok
    have h2' := h2
    have h3' := h3
    obtain ⟨a2, cap2, rfl, -⟩ := h2
    obtain ⟨a3, cap3, rfl, -⟩ := h3
    obtain ⟨b2, o2, rfl, hb2, hc2⟩ := slice_of h2' (by omega)
    obtain ⟨b3, o3, rfl, hb3, hc3⟩ := slice_of h3' (by omega)
    rw [l2] at hc2 HK ⊢
    rw [l3] at hc3 HK ⊢
    have HC2 := Lib.hid hc2
    have HO := Lib.hid (fun w' (ho : On w w') (g : Nat) (hp : In w' g x0 x1 (.slice (some ⟨b2, o2, none⟩) 36 cap2) (.slice (some ⟨b3, o3, none⟩) 19 cap3)) => spec_own g x0 x1 b2 o2 cap2 b3 o3 cap3 z2 z3 w' l2 l3 (ho.lts _ hb2) (ho.lts _ hb3) (fun i hi => (ho.cell (by exact hb2)).trans (hc2 i hi)) (fun i hi => (ho.cell (by exact hb3)).trans (hc3 i hi)) hp)
    simp only [miT, miG, miL, miC, if_true]
    have em : (mir z2).length = 36 := mirK_len _ _
    rw [em, l3]
    clear h2' h3' hc2 hc3
    go_enter Try.func31, Try.ntmps31
    go_wp2_with fail
    refine (HK.out _ (On.alloc (On.alloc (On.refl _) _) _) _ ⟨by simp [go_sem], by simp [go_sem], by simp [go_sem], by simp [go_sem]⟩).mono ?_
    rintro e w' ⟨rfl, rfl⟩
    go_wp2_with fail
    refine (HO.out _ (On.alloc (On.alloc (On.refl _) _) _) _ ⟨by simp [go_sem], by simp [go_sem], by simp [go_sem], by simp [go_sem]⟩).mono ?_
    rintro e w1 ⟨a, d, a', d', rfl, hown, ho1⟩
    obtain ⟨hc1, hf1⟩ := bcell ho1
    have z1 : w.heap.size + 1 < w1.heap.size := by have := ho1.size; (try simp at this); omega
    have O1 := Lib.hid (show On w w1 from On.trans (On.alloc (On.alloc (On.refl _) _) _) ho1)
    have G2 := Lib.hid (show w1.cell? ⟨w.heap.size, 2, none⟩ = some (.slice (some ⟨b2, o2, none⟩) 36 cap2) from (hc1 _ _ (by simp <;> omega)).trans (by simp [go_sem]))
    have HR := Lib.hid (show In w1 (w.heap.size + 1) ⟨#[]⟩ 0 (.slice none 0 0) (.slice none 0 0) from ⟨(hc1 _ _ (by simp)).trans (by simp [go_sem]), (hc1 _ _ (by simp)).trans (by simp [go_sem]), (hc1 _ _ (by simp)).trans (by simp [go_sem]), (hc1 _ _ (by simp)).trans (by simp [go_sem])⟩)
    have HRF := Lib.hid (show ∀ i, w1.frozen? ⟨w.heap.size + 1, i, none⟩ = false from fun i => (hf1 _ _ (by simp)).trans (by simp [go_sem]))
    have hown2 := hown
    obtain ⟨k2, k3, p2, p3, pd⟩ := hown
    have p2' := p2
    obtain ⟨aa, cc, he, hcc⟩ := p2
    simp only [Value.slice.injEq] at he
    obtain ⟨rfl, -, rfl⟩ := he
    obtain ⟨bq, oq, rfl, hBq, hltq, -, -⟩ := hcc (by omega)
    have hBq' : w.heap.size + 1 + 1 ≤ bq := by (try simp at hBq); omega
    have P2 := Lib.hid (show Own (w.heap.size + 1 + 1) w1 (.slice (some ⟨bq, oq, none⟩) 36 d) (mirK z2 1) from by rw [mirK_one l2]; exact p2'.mono (by simp))
    have P3 := Lib.hid (show Own (w.heap.size + 1 + 1) w1 (.slice a' 19 d') z3 from p3.mono (by simp))
    have PD := Lib.hid (fun q (hq : a' = some q) => pd (by decide) (by decide) ⟨bq, oq, none⟩ q rfl hq)
    clear hown2 p2' hcc hc1 hf1 ho1 p3 pd k2 k3 hBq
    have gq : w1.heap.size ≠ bq := by omega
    go_wp2_with fail
    go_loopw [5] (fun i wr => ∃ k : Nat, 1 ≤ k ∧ k ≤ 36 ∧ i = .int .i64 k ∧ In wr w1.heap.size x0 x1 (.slice (some ⟨bq, oq, none⟩) 36 d) (.slice a' 19 d') ∧ Own (w.heap.size + 1 + 1) wr (.slice (some ⟨bq, oq, none⟩) 36 d) (mirK z2 k) ∧ Own (w.heap.size + 1 + 1) wr (.slice a' 19 d') z3 ∧ wr.cell? ⟨w.heap.size, 2, none⟩ = some (.slice (some ⟨b2, o2, none⟩) 36 cap2) ∧ In wr (w.heap.size + 1) ⟨#[]⟩ 0 (.slice none 0 0) (.slice none 0 0) ∧ (∀ i, wr.frozen? ⟨w.heap.size + 1, i, none⟩ = false) ∧ On w wr) (fun i _ => 36 - (intOf i).toNat)
    case atStart =>
      have oa := On.alloc (On.refl w1) (.cells #[.string x0, .int .i64 x1, .slice (some ⟨bq, oq, none⟩) 36 d, .slice a' 19 d'] 60)
      exact ⟨1, Nat.le_refl _, by decide, rfl, ⟨by simp [go_sem], by simp [go_sem], by simp [go_sem], by simp [go_sem]⟩, P2.out.below oa, P3.out.below oa, (oa.cell (by show w.heap.size < _; omega)).trans G2.out, HR.out.on oa, fun i => (oa.frozen (p := ⟨w.heap.size + 1, i, none⟩) (by exact z1)).trans (HRF.out i), On.trans O1.out oa⟩
    case round =>
      obtain ⟨k, hk1, hk, rfl, hin, hp2, hp3, hg2, hr, hrf, hon⟩ := hrel
      have HI := Lib.hid hin
      have Q2 := Lib.hid hp2
      have Q3 := Lib.hid hp3
      have QG := Lib.hid hg2
      have QR := Lib.hid hr
      have QO := Lib.hid hon
      have QF := Lib.hid hrf
      clear hrf
      by_cases hlt : k < 36
      · have hlti : (k : Int) < 36 := by omega
        obtain ⟨i0, i1, i2, i3⟩ := hin
        have ib := World.block_lt_of_cell? wr _ i0
        have gb := World.block_lt_of_cell? wr _ hg2
        have rb := World.block_lt_of_cell? wr _ QR.out.1
        obtain ⟨j, hj⟩ : ∃ j : Nat, j = 36 - k := ⟨_, rfl⟩
        have ej : 36 - (k : Int) = (j : Int) := by omega
        have wj : IntKind.i64.wrap (36 - (k : Int)) = (j : Int) := by rw [ej]; exact IntWalk.i64_in _ (by omega)
        have wj2 : IntKind.i64.wrap (j : Int) = (j : Int) := IntWalk.i64_in _ (by omega)
        have hj36 : j < 36 := by omega
        have hji : (j : Int) < 36 := by omega
        obtain ⟨y, hy⟩ : ∃ y, y = z2.getD j 0 := ⟨_, rfl⟩
        have c1 : wr.cell? ⟨b2, o2 + j, none⟩ = some (.int .i64 y) := by rw [hy]; exact (hon.cell (by exact hb2)).trans (HC2.out j hj36)
        have cb := hon.lts _ hb2
        obtain ⟨aa, cc, he, hcc⟩ := hp2
        obtain ⟨bx, ox, hbx, -, hbl, hbf, hbc⟩ := hcc (by rw [mirK_len]; decide)
        simp only [Value.slice.injEq] at he
        obtain ⟨e1, -, -⟩ := he
        rw [← e1] at hbx
        clear e1
        simp only [Option.some.injEq, Addr.mk.injEq] at hbx
        obtain ⟨rfl, rfl, -⟩ := hbx
        have d1 := hbc k (by rw [mirK_len]; exact hlt)
        have d2 := hbf k (by rw [mirK_len]; exact hlt)
        have n0 : bq ≠ w.heap.size := by omega
        have n1 : bq ≠ w.heap.size + 1 := by omega
        have HE := Lib.hid (show ∀ i, i < 36 → (mirK z2 (k + 1)).getD i 0 = if i = k then y else (mirK z2 k).getD i 0 from fun i hi => by rw [mirK_step z2 k hk1 i hi, hy, hj])
        clear hbc hbf hcc hp3 hr hj hy hg2 hon
        have hg2 := QG.out
        go_wp2_with fail
        refine wp_region_on_tail 10 (by kernel_rfl) (by kernel_rfl) ?_
        simp only [List.take_succ_cons, List.take_zero, List.drop_succ_cons, List.drop_zero]
        repeat (refine wpQuiet_step (fun K hK => ?_); go_simp; first | (refine hK _ ?_; clear hK K) | (apply Exists.intro; refine ⟨fun v1 hv1 => ?_, hK _ ?_⟩; (first | with_reducible exact rfl | with_reducible exact ⟨rfl, rfl⟩ | (obtain ⟨hc, hf⟩ := bcell hv1; go_simp; first | with_reducible exact rfl | with_reducible exact ⟨rfl, rfl⟩ | exact rfl | exact ⟨rfl, rfl⟩)); clear hK K))
        refine wpQuiet_nil ?_
        intro w9 h9
        have D1 := (h9.cell (p := ⟨bq, oq + k, none⟩) (by exact hbl)).trans d1
        have D2 := (h9.frozen (p := ⟨bq, oq + k, none⟩) (by exact hbl)).trans d2
        have D3 := h9.lts _ hbl
        have H9 := Lib.hid h9
        clear h9 d1 d2
        go_wp2_with fail
        go_roundw
        case rel =>
          refine ⟨k + 1, by omega, by omega, by go_num, ?_, ?_, ?_, ?_, ?_, ?_, ?_⟩
          · obtain ⟨m0, m1, m2, m3⟩ := HI.out.on H9.out
            exact ⟨(World.cell?_setCell_other (h := fun e => gq (congrArg Addr.block e).symm) ..).trans m0, (World.cell?_setCell_other (h := fun e => gq (congrArg Addr.block e).symm) ..).trans m1, (World.cell?_setCell_other (h := fun e => gq (congrArg Addr.block e).symm) ..).trans m2, (World.cell?_setCell_other (h := fun e => gq (congrArg Addr.block e).symm) ..).trans m3⟩
          · exact own_set (k := k) (zs' := mirK z2 (k + 1)) (v := y) (Q2.out.below H9.out) (mirK_len _ _) (mirK_len _ _) hlt HE.out
          · exact own_other (Q3.out.below H9.out) l3 (fun _ q hq e => PD.out q hq (by exact e.symm))
          · exact (World.cell?_setCell_other (h := fun e => n0 (congrArg Addr.block e)) ..).trans ((H9.out.cell (by exact gb)).trans QG.out)
          · obtain ⟨m0, m1, m2, m3⟩ := QR.out.on H9.out
            exact ⟨(World.cell?_setCell_other (h := fun e => n1 (congrArg Addr.block e)) ..).trans m0, (World.cell?_setCell_other (h := fun e => n1 (congrArg Addr.block e)) ..).trans m1, (World.cell?_setCell_other (h := fun e => n1 (congrArg Addr.block e)) ..).trans m2, (World.cell?_setCell_other (h := fun e => n1 (congrArg Addr.block e)) ..).trans m3⟩
          · intro i; rw [World.frozen?_setCell]; exact (H9.out.frozen (p := ⟨w.heap.size + 1, i, none⟩) (by exact rb)).trans (QF.out i)
          · exact On.setCell (On.trans QO.out H9.out) (by show w.heap.size ≤ bq; omega) _
        case measure => simp [intOf]; omega
      · obtain rfl : k = 36 := by omega
        obtain ⟨d0, d1, d2, d3⟩ := hr
        clear hin hp2 hp3 hg2 hon
        obtain ⟨i0, i1, i2, i3⟩ := HI.out
        have ib := World.block_lt_of_cell? wr _ i0
        have rb := World.block_lt_of_cell? wr _ d0
        have n0 : w.heap.size + 1 ≠ bq := by omega
        have f0 := QF.out 0
        have f1 := QF.out 1
        have f2 := QF.out 2
        have f3 := QF.out 3
        go_wp2_with fail
        refine bodyPost_ret (v := .tuple #[.agg #[.string x0, .int .i64 x1, .slice (some ⟨bq, oq, none⟩) 36 d, .slice a' 19 d'], .int .i64 0]) (by simp [results, Try.results31, go_sem, d0, d1, d2, d3]) rfl ⟨_, _, _, _, rfl, OwnR.mono (B := w.heap.size + 1 + 1) ?_ (by omega), ?_⟩
        · refine ⟨em, l3, ?_, ?_, fun _ _ p q hp hq => by cases hp; exact PD.out q hq⟩
          · show Own _ _ _ (mirK z2 36)
            repeat (first | with_reducible exact Q2.out | refine Own.setCell ?_ (by show w.heap.size + 1 < w.heap.size + 1 + 1; omega) _)
          · repeat (first | with_reducible exact Q3.out | refine Own.setCell ?_ (by show w.heap.size + 1 < w.heap.size + 1 + 1; omega) _)
        · refine On.setCell ?_ (by show w.heap.size ≤ w.heap.size + 1; omega) _
          refine On.setCell ?_ (by show w.heap.size ≤ w.heap.size + 1; omega) _
          refine On.setCell ?_ (by show w.heap.size ≤ w.heap.size + 1; omega) _
          refine On.setCell ?_ (by show w.heap.size ≤ w.heap.size + 1; omega) _
          exact QO.out
end Go.Proofs.Ytmfhhmlndclkiaa.Ant
