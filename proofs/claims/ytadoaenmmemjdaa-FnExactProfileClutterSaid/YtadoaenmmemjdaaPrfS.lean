
/-
  The values of the ground between two points, in the model. Conditions: each theorem's own.
-/
import Derived.Test.YtadoaenmmemjdaaPrf0
import Derived.Test.YtadoaenmmemjdaaTerrClut
import Derived.Test.YtadoaenmmemjdaaTerrHS
namespace Go.Proofs.Ytadoaenmmemjdaa.Prf
open Go.RowKit
open Plain Terr Plc
open Point (okB)
open Ints (Ints Own)
open Pts (OwnP Pairs flat flat_even flat_odd)
def intCells (zs : List Int) : List Value := zs.map (.int .i64 ·)
theorem cells_one {w : World} {v : Value} {t : TypeId} : ∀ (j : Nat) u, [v][j]? = some u → (w.alloc (.cells #[v] t)).cell? ((⟨w.heap.size, 0, none⟩ : Addr).add j) = some u := by
  intro j u hj
  match j, hj with
  | 0, hj => simp at hj; subst hj; simp [Addr.add]
theorem one_cell {k : IntKind} {n : Int} : ∀ u ∈ [Value.int k n], u.oneCell' = true := by
  intro u hu; simp at hu; subst hu; rfl
theorem own_row {w : World} {B e : Nat} {v : Value} {zs : List Int} (h : w.ownsRow B e 1 v zs.length (intCells zs)) : Ints w v zs := by
  have hlt := h.lt
  have hc := fun g (hg : v.ownBlock = some g) => h.cells hg
  obtain ⟨_, ⟨rfl, h2⟩ | ⟨g, cap, cur, rfl, hB, _⟩⟩ := h
  · exact ⟨none, 0, by rw [h2], fun h0 => by omega⟩
  · refine ⟨_, cap, rfl, fun _ => ⟨g, 0, rfl, (hlt g rfl).2, fun j hj => ?_⟩⟩
    have := hc g rfl j (.int .i64 (zs.getD j 0)) (by simp [intCells, hj])
    have e : (⟨g, 0, none⟩ : Addr).add j = ⟨g, 0 + j, none⟩ := by cases j <;> simp [Addr.add]
    rw [e] at this
    exact this
theorem ints_nil (w : World) (a : Option Addr) (cap : Nat) : Ints w (.slice a 0 cap) [] := ⟨a, cap, rfl, fun h => by simp at h⟩
theorem lit_i (W : World) (q : Nat) (hq : q = W.heap.size) : (W.alloc (.cells #[] 2)).ownsRow W.heap.size 2 1 (.slice (some ⟨q, 0, none⟩) 0 0) 0 (intCells []) := by
  subst hq
  exact World.ownsRow_lit W #[] 0 (Nat.le_refl _) (by unfold maxLen; omega) rfl
set_option maxRecDepth 100000 in
set_option maxHeartbeats 4000000 in
theorem spec_ask (g : Nat) (s x y : Int) (a b : Option Addr) (n cap d dap : Nat) (zs cs : List Int) (ax ay bx bv j : Int) (w : World) (hzn : zs.length = n) (hcm : cs.length = d) (hn : n ≤ 1048576) (hm : d ≤ 1048576) (h : Ints w (.slice a n cap) zs) (k : Ints w (.slice b d dap) cs) (hp : TIn w g s x y (.slice a n cap) (.slice b d dap)) :
    Calls Try.prog 33 #[.pointer (some ⟨g, 0, none⟩), .agg #[.int .i64 ax, .int .i64 ay], .agg #[.int .i64 bx, .int .i64 bv], .int .i64 j] w fun e w' => e = .returned (.int .i64 (prC s x y ax ay bx bv j zs cs)) ∧ On w w' := by
  have HO := Lib.hid (fun w' (hb : On w w') => spec_okT g n cap d dap s x y a b zs cs w' hzn hcm hn hm (hp.on hb) (h.below hb) (k.below hb))
  have HTI := Lib.hid (fun w' (hb : On w w') => hp.on hb)
  have HA := Lib.hid (fun w => Point.spec_validPoint ax ay w)
  have HB := Lib.hid (fun w => Point.spec_validPoint bx bv w)
  have HIN := Lib.hid (fun w => Arith.l00In j 2 65 w)
  clear h k hp
  cases ho : okT s x y zs cs with
  | false =>
    rw [prC_0 ho]
    rw [ho] at HO
    clear ho
    go_enter Try.func33, Try.ntmps33
    go_wp2_with fail
    refine (HO.out _ (by repeat (first | with_reducible exact On.refl _ | with_reducible exact Below.refl _ _ | apply On.alloc))).mono ?_
    rintro e w1 ⟨rfl, h1⟩
    have c0 : w1.cell? ⟨w.heap.size, 0, none⟩ = some (.int .i64 ax) := (h1.cell (by simp; try omega)).trans (by simp [go_sem])
    have c1 : w1.cell? ⟨w.heap.size, 1, none⟩ = some (.int .i64 ay) := (h1.cell (by simp; try omega)).trans (by simp [go_sem])
    have c2 : w1.cell? ⟨w.heap.size + 1, 0, none⟩ = some (.int .i64 bx) := (h1.cell (by simp)).trans (by simp [go_sem])
    have c3 : w1.cell? ⟨w.heap.size + 1, 1, none⟩ = some (.int .i64 bv) := (h1.cell (by simp)).trans (by simp [go_sem])
    have O1 := Lib.hid (show On w w1 by refine On.trans ?_ h1; repeat (first | with_reducible exact On.refl _ | apply On.alloc))
    have K1 := Lib.hid (And.intro c0 (And.intro c1 (And.intro c2 c3)))
    clear h1
    go_wp2_with fail
    go_ret
    exact ⟨rfl, O1.out⟩
  | true =>
    obtain ⟨hs, -⟩ := of_okT ho
    obtain ⟨⟨s0, s1⟩, ⟨x0, x1⟩, ⟨y0, y1⟩, -, -⟩ := of_size hs
    have HIA := Lib.hid (fun w hp => spec_in g s x y ax ay (.slice a n cap) (.slice b d dap) w hp s0 s1 x0 x1 y0 y1)
    have HIB := Lib.hid (fun w hp => spec_in g s x y bx bv (.slice a n cap) (.slice b d dap) w hp s0 s1 x0 x1 y0 y1)
    rw [ho] at HO
    cases oa : okB ax ay with
    | false =>
      rw [prC_1 ho oa]
      rw [oa] at HA
      clear ho oa hs
      go_enter Try.func33, Try.ntmps33
      go_wp2_with fail
      refine (HO.out _ (by repeat (first | with_reducible exact On.refl _ | with_reducible exact Below.refl _ _ | apply On.alloc))).mono ?_
      rintro e w1 ⟨rfl, h1⟩
      have c0 : w1.cell? ⟨w.heap.size, 0, none⟩ = some (.int .i64 ax) := (h1.cell (by simp; try omega)).trans (by simp [go_sem])
      have c1 : w1.cell? ⟨w.heap.size, 1, none⟩ = some (.int .i64 ay) := (h1.cell (by simp; try omega)).trans (by simp [go_sem])
      have c2 : w1.cell? ⟨w.heap.size + 1, 0, none⟩ = some (.int .i64 bx) := (h1.cell (by simp)).trans (by simp [go_sem])
      have c3 : w1.cell? ⟨w.heap.size + 1, 1, none⟩ = some (.int .i64 bv) := (h1.cell (by simp)).trans (by simp [go_sem])
      have O1 := Lib.hid (show On w w1 by refine On.trans ?_ h1; repeat (first | with_reducible exact On.refl _ | apply On.alloc))
      have K1 := Lib.hid (And.intro c0 (And.intro c1 (And.intro c2 c3)))
      clear h1
      go_wp2_with fail
      refine (HA.out _).mono ?_
      rintro e w2 ⟨rfl, h2⟩
      have O2 := Lib.hid (On.trans O1.out h2)
      clear c0 c1 c2 c3
      obtain ⟨⟨c0, c1⟩, c2, c3⟩ := And.intro (heldP K1.out.1 K1.out.2.1 h2) (heldP K1.out.2.2.1 K1.out.2.2.2 h2)
      have K2 := Lib.hid (And.intro c0 (And.intro c1 (And.intro c2 c3)))
      clear h2
      go_wp2_with fail
      go_ret
      exact ⟨rfl, O2.out⟩
    | true =>
      rw [oa] at HA
      cases ob : okB bx bv with
      | false =>
        rw [prC_2 ho ob]
        rw [ob] at HB
        clear ho oa ob hs
        go_enter Try.func33, Try.ntmps33
        go_wp2_with fail
        refine (HO.out _ (by repeat (first | with_reducible exact On.refl _ | with_reducible exact Below.refl _ _ | apply On.alloc))).mono ?_
        rintro e w1 ⟨rfl, h1⟩
        have c0 : w1.cell? ⟨w.heap.size, 0, none⟩ = some (.int .i64 ax) := (h1.cell (by simp; try omega)).trans (by simp [go_sem])
        have c1 : w1.cell? ⟨w.heap.size, 1, none⟩ = some (.int .i64 ay) := (h1.cell (by simp; try omega)).trans (by simp [go_sem])
        have c2 : w1.cell? ⟨w.heap.size + 1, 0, none⟩ = some (.int .i64 bx) := (h1.cell (by simp)).trans (by simp [go_sem])
        have c3 : w1.cell? ⟨w.heap.size + 1, 1, none⟩ = some (.int .i64 bv) := (h1.cell (by simp)).trans (by simp [go_sem])
        have O1 := Lib.hid (show On w w1 by refine On.trans ?_ h1; repeat (first | with_reducible exact On.refl _ | apply On.alloc))
        have K1 := Lib.hid (And.intro c0 (And.intro c1 (And.intro c2 c3)))
        clear h1
        go_wp2_with fail
        refine (HA.out _).mono ?_
        rintro e w2 ⟨rfl, h2⟩
        have O2 := Lib.hid (On.trans O1.out h2)
        clear c0 c1 c2 c3
        obtain ⟨⟨c0, c1⟩, c2, c3⟩ := And.intro (heldP K1.out.1 K1.out.2.1 h2) (heldP K1.out.2.2.1 K1.out.2.2.2 h2)
        have K2 := Lib.hid (And.intro c0 (And.intro c1 (And.intro c2 c3)))
        clear h2
        go_wp2_with fail
        refine (HB.out _).mono ?_
        rintro e w3 ⟨rfl, h3⟩
        have O3 := Lib.hid (On.trans O2.out h3)
        clear c0 c1 c2 c3
        obtain ⟨⟨c0, c1⟩, c2, c3⟩ := And.intro (heldP K2.out.1 K2.out.2.1 h3) (heldP K2.out.2.2.1 K2.out.2.2.2 h3)
        have K3 := Lib.hid (And.intro c0 (And.intro c1 (And.intro c2 c3)))
        clear h3
        go_wp2_with fail
        go_ret
        exact ⟨rfl, O3.out⟩
      | true =>
        rw [ob] at HB
        cases hj : inB j 2 65 with
        | false =>
          rw [prC_3 ho oa ob hj]
          rw [hj] at HIN
          clear ho oa ob hs hj
          go_enter Try.func33, Try.ntmps33
          go_wp2_with fail
          refine (HO.out _ (by repeat (first | with_reducible exact On.refl _ | with_reducible exact Below.refl _ _ | apply On.alloc))).mono ?_
          rintro e w1 ⟨rfl, h1⟩
          have c0 : w1.cell? ⟨w.heap.size, 0, none⟩ = some (.int .i64 ax) := (h1.cell (by simp; try omega)).trans (by simp [go_sem])
          have c1 : w1.cell? ⟨w.heap.size, 1, none⟩ = some (.int .i64 ay) := (h1.cell (by simp; try omega)).trans (by simp [go_sem])
          have c2 : w1.cell? ⟨w.heap.size + 1, 0, none⟩ = some (.int .i64 bx) := (h1.cell (by simp)).trans (by simp [go_sem])
          have c3 : w1.cell? ⟨w.heap.size + 1, 1, none⟩ = some (.int .i64 bv) := (h1.cell (by simp)).trans (by simp [go_sem])
          have O1 := Lib.hid (show On w w1 by refine On.trans ?_ h1; repeat (first | with_reducible exact On.refl _ | apply On.alloc))
          have K1 := Lib.hid (And.intro c0 (And.intro c1 (And.intro c2 c3)))
          clear h1
          go_wp2_with fail
          refine (HA.out _).mono ?_
          rintro e w2 ⟨rfl, h2⟩
          have O2 := Lib.hid (On.trans O1.out h2)
          clear c0 c1 c2 c3
          obtain ⟨⟨c0, c1⟩, c2, c3⟩ := And.intro (heldP K1.out.1 K1.out.2.1 h2) (heldP K1.out.2.2.1 K1.out.2.2.2 h2)
          have K2 := Lib.hid (And.intro c0 (And.intro c1 (And.intro c2 c3)))
          clear h2
          go_wp2_with fail
          refine (HB.out _).mono ?_
          rintro e w3 ⟨rfl, h3⟩
          have O3 := Lib.hid (On.trans O2.out h3)
          clear c0 c1 c2 c3
          obtain ⟨⟨c0, c1⟩, c2, c3⟩ := And.intro (heldP K2.out.1 K2.out.2.1 h3) (heldP K2.out.2.2.1 K2.out.2.2.2 h3)
          have K3 := Lib.hid (And.intro c0 (And.intro c1 (And.intro c2 c3)))
          clear h3
          go_wp2_with fail
          refine (HIN.out _).mono ?_
          rintro e w3' ⟨rfl, rfl⟩
          go_wp2_with fail
          go_ret
          exact ⟨rfl, O3.out⟩
        | true =>
          rw [hj] at HIN
          cases ia : inT s x y ax ay with
          | false =>
            rw [prC_4 ho oa ob hj ia]
            rw [ia] at HIA
            clear ho oa ob hs hj ia
            go_enter Try.func33, Try.ntmps33
            go_wp2_with fail
            refine (HO.out _ (by repeat (first | with_reducible exact On.refl _ | with_reducible exact Below.refl _ _ | apply On.alloc))).mono ?_
            rintro e w1 ⟨rfl, h1⟩
            have c0 : w1.cell? ⟨w.heap.size, 0, none⟩ = some (.int .i64 ax) := (h1.cell (by simp; try omega)).trans (by simp [go_sem])
            have c1 : w1.cell? ⟨w.heap.size, 1, none⟩ = some (.int .i64 ay) := (h1.cell (by simp; try omega)).trans (by simp [go_sem])
            have c2 : w1.cell? ⟨w.heap.size + 1, 0, none⟩ = some (.int .i64 bx) := (h1.cell (by simp)).trans (by simp [go_sem])
            have c3 : w1.cell? ⟨w.heap.size + 1, 1, none⟩ = some (.int .i64 bv) := (h1.cell (by simp)).trans (by simp [go_sem])
            have O1 := Lib.hid (show On w w1 by refine On.trans ?_ h1; repeat (first | with_reducible exact On.refl _ | apply On.alloc))
            have K1 := Lib.hid (And.intro c0 (And.intro c1 (And.intro c2 c3)))
            clear h1
            go_wp2_with fail
            refine (HA.out _).mono ?_
            rintro e w2 ⟨rfl, h2⟩
            have O2 := Lib.hid (On.trans O1.out h2)
            clear c0 c1 c2 c3
            obtain ⟨⟨c0, c1⟩, c2, c3⟩ := And.intro (heldP K1.out.1 K1.out.2.1 h2) (heldP K1.out.2.2.1 K1.out.2.2.2 h2)
            have K2 := Lib.hid (And.intro c0 (And.intro c1 (And.intro c2 c3)))
            clear h2
            go_wp2_with fail
            refine (HB.out _).mono ?_
            rintro e w3 ⟨rfl, h3⟩
            have O3 := Lib.hid (On.trans O2.out h3)
            clear c0 c1 c2 c3
            obtain ⟨⟨c0, c1⟩, c2, c3⟩ := And.intro (heldP K2.out.1 K2.out.2.1 h3) (heldP K2.out.2.2.1 K2.out.2.2.2 h3)
            have K3 := Lib.hid (And.intro c0 (And.intro c1 (And.intro c2 c3)))
            clear h3
            go_wp2_with fail
            refine (HIN.out _).mono ?_
            rintro e w3' ⟨rfl, rfl⟩
            go_wp2_with fail
            refine (HIA.out _ (HTI.out _ O3.out)).mono ?_
            rintro e w4 ⟨rfl, h4⟩
            have O4 := Lib.hid (On.trans O3.out h4)
            clear c0 c1 c2 c3
            obtain ⟨⟨c0, c1⟩, c2, c3⟩ := And.intro (heldP K3.out.1 K3.out.2.1 h4) (heldP K3.out.2.2.1 K3.out.2.2.2 h4)
            have K4 := Lib.hid (And.intro c0 (And.intro c1 (And.intro c2 c3)))
            clear h4
            go_wp2_with fail
            go_ret
            exact ⟨rfl, O4.out⟩
          | true =>
            rw [ia] at HIA
            cases ib : inT s x y bx bv with
            | false =>
              rw [prC_5 ho oa ob hj ib]
              rw [ib] at HIB
              clear ho oa ob hs hj ia ib
              go_enter Try.func33, Try.ntmps33
              go_wp2_with fail
              refine (HO.out _ (by repeat (first | with_reducible exact On.refl _ | with_reducible exact Below.refl _ _ | apply On.alloc))).mono ?_
              rintro e w1 ⟨rfl, h1⟩
              have c0 : w1.cell? ⟨w.heap.size, 0, none⟩ = some (.int .i64 ax) := (h1.cell (by simp; try omega)).trans (by simp [go_sem])
              have c1 : w1.cell? ⟨w.heap.size, 1, none⟩ = some (.int .i64 ay) := (h1.cell (by simp; try omega)).trans (by simp [go_sem])
              have c2 : w1.cell? ⟨w.heap.size + 1, 0, none⟩ = some (.int .i64 bx) := (h1.cell (by simp)).trans (by simp [go_sem])
              have c3 : w1.cell? ⟨w.heap.size + 1, 1, none⟩ = some (.int .i64 bv) := (h1.cell (by simp)).trans (by simp [go_sem])
              have O1 := Lib.hid (show On w w1 by refine On.trans ?_ h1; repeat (first | with_reducible exact On.refl _ | apply On.alloc))
              have K1 := Lib.hid (And.intro c0 (And.intro c1 (And.intro c2 c3)))
              clear h1
              go_wp2_with fail
              refine (HA.out _).mono ?_
              rintro e w2 ⟨rfl, h2⟩
              have O2 := Lib.hid (On.trans O1.out h2)
              clear c0 c1 c2 c3
              obtain ⟨⟨c0, c1⟩, c2, c3⟩ := And.intro (heldP K1.out.1 K1.out.2.1 h2) (heldP K1.out.2.2.1 K1.out.2.2.2 h2)
              have K2 := Lib.hid (And.intro c0 (And.intro c1 (And.intro c2 c3)))
              clear h2
              go_wp2_with fail
              refine (HB.out _).mono ?_
              rintro e w3 ⟨rfl, h3⟩
              have O3 := Lib.hid (On.trans O2.out h3)
              clear c0 c1 c2 c3
              obtain ⟨⟨c0, c1⟩, c2, c3⟩ := And.intro (heldP K2.out.1 K2.out.2.1 h3) (heldP K2.out.2.2.1 K2.out.2.2.2 h3)
              have K3 := Lib.hid (And.intro c0 (And.intro c1 (And.intro c2 c3)))
              clear h3
              go_wp2_with fail
              refine (HIN.out _).mono ?_
              rintro e w3' ⟨rfl, rfl⟩
              go_wp2_with fail
              refine (HIA.out _ (HTI.out _ O3.out)).mono ?_
              rintro e w4 ⟨rfl, h4⟩
              have O4 := Lib.hid (On.trans O3.out h4)
              clear c0 c1 c2 c3
              obtain ⟨⟨c0, c1⟩, c2, c3⟩ := And.intro (heldP K3.out.1 K3.out.2.1 h4) (heldP K3.out.2.2.1 K3.out.2.2.2 h4)
              have K4 := Lib.hid (And.intro c0 (And.intro c1 (And.intro c2 c3)))
              clear h4
              go_wp2_with fail
              refine (HIB.out _ (HTI.out _ O4.out)).mono ?_
              rintro e w5 ⟨rfl, h5⟩
              have O5 := Lib.hid (On.trans O4.out h5)
              clear c0 c1 c2 c3
              obtain ⟨⟨c0, c1⟩, c2, c3⟩ := And.intro (heldP K4.out.1 K4.out.2.1 h5) (heldP K4.out.2.2.1 K4.out.2.2.2 h5)
              have K5 := Lib.hid (And.intro c0 (And.intro c1 (And.intro c2 c3)))
              clear h5
              go_wp2_with fail
              go_ret
              exact ⟨rfl, O5.out⟩
            | true =>
              rw [prC_6 ho oa ob hj ia ib]
              rw [ib] at HIB
              clear ho oa ob hs hj ia ib
              go_enter Try.func33, Try.ntmps33
              go_wp2_with fail
              refine (HO.out _ (by repeat (first | with_reducible exact On.refl _ | with_reducible exact Below.refl _ _ | apply On.alloc))).mono ?_
              rintro e w1 ⟨rfl, h1⟩
              have c0 : w1.cell? ⟨w.heap.size, 0, none⟩ = some (.int .i64 ax) := (h1.cell (by simp; try omega)).trans (by simp [go_sem])
              have c1 : w1.cell? ⟨w.heap.size, 1, none⟩ = some (.int .i64 ay) := (h1.cell (by simp; try omega)).trans (by simp [go_sem])
              have c2 : w1.cell? ⟨w.heap.size + 1, 0, none⟩ = some (.int .i64 bx) := (h1.cell (by simp)).trans (by simp [go_sem])
              have c3 : w1.cell? ⟨w.heap.size + 1, 1, none⟩ = some (.int .i64 bv) := (h1.cell (by simp)).trans (by simp [go_sem])
              have O1 := Lib.hid (show On w w1 by refine On.trans ?_ h1; repeat (first | with_reducible exact On.refl _ | apply On.alloc))
              have K1 := Lib.hid (And.intro c0 (And.intro c1 (And.intro c2 c3)))
              clear h1
              go_wp2_with fail
              refine (HA.out _).mono ?_
              rintro e w2 ⟨rfl, h2⟩
              have O2 := Lib.hid (On.trans O1.out h2)
              clear c0 c1 c2 c3
              obtain ⟨⟨c0, c1⟩, c2, c3⟩ := And.intro (heldP K1.out.1 K1.out.2.1 h2) (heldP K1.out.2.2.1 K1.out.2.2.2 h2)
              have K2 := Lib.hid (And.intro c0 (And.intro c1 (And.intro c2 c3)))
              clear h2
              go_wp2_with fail
              refine (HB.out _).mono ?_
              rintro e w3 ⟨rfl, h3⟩
              have O3 := Lib.hid (On.trans O2.out h3)
              clear c0 c1 c2 c3
              obtain ⟨⟨c0, c1⟩, c2, c3⟩ := And.intro (heldP K2.out.1 K2.out.2.1 h3) (heldP K2.out.2.2.1 K2.out.2.2.2 h3)
              have K3 := Lib.hid (And.intro c0 (And.intro c1 (And.intro c2 c3)))
              clear h3
              go_wp2_with fail
              refine (HIN.out _).mono ?_
              rintro e w3' ⟨rfl, rfl⟩
              go_wp2_with fail
              refine (HIA.out _ (HTI.out _ O3.out)).mono ?_
              rintro e w4 ⟨rfl, h4⟩
              have O4 := Lib.hid (On.trans O3.out h4)
              clear c0 c1 c2 c3
              obtain ⟨⟨c0, c1⟩, c2, c3⟩ := And.intro (heldP K3.out.1 K3.out.2.1 h4) (heldP K3.out.2.2.1 K3.out.2.2.2 h4)
              have K4 := Lib.hid (And.intro c0 (And.intro c1 (And.intro c2 c3)))
              clear h4
              go_wp2_with fail
              refine (HIB.out _ (HTI.out _ O4.out)).mono ?_
              rintro e w5 ⟨rfl, h5⟩
              have O5 := Lib.hid (On.trans O4.out h5)
              clear c0 c1 c2 c3
              obtain ⟨⟨c0, c1⟩, c2, c3⟩ := And.intro (heldP K4.out.1 K4.out.2.1 h5) (heldP K4.out.2.2.1 K4.out.2.2.2 h5)
              have K5 := Lib.hid (And.intro c0 (And.intro c1 (And.intro c2 c3)))
              clear h5
              go_wp2_with fail
              go_ret
              exact ⟨rfl, O5.out⟩
set_option maxRecDepth 100000 in
set_option maxHeartbeats 4000000 in
theorem spec_prof (F : Int → Int → Int) (g : Nat) (s x y ax ay bx bv : Int) (m : Nat) (w : World) (oa : okB ax ay = true) (ob : okB bx bv = true) (ia : inT s x y ax ay = true) (ib : inT s x y bx bv = true) (hm2 : 2 ≤ m) (hm65 : m ≤ 65)
    (HK : ∀ (p q : Int) w', inT s x y p q = true → On w w' → Calls Try.prog 47 #[.pointer (some ⟨g, 0, none⟩), .agg #[.int .i64 p, .int .i64 q]] w' fun e w'' => e = .returned (.int .i64 (F p q)) ∧ On w' w'') :
    Calls Try.prog 34 #[.pointer (some ⟨g, 0, none⟩), .agg #[.int .i64 ax, .int .i64 ay], .agg #[.int .i64 bx, .int .i64 bv], .int .i64 m] w fun e w' => ∃ v, e = .returned v ∧ Ints w' v (vals F (plcs ax ay bx bv m)) ∧ On w w' := by
  obtain ⟨i0, hi, hz0, hz1, hz2⟩ := info_parts Ints.info
  have HIN := Lib.hid (fun k (hk : k < m) => plc_in (s := s) (x := x) (y := y) hm2 hk ia ib)
  have hpl := plcs_len ax ay bx bv m
  obtain ⟨a0, a1, a2, a3⟩ := Point.of_okB oa
  obtain ⟨b0, b1, b2, b3⟩ := Point.of_okB ob
  have HP := Lib.hid (fun w => spec_places ax ay bx bv m w ⟨a0, a1⟩ ⟨a2, a3⟩ ⟨b0, b1⟩ ⟨b2, b3⟩ hm2 hm65)
  obtain ⟨ps, hps⟩ : ∃ ps, ps = plcs ax ay bx bv m := ⟨_, rfl⟩
  rw [← hps] at HP HIN hpl
  rw [← hps]
  obtain ⟨vs, hvs⟩ : ∃ vs, vs = vals F ps := ⟨_, rfl⟩
  have HVT := Lib.hid (fun k (hk : k < m) => show vs.take (k + 1) = vs.take k ++ [F (ps.getD k (0, 0)).1 (ps.getD k (0, 0)).2] by rw [hvs]; exact vals_take F (by omega))
  have HVL := Lib.hid (show vs.length = m by rw [hvs, vals_len, hpl])
  rw [← hvs]
  have HK2 := Lib.hid HK
  clear HK oa ob ia ib hps hvs a0 a1 a2 a3 b0 b1 b2 b3
  go_enter Try.func34, Try.ntmps34
  go_wp2_with fail
  refine (HP.out _).mono ?_
  rintro e w2 ⟨v2, rfl, hp2, h2⟩
  have O2 := Lib.hid (show On w w2 by refine On.trans ?_ h2; repeat (first | with_reducible exact On.refl _ | apply On.alloc))
  clear h2
  obtain ⟨a', cap', he, hcc⟩ := hp2
  obtain ⟨q, off, hq, hlt, hcl⟩ := hcc (by rw [hpl]; omega)
  subst he
  subst hq
  rw [hpl] at hcl ⊢
  have HCL := Lib.hid hcl
  clear hcl hcc
  go_wp2_with fail
  go_loopw [10, 11] (fun v i wr => ∃ k : Nat, k ≤ m ∧ i = .int .i64 k ∧ wr.ownsRow w2.heap.size 2 1 v k (intCells (vs.take k)) ∧ On w2 wr) (fun _ i _ => m - (intOf i).toNat)
  case atStart => exact ⟨0, Nat.zero_le _, rfl, lit_i w2 _ rfl, On.alloc (On.refl _) _⟩
  case round =>
    obtain ⟨k, hk, rfl, hown, hb⟩ := hrel
    have HO := Lib.hid hown
    have HB := Lib.hid hb
    have hsz := hb.size
    clear hown hb
    by_cases hlt2 : k < m
    · have hlti : (k : Int) < (m : Int) := by omega
      obtain ⟨px, hpx⟩ : ∃ p, p = (ps.getD k (0, 0)).1 := ⟨_, rfl⟩
      obtain ⟨py, hpy⟩ : ∃ p, p = (ps.getD k (0, 0)).2 := ⟨_, rfl⟩
      have hin := HIN.out k hlt2
      have hv := HVT.out k hlt2
      rw [← hpx, ← hpy] at hin hv
      have p0 : wr.cell? ⟨q, off + k * 2, none⟩ = some (.int .i64 px) := by rw [hpx, ← flat_even]; exact (HB.out.cell (by exact hlt)).trans (HCL.out (k * 2) (by omega))
      have p1 : wr.cell? ⟨q, off + k * 2 + 1, none⟩ = some (.int .i64 py) := by rw [hpy, ← flat_odd]; exact (HB.out.cell (by exact hlt)).trans (HCL.out (k * 2 + 1) (by omega))
      have HKK := Lib.hid (fun w' (ho' : On w w') => HK2.out px py w' hin ho')
      have HV2 := Lib.hid hv
      have HOr := Lib.hid (On.trans O2.out HB.out)
      generalize F px py = z at *
      clear hpx hpy hin hv
      go_wp2_with fail
      refine (HKK.out _ HOr.out).mono ?_
      rintro e w5 ⟨rfl, h5⟩
      have HO5 := Lib.hid (own_on HO.out h5)
      have HB5 := Lib.hid (HB.out.trans h5)
      have hsz5 := HB5.out.size
      clear h5
      go_wp2_with (at_builtin; refine wpList_append_own _ rfl (.tmp 23) (.tmp 30) 32 rfl w2.heap.size 2 i0 (.int .i64 0) 1 8 Try.underlying32 hi hz0 hz1 hz2 rfl (by decide) _ k _ rfl (HO5.out.alloc _) ⟨w5.heap.size, 0, none⟩ 1 1 [.int .i64 z] rfl rfl ?c1 ?c2 ?c3 ?c4 ?c5 ?_)
      case c1 => exact cells_one
      case c2 => exact one_cell
      case c3 => unfold maxLen; omega
      case c4 => omega
      case c5 => simp; omega
      intro v' w9 hown' hgrow _
      have hd : intCells (vs.take k) ++ [Value.int .i64 z] = intCells (vs.take (k + 1)) := by rw [HV2.out]; unfold intCells; rw [List.map_append]; rfl
      rw [hd] at hown'
      have HO9 := Lib.hid hown'
      have HB9 := Lib.hid (show On w2 w9 from Below.grown (On.alloc HB5.out _) hgrow (by simp; omega) (fun k hk => (HO5.out.lt k hk).1))
      clear hown' hgrow hd
      go_wp2
      go_roundw
      case rel => first | exact ⟨k + 1, by omega, by go_num, HO9.out, HB9.out⟩ | ((repeat apply Exists.intro); exact ⟨⟨k + 1, by omega, by go_num, HO9.out, HB9.out⟩, rfl⟩)
      case measure => simp [intOf]; omega
    · obtain rfl : k = m := by omega
      have HI := Lib.hid (show Ints wr _ vs from own_row (by have := HO.out; rw [List.take_of_length_le (by rw [HVL.out]; exact Nat.le_refl _)] at this; rw [HVL.out]; exact this))
      go_wp2_with fail
      go_ret
      exact ⟨_, rfl, HI.out, On.trans O2.out HB.out⟩
end Go.Proofs.Ytadoaenmmemjdaa.Prf
