
/-
  When a network is valid, in the program; the model says the same. Condition: at most 1048576 elements in each list, and numbers and bytes in each of these.
-/
import Derived.Test.YtpnmodmaabhldaaGreatNetV
import Derived.Test.YtpnmodmaabhldaaGreatProv
import Derived.Test.YtpnmodmaabhldaaGreatNarX
namespace Go.Proofs.YtpnmodmaabhldaaGreat.Net
open Go.RowKit

/-- What such a value looks like. -/
theorem Is.shape {w : World} {v : Value} {N : T} (h : Is w v N) : ∃ a0 a1 a2 a3 c0 c1 c2 c3, v = .agg #[.slice a0 N.f0.length c0, .slice a1 N.f1.length c1, .slice a2 N.f2.length c2, .slice a3 N.f3.length c3] := by
  obtain ⟨v0, v1, v2, v3, rfl, ⟨a0, c0, rfl, -⟩, ⟨a1, c1, rfl, -⟩, ⟨a2, c2, rfl, -⟩, ⟨a3, c3, rfl, -⟩⟩ := h
  exact ⟨_, _, _, _, _, _, _, _, rfl⟩
theorem provides_none (a : Option Addr) (cap : Nat) (v : Value) (N : T) (w : World) (hN : N.Small 1048576) (h : Is w v N) :
    Calls Tryz.prog 87 #[v, .slice a 0 cap] w fun e w' => e = .returned (.bool (refsB N [])) ∧ On w w' := by
  obtain ⟨v0, v1, v2, v3, rfl, h0, h1, h2, h3⟩ := h
  have H0 := Lib.hid h0
  have H2 := Lib.hid h2
  have H3 := Lib.hid h3
  obtain ⟨a0, cap0, rfl, -⟩ := h0
  obtain ⟨a1, cap1, rfl, -⟩ := h1
  obtain ⟨a2, cap2, rfl, -⟩ := h2
  obtain ⟨a3, cap3, rfl, -⟩ := h3
  have SN := Lib.hid (fun (w' : World) (f : Secs.Z → ByteArray) => show Strs.Strs w' (.slice none 0 0) (textsTo f []) from ⟨none, 0, rfl, fun h => by simp [textsTo] at h⟩)
  have HH1 := Lib.hid (fun w' (ho : On w w') => Sites.impl_have _ N.f0 _ _ w' hN.1.1 hN.1.2 (by simp [textsTo]) (fun k hk => by simp [textsTo] at hk) (H0.out.on ho) (SN.out w' (fun z => z.x1)))
  have HH2 := Lib.hid (fun w' (ho : On w w') => Ants.impl_have _ N.f2 _ _ w' hN.2.2.1.1 hN.2.2.1.2 (by simp [textsTo]) (fun k hk => by simp [textsTo] at hk) (H2.out.on ho) (SN.out w' (fun z => z.x2)))
  have HH3 := Lib.hid (fun w' (ho : On w w') => Rads.impl_have _ N.f3 _ _ w' hN.2.2.2.1 hN.2.2.2.2 (by simp [textsTo]) (fun k hk => by simp [textsTo] at hk) (H3.out.on ho) (SN.out w' (fun z => z.x3)))
  have en := Lib.hid (show refsB N [] = (NamM.haveAll Sites.nm Sites.d0 N.f0 (textsTo (fun z => z.x1) []) && (NamM.haveAll Ants.nm Ants.d0 N.f2 (textsTo (fun z => z.x2) []) && NamM.haveAll Rads.nm Rads.d0 N.f3 (textsTo (fun z => z.x3) []))) from rfl)
  have t0 : NamM.haveAll Sites.nm Sites.d0 N.f0 (textsTo (fun z => z.x1) []) = true := rfl
  have t1 : NamM.haveAll Ants.nm Ants.d0 N.f2 (textsTo (fun z => z.x2) []) = true := rfl
  have t2 : NamM.haveAll Rads.nm Rads.d0 N.f3 (textsTo (fun z => z.x3) []) = true := rfl
  rw [t0] at HH1
  rw [t1] at HH2
  rw [t2] at HH3
  clear hN
  go_enter Tryz.func87, Tryz.ntmps87
  go_wp2_with fail
  refine wp_loop_rounds 1 ?_
  rw [rounds_succ]
  go_wp2_with fail
  refine (HH1.out _ (by repeat (first | with_reducible exact On.refl _ | with_reducible apply On.alloc | with_reducible apply On.drewN | with_reducible apply On.drew | with_reducible refine On.setCell ?_ (by (try simp) <;> omega) _))).mono ?_
  rintro e w1 ⟨rfl, h1⟩
  have O1 : On w w1 := On.trans (by repeat (first | with_reducible exact On.refl _ | with_reducible apply On.alloc | with_reducible apply On.drewN | with_reducible apply On.drew | with_reducible refine On.setCell ?_ (by (try simp) <;> omega) _)) h1
  obtain ⟨hc1, hf1⟩ := bcell h1
  have z1 : w.heap.size < w1.heap.size := by have := h1.size; simp at this; omega
  go_wp2_with fail
  refine (HH2.out _ O1).mono ?_
  rintro e w2 ⟨rfl, h2⟩
  have O2 := O1.trans h2
  obtain ⟨hc2, hf2⟩ := bcell h2
  have z2 := h2.lts _ z1
  go_wp2_with fail
  refine (HH3.out _ O2).mono ?_
  rintro e w3 ⟨rfl, h3⟩
  go_wp2_with fail
  go_ret
  exact ⟨ret_bool (by rw [en.out, t0, t1, t2]; rfl), O2.trans h3⟩
theorem impl_provides (v : Value) (N : T) (u : Value) (xs : List Secs.Z) (w : World) (hn : xs.length ≤ 1048576) (hs : ∀ k, k < xs.length → Secs.Small 1048576 (xs.getD k Secs.d0)) (hN : N.Small 1048576) (h : Is w v N) (hu : Secs.Rows w u xs) :
    Calls Tryz.prog 87 #[v, u] w fun e w' => e = .returned (.bool (refsB N xs)) ∧ On w w' := by
  have hu' := hu
  obtain ⟨a, cap, rfl, -⟩ := hu
  by_cases h0 : 0 < xs.length
  · obtain ⟨b, off, rfl, hlt, hcell⟩ := Secs.slice_of hu' h0
    exact provides_some b off cap xs v N w hn hs hN hlt h hcell
  · have : xs = [] := List.eq_nil_of_length_eq_zero (by omega)
    subst this
    exact provides_none a cap v N w hN h
/-- As the program asks. -/
def okI (N : T) : Bool := Nam.listN 12 Sites.ok Sites.nm Sites.d0 N.f0 && (Nam.listN 24 Secs.ok Secs.nm Secs.d0 N.f1 && (Nam.listN 8 Ants.ok Ants.nm Ants.d0 N.f2 && (Nam.listN 8 Rads.ok Rads.nm Rads.d0 N.f3 && refsB N N.f1)))
theorem all_range {α : Type} (p : α → Bool) (d : α) (zs : List α) : (List.range zs.length).all (fun k => p (zs.getD k d)) = zs.all p := by
  induction zs with
  | nil => rfl
  | cons z zs ih =>
    rw [List.length_cons, List.range_succ_eq_map, List.all_cons, List.all_map, List.all_cons, ← ih]
    rfl
theorem refs_all (N : T) (xs : List Secs.Z) : refsB N xs = xs.all (refB N) := by
  unfold refsB NamM.haveAll textsTo
  rw [List.all_map, List.all_map, List.all_map]
  induction xs with
  | nil => rfl
  | cons z zs ih =>
    simp only [List.all_cons, ← ih]
    unfold refB
    simp only [Function.comp]
    cases Nam.has Sites.nm Sites.d0 N.f0 z.x1 <;> cases Nam.has Ants.nm Ants.d0 N.f2 z.x2 <;> cases Nam.has Rads.nm Rads.d0 N.f3 z.x3 <;> simp
theorem allTo_and (p q : Nat → Bool) (n : Nat) : Nam.allTo (fun k => p k && q k) n = (Nam.allTo p n && Nam.allTo q n) := by
  unfold Nam.allTo
  induction List.range n with
  | nil => rfl
  | cons a l ih =>
    simp only [List.all_cons, ih]
    cases p a <;> cases q a <;> simp
theorem all_secs (N : T) : Nam.allN (secOk N) Secs.nm Secs.d0 N.f1 = (Nam.allN Secs.ok Secs.nm Secs.d0 N.f1 && refsB N N.f1) := by
  rw [refs_all, ← all_range (refB N) Secs.d0 N.f1]
  unfold Nam.allN
  rw [show (List.range N.f1.length).all (fun k => refB N (N.f1.getD k Secs.d0)) = Nam.allTo (fun k => refB N (N.f1.getD k Secs.d0)) N.f1.length from rfl, ← allTo_and]
  congr 1
  funext k
  unfold Nam.step secOk
  cases Secs.ok (N.f1.getD k Secs.d0) <;> cases refB N (N.f1.getD k Secs.d0) <;> simp
theorem okI_eq (N : T) : okI N = okB N := by
  unfold okI okB modelsB Nam.listN
  rw [all_secs]
  generalize Nam.allN Sites.ok Sites.nm Sites.d0 N.f0 = a0
  generalize Nam.allN Secs.ok Secs.nm Secs.d0 N.f1 = a1
  generalize Nam.allN Ants.ok Ants.nm Ants.d0 N.f2 = a2
  generalize Nam.allN Rads.ok Rads.nm Rads.d0 N.f3 = a3
  generalize decide (N.f0.length ≤ 12) = b0
  generalize decide (N.f1.length ≤ 24) = b1
  generalize decide (N.f2.length ≤ 8) = b2
  generalize decide (N.f3.length ≤ 8) = b3
  generalize refsB N N.f1 = c
  revert a0 a1 a2 a3 b0 b1 b2 b3 c
  decide
set_option maxHeartbeats 4000000 in
theorem impl_ValidNetwork (v : Value) (N : T) (w : World) (hN : N.Small 1048576) (h : Is w v N) :
    Calls Tryz.prog 72 #[v] w fun e w' => e = .returned (.bool (okB N)) ∧ On w w' := by
  have HP := Lib.hid (fun w' (ho : On w w') v1 (h1 : Secs.Rows w' v1 N.f1) v' (hv : Is w' v' N) => impl_provides v' N v1 N.f1 w' hN.2.1.1 hN.2.1.2 hN hv h1)
  have HI := Lib.hid h
  obtain ⟨v0, v1, v2, v3, rfl, h0, h1, h2, h3⟩ := h
  have H0 := Lib.hid h0
  have H1 := Lib.hid h1
  have H2 := Lib.hid h2
  have H3 := Lib.hid h3
  obtain ⟨a0, cap0, rfl, -⟩ := h0
  obtain ⟨a1, cap1, rfl, -⟩ := h1
  obtain ⟨a2, cap2, rfl, -⟩ := h2
  obtain ⟨a3, cap3, rfl, -⟩ := h3
  have C0 := Lib.hid (fun w' (ho : On w w') => Sites.impl_list _ N.f0 w' hN.1.1 hN.1.2 (H0.out.on ho))
  have C1 := Lib.hid (fun w' (ho : On w w') => Secs.impl_list _ N.f1 w' hN.2.1.1 hN.2.1.2 (H1.out.on ho))
  have C2 := Lib.hid (fun w' (ho : On w w') => Ants.impl_list _ N.f2 w' hN.2.2.1.1 hN.2.2.1.2 (H2.out.on ho))
  have C3 := Lib.hid (fun w' (ho : On w w') => Rads.impl_list _ N.f3 w' hN.2.2.2.1 hN.2.2.2.2 (H3.out.on ho))
  have EN := Lib.hid (show okB N = (Nam.listN 12 Sites.ok Sites.nm Sites.d0 N.f0 && (Nam.listN 24 Secs.ok Secs.nm Secs.d0 N.f1 && (Nam.listN 8 Ants.ok Ants.nm Ants.d0 N.f2 && (Nam.listN 8 Rads.ok Rads.nm Rads.d0 N.f3 && refsB N N.f1)))) by rw [← okI_eq]; rfl)
  generalize Nam.listN 12 Sites.ok Sites.nm Sites.d0 N.f0 = b0 at *
  generalize Nam.listN 24 Secs.ok Secs.nm Secs.d0 N.f1 = b1 at *
  generalize Nam.listN 8 Ants.ok Ants.nm Ants.d0 N.f2 = b2 at *
  generalize Nam.listN 8 Rads.ok Rads.nm Rads.d0 N.f3 = b3 at *
  generalize refsB N N.f1 = b4 at *
  clear hN
  cases b0 with
  | false =>
    go_enter Tryz.func72, Tryz.ntmps72
    go_wp2_with fail
    refine (C0.out _ (by repeat (first | with_reducible exact On.refl _ | with_reducible apply On.alloc | with_reducible apply On.drewN | with_reducible apply On.drew | with_reducible refine On.setCell ?_ (by (try simp) <;> omega) _))).mono ?_
    rintro e w1 ⟨rfl, h1⟩
    have O1 : On w w1 := On.trans (by repeat (first | with_reducible exact On.refl _ | with_reducible apply On.alloc | with_reducible apply On.drewN | with_reducible apply On.drew | with_reducible refine On.setCell ?_ (by (try simp) <;> omega) _)) h1
    obtain ⟨hc1, hf1⟩ := bcell h1
    have z1 : w.heap.size < w1.heap.size := by have := h1.size; simp at this; omega
    go_wp2_with fail
    go_ret
    exact ⟨ret_bool (by rw [EN.out]; rfl), O1⟩
  | true =>
    go_enter Tryz.func72, Tryz.ntmps72
    go_wp2_with fail
    refine (C0.out _ (by repeat (first | with_reducible exact On.refl _ | with_reducible apply On.alloc | with_reducible apply On.drewN | with_reducible apply On.drew | with_reducible refine On.setCell ?_ (by (try simp) <;> omega) _))).mono ?_
    rintro e w1 ⟨rfl, h1⟩
    have O1 : On w w1 := On.trans (by repeat (first | with_reducible exact On.refl _ | with_reducible apply On.alloc | with_reducible apply On.drewN | with_reducible apply On.drew | with_reducible refine On.setCell ?_ (by (try simp) <;> omega) _)) h1
    obtain ⟨hc1, hf1⟩ := bcell h1
    have z1 : w.heap.size < w1.heap.size := by have := h1.size; simp at this; omega
    cases b1 with
    | false =>
      go_wp2_with fail
      refine (C1.out _ O1).mono ?_
      rintro e w2 ⟨rfl, h2⟩
      have O2 : On w w2 := On.trans (by exact O1) h2
      obtain ⟨hc2, hf2⟩ := bcell h2
      have z2 : w.heap.size < w2.heap.size := h2.lts _ z1
      go_wp2_with fail
      go_ret
      exact ⟨ret_bool (by rw [EN.out]; rfl), O2⟩
    | true =>
      go_wp2_with fail
      refine (C1.out _ O1).mono ?_
      rintro e w2 ⟨rfl, h2⟩
      have O2 : On w w2 := On.trans (by exact O1) h2
      obtain ⟨hc2, hf2⟩ := bcell h2
      have z2 : w.heap.size < w2.heap.size := h2.lts _ z1
      cases b2 with
      | false =>
        go_wp2_with fail
        refine (C2.out _ O2).mono ?_
        rintro e w3 ⟨rfl, h3⟩
        have O3 : On w w3 := On.trans (by exact O2) h3
        obtain ⟨hc3, hf3⟩ := bcell h3
        have z3 : w.heap.size < w3.heap.size := h3.lts _ z2
        go_wp2_with fail
        go_ret
        exact ⟨ret_bool (by rw [EN.out]; rfl), O3⟩
      | true =>
        go_wp2_with fail
        refine (C2.out _ O2).mono ?_
        rintro e w3 ⟨rfl, h3⟩
        have O3 : On w w3 := On.trans (by exact O2) h3
        obtain ⟨hc3, hf3⟩ := bcell h3
        have z3 : w.heap.size < w3.heap.size := h3.lts _ z2
        cases b3 with
        | false =>
          go_wp2_with fail
          refine (C3.out _ O3).mono ?_
          rintro e w4 ⟨rfl, h4⟩
          have O4 : On w w4 := On.trans (by exact O3) h4
          obtain ⟨hc4, hf4⟩ := bcell h4
          have z4 : w.heap.size < w4.heap.size := h4.lts _ z3
          go_wp2_with fail
          go_ret
          exact ⟨ret_bool (by rw [EN.out]; rfl), O4⟩
        | true =>
          go_wp2_with fail
          refine (C3.out _ O3).mono ?_
          rintro e w4 ⟨rfl, h4⟩
          have O4 : On w w4 := On.trans (by exact O3) h4
          obtain ⟨hc4, hf4⟩ := bcell h4
          have z4 : w.heap.size < w4.heap.size := h4.lts _ z3
          go_wp2_with fail
          refine (HP.out _ O4 _ (H1.out.on O4) _ (HI.out.on O4)).mono ?_
          rintro e w5 ⟨rfl, h5⟩
          go_wp2_with fail
          go_ret
          exact ⟨ret_bool (by rw [EN.out]; cases b4 <;> rfl), O4.trans h5⟩
/-- The count, from its literal on. -/
theorem count0 (v : Value) (N : T) (w : World) (hn : N.Small maxLen) (h : Is w v N) :
    Calls Tryz.prog 11 #[v, .int .i64 1048576] w fun e w' => ∃ r : Int, e = .returned (.int .i64 r) ∧ On w w' ∧ (r < 0 ∨ ∃ c : Nat, r = (c : Int) ∧ c ≤ 1048576 ∧ N.Small 1048576) := by
  have := count 1048576 v N w (Nat.le_refl _) hn h
  rw [show (((1048576 : Nat)) : Int) = 1048576 from rfl] at this
  exact this
end Go.Proofs.YtpnmodmaabhldaaGreat.Net
