
/-
  Whether a list of bands is valid, in the model and in the program. Conditions: at most 1048576 bands, and bytes in each name; the program's variable of spans holds what its text lays.
-/
import Derived.Test.YtbmhhhhodlfcbaaDoorBndsC
import Derived.Test.YtbmhhhhodlfcbaaDoorBndOf
import Derived.Test.YtbmhhhhodlfcbaaDoorBndV
namespace Go.Proofs.YtbmhhhhodlfcbaaDoor.Bnds
open Go.RowKit
open Bnd (okB)

def okZ (z : B5) : Bool := okB z.1 z.2.1 z.2.2.1 z.2.2.2.1 z.2.2.2.2
def ltN (zs : List B5) (k : Nat) : Bool := Op.bytesLess (zs.getD (k - 1) d5).1.toList (zs.getD k d5).1.toList
/-- Whether the k-th band is valid, and its name above the one before. -/
def stepB (zs : List B5) (k : Nat) : Bool := okZ (zs.getD k d5) && (decide (k = 0) || ltN zs k)
def listB (zs : List B5) : Bool := decide (zs.length ≤ 8) && (List.range zs.length).all (stepB zs)
def Upto (zs : List B5) (k : Nat) : Prop := ∀ j, j < k → stepB zs j = true
theorem upto_zero (zs : List B5) : Upto zs 0 := fun _ h => by omega
theorem upto_succ {zs : List B5} {k : Nat} (h : Upto zs k) (hk : stepB zs k = true) : Upto zs (k + 1) := fun j hj => by
  by_cases g : j = k
  · rw [g]; exact hk
  · exact h j (by omega)
theorem list_bad {zs : List B5} {k : Nat} (hk : k < zs.length) (h : stepB zs k = false) : listB zs = false := by
  unfold listB
  rw [Bool.and_eq_false_iff]
  refine .inr (List.all_eq_false.2 ⟨k, List.mem_range.2 hk, ?_⟩)
  rw [h]; simp
theorem list_all {zs : List B5} (h : Upto zs zs.length) : listB zs = decide (zs.length ≤ 8) := by
  unfold listB
  rw [show (List.range zs.length).all (stepB zs) = true from List.all_eq_true.2 fun j hj => h j (List.mem_range.1 hj), Bool.and_true]
theorem list_long {zs : List B5} (h : ¬ zs.length ≤ 8) : listB zs = false := by unfold listB; rw [decide_eq_false h]; rfl
theorem step_no {zs : List B5} {k : Nat} {x : ByteArray} {l h r d : Int} (hz : (x, l, h, r, d) = zs.getD k d5) (g : okB x l h r d = false) : stepB zs k = false := by unfold stepB okZ; rw [← hz, g]; rfl
theorem step_zero {zs : List B5} {x : ByteArray} {l h r d : Int} (hz : (x, l, h, r, d) = zs.getD 0 d5) (g : okB x l h r d = true) : stepB zs 0 = true := by unfold stepB okZ; rw [← hz, g]; rfl
theorem step_succ {zs : List B5} {j : Nat} {x y : ByteArray} {l h r d : Int} {b : Bool} (hz : (x, l, h, r, d) = zs.getD (j + 1) d5) (hy : y = (zs.getD j d5).1) (g : okB x l h r d = true) (g2 : Op.bytesLess y.toList x.toList = b) : stepB zs (j + 1) = b := by
  unfold stepB okZ ltN
  rw [show j + 1 - 1 = j from rfl, ← hz, ← hy, g, g2, decide_eq_false (by omega)]
  rfl
/-- Of two texts one is less, or they are the same. -/
theorem less_or : ∀ a b : List UInt8, (Op.bytesLess b a || b == a) = !(Op.bytesLess a b)
  | [], [] => rfl
  | [], _ :: _ => rfl
  | _ :: _, [] => rfl
  | a :: x, b :: y => by
    have ih := less_or x y
    unfold Op.bytesLess
    by_cases h1 : a < b
    · have h2 : ¬ b < a := fun h => by simp [UInt8.lt_iff_toNat_lt] at h1 h; omega
      have h3 : (b == a) = false := beq_eq_false_iff_ne.2 (fun e => by subst e; exact absurd h1 (UInt8.lt_irrefl _))
      simp [h1, h2, h3]
    · by_cases h2 : b < a
      · have h3 : (a == b) = false := beq_eq_false_iff_ne.2 (fun e => by subst e; exact absurd h2 (UInt8.lt_irrefl _))
        simp [h1, h2, h3]
      · have h3 : a = b := by apply UInt8.toNat_inj.1; simp [UInt8.lt_iff_toNat_lt] at h1 h2; omega
        subst h3
        simpa [h1] using ih

set_option maxHeartbeats 4000000 in
theorem spec_some (b off cap : Nat) (zs : List B5) (w : World) (hn : zs.length ≤ 1048576) (hs : ∀ i, i < zs.length → (zs.getD i d5).1.size ≤ 1048576) (hlt : b < w.heap.size)
    (hcell : ∀ k, k < zs.length → ∀ q, q < 5 → w.cell? ⟨b, off + k * 5 + q, none⟩ = some (cellOf (zs.getD k d5) q)) :
    Calls Tryd.prog 68 #[.slice (some ⟨b, off, none⟩) zs.length cap] w fun e w' => e = .returned (.bool (listB zs)) ∧ On w w' := by
  have HC := Lib.hid hcell
  have HS := Lib.hid hs
  obtain ⟨n, hnn⟩ : ∃ n, n = zs.length := ⟨_, rfl⟩
  have HL := Lib.hid hnn
  rw [← hnn] at hn ⊢
  clear hcell hs hnn
  go_enter Tryd.func68, Tryd.ntmps68
  go_wp2_with fail
  go_loopw [3] (fun i wr => ∃ k : Nat, k ≤ n ∧ i = .int .i64 k ∧ Upto zs k ∧ On w wr) (fun i _ => n - (intOf i).toNat)
  case atStart => exact ⟨0, Nat.zero_le _, rfl, upto_zero _, On.refl _⟩
  case round =>
    obtain ⟨k, hk, rfl, hall, ho⟩ := hrel
    have HA := Lib.hid hall
    have HB := Lib.hid ho
    have hbr : b < wr.heap.size := ho.lts _ hlt
    clear hall ho
    by_cases hlt0 : k < n
    · have hlt2 : k < zs.length := by rw [← HL.out]; exact hlt0
      obtain ⟨⟨x, l, h, r, d⟩, hz⟩ : ∃ z : B5, z = zs.getD k d5 := ⟨_, rfl⟩
      have hIN : Bnd.InO wr b (off + k * 5) x l h r d := by
        refine ⟨?_, ?_, ?_, ?_, ?_⟩
        · have := HC.out k hlt2 0 (by omega); rw [← hz] at this; exact (HB.out.cell (by exact hlt)).trans this
        · have := HC.out k hlt2 1 (by omega); rw [← hz] at this; exact (HB.out.cell (by exact hlt)).trans this
        · have := HC.out k hlt2 2 (by omega); rw [← hz] at this; exact (HB.out.cell (by exact hlt)).trans this
        · have := HC.out k hlt2 3 (by omega); rw [← hz] at this; exact (HB.out.cell (by exact hlt)).trans this
        · have := HC.out k hlt2 4 (by omega); rw [← hz] at this; exact (HB.out.cell (by exact hlt)).trans this
      have hx : x.size ≤ 1048576 := by have := HS.out k hlt2; rw [← hz] at this; exact this
      have HIN := Lib.hid hIN
      have HO := Lib.hid (fun w' hi => Bnd.spec_okO b (off + k * 5) x l h r d w' hx hi)
      cases g : okB x l h r d with
      | false =>
        have hlti : (k : Int) < (n : Int) := by omega
        have en := Lib.hid (list_bad hlt2 (step_no hz g))
        rw [g] at HO
        clear hz hIN hx hlt2
        go_wp2_with fail
        refine wp_region_onh (by kernel_rfl) (by kernel_rfl) ?_
        repeat (refine rest_step (fun K hK => ?_); go_simp; first | (refine hK _ ?_; clear hK K) | (apply Exists.intro; refine ⟨fun v1 hv1 => ?_, hK _ ?_⟩; (first | with_reducible exact rfl | with_reducible exact ⟨rfl, rfl⟩ | with_reducible exact Calls.on hv1 (HO.out _ (HIN.out.on hv1)) | (obtain ⟨hc, hf⟩ := bcell hv1; go_simp; first | with_reducible exact rfl | with_reducible exact ⟨rfl, rfl⟩ | exact rfl | exact ⟨rfl, rfl⟩)); clear hK K))
        refine rest_nil ?_
        intro w1 h1
        go_wp2_with fail
        go_ret
        exact ⟨ret_bool en.out.symm, HB.out.trans h1⟩
      | true =>
        rw [g] at HO
        cases k with
        | zero =>
          have hlti : (0 : Int) < (n : Int) := by omega
          have HU2 := Lib.hid (upto_succ HA.out (step_zero hz g))
          rw [show (((0 : Nat)) : Int) = 0 from rfl]
          obtain ⟨c0, c1, c2, c3, c4⟩ := hIN
          clear hz hx hlt2
          have hlt2 := hlt0
          go_wp2_with fail
          refine wp_region_onh (by kernel_rfl) (by kernel_rfl) ?_
          repeat (refine rest_step (fun K hK => ?_); go_simp; first | (refine hK _ ?_; clear hK K) | (apply Exists.intro; refine ⟨fun v1 hv1 => ?_, hK _ ?_⟩; (first | with_reducible exact rfl | with_reducible exact ⟨rfl, rfl⟩ | with_reducible exact Calls.on hv1 (HO.out _ (HIN.out.on hv1)) | (obtain ⟨hc, hf⟩ := bcell hv1; go_simp; first | with_reducible exact rfl | with_reducible exact ⟨rfl, rfl⟩ | exact rfl | exact ⟨rfl, rfl⟩)); clear hK K))
          refine rest_nil ?_
          intro w1 h1
          have HO1 := Lib.hid (HB.out.trans h1)
          clear h1
          go_wp2_with fail
          go_roundw
          case rel => first | exact ⟨_, hlt2, by go_num, HU2.out, HO1.out⟩ | ((repeat apply Exists.intro); exact ⟨hlt2, by go_num, HU2.out, HO1.out⟩)
          case measure => simp [intOf]; omega
        | succ j =>
          have hlti : (j : Int) + 1 < (n : Int) := by omega
          have hltj : (j : Int) < (n : Int) := by omega
          have gk : decide (0 < (j : Int) + 1) = true := decide_eq_true (by omega)
          have gk' : (0 : Int) < (j : Int) + 1 := by omega
          have wj : IntKind.i64.wrap ((j : Int) + 1 - 1) = (j : Int) := by rw [show (j : Int) + 1 - 1 = j by omega]; exact IntWalk.i64_in _ (by omega)
          have wj2 : IntKind.i64.wrap (j : Int) = (j : Int) := IntWalk.i64_in _ (by omega)
          obtain ⟨y, hy⟩ : ∃ y, y = (zs.getD j d5).1 := ⟨_, rfl⟩
          have cy : wr.cell? ⟨b, off + j * 5, none⟩ = some (.string y) := by have := HC.out j (by omega) 0 (by omega); rw [hy]; exact (HB.out.cell (by exact hlt)).trans this
          obtain ⟨c0, c1, c2, c3, c4⟩ := hIN
          cases g2 : Op.bytesLess y.toList x.toList with
          | false =>
            have en := Lib.hid (list_bad hlt2 (step_succ hz hy g g2))
            clear hz hy hx hlt2
            go_wp2_with fail
            refine wp_region_onh (by kernel_rfl) (by kernel_rfl) ?_
            repeat (refine rest_step (fun K hK => ?_); go_simp; first | (refine hK _ ?_; clear hK K) | (apply Exists.intro; refine ⟨fun v1 hv1 => ?_, hK _ ?_⟩; (first | with_reducible exact rfl | with_reducible exact ⟨rfl, rfl⟩ | with_reducible exact Calls.on hv1 (HO.out _ (HIN.out.on hv1)) | (obtain ⟨hc, hf⟩ := bcell hv1; go_simp; first | with_reducible exact rfl | with_reducible exact ⟨rfl, rfl⟩ | exact rfl | exact ⟨rfl, rfl⟩)); clear hK K))
            refine rest_nil ?_
            intro w1 h1
            go_wp2_with fail
            go_ret
            exact ⟨ret_bool en.out.symm, HB.out.trans h1⟩
          | true =>
            have HU2 := Lib.hid (upto_succ HA.out (step_succ hz hy g g2))
            clear hz hy hx hlt2
            have hlt2 := hlt0
            go_wp2_with fail
            refine wp_region_onh (by kernel_rfl) (by kernel_rfl) ?_
            repeat (refine rest_step (fun K hK => ?_); go_simp; first | (refine hK _ ?_; clear hK K) | (apply Exists.intro; refine ⟨fun v1 hv1 => ?_, hK _ ?_⟩; (first | with_reducible exact rfl | with_reducible exact ⟨rfl, rfl⟩ | with_reducible exact Calls.on hv1 (HO.out _ (HIN.out.on hv1)) | (obtain ⟨hc, hf⟩ := bcell hv1; go_simp; first | with_reducible exact rfl | with_reducible exact ⟨rfl, rfl⟩ | exact rfl | exact ⟨rfl, rfl⟩)); clear hK K))
            refine rest_nil ?_
            intro w1 h1
            have HO1 := Lib.hid (HB.out.trans h1)
            clear h1
            go_wp2_with fail
            go_roundw
            case rel => first | exact ⟨_, hlt2, by go_num, HU2.out, HO1.out⟩ | ((repeat apply Exists.intro); exact ⟨hlt2, by go_num, HU2.out, HO1.out⟩)
            case measure => simp [intOf]; omega
    · obtain rfl : k = n := by omega
      have en := Lib.hid (show listB zs = decide (k ≤ 8) by rw [list_all (by rw [← HL.out]; exact HA.out), ← HL.out])
      by_cases h8 : k ≤ 8
      · have h8i : (k : Int) ≤ 8 := by omega
        go_wp2
        go_ret
        exact ⟨ret_bool (by rw [en.out, decide_eq_true h8]; try rfl), HB.out⟩
      · have h8i : ¬ (k : Int) ≤ 8 := by omega
        go_wp2
        go_ret
        exact ⟨ret_bool (by rw [en.out, decide_eq_false h8]; try rfl), HB.out⟩

theorem spec_none (a : Option Addr) (cap : Nat) (w : World) :
    Calls Tryd.prog 68 #[.slice a 0 cap] w fun e w' => e = .returned (.bool (listB [])) ∧ On w w' := by
  go_enter Tryd.func68, Tryd.ntmps68
  go_wp2
  refine wp_loop_rounds 1 ?_
  rw [rounds_succ]
  go_wp2
  go_ret
  exact ⟨rfl, On.refl _⟩
theorem spec_list (v : Value) (zs : List B5) (w : World) (hn : zs.length ≤ 1048576) (hs : ∀ i, i < zs.length → (zs.getD i d5).1.size ≤ 1048576) (h : Rows w v zs) :
    Calls Tryd.prog 68 #[v] w fun e w' => e = .returned (.bool (listB zs)) ∧ On w w' := by
  have h' := h
  obtain ⟨a, cap, rfl, -⟩ := h
  by_cases h0 : 0 < zs.length
  · obtain ⟨b, off, rfl, hlt, hcell⟩ := slice_of h' h0
    exact spec_some b off cap zs w hn hs hlt hcell
  · have : zs = [] := List.eq_nil_of_length_eq_zero (by omega)
    subst this
    exact spec_none a cap w
theorem spec_ValidBands (v : Value) (zs : List B5) (w : World) (hn : zs.length ≤ 1048576) (hs : ∀ i, i < zs.length → (zs.getD i d5).1.size ≤ 1048576) (h : Rows w v zs) :
    Calls Tryd.prog 34 #[v] w fun e w' => e = .returned (.bool (listB zs)) ∧ On w w' := by
  have HL := Lib.hid (spec_list v zs w hn hs h)
  clear h
  go_enter Tryd.func34, Tryd.ntmps34
  go_wp2_with fail
  refine HL.out.mono ?_
  rintro e w1 ⟨rfl, h1⟩
  go_wp2_with fail
  go_ret
  exact ⟨rfl, h1⟩

theorem impl_name (x : ByteArray) (l h r d : Int) (w : World) :
    Calls Tryd.prog 183 #[.agg #[.string x, .int .i64 l, .int .i64 h, .int .i64 r, .int .i64 d]] w fun e w' => e = .returned (.string x) ∧ On w w' := by
  go_enter Tryd.func183, Tryd.ntmps183
  go_wp2_with fail
  go_ret
  exact ⟨rfl, by repeat (first | with_reducible exact On.refl _ | with_reducible apply On.alloc | with_reducible apply On.drewN | with_reducible apply On.drew | with_reducible refine On.setCell ?_ (by (try simp) <;> omega) _)⟩
theorem methodName (v : Value) (w : World) : (Go.method 321 26 v "loop.example/g00925/impl.name").run Tryd.prog w = .ok (183, v) w := by kernel_rfl
set_option maxHeartbeats 8000000 in
theorem impl_some (b off cap : Nat) (zs : List B5) (w : World) (hn : zs.length ≤ 1048576) (hs : ∀ i, i < zs.length → (zs.getD i d5).1.size ≤ 1048576) (hg : Span.SpanG w) (hlt : b < w.heap.size)
    (hcell : ∀ k, k < zs.length → ∀ q, q < 5 → w.cell? ⟨b, off + k * 5 + q, none⟩ = some (cellOf (zs.getD k d5) q)) :
    Calls Tryd.prog 69 #[.slice (some ⟨b, off, none⟩) zs.length cap, .int .i64 8, (.func (Fn.func 47) #[] #[])] w fun e w' => e = .returned (.bool (listB zs)) ∧ On w w' := by
  have HC := Lib.hid hcell
  have HS := Lib.hid hs
  have HG := Lib.hid hg
  obtain ⟨n, hnn⟩ : ∃ n, n = zs.length := ⟨_, rfl⟩
  have HL := Lib.hid hnn
  by_cases h8 : zs.length ≤ 8
  · rw [← hnn] at hn ⊢
    have h8i : ¬ (8 : Int) < (n : Int) := by omega
    have HL8 := Lib.hid h8
    clear hcell hs hnn hg h8
    have hm := methodName
    go_enter Tryd.func69, Tryd.ntmps69
    go_wp2_with fail
    go_loopw [15] (fun i wr => ∃ k : Nat, k ≤ n ∧ i = .int .i64 k ∧ Upto zs k ∧ On w wr) (fun i _ => n - (intOf i).toNat)
    case atStart => exact ⟨0, Nat.zero_le _, rfl, upto_zero _, On.refl _⟩
    case round =>
      obtain ⟨k, hk, rfl, hall, ho⟩ := hrel
      have HA := Lib.hid hall
      have HB := Lib.hid ho
      have hbr : b < wr.heap.size := ho.lts _ hlt
      have hbn : b ≠ wr.heap.size := Nat.ne_of_lt hbr
      clear hall ho
      by_cases hlt0 : k < n
      · have hlt2 : k < zs.length := by rw [← HL.out]; exact hlt0
        obtain ⟨⟨x, l, h, r, d⟩, hz⟩ : ∃ z : B5, z = zs.getD k d5 := ⟨_, rfl⟩
        have c0 : wr.cell? ⟨b, off + k * 5, none⟩ = some (.string x) := by have := HC.out k hlt2 0 (by omega); rw [← hz] at this; exact (HB.out.cell (by exact hlt)).trans this
        have c1 : wr.cell? ⟨b, off + k * 5 + 1, none⟩ = some (.int .i64 l) := by have := HC.out k hlt2 1 (by omega); rw [← hz] at this; exact (HB.out.cell (by exact hlt)).trans this
        have c2 : wr.cell? ⟨b, off + k * 5 + 2, none⟩ = some (.int .i64 h) := by have := HC.out k hlt2 2 (by omega); rw [← hz] at this; exact (HB.out.cell (by exact hlt)).trans this
        have c3 : wr.cell? ⟨b, off + k * 5 + 3, none⟩ = some (.int .i64 r) := by have := HC.out k hlt2 3 (by omega); rw [← hz] at this; exact (HB.out.cell (by exact hlt)).trans this
        have c4 : wr.cell? ⟨b, off + k * 5 + 4, none⟩ = some (.int .i64 d) := by have := HC.out k hlt2 4 (by omega); rw [← hz] at this; exact (HB.out.cell (by exact hlt)).trans this
        have hx : x.size ≤ 1048576 := by have := HS.out k hlt2; rw [← hz] at this; exact this
        have HO := Lib.hid (fun w' (ho : On w w') => Bnd.impl_ok x l h r d w' hx (HG.out.on ho))
        have HN1 := Lib.hid (fun w' => impl_name x l h r d w')
        cases g : okB x l h r d with
        | false =>
          have hlti : (k : Int) < (n : Int) := by omega
          have en := Lib.hid (list_bad hlt2 (step_no hz g))
          rw [g] at HO
          have HN2 := HN1
          clear hz hx hlt2
          go_wp2_with fail
          refine wp_region_onh (by kernel_rfl) (by kernel_rfl) ?_
          repeat (refine rest_step (fun K hK => ?_); go_simp; first | (refine hK _ ?_; clear hK K) | (apply Exists.intro; refine ⟨fun v1 hv1 => ?_, hK _ ?_⟩; (first | with_reducible exact rfl | with_reducible exact ⟨rfl, rfl⟩ | with_reducible exact Calls.on hv1 (HO.out _ (HB.out.trans (On.trans (On.alloc (On.refl _) _) hv1))) | with_reducible exact Calls.on hv1 (HN1.out _) | with_reducible exact Calls.on hv1 (HN2.out _) | (obtain ⟨hc, hf⟩ := bcell hv1; go_simp; first | with_reducible exact rfl | with_reducible exact ⟨rfl, rfl⟩ | exact rfl | exact ⟨rfl, rfl⟩)); clear hK K))
          refine rest_nil ?_
          intro w1 h1
          go_wp2_with fail
          go_ret
          exact ⟨ret_bool en.out.symm, by repeat (first | with_reducible exact On.refl _ | with_reducible apply On.alloc | with_reducible apply On.drewN | with_reducible apply On.drew | with_reducible refine On.setCell ?_ (by (try simp) <;> omega) _ | refine On.trans ?_ h1 | refine On.trans ?_ HB.out)⟩
        | true =>
          rw [g] at HO
          cases k with
          | zero =>
            have hlti : (0 : Int) < (n : Int) := by omega
            have HU2 := Lib.hid (upto_succ HA.out (step_zero hz g))
            rw [show (((0 : Nat)) : Int) = 0 from rfl]
            rw [Nat.zero_mul, Nat.add_zero] at c0 c1 c2 c3 c4
            have HN2 := HN1
            clear hz hx hlt2
            have hlt2 := hlt0
            go_wp2_with fail
            refine wp_region_onh (by kernel_rfl) (by kernel_rfl) ?_
            repeat (refine rest_step (fun K hK => ?_); go_simp; first | (refine hK _ ?_; clear hK K) | (apply Exists.intro; refine ⟨fun v1 hv1 => ?_, hK _ ?_⟩; (first | with_reducible exact rfl | with_reducible exact ⟨rfl, rfl⟩ | with_reducible exact Calls.on hv1 (HO.out _ (HB.out.trans (On.trans (On.alloc (On.refl _) _) hv1))) | with_reducible exact Calls.on hv1 (HN1.out _) | with_reducible exact Calls.on hv1 (HN2.out _) | (obtain ⟨hc, hf⟩ := bcell hv1; go_simp; first | with_reducible exact rfl | with_reducible exact ⟨rfl, rfl⟩ | exact rfl | exact ⟨rfl, rfl⟩)); clear hK K))
            refine rest_nil ?_
            intro w1 h1
            have HO1 := Lib.hid (show On w w1 by repeat (first | with_reducible exact On.refl _ | with_reducible apply On.alloc | with_reducible apply On.drewN | with_reducible apply On.drew | with_reducible refine On.setCell ?_ (by (try simp) <;> omega) _ | refine On.trans ?_ h1 | refine On.trans ?_ HB.out))
            clear h1
            go_wp2_with fail
            go_roundw
            case rel => first | exact ⟨_, hlt2, by go_num, HU2.out, HO1.out⟩ | ((repeat apply Exists.intro); exact ⟨hlt2, by go_num, HU2.out, HO1.out⟩)
            case measure => simp [intOf]; omega
          | succ j =>
            have hlti : (j : Int) + 1 < (n : Int) := by omega
            have hltj : (j : Int) < (n : Int) := by omega
            have gk : decide (0 < (j : Int) + 1) = true := decide_eq_true (by omega)
            have gk' : (0 : Int) < (j : Int) + 1 := by omega
            have wj : IntKind.i64.wrap ((j : Int) + 1 - 1) = (j : Int) := by rw [show (j : Int) + 1 - 1 = j by omega]; exact IntWalk.i64_in _ (by omega)
            have wj2 : IntKind.i64.wrap (j : Int) = (j : Int) := IntWalk.i64_in _ (by omega)
            obtain ⟨⟨y, m1, m2, m3, m4⟩, hy0⟩ : ∃ z : B5, z = zs.getD j d5 := ⟨_, rfl⟩
            have hy : y = (zs.getD j d5).1 := by rw [← hy0]
            have HN2 := Lib.hid (fun w' => impl_name y m1 m2 m3 m4 w')
            have e0 : wr.cell? ⟨b, off + j * 5, none⟩ = some (.string y) := by have := HC.out j (by omega) 0 (by omega); rw [← hy0] at this; exact (HB.out.cell (by exact hlt)).trans this
            have e1 : wr.cell? ⟨b, off + j * 5 + 1, none⟩ = some (.int .i64 m1) := by have := HC.out j (by omega) 1 (by omega); rw [← hy0] at this; exact (HB.out.cell (by exact hlt)).trans this
            have e2 : wr.cell? ⟨b, off + j * 5 + 2, none⟩ = some (.int .i64 m2) := by have := HC.out j (by omega) 2 (by omega); rw [← hy0] at this; exact (HB.out.cell (by exact hlt)).trans this
            have e3 : wr.cell? ⟨b, off + j * 5 + 3, none⟩ = some (.int .i64 m3) := by have := HC.out j (by omega) 3 (by omega); rw [← hy0] at this; exact (HB.out.cell (by exact hlt)).trans this
            have e4 : wr.cell? ⟨b, off + j * 5 + 4, none⟩ = some (.int .i64 m4) := by have := HC.out j (by omega) 4 (by omega); rw [← hy0] at this; exact (HB.out.cell (by exact hlt)).trans this
            have lo := less_or y.toList x.toList
            cases g2 : Op.bytesLess y.toList x.toList with
            | false =>
              have en := Lib.hid (list_bad hlt2 (step_succ hz hy g g2))
              rw [g2] at lo
              clear hz hy hy0 hx hlt2
              go_wp2_with fail
              refine wp_region_onh (by kernel_rfl) (by kernel_rfl) ?_
              repeat (refine rest_step (fun K hK => ?_); go_simp; first | (refine hK _ ?_; clear hK K) | (apply Exists.intro; refine ⟨fun v1 hv1 => ?_, hK _ ?_⟩; (first | with_reducible exact rfl | with_reducible exact ⟨rfl, rfl⟩ | with_reducible exact Calls.on hv1 (HO.out _ (HB.out.trans (On.trans (On.alloc (On.refl _) _) hv1))) | with_reducible exact Calls.on hv1 (HN1.out _) | with_reducible exact Calls.on hv1 (HN2.out _) | (obtain ⟨hc, hf⟩ := bcell hv1; go_simp; first | with_reducible exact rfl | with_reducible exact ⟨rfl, rfl⟩ | exact rfl | exact ⟨rfl, rfl⟩)); clear hK K))
              refine rest_nil ?_
              intro w1 h1
              go_wp2_with fail
              go_ret
              exact ⟨ret_bool en.out.symm, by repeat (first | with_reducible exact On.refl _ | with_reducible apply On.alloc | with_reducible apply On.drewN | with_reducible apply On.drew | with_reducible refine On.setCell ?_ (by (try simp) <;> omega) _ | refine On.trans ?_ h1 | refine On.trans ?_ HB.out)⟩
            | true =>
              have HU2 := Lib.hid (upto_succ HA.out (step_succ hz hy g g2))
              rw [g2] at lo
              clear hz hy hy0 hx hlt2
              have hlt2 := hlt0
              go_wp2_with fail
              refine wp_region_onh (by kernel_rfl) (by kernel_rfl) ?_
              repeat (refine rest_step (fun K hK => ?_); go_simp; first | (refine hK _ ?_; clear hK K) | (apply Exists.intro; refine ⟨fun v1 hv1 => ?_, hK _ ?_⟩; (first | with_reducible exact rfl | with_reducible exact ⟨rfl, rfl⟩ | with_reducible exact Calls.on hv1 (HO.out _ (HB.out.trans (On.trans (On.alloc (On.refl _) _) hv1))) | with_reducible exact Calls.on hv1 (HN1.out _) | with_reducible exact Calls.on hv1 (HN2.out _) | (obtain ⟨hc, hf⟩ := bcell hv1; go_simp; first | with_reducible exact rfl | with_reducible exact ⟨rfl, rfl⟩ | exact rfl | exact ⟨rfl, rfl⟩)); clear hK K))
              refine rest_nil ?_
              intro w1 h1
              have HO1 := Lib.hid (show On w w1 by repeat (first | with_reducible exact On.refl _ | with_reducible apply On.alloc | with_reducible apply On.drewN | with_reducible apply On.drew | with_reducible refine On.setCell ?_ (by (try simp) <;> omega) _ | refine On.trans ?_ h1 | refine On.trans ?_ HB.out))
              clear h1
              go_wp2_with fail
              go_roundw
              case rel => first | exact ⟨_, hlt2, by go_num, HU2.out, HO1.out⟩ | ((repeat apply Exists.intro); exact ⟨hlt2, by go_num, HU2.out, HO1.out⟩)
              case measure => simp [intOf]; omega
      · obtain rfl : k = n := by omega
        have en := Lib.hid (show listB zs = true by rw [list_all (by rw [← HL.out]; exact HA.out)]; exact decide_eq_true HL8.out)
        go_wp2
        go_ret
        exact ⟨ret_bool en.out.symm, HB.out⟩
  · have en := Lib.hid (list_long h8)
    have h8i : (8 : Int) < (zs.length : Int) := by omega
    clear hcell hs hnn hg HL
    go_enter Tryd.func69, Tryd.ntmps69
    go_wp2_with fail
    go_ret
    exact ⟨ret_bool en.out.symm, On.refl _⟩

theorem impl_none (a : Option Addr) (cap : Nat) (w : World) :
    Calls Tryd.prog 69 #[.slice a 0 cap, .int .i64 8, (.func (Fn.func 47) #[] #[])] w fun e w' => e = .returned (.bool (listB [])) ∧ On w w' := by
  go_enter Tryd.func69, Tryd.ntmps69
  go_wp2
  refine wp_loop_rounds 1 ?_
  rw [rounds_succ]
  go_wp2
  go_ret
  exact ⟨rfl, On.refl _⟩
theorem impl_list (v : Value) (zs : List B5) (w : World) (hn : zs.length ≤ 1048576) (hs : ∀ i, i < zs.length → (zs.getD i d5).1.size ≤ 1048576) (hg : Span.SpanG w) (h : Rows w v zs) :
    Calls Tryd.prog 69 #[v, .int .i64 8, (.func (Fn.func 47) #[] #[])] w fun e w' => e = .returned (.bool (listB zs)) ∧ On w w' := by
  have h' := h
  obtain ⟨a, cap, rfl, -⟩ := h
  by_cases h0 : 0 < zs.length
  · obtain ⟨b, off, rfl, hlt, hcell⟩ := slice_of h' h0
    exact impl_some b off cap zs w hn hs hg hlt hcell
  · have : zs = [] := List.eq_nil_of_length_eq_zero (by omega)
    subst this
    exact impl_none a cap w
theorem impl_ValidBands (v : Value) (zs : List B5) (w : World) (hn : zs.length ≤ 1048576) (hs : ∀ i, i < zs.length → (zs.getD i d5).1.size ≤ 1048576) (hg : Span.SpanG w) (h : Rows w v zs) :
    Calls Tryd.prog 36 #[v] w fun e w' => e = .returned (.bool (listB zs)) ∧ On w w' := by
  have HL := Lib.hid (impl_list v zs w hn hs hg h)
  clear h hg
  go_enter Tryd.func36, Tryd.ntmps36
  go_wp2_with fail
  refine HL.out.mono ?_
  rintro e w1 ⟨rfl, h1⟩
  go_wp2_with fail
  go_ret
  exact ⟨rfl, h1⟩

end Go.Proofs.YtbmhhhhodlfcbaaDoor.Bnds
