
/-
  The text of a radio, in the model and in the program. Condition: at most 1048576 modes, and bytes in the name; the library's table of powers of ten holds what its text lays.
-/
import Derived.Test.YtggiilbdlbhpgaaDoorDec
import Derived.Test.YtggiilbdlbhpgaaDoorOnH
import Derived.Test.YtggiilbdlbhpgaaDoorTail
import Derived.Test.YtggiilbdlbhpgaaDoorBldR
import Derived.Test.YtggiilbdlbhpgaaDoorRadOk
import Derived.Lib.LaidTab
namespace Go.Proofs.YtggiilbdlbhpgaaDoor.RTxt
open Go.RowKit
open Plain
open Rad (at0 at1 okR of_okR Upto of_modes In)
open Modes (Pairs)
open Lib (IsBuilder BuilderAt strCells)

def dec (x : Int) : ByteArray := ⟨(Lib.itoa x).toArray⟩
theorem dec_size (x : Int) (h0 : -9223372036854775808 ≤ x) (h1 : x ≤ 9223372036854775807) : (dec x).size ≤ 21 := by
  have : (Lib.itoa x).length ≤ 21 := by
    by_cases h : 0 ≤ x
    · have := itoa_len x h (by omega); omega
    · obtain ⟨k, hk⟩ := Int.eq_ofNat_of_zero_le (a := -x) (by omega)
      have e : x = -(k : Int) := by omega
      rw [e, itoa_neg k (by omega)]
      have := decDigits_le (N := k) (by omega)
      simp
      omega
  simpa [dec, ByteArray.size] using this
theorem ret_str {a b : ByteArray} (h : a = b) : Ending.returned (.string a) = .returned (.string b) := by rw [h]
theorem sz1 (c : UInt8) : (⟨#[c]⟩ : ByteArray).size = 1 := rfl
/-- The bounds of a mode's numbers. -/
theorem upto_in {zs : List (Int × Int)} {n k : Nat} (h : Upto zs n) (hk : k < n) : (-50000 ≤ at0 zs k ∧ at0 zs k ≤ 100000) ∧ 1 ≤ at1 zs k ∧ at1 zs k ≤ 1000000 := by
  have := h k hk
  unfold Rad.stepB at this
  rw [Bool.and_eq_true, Bool.and_eq_true] at this
  exact ⟨of_inB this.1, of_inB this.2.1⟩
/-- A mode's text. -/
def one (zs : List (Int × Int)) (k : Nat) : ByteArray := dec (at0 zs k) ++ ⟨#[47]⟩ ++ dec (at1 zs k)
/-- The model's text behind k modes. -/
def ot (h : ByteArray) (zs : List (Int × Int)) : Nat → ByteArray
  | 0 => h
  | k + 1 => (if k = 0 then ot h zs k else ot h zs k ++ ⟨#[44]⟩) ++ one zs k
def sep (k : Nat) : ByteArray := if k = 0 then ⟨#[32]⟩ else ⟨#[44]⟩
/-- What the program has written behind k modes. -/
def bc (t : ByteArray) (zs : List (Int × Int)) : Nat → ByteArray
  | 0 => t
  | k + 1 => bc t zs k ++ (sep k ++ dec (at0 zs k) ++ ⟨#[47]⟩ ++ dec (at1 zs k))
theorem sep_size (k : Nat) : (sep k).size = 1 := by unfold sep; split <;> rfl
theorem one_size {zs : List (Int × Int)} {n k : Nat} (h : Upto zs n) (hk : k < n) : (one zs k).size ≤ 43 := by
  obtain ⟨⟨h1, h2⟩, h3, h4⟩ := upto_in h hk
  have s1 := dec_size (at0 zs k) (by omega) (by omega)
  have s2 := dec_size (at1 zs k) (by omega) (by omega)
  simp only [one, ByteArray.size_append, sz1]
  omega
theorem ot_size {zs : List (Int × Int)} {n : Nat} (hu : Upto zs n) (h : ByteArray) : ∀ k, k ≤ n → (ot h zs k).size ≤ h.size + 44 * k
  | 0, _ => by simp [ot]
  | k + 1, hk => by
    have h1 := ot_size hu h k (by omega)
    have h2 := one_size hu (show k < n by omega)
    unfold ot
    split <;> simp only [ByteArray.size_append, sz1] <;> omega
theorem bc_size {zs : List (Int × Int)} {n : Nat} (hu : Upto zs n) (t : ByteArray) : ∀ k, k ≤ n → (bc t zs k).size ≤ t.size + 44 * k
  | 0, _ => by simp [bc]
  | k + 1, hk => by
    have h1 := bc_size hu t k (by omega)
    have h2 := one_size hu (show k < n by omega)
    have h3 := sep_size k
    unfold one at h2
    unfold bc
    simp only [ByteArray.size_append, sz1] at h2 ⊢
    omega
theorem ot_bc (t : ByteArray) (zs : List (Int × Int)) : ∀ k, ot (t ++ ⟨#[32]⟩) zs (k + 1) = bc t zs (k + 1)
  | 0 => by simp [ot, bc, sep, one, ByteArray.append_assoc]
  | k + 1 => by
    have := ot_bc t zs k
    rw [ot, bc, this, if_neg (by omega), sep, if_neg (by omega), one]
    simp [ByteArray.append_assoc]
/-- The head: the name and the numbers. -/
def hd (x0 : ByteArray) (ds : List ByteArray) (k : Nat) : ByteArray := (ds.take k).foldl (fun a d => a ++ (⟨#[32]⟩ ++ d)) x0
theorem hd_succ {x0 : ByteArray} {ds : List ByteArray} {k : Nat} {d : ByteArray} (h : ds[k]? = some d) : hd x0 ds (k + 1) = hd x0 ds k ++ (⟨#[32]⟩ ++ d) := by
  have hk : k < ds.length := (List.getElem?_eq_some_iff.1 h).1
  have e : ds[k] = d := by rw [List.getElem?_eq_getElem hk] at h; simpa using h
  unfold hd
  rw [List.take_succ_eq_append_getElem hk, List.foldl_append, e]
  rfl
theorem hd_size {x0 : ByteArray} {ds : List ByteArray} (h : ∀ d ∈ ds, d.size ≤ 21) : ∀ k, k ≤ ds.length → (hd x0 ds k).size ≤ x0.size + 22 * k
  | 0, _ => by simp [hd]
  | k + 1, hk => by
    have h1 := hd_size (x0 := x0) h k (by omega)
    have h2 := h _ (List.getElem_mem (show k < ds.length by omega))
    rw [hd_succ (List.getElem?_eq_getElem (show k < ds.length by omega))]
    simp only [ByteArray.size_append, sz1]
    omega
def head (x0 d1 d2 d3 d4 : ByteArray) : ByteArray := x0 ++ ⟨#[32]⟩ ++ d1 ++ ⟨#[32]⟩ ++ d2 ++ ⟨#[32]⟩ ++ d3 ++ ⟨#[32]⟩ ++ d4 ++ ⟨#[32]⟩
theorem head_eq (x0 d1 d2 d3 d4 : ByteArray) : head x0 d1 d2 d3 d4 = hd x0 [d1, d2, d3, d4] 4 ++ ⟨#[32]⟩ := by
  simp [head, hd, ByteArray.append_assoc]
def radT (x0 : ByteArray) (x1 x2 x3 x4 : Int) (zs : List (Int × Int)) : ByteArray := ot (head x0 (dec x1) (dec x2) (dec x3) (dec x4)) zs zs.length
def textV (ok : Bool) (x0 : ByteArray) (x1 x2 x3 x4 : Int) (zs : List (Int × Int)) : ByteArray := if ok = true then radT x0 x1 x2 x3 x4 zs else ⟨#[]⟩
theorem radT_bc (x0 : ByteArray) (x1 x2 x3 x4 : Int) {zs : List (Int × Int)} (h : 0 < zs.length) : radT x0 x1 x2 x3 x4 zs = bc (hd x0 [dec x1, dec x2, dec x3, dec x4] 4) zs zs.length := by
  obtain ⟨k, hk⟩ : ∃ k, zs.length = k + 1 := ⟨zs.length - 1, by omega⟩
  unfold radT
  rw [hk, head_eq, ot_bc]
set_option maxRecDepth 100000 in
set_option maxHeartbeats 4000000 in
theorem spec_text (g : Nat) (x0 : ByteArray) (x1 x2 x3 x4 : Int) (v5 : Value) (z5 : List (Int × Int)) (w : World) (q0 : x0.size ≤ 1048576) (hok : okR x0 x1 x2 x3 x4 z5 = true) (hp : In w g x0 x1 x2 x3 x4 v5) (h5 : Pairs w v5 z5) :
    Calls Tryd.prog 21 #[.pointer (some ⟨g, 0, none⟩)] w fun e w' => e = .returned (.string (radT x0 x1 x2 x3 x4 z5)) ∧ On w w' := by
  obtain ⟨-, b1, b2, b3, b4, hm⟩ := of_okR hok
  obtain ⟨⟨n1, n8⟩, hu⟩ := of_modes hm
  obtain ⟨n, hn⟩ : ∃ n, n = z5.length := ⟨_, rfl⟩
  have D1 := Lib.hid (show ∀ w1, Calls Tryd.prog 28 #[.int .i64 x1] w1 fun e w' => e = .returned (.string (dec x1)) ∧ On w1 w' from fun w1 => Dec.spec_dec x1 w1 (by omega) (by omega))
  have D2 := Lib.hid (show ∀ w1, Calls Tryd.prog 28 #[.int .i64 x2] w1 fun e w' => e = .returned (.string (dec x2)) ∧ On w1 w' from fun w1 => Dec.spec_dec x2 w1 (by omega) (by omega))
  have D3 := Lib.hid (show ∀ w1, Calls Tryd.prog 28 #[.int .i64 x3] w1 fun e w' => e = .returned (.string (dec x3)) ∧ On w1 w' from fun w1 => Dec.spec_dec x3 w1 (by omega) (by omega))
  have D4 := Lib.hid (show ∀ w1, Calls Tryd.prog 28 #[.int .i64 x4] w1 fun e w' => e = .returned (.string (dec x4)) ∧ On w1 w' from fun w1 => Dec.spec_dec x4 w1 (by omega) (by omega))
  have s1 := dec_size x1 (by omega) (by omega)
  have s2 := dec_size x2 (by omega) (by omega)
  have s3 := dec_size x3 (by omega) (by omega)
  have s4 := dec_size x4 (by omega) (by omega)
  have hr : radT x0 x1 x2 x3 x4 z5 = ot (head x0 (dec x1) (dec x2) (dec x3) (dec x4)) z5 n := by rw [hn]; rfl
  rw [hr]
  generalize dec x1 = d1 at *
  generalize dec x2 = d2 at *
  generalize dec x3 = d3 at *
  generalize dec x4 = d4 at *
  have HH : (head x0 d1 d2 d3 d4).size ≤ 1048700 := by simp only [head, ByteArray.size_append, sz1]; omega
  have HE := Lib.hid (show head x0 d1 d2 d3 d4 = x0 ++ ⟨#[32]⟩ ++ d1 ++ ⟨#[32]⟩ ++ d2 ++ ⟨#[32]⟩ ++ d3 ++ ⟨#[32]⟩ ++ d4 ++ ⟨#[32]⟩ from rfl)
  have HU := Lib.hid (show Upto z5 n by rw [hn]; exact hu)
  have g1 : ¬ 9223372036854775807 < x0.size + 1 := by omega
  have g2 : ¬ 9223372036854775807 < x0.size + 1 + d1.size := by omega
  have g3 : ¬ 9223372036854775807 < x0.size + 1 + d1.size + 1 := by omega
  have g4 : ¬ 9223372036854775807 < x0.size + 1 + d1.size + 1 + d2.size := by omega
  have g5 : ¬ 9223372036854775807 < x0.size + 1 + d1.size + 1 + d2.size + 1 := by omega
  have g6 : ¬ 9223372036854775807 < x0.size + 1 + d1.size + 1 + d2.size + 1 + d3.size := by omega
  have g7 : ¬ 9223372036854775807 < x0.size + 1 + d1.size + 1 + d2.size + 1 + d3.size + 1 := by omega
  have g8 : ¬ 9223372036854775807 < x0.size + 1 + d1.size + 1 + d2.size + 1 + d3.size + 1 + d4.size := by omega
  have g9 : ¬ 9223372036854775807 < x0.size + 1 + d1.size + 1 + d2.size + 1 + d3.size + 1 + d4.size + 1 := by omega
  have h5' := h5
  obtain ⟨a5, cap5, rfl, -⟩ := h5
  obtain ⟨b, off, rfl, hb, hcell⟩ := Modes.slice_of h5' (by omega)
  have HC := Lib.hid (fun (k : Nat) (hk : k < n) => show w.cell? ⟨b, off + k * 2, none⟩ = some (.int .i64 (at0 z5 k)) ∧ w.cell? ⟨b, off + k * 2 + 1, none⟩ = some (.int .i64 (at1 z5 k)) from hcell k (by rw [← hn]; exact hk))
  rw [← hn] at n1 n8 hp
  have KP := Lib.hid hp
  obtain ⟨k0, k1, k2, k3, k4, k5⟩ := hp
  have hg := World.block_lt_of_cell? w _ k0
  clear hcell h5' hn hu hm hok hr b1 b2 b3 b4 q0 s1 s2 s3 s4
  go_enter Tryd.func21, Tryd.ntmps21
  go_wp2_with fail
  refine wp_region_onh (by kernel_rfl) (by kernel_rfl) ?_
  repeat (refine rest_step (fun K hK => ?_); go_simp; first | (refine hK _ ?_; clear hK K) | (apply Exists.intro; refine ⟨fun v1 hv1 => ?_, hK _ ?_⟩; (first | with_reducible exact rfl | with_reducible exact ⟨rfl, rfl⟩ | with_reducible exact Calls.on hv1 (D1.out _) | with_reducible exact Calls.on hv1 (D2.out _) | with_reducible exact Calls.on hv1 (D3.out _) | with_reducible exact Calls.on hv1 (D4.out _) | (obtain ⟨hc, hf⟩ := bcell hv1; go_simp; first | with_reducible exact rfl | with_reducible exact ⟨rfl, rfl⟩ | exact rfl | exact ⟨rfl, rfl⟩)); clear hK K))
  refine rest_nil ?_
  intro w2 h2
  have HO2 := Lib.hid h2
  rw [← HE.out]
  clear h2 k0 k1 k2 k3 k4 k5 D1 D2 D3 D4 HE g1 g2 g3 g4 g5 g6 g7 g8 g9
  generalize hh : head x0 d1 d2 d3 d4 = h at *
  have HHD := Lib.hid hh
  clear hh
  go_wp2_with fail
  go_loopw [3, 4] (fun o i wr => ∃ k : Nat, k ≤ n ∧ i = .int .i64 k ∧ o = .string (ot h z5 k) ∧ On w wr) (fun _ i _ => n - (intOf i).toNat)
  case atStart => exact ⟨0, Nat.zero_le _, rfl, rfl, HO2.out⟩
  case round =>
    obtain ⟨k, hk, rfl, rfl, ho⟩ := hrel
    have HO := Lib.hid ho
    obtain ⟨-, -, -, -, -, k5⟩ := KP.out.on ho
    have hgr := ho.lts _ hg
    have hbr := ho.lts _ hb
    have osz := ot_size HU.out h k hk
    clear ho
    by_cases hlt : k < n
    · have hlti : (k : Int) < (n : Int) := by omega
      have us := upto_in HU.out hlt
      obtain ⟨⟨u1, u2⟩, u3, u4⟩ := us
      have c1 : wr.cell? ⟨b, off + k * 2, none⟩ = some (.int .i64 (at0 z5 k)) := (HO.out.cell (by exact hb)).trans (HC.out k hlt).1
      have c2 : wr.cell? ⟨b, off + k * 2 + 1, none⟩ = some (.int .i64 (at1 z5 k)) := (HO.out.cell (by exact hb)).trans (HC.out k hlt).2
      have E1 := Lib.hid (show ot h z5 (k + 1) = (if k = 0 then ot h z5 k else ot h z5 k ++ ⟨#[44]⟩) ++ one z5 k from rfl)
      have E2 := Lib.hid (show one z5 k = dec (at0 z5 k) ++ ⟨#[47]⟩ ++ dec (at1 z5 k) from rfl)
      generalize at0 z5 k = x at *
      generalize at1 z5 k = y at *
      have D1 := Lib.hid (show ∀ w1, Calls Tryd.prog 28 #[.int .i64 x] w1 fun e w' => e = .returned (.string (dec x)) ∧ On w1 w' from fun w1 => Dec.spec_dec x w1 (by omega) (by omega))
      have D2 := Lib.hid (show ∀ w1, Calls Tryd.prog 28 #[.int .i64 y] w1 fun e w' => e = .returned (.string (dec y)) ∧ On w1 w' from fun w1 => Dec.spec_dec y w1 (by omega) (by omega))
      have s1 := dec_size x (by omega) (by omega)
      have s2 := dec_size y (by omega) (by omega)
      generalize dec x = d1 at *
      generalize dec y = d2 at *
      generalize ot h z5 k = o at *
      have g1 : ¬ 9223372036854775807 < d1.size + 1 := by omega
      have g2 : ¬ 9223372036854775807 < d1.size + 1 + d2.size := by omega
      cases k with
      | zero =>
        have g3 : ¬ 9223372036854775807 < o.size + (d1.size + 1 + d2.size) := by omega
        rw [show off + 0 * 2 = off by omega] at c1 c2
        have z0 : ((0 : Nat) : Int) = 0 := rfl
        have e1 : ot h z5 1 = o ++ (d1 ++ ⟨#[47]⟩ ++ d2) := by rw [← E2.out]; exact E1.out
        have E3 := Lib.hid e1
        clear e1 E1 E2 u1 u2 u3 u4 osz s1 s2
        rw [z0] at *
        go_wp2_with fail
        refine wp_region_onh (by kernel_rfl) (by kernel_rfl) ?_
        repeat (refine rest_step (fun K hK => ?_); go_simp; first | (refine hK _ ?_; clear hK K) | (apply Exists.intro; refine ⟨fun v1 hv1 => ?_, hK _ ?_⟩; (first | with_reducible exact rfl | with_reducible exact ⟨rfl, rfl⟩ | with_reducible exact Calls.on hv1 (D1.out _) | with_reducible exact Calls.on hv1 (D2.out _) | (obtain ⟨hc, hf⟩ := bcell hv1; go_simp; first | with_reducible exact rfl | with_reducible exact ⟨rfl, rfl⟩ | exact rfl | exact ⟨rfl, rfl⟩)); clear hK K))
        refine rest_nil ?_
        intro w5 h5
        go_wp2_with fail
        go_roundw
        case rel => exact ⟨1, by omega, by go_num, by rw [E3.out], HO.out.trans h5⟩
        case measure => simp [intOf]; omega
      | succ k =>
        have g3 : ¬ 9223372036854775807 < o.size + 1 := by omega
        have g4 : ¬ 9223372036854775807 < o.size + 1 + (d1.size + 1 + d2.size) := by omega
        have g0 : decide ((0 : Int) < (k : Int) + 1) = true := decide_eq_true (by omega)
        have g0' : (0 : Int) < (k : Int) + 1 := by omega
        have e1 : ot h z5 (k + 1 + 1) = o ++ ⟨#[44]⟩ ++ (d1 ++ ⟨#[47]⟩ ++ d2) := by rw [← E2.out]; exact E1.out
        have E3 := Lib.hid e1
        have g0'' : (0 : Int) < ((k + 1 : Nat) : Int) := by omega
        clear e1 E1 E2 u1 u2 u3 u4 osz s1 s2
        go_wp2_with fail
        refine wp_region_onh (by kernel_rfl) (by kernel_rfl) ?_
        repeat (refine rest_step (fun K hK => ?_); go_simp; first | (refine hK _ ?_; clear hK K) | (apply Exists.intro; refine ⟨fun v1 hv1 => ?_, hK _ ?_⟩; (first | with_reducible exact rfl | with_reducible exact ⟨rfl, rfl⟩ | with_reducible exact Calls.on hv1 (D1.out _) | with_reducible exact Calls.on hv1 (D2.out _) | (obtain ⟨hc, hf⟩ := bcell hv1; go_simp; first | with_reducible exact rfl | with_reducible exact ⟨rfl, rfl⟩ | exact rfl | exact ⟨rfl, rfl⟩)); clear hK K))
        refine rest_nil ?_
        intro w5 h5
        go_wp2_with fail
        go_roundw
        case rel => exact ⟨k + 1 + 1, by omega, by go_num, by rw [E3.out], HO.out.trans h5⟩
        case measure => simp [intOf]; omega
    · obtain rfl : k = n := by omega
      have hnot : ¬ ((k : Int) < (k : Int)) := by omega
      generalize ho : ot h z5 k = o at *
      have HOT := Lib.hid ho
      clear ho
      go_wp2_with fail
      go_ret
      exact ⟨ret_str (by rw [HHD.out, HOT.out]), HO.out⟩
set_option maxRecDepth 100000 in
set_option maxHeartbeats 2000000 in
theorem spec_RadioText (x0 : ByteArray) (x1 x2 x3 x4 : Int) (v5 : Value) (z5 : List (Int × Int)) (w : World) (q0 : x0.size ≤ 1048576) (q5 : z5.length ≤ 1048576) (h5 : Pairs w v5 z5) :
    Calls Tryd.prog 7 #[.agg #[.string x0, .int .i64 x1, .int .i64 x2, .int .i64 x3, .int .i64 x4, v5]] w fun e w' => e = .returned (.string (textV (okR x0 x1 x2 x3 x4 z5) x0 x1 x2 x3 x4 z5)) ∧ On w w' := by
  have HO := Lib.hid (fun w' (hb : On w w') hp => Rad.spec_ok w.heap.size x0 x1 x2 x3 x4 v5 z5 w' q0 q5 hp (h5.below hb))
  have HT := Lib.hid (fun hok w' (hb : On w w') hp => spec_text w.heap.size x0 x1 x2 x3 x4 v5 z5 w' q0 hok hp (h5.below hb))
  obtain ⟨a5, cap5, rfl, -⟩ := h5
  cases hok : okR x0 x1 x2 x3 x4 z5 with
  | false =>
    rw [hok] at HO
    have E := Lib.hid (show textV false x0 x1 x2 x3 x4 z5 = ⟨#[]⟩ from rfl)
    go_enter Tryd.func7, Tryd.ntmps7
    go_wp2_with fail
    refine (HO.out _ (by repeat (first | with_reducible exact On.refl _ | apply On.alloc)) ⟨by simp [go_sem], by simp [go_sem], by simp [go_sem], by simp [go_sem], by simp [go_sem], by simp [go_sem]⟩).mono ?_
    rintro r w1 ⟨rfl, h1⟩
    go_wp2_with fail
    go_ret
    exact ⟨ret_str E.out.symm, On.trans (by repeat (first | with_reducible exact On.refl _ | apply On.alloc)) h1⟩
  | true =>
    have HT2 := Lib.hid (HT.out hok)
    rw [hok] at HO
    have E := Lib.hid (show textV true x0 x1 x2 x3 x4 z5 = radT x0 x1 x2 x3 x4 z5 from rfl)
    generalize radT x0 x1 x2 x3 x4 z5 = tx at *
    clear HT
    go_enter Tryd.func7, Tryd.ntmps7
    go_wp2_with fail
    refine (HO.out _ (by repeat (first | with_reducible exact On.refl _ | apply On.alloc)) ⟨by simp [go_sem], by simp [go_sem], by simp [go_sem], by simp [go_sem], by simp [go_sem], by simp [go_sem]⟩).mono ?_
    rintro r w1 ⟨rfl, h1⟩
    have K1 : In w1 w.heap.size x0 x1 x2 x3 x4 (.slice a5 z5.length cap5) := In.on ⟨by simp [go_sem], by simp [go_sem], by simp [go_sem], by simp [go_sem], by simp [go_sem], by simp [go_sem]⟩ h1
    have HO1 := Lib.hid (show On w w1 from On.trans (On.alloc (On.refl w) _) h1)
    clear h1
    go_wp2_with fail
    refine (HT2.out _ HO1.out K1).mono ?_
    rintro r w2 ⟨rfl, h2⟩
    go_wp2_with fail
    go_ret
    exact ⟨ret_str E.out.symm, On.trans HO1.out h2⟩
end Go.Proofs.YtggiilbdlbhpgaaDoor.RTxt
