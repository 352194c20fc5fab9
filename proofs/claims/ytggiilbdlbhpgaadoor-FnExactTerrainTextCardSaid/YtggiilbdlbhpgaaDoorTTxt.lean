
/-
  The text of a terrain, in the model. Condition: at most 1048576 heights and classes, and each slice has the room for them.
-/
import Derived.Test.YtggiilbdlbhpgaaDoorTerrOkI
import Derived.Test.YtggiilbdlbhpgaaDoorListImpl
import Derived.Test.YtggiilbdlbhpgaaDoorTail
namespace Go.Proofs.YtggiilbdlbhpgaaDoor.TTxt
open Go.RowKit
open Plain
open Terr (okT of_okT of_size TIn slice_of)
open Ints (Ints)

def dec (x : Int) : ByteArray := ⟨(Lib.itoa x).toArray⟩
def com (zs : List Int) : ByteArray := ⟨(commas zs).toArray⟩
theorem dec_size {x : Int} (h0 : 0 ≤ x) (h1 : x ≤ 1000000) : (dec x).size ≤ 21 := by
  have := itoa_len2 x (by omega) (by omega)
  simpa [dec, ByteArray.size] using this
theorem sz1 (c : UInt8) : (⟨#[c]⟩ : ByteArray).size = 1 := rfl
theorem ret_str {a b : ByteArray} (h : a = b) : Ending.returned (.string a) = .returned (.string b) := by rw [h]
/-- X numbers from the q-th. -/
def row (zs : List Int) (q X : Nat) : List Int := (zs.drop q).take X
theorem row_len {zs : List Int} {q X : Nat} (h : q + X ≤ zs.length) : (row zs q X).length = X := by simp [row]; omega
theorem row_get {zs : List Int} {q X i : Nat} (hi : i < X) : (row zs q X).getD i 0 = zs.getD (q + i) 0 := by
  simp [row, List.getD_eq_getElem?_getD, hi]
def Small (zs : List Int) : Prop := ∀ i, i < zs.length → 0 ≤ zs.getD i 0 ∧ zs.getD i 0 ≤ 90000
theorem row_fits {zs : List Int} {q X : Nat} (hs : Small zs) (h : q + X ≤ zs.length) (hX : X ≤ 24) : fitsB (row zs q X) = true := by
  have hl := row_len h
  unfold fitsB
  rw [decide_eq_true (by omega), Bool.and_true, List.all_eq_true]
  intro z hz
  obtain ⟨i, hi, rfl⟩ := List.getElem_of_mem hz
  have hg := row_get (zs := zs) (q := q) (X := X) (i := i) (by omega)
  rw [List.getD_eq_getElem?_getD, List.getElem?_eq_getElem hi] at hg
  obtain ⟨h1, h2⟩ := hs (q + i) (by omega)
  have e : (row zs q X)[i] = zs.getD (q + i) 0 := by simpa using hg
  rw [e]
  generalize zs.getD (q + i) 0 = u at *
  unfold inV inB
  simp
  omega
theorem com_size {zs : List Int} (h : fitsB zs = true) : (com zs).size ≤ 22 * zs.length := by
  obtain ⟨h1, h2⟩ := fits_in h
  have := commas_len h2 zs.length (Nat.le_refl _)
  rw [List.take_length] at this
  have e : (com zs).size = (commas zs).length := by simp [com, ByteArray.size]
  omega
def rowT (zs cs : List Int) (X k : Nat) : ByteArray := com (row zs (k * X) X) ++ ⟨#[32]⟩ ++ com (row cs (k * X) X) ++ ⟨#[10]⟩
def tt (h : ByteArray) (zs cs : List Int) (X : Nat) : Nat → ByteArray
  | 0 => h
  | k + 1 => tt h zs cs X k ++ rowT zs cs X k
theorem in_rows {k X Y : Nat} (h : k < Y) : k * X + X ≤ X * Y := by
  have : (k + 1) * X ≤ Y * X := Nat.mul_le_mul_right X h
  rw [Nat.succ_mul] at this
  rw [Nat.mul_comm X Y]
  exact this
theorem tt_size {zs cs : List Int} {X Y : Nat} (h : ByteArray) (hz : Small zs) (hc : Small cs) (lz : zs.length = X * Y) (lc : cs.length = zs.length) (hX : X ≤ 24) : ∀ k, k ≤ Y → (tt h zs cs X k).size ≤ h.size + 1058 * k
  | 0, _ => by simp [tt]
  | k + 1, hk => by
    have h1 := tt_size h hz hc lz lc hX k (by omega)
    have hr := in_rows (X := X) (show k < Y by omega)
    have a1 := com_size (row_fits hz (show k * X + X ≤ zs.length by omega) hX)
    have a2 := com_size (row_fits hc (show k * X + X ≤ cs.length by omega) hX)
    rw [row_len (by omega)] at a1 a2
    unfold tt rowT
    simp only [ByteArray.size_append, sz1]
    omega
def head (d1 d2 d3 : ByteArray) : ByteArray := ⟨#[116, 101, 114, 114, 97, 105, 110, 32]⟩ ++ d1 ++ ⟨#[32]⟩ ++ d2 ++ ⟨#[32]⟩ ++ d3 ++ ⟨#[10]⟩
def terT (s x y : Int) (zs cs : List Int) : ByteArray := tt (head (dec s) (dec x) (dec y)) zs cs x.toNat y.toNat
def textV (ok : Bool) (s x y : Int) (zs cs : List Int) : ByteArray := if ok = true then terT s x y zs cs else ⟨#[]⟩
/-- What is known of a valid terrain. -/
theorem of_ok {s x y : Int} {zs cs : List Int} (h : okT s x y zs cs = true) : ∃ X Y : Nat, x = (X : Int) ∧ y = (Y : Int) ∧ (1 ≤ s ∧ s ≤ 10000) ∧ (2 ≤ X ∧ X ≤ 24) ∧ (2 ≤ Y ∧ Y ≤ 24) ∧ zs.length = X * Y ∧ cs.length = zs.length ∧ Small zs ∧ Small cs := by
  obtain ⟨h1, h2, h3, h4⟩ := of_okT h
  obtain ⟨s1, s2, s3, -, -⟩ := of_size h1
  obtain ⟨X, rfl⟩ := Int.eq_ofNat_of_zero_le (a := x) (by omega)
  obtain ⟨Y, rfl⟩ := Int.eq_ofNat_of_zero_le (a := y) (by omega)
  have hg : ∀ i, i < zs.length → (0 ≤ zs.getD i 0 ∧ zs.getD i 0 ≤ 90000) ∧ 0 ≤ cs.getD i 0 ∧ cs.getD i 0 ≤ 7 := fun i hi => by
    have := h4 i hi
    unfold Terr.gB at this
    rw [Bool.and_eq_true] at this
    exact ⟨of_inB this.1, of_inB this.2⟩
  refine ⟨X, Y, rfl, rfl, s1, ⟨by omega, by omega⟩, ⟨by omega, by omega⟩, by exact_mod_cast h2, h3, fun i hi => (hg i hi).1, fun i hi => ?_⟩
  have := (hg i (by omega)).2
  exact ⟨this.1, by omega⟩
set_option maxRecDepth 100000 in
theorem slc (b off n cap q X : Nat) (h1 : q + X ≤ cap) (h2 : 0 < X) (w : World) :
    (Instr.slice 39 (.slice (some ⟨b, off, none⟩) n cap) (some (.int .i64 (q : Int))) (some (.int .i64 ((q : Int) + (X : Int)))) none).run Tryd.prog w = .ok (.slice (some ⟨b, off + q, none⟩) X (cap - q)) w := by
  have hne : ¬ cap = q := by omega
  have e1 : ((q : Int) + (X : Int)).toNat = q + X := by omega
  rw [run_slice_lh w 39 _ n cap Tryd.underlying39 _ _ _ _ (by omega) (by omega) (by omega)]
  simp [go_sem, sliced, hne, e1, Addr.add]
set_option maxRecDepth 100000 in
set_option maxHeartbeats 4000000 in
theorem spec_TerrainText (s x y : Int) (a b : Option Addr) (n cap m dap : Nat) (zs cs : List Int) (w : World) (hzn : zs.length = n) (hcm : cs.length = m) (hn : n ≤ 1048576) (hm : m ≤ 1048576) (fz : n ≤ cap) (fc : m ≤ dap) (h : Ints w (.slice a n cap) zs) (k : Ints w (.slice b m dap) cs) :
    Calls Tryd.prog 15 #[.agg #[.int .i64 s, .int .i64 x, .int .i64 y, .slice a n cap, .slice b m dap]] w fun e w' => e = .returned (.string (textV (okT s x y zs cs) s x y zs cs)) ∧ On w w' := by
  have HO := Lib.hid (fun w' (hb : On w w') hp => Terr.spec_okT w.heap.size n cap m dap s x y a b zs cs w' hzn hcm hn hm hp (h.below hb) (k.below hb))
  cases hok : okT s x y zs cs with
  | false =>
    rw [hok] at HO
    have E := Lib.hid (show textV false s x y zs cs = ⟨#[]⟩ from rfl)
    clear h k
    go_enter Tryd.func15, Tryd.ntmps15
    go_wp2_with fail
    refine (HO.out _ (by repeat (first | with_reducible exact On.refl _ | apply On.alloc)) ⟨by simp [go_sem], by simp [go_sem], by simp [go_sem], by simp [go_sem], by simp [go_sem]⟩).mono ?_
    rintro r w1 ⟨rfl, h1⟩
    go_wp2_with fail
    go_ret
    exact ⟨ret_str E.out.symm, On.trans (by repeat (first | with_reducible exact On.refl _ | apply On.alloc)) h1⟩
  | true =>
    rw [hok] at HO
    obtain ⟨X, Y, rfl, rfl, ⟨b1, b2⟩, ⟨x1, x2⟩, ⟨y1, y2⟩, lz, lc, sz, sc⟩ := of_ok hok
    have hXY : 4 ≤ X * Y := Nat.mul_le_mul x1 y1
    obtain ⟨c, off, rfl, hb, hcell⟩ := slice_of h hzn (by omega)
    obtain ⟨d, doff, rfl, hd, hdell⟩ := slice_of k hcm (by omega)
    have D1 := Lib.hid (show ∀ w1, Calls Tryd.prog 28 #[.int .i64 s] w1 fun e w' => e = .returned (.string (dec s)) ∧ On w1 w' from fun w1 => Dec.spec_dec s w1 (by omega) (by omega))
    have D2 := Lib.hid (show ∀ w1, Calls Tryd.prog 28 #[.int .i64 (X : Int)] w1 fun e w' => e = .returned (.string (dec (X : Int))) ∧ On w1 w' from fun w1 => Dec.spec_dec (X : Int) w1 (by omega) (by omega))
    have D3 := Lib.hid (show ∀ w1, Calls Tryd.prog 28 #[.int .i64 (Y : Int)] w1 fun e w' => e = .returned (.string (dec (Y : Int))) ∧ On w1 w' from fun w1 => Dec.spec_dec (Y : Int) w1 (by omega) (by omega))
    have s1 := dec_size (x := s) (by omega) (by omega)
    have s2 := dec_size (x := (X : Int)) (by omega) (by omega)
    have s3 := dec_size (x := (Y : Int)) (by omega) (by omega)
    have E := Lib.hid (show textV true s (X : Int) (Y : Int) zs cs = tt (head (dec s) (dec (X : Int)) (dec (Y : Int))) zs cs X Y from rfl)
    generalize textV true s (X : Int) (Y : Int) zs cs = tx at *
    generalize dec s = d1 at *
    generalize dec (X : Int) = d2 at *
    generalize dec (Y : Int) = d3 at *
    have HH : (head d1 d2 d3).size ≤ 100 := by
      have : (⟨#[116, 101, 114, 114, 97, 105, 110, 32]⟩ : ByteArray).size = 8 := rfl
      simp only [head, ByteArray.size_append, sz1]
      omega
    have HE := Lib.hid (show head d1 d2 d3 = ⟨#[116, 101, 114, 114, 97, 105, 110, 32]⟩ ++ d1 ++ ⟨#[32]⟩ ++ d2 ++ ⟨#[32]⟩ ++ d3 ++ ⟨#[10]⟩ from rfl)
    have g1 : ¬ 9223372036854775807 < 8 + d1.size := by omega
    have g2 : ¬ 9223372036854775807 < 8 + d1.size + 1 := by omega
    have g3 : ¬ 9223372036854775807 < 8 + d1.size + 1 + d2.size := by omega
    have g4 : ¬ 9223372036854775807 < 8 + d1.size + 1 + d2.size + 1 := by omega
    have g5 : ¬ 9223372036854775807 < 8 + d1.size + 1 + d2.size + 1 + d3.size := by omega
    have g6 : ¬ 9223372036854775807 < 8 + d1.size + 1 + d2.size + 1 + d3.size + 1 := by omega
    have HC := Lib.hid hcell
    have HD := Lib.hid hdell
    have HS := Lib.hid (fun k hk => tt_size (head d1 d2 d3) sz sc lz lc x2 k hk)
    have HF := Lib.hid (fun (k : Nat) (hk : k < Y) => (⟨row_fits sz (show k * X + X ≤ zs.length by have := in_rows (X := X) hk; omega) x2, row_fits sc (show k * X + X ≤ cs.length by have := in_rows (X := X) hk; omega) x2⟩ : fitsB (row zs (k * X) X) = true ∧ fitsB (row cs (k * X) X) = true))
    clear hcell hdell h k hok
    go_enter Tryd.func15, Tryd.ntmps15
    go_wp2_with fail
    refine (HO.out _ (by repeat (first | with_reducible exact On.refl _ | apply On.alloc)) ⟨by simp [go_sem], by simp [go_sem], by simp [go_sem], by simp [go_sem], by simp [go_sem]⟩).mono ?_
    rintro r w1 ⟨rfl, h1⟩
    have K1 : TIn w1 w.heap.size s (X : Int) (Y : Int) (.slice (some ⟨c, off, none⟩) n cap) (.slice (some ⟨d, doff, none⟩) m dap) := TIn.on ⟨by simp [go_sem], by simp [go_sem], by simp [go_sem], by simp [go_sem], by simp [go_sem]⟩ h1
    have HO1 := Lib.hid (show On w w1 from On.trans (On.alloc (On.refl w) _) h1)
    have hg := World.block_lt_of_cell? w1 _ K1.1
    have KP := Lib.hid K1
    obtain ⟨k0, k1, k2, k3, k4⟩ := K1
    clear h1 HO
    go_wp2_with fail
    refine wp_region_onh (by kernel_rfl) (by kernel_rfl) ?_
    repeat (refine rest_step (fun K hK => ?_); go_simp; first | (refine hK _ ?_; clear hK K) | (apply Exists.intro; refine ⟨fun v1 hv1 => ?_, hK _ ?_⟩; (first | with_reducible exact rfl | with_reducible exact ⟨rfl, rfl⟩ | with_reducible exact Calls.on hv1 (D1.out _) | with_reducible exact Calls.on hv1 (D2.out _) | with_reducible exact Calls.on hv1 (D3.out _) | (obtain ⟨hc, hf⟩ := bcell hv1; go_simp; first | with_reducible exact rfl | with_reducible exact ⟨rfl, rfl⟩ | exact rfl | exact ⟨rfl, rfl⟩)); clear hK K))
    refine rest_nil ?_
    intro w2 h2
    have HO2 := Lib.hid (On.trans HO1.out h2)
    have HK2 := Lib.hid (KP.out.on h2)
    have hg2 := h2.lts _ hg
    rw [← HE.out]
    clear h2 k0 k1 k2 k3 k4 D1 D2 D3 HE g1 g2 g3 g4 g5 g6 s1 s2 s3 KP HO1 hg
    generalize hh : head d1 d2 d3 = hdr at *
    clear hh
    go_wp2_with fail
    go_loopw [3, 4] (fun o i wr => ∃ k : Nat, k ≤ Y ∧ i = .int .i64 k ∧ o = .string (tt hdr zs cs X k) ∧ On w2 wr) (fun _ i _ => Y - (intOf i).toNat)
    case atStart => exact ⟨0, Nat.zero_le _, rfl, rfl, On.refl _⟩
    case round =>
      obtain ⟨k, hk, rfl, rfl, ho⟩ := hrel
      have HOR := Lib.hid ho
      have HOW := Lib.hid (On.trans HO2.out ho)
      obtain ⟨-, k1, k2, k3, k4⟩ := HK2.out.on ho
      have hgr := ho.lts _ hg2
      have hbr := HOW.out.lts _ hb
      have hdr' := HOW.out.lts _ hd
      have osz := HS.out k hk
      clear ho
      by_cases hlt : k < Y
      · have hlti : (k : Int) < (Y : Int) := by omega
        have hq := in_rows (X := X) hlt
        obtain ⟨f1, f2⟩ := HF.out k hlt
        obtain ⟨q, hqe⟩ : ∃ q, q = k * X := ⟨_, rfl⟩
        have em : IntKind.i64.wrap ((k : Int) * (X : Int)) = (q : Int) := by
          rw [show (k : Int) * (X : Int) = (q : Int) by rw [hqe]; simp]
          exact IntWalk.i64_in _ (by omega)
        have E1 := Lib.hid (show tt hdr zs cs X (k + 1) = tt hdr zs cs X k ++ (com (row zs q X) ++ ⟨#[32]⟩ ++ com (row cs q X) ++ ⟨#[10]⟩) by rw [hqe]; rfl)
        rw [← hqe] at f1 f2 hq
        have ea : IntKind.i64.wrap ((q : Int) + (X : Int)) = (q : Int) + (X : Int) := IntWalk.i64_in _ (by omega)
        have l1 := row_len (zs := zs) (q := q) (X := X) (by omega)
        have l2 := row_len (zs := cs) (q := q) (X := X) (by omega)
        have z1 := com_size f1
        have z2 := com_size f2
        have C1 := fun w1 (h : On w w1) => ListSpec.list_some c (off + q) (cap - q) (row zs q X) w1 (by omega) f1 (h.lts _ hb) (fun i hi => by rw [row_get (by omega), Nat.add_assoc]; exact (h.cell (by exact hb)).trans (HC.out (q + i) (by omega)))
        have C2 := fun w1 (h : On w w1) => ListSpec.list_some d (doff + q) (dap - q) (row cs q X) w1 (by omega) f2 (h.lts _ hd) (fun i hi => by rw [row_get (by omega), Nat.add_assoc]; exact (h.cell (by exact hd)).trans (HD.out (q + i) (by omega)))
        rw [l1] at C1 z1
        rw [l2] at C2 z2
        have P1 := Lib.hid (show ∀ w1, On w w1 → Calls Tryd.prog 31 #[.slice (some ⟨c, off + q, none⟩) X (cap - q)] w1 fun e w' => e = .returned (.string (com (row zs q X))) ∧ On w1 w' from C1)
        have P2 := Lib.hid (show ∀ w1, On w w1 → Calls Tryd.prog 31 #[.slice (some ⟨d, doff + q, none⟩) X (dap - q)] w1 fun e w' => e = .returned (.string (com (row cs q X))) ∧ On w1 w' from C2)
        have sl1 := slc c off n cap q X (by omega) (by omega)
        have sl2 := slc d doff m dap q X (by omega) (by omega)
        generalize com (row zs q X) = t1 at *
        generalize com (row cs q X) = t2 at *
        generalize tt hdr zs cs X k = o at *
        have g1 : ¬ 9223372036854775807 < t1.size + 1 := by omega
        have g2 : ¬ 9223372036854775807 < t1.size + 1 + t2.size := by omega
        have g3 : ¬ 9223372036854775807 < t1.size + 1 + t2.size + 1 := by omega
        have g4 : ¬ 9223372036854775807 < o.size + (t1.size + 1 + t2.size + 1) := by omega
        clear C1 C2 z1 z2 l1 l2 f1 f2 osz hqe
        go_wp2_with fail
        refine wp_region_onh (by kernel_rfl) (by kernel_rfl) ?_
        repeat (refine rest_step (fun K hK => ?_); go_simp; first | (refine hK _ ?_; clear hK K) | (apply Exists.intro; refine ⟨fun v1 hv1 => ?_, hK _ ?_⟩; (first | with_reducible exact rfl | with_reducible exact ⟨rfl, rfl⟩ | with_reducible exact Calls.on hv1 (P1.out _ (On.trans HOW.out hv1)) | with_reducible exact Calls.on hv1 (P2.out _ (On.trans HOW.out hv1)) | (obtain ⟨hc, hf⟩ := bcell hv1; go_simp; first | with_reducible exact rfl | with_reducible exact ⟨rfl, rfl⟩ | exact rfl | exact ⟨rfl, rfl⟩)); clear hK K))
        refine rest_nil ?_
        intro w5 h5
        go_wp2_with fail
        go_roundw
        case rel => exact ⟨k + 1, by omega, by go_num, by rw [E1.out], HOR.out.trans h5⟩
        case measure => simp [intOf]; omega
      · obtain rfl : k = Y := by omega
        have hnot : ¬ ((k : Int) < (k : Int)) := by omega
        go_wp2_with fail
        go_ret
        exact ⟨ret_str E.out.symm, HOW.out⟩
end Go.Proofs.YtggiilbdlbhpgaaDoor.TTxt
