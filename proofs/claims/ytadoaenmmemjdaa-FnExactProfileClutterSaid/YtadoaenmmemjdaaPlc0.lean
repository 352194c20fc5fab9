
/-
  Plain facts on the places of a profile, with no program in them.
-/
import Derived.Test.YtadoaenmmemjdaaPlain
namespace Go.Proofs.Ytadoaenmmemjdaa.Plc
open Plain

/-- A coordinate between two others. -/
def mid (x u : Int) (n k : Nat) : Int := x + near ((u - x) * (k : Int)) ((n : Int) - 1)
theorem part_in {d t n : Int} (hn : 0 < n) (t0 : 0 ≤ t) (t1 : t ≤ n) : (0 ≤ d → 0 ≤ near (d * t) n ∧ near (d * t) n ≤ d) ∧ (d ≤ 0 → d ≤ near (d * t) n ∧ near (d * t) n ≤ 0) := by
  have key : ∀ e : Int, 0 ≤ e → 0 ≤ near (e * t) n ∧ near (e * t) n ≤ e := fun e he => by
    have p0 : 0 ≤ e * t := Int.mul_nonneg he t0
    have p1 : e * t ≤ e * n := Int.mul_le_mul_of_nonneg_left t1 he
    rw [near_div_pp _ _ hn p0]
    refine ⟨Int.ediv_nonneg (by omega) (by omega), ?_⟩
    refine Int.le_of_lt_add_one (Int.ediv_lt_of_lt_mul (by omega) ?_)
    rw [Int.add_mul, Int.one_mul, show e * (2 * n) = 2 * (e * n) by rw [Int.mul_left_comm]]
    omega
  refine ⟨key d, fun hd => ?_⟩
  have h := key (-d) (by omega)
  by_cases h0 : d * t = 0
  · rw [h0, near_zero _ (by omega)]; omega
  · rw [Int.neg_mul, near_neg _ _ h0] at h
    omega
theorem mid_in {x u : Int} {n k : Nat} (hn : 2 ≤ n) (hk : k < n) : (x ≤ u → x ≤ mid x u n k ∧ mid x u n k ≤ u) ∧ (u ≤ x → u ≤ mid x u n k ∧ mid x u n k ≤ x) := by
  have h := part_in (d := u - x) (t := (k : Int)) (n := (n : Int) - 1) (by omega) (by omega) (by omega)
  unfold mid
  refine ⟨fun hx => ?_, fun hx => ?_⟩
  · have := h.1 (by omega); omega
  · have := h.2 (by omega); omega
theorem mid_bd {x u lo hi : Int} {n k : Nat} (hn : 2 ≤ n) (hk : k < n) (x0 : lo ≤ x) (x1 : x ≤ hi) (u0 : lo ≤ u) (u1 : u ≤ hi) : lo ≤ mid x u n k ∧ mid x u n k ≤ hi := by
  have h := mid_in (x := x) (u := u) hn hk
  by_cases g : x ≤ u
  · have := h.1 g; omega
  · have := h.2 (by omega); omega
/-- A place between two points; the places of a profile, as seen from the point that is before. -/
def pt (ax ay bx bv : Int) (n k : Nat) : Int × Int := (mid ax bx n k, mid ay bv n k)
def bef (ax ay bx bv : Int) : Bool := decide (ax < bx) || (decide (ax = bx) && decide (ay ≤ bv))
def plc (ax ay bx bv : Int) (n k : Nat) : Int × Int := if bef ax ay bx bv = true then pt ax ay bx bv n k else pt bx bv ax ay n (n - 1 - k)
def pts (ax ay bx bv : Int) (n : Nat) : List (Int × Int) := (List.range n).map (pt ax ay bx bv n)
def plcs (ax ay bx bv : Int) (n : Nat) : List (Int × Int) := (List.range n).map (plc ax ay bx bv n)
theorem pts_len (ax ay bx bv : Int) (n : Nat) : (pts ax ay bx bv n).length = n := by simp [pts]
theorem plcs_len (ax ay bx bv : Int) (n : Nat) : (plcs ax ay bx bv n).length = n := by simp [plcs]
theorem pts_at (ax ay bx bv : Int) {n k : Nat} (h : k < n) : (pts ax ay bx bv n).getD k (0, 0) = pt ax ay bx bv n k := by simp [pts, h]
theorem plcs_at (ax ay bx bv : Int) {n k : Nat} (h : k < n) : (plcs ax ay bx bv n).getD k (0, 0) = plc ax ay bx bv n k := by simp [plcs, h]
theorem plcs_fwd {ax ay bx bv : Int} (n : Nat) (h : bef ax ay bx bv = true) : plcs ax ay bx bv n = pts ax ay bx bv n := by unfold plcs pts plc; simp [h]
theorem plcs_back {ax ay bx bv : Int} (n : Nat) (h : bef ax ay bx bv = false) : plcs ax ay bx bv n = (pts bx bv ax ay n).reverse := by
  refine List.ext_getElem (by simp [plcs, pts]) fun i h1 h2 => ?_
  simp [plcs, pts, plc, h]
theorem bef_lt {ax ay bx bv : Int} (h : ax < bx) : bef ax ay bx bv = true := by unfold bef; rw [decide_eq_true h]; rfl
theorem bef_le {ax ay bx bv : Int} (h : ax = bx) (h2 : ay ≤ bv) : bef ax ay bx bv = true := by unfold bef; rw [decide_eq_true h, decide_eq_true h2]; simp
theorem bef_gt {ax ay bx bv : Int} (h : bx < ax) : bef ax ay bx bv = false := by unfold bef; rw [decide_eq_false (show ¬ ax < bx by omega), decide_eq_false (show ¬ ax = bx by omega)]; rfl
theorem bef_ge {ax ay bx bv : Int} (h : ax = bx) (h2 : bv < ay) : bef ax ay bx bv = false := by unfold bef; rw [decide_eq_false (show ¬ ax < bx by omega), decide_eq_false (show ¬ ay ≤ bv by omega)]; simp
/-- A list of k places as cells. -/
theorem plc_bd {ax ay bx bv lx hx ly hy : Int} {n k : Nat} (hn : 2 ≤ n) (hk : k < n) (a0 : lx ≤ ax) (a1 : ax ≤ hx) (a2 : ly ≤ ay) (a3 : ay ≤ hy) (b0 : lx ≤ bx) (b1 : bx ≤ hx) (b2 : ly ≤ bv) (b3 : bv ≤ hy) :
    (lx ≤ (plc ax ay bx bv n k).1 ∧ (plc ax ay bx bv n k).1 ≤ hx) ∧ ly ≤ (plc ax ay bx bv n k).2 ∧ (plc ax ay bx bv n k).2 ≤ hy := by
  unfold plc pt
  split
  · exact ⟨mid_bd hn hk a0 a1 b0 b1, mid_bd hn hk a2 a3 b2 b3⟩
  · exact ⟨mid_bd hn (by omega) b0 b1 a0 a1, mid_bd hn (by omega) b2 b3 a2 a3⟩
theorem prod_in {d k : Int} (h1 : -200000 ≤ d) (h2 : d ≤ 200000) (k0 : 0 ≤ k) (k1 : k ≤ 64) : -12800000 ≤ d * k ∧ d * k ≤ 12800000 := by
  have p1 : -200000 * k ≤ d * k := Int.mul_le_mul_of_nonneg_right h1 k0
  have p2 : d * k ≤ 200000 * k := Int.mul_le_mul_of_nonneg_right h2 k0
  omega
end Go.Proofs.Ytadoaenmmemjdaa.Plc
