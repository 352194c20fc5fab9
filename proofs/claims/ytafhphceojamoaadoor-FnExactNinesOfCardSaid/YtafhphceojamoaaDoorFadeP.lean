
/-
  Plain facts on fading, on rain that is too heavy, on chains and alternatives, with no program in them.
-/
import Derived.Test.YtafhphceojamoaaDoorRainMono
import Derived.Test.YtafhphceojamoaaDoorAll
namespace Go.Proofs.YtafhphceojamoaaDoor.Fade
open Plain

/-- The frequency in MHz, at least 1. -/
def hz (f : Int) : Int := if f / 1000 < 1 then 1 else f / 1000
theorem hz_bd {f : Int} (h1 : f ≤ 100000000) : 1 ≤ hz f ∧ hz f ≤ 100000 := by unfold hz; split <;> omega
theorem log_six {n : Int} (h0 : 1 ≤ n) (h1 : n < 1000000) : 0 ≤ logDb n ∧ logDb n < 60000 := by
  obtain ⟨k, rfl⟩ := Int.eq_ofNat_of_zero_le (by omega : 0 ≤ n)
  have h2 := logDb_bd (n := (k : Int)) (by omega)
  rw [logDb_yes (by omega)] at *
  have := log_lt (n := k) (k := 6) (by omega) (by omega)
  omega
/-- The logarithm of an outage by fading. -/
def xV (f d c m : Int) : Int := logDb c + logDb (hz f) + 3 * logDb d - 142218 - m
theorem xV_bd {f d c m : Int} (f1 : f ≤ 100000000) (d0 : 1 ≤ d) (d1 : d ≤ 283000) (c0 : 25 ≤ c) (c1 : c ≤ 400) (m0 : 0 ≤ m) (m1 : m ≤ 100000) : -242218 ≤ xV f d c m ∧ xV f d c m ≤ 157782 := by
  have h := hz_bd f1
  have a := log_six (n := c) (by omega) (by omega)
  have b := log_six (n := hz f) (by omega) (by omega)
  have e := log_six (n := d) (by omega) (by omega)
  unfold xV
  omega
noncomputable def topV (p : Int) : Int := if p < 1000000 then p else 1000000
noncomputable def fadeV (f d c m : Int) : Int := if xV f d c m < 0 then 0 else topV (powDb (xV f d c m))
theorem fade_neg {f d c m : Int} (h : xV f d c m < 0) : fadeV f d c m = 0 := if_pos h
theorem fade_pos {f d c m : Int} (h : ¬ xV f d c m < 0) : fadeV f d c m = topV (powDb (xV f d c m)) := if_neg h
theorem topV_bd {p : Int} (h : 0 ≤ p) : 0 ≤ topV p ∧ topV p ≤ 1000000 := by unfold topV; split <;> omega
theorem topV_mono {p q : Int} (h : p ≤ q) : topV p ≤ topV q := by unfold topV; split <;> split <;> omega
theorem topV_zero : topV 0 = 0 := by unfold topV; simp
/-- Both ways to it: the power of a negative logarithm is 0. -/
theorem fade_any (f d c m : Int) : fadeV f d c m = topV (powDb (xV f d c m)) := by
  by_cases h : xV f d c m < 0
  · rw [fade_neg h, powDb_no (by omega), topV_zero]
  · exact fade_pos h
theorem fadeV_bd (f d c m : Int) : 0 ≤ fadeV f d c m ∧ fadeV f d c m ≤ 1000000 := by
  rw [fade_any]
  exact topV_bd (powDb_bd _).1
theorem fade_mono {f d c m n : Int} (f1 : f ≤ 100000000) (d0 : 1 ≤ d) (d1 : d ≤ 283000) (c0 : 25 ≤ c) (c1 : c ≤ 400) (m0 : 0 ≤ m) (h : m ≤ n) (n1 : n ≤ 100000) : fadeV f d c n ≤ fadeV f d c m := by
  rw [fade_any, fade_any]
  have := xV_bd (m := m) f1 d0 d1 c0 c1 m0 (by omega)
  exact topV_mono (powDb_mono (by unfold xV; omega) (by omega))
/-- The margins that do not suffice for an outage. -/
noncomputable def lowP (f d c o : Int) (k : Nat) : Bool := decide (o < fadeV f d c (k : Int))
theorem lowP_mono {f d c : Int} (o : Int) (f1 : f ≤ 100000000) (d0 : 1 ≤ d) (d1 : d ≤ 283000) (c0 : 25 ≤ c) (c1 : c ≤ 400) : Mono (lowP f d c o) 100001 := fun i j h hj hp => by
  have hp := of_decide_eq_true hp
  have := fade_mono (m := (i : Int)) (n := (j : Int)) f1 d0 d1 c0 c1 (by omega) (by omega) (by omega)
  exact decide_eq_true (by omega)
theorem lowP_not (f d c o : Int) (k : Nat) : (!lowP f d c o k) = decide (fadeV f d c (k : Int) ≤ o) := by
  unfold lowP
  by_cases h : fadeV f d c (k : Int) ≤ o
  · rw [decide_eq_false (by omega), decide_eq_true h]; rfl
  · rw [decide_eq_true (by omega), decide_eq_false h]; rfl
/-- The first number from lo that a test lets go, of n ones, and its code. -/
def leastV (lo : Int) (p : Nat → Bool) (n : Nat) : Int := if leadN p n = n then 0 else lo + (leadN p n : Int)
def leastC (p : Nat → Bool) (n : Nat) : Int := if leadN p n = n then 3 else 0
theorem least_none {lo : Int} {p : Nat → Bool} {n k : Nat} (h : leadN p n = k) (hk : k = n) : leastV lo p n = 0 ∧ leastC p n = 3 := by unfold leastV leastC; rw [h, if_pos hk, if_pos hk]; exact ⟨rfl, rfl⟩
theorem least_some {lo : Int} {p : Nat → Bool} {n k : Nat} (h : leadN p n = k) (hk : k ≠ n) : leastV lo p n = lo + k ∧ leastC p n = 0 := by unfold leastV leastC; rw [h, if_neg hk, if_neg hk]; exact ⟨rfl, rfl⟩
/-- Parts of the time with rain. -/
def excP : List Int := [0, 8, 30, 60, 100, 150, 200]
def excV : List Int := [50000, 10000, 1000, 100, 10, 1, 0]
def excS (r : Int) : Int := Tab.tabV excP excV r
theorem excS_bd (r : Int) : 0 ≤ excS r ∧ excS r ≤ 50000 := Tab.tab_bd (by decide) (by decide) (by decide)
/-- The rates of rain that lose no more than a margin. -/
noncomputable def wetP (f d m : Int) (k : Nat) : Bool := decide (rainL f (k : Int) d ≤ m)
noncomputable def wetV (f d m : Int) : Int := if leadN (wetP f d m) 201 = 201 then 0 else excS (leadN (wetP f d m) 201 : Int)
theorem wet_at {f d m : Int} {k : Nat} (hk : k < 201) (h : ∀ j, j < k → wetP f d m j = true) (e : wetP f d m k = false) : wetV f d m = excS k := by
  unfold wetV
  rw [lead_at (by omega) h (.inr e), if_neg (by omega)]
theorem wet_none {f d m : Int} (h : ∀ j, j < 201 → wetP f d m j = true) : wetV f d m = 0 := by
  unfold wetV
  rw [lead_at (Nat.le_refl _) h (.inl rfl), if_pos rfl]
theorem wetV_bd (f d m : Int) : 0 ≤ wetV f d m ∧ wetV f d m ≤ 50000 := by
  unfold wetV
  split
  · omega
  · exact excS_bd _
theorem wet_yes {f d m : Int} {k : Nat} (h : ¬ m < rainL f (k : Int) d) : wetP f d m k = true := decide_eq_true (by omega)
theorem wet_no {f d m : Int} {k : Nat} (h : m < rainL f (k : Int) d) : wetP f d m k = false := decide_eq_false (by omega)
theorem allP_succ {p : Nat → Bool} {k : Nat} (h : ∀ j, j < k → p j = true) (hk : p k = true) : ∀ j, j < k + 1 → p j = true := fun j hj => by
  by_cases g : j = k
  · rw [g]; exact hk
  · exact h j (by omega)
/-- What works of a chain, and what fails of alternatives, of the first k outages. -/
def serTo (zs : List Int) : Nat → Int
  | 0 => 1000000
  | k + 1 => serTo zs k * (1000000 - zs.getD k 0) / 1000000
def parTo (zs : List Int) : Nat → Int
  | 0 => 1000000
  | k + 1 => (parTo zs k * zs.getD k 0 + 1000000 - 1) / 1000000
def okO (z : Int) : Bool := inB z 0 1000000
theorem ser_prod {a z : Int} (a0 : 0 ≤ a) (a1 : a ≤ 1000000) (z0 : 0 ≤ z) (z1 : z ≤ 1000000) : 0 ≤ a * z ∧ a * z ≤ 1000000000000 := by
  have h1 : a * z ≤ a * 1000000 := Int.mul_le_mul_of_nonneg_left z1 a0
  have h2 : 0 ≤ a * z := Int.mul_nonneg a0 z0
  omega
theorem ser_bd {zs : List Int} {n : Nat} (h : ∀ i, i < n → okO (zs.getD i 0) = true) : ∀ k, k ≤ n → 0 ≤ serTo zs k ∧ serTo zs k ≤ 1000000
  | 0, _ => by unfold serTo; omega
  | k + 1, hk => by
    have ih := ser_bd h k (by omega)
    have hz := of_inB (h k (by omega))
    have := ser_prod (a := serTo zs k) (z := 1000000 - zs.getD k 0) (by omega) (by omega) (by omega) (by omega)
    unfold serTo
    omega
theorem par_bd {zs : List Int} {n : Nat} (h : ∀ i, i < n → okO (zs.getD i 0) = true) : ∀ k, k ≤ n → 0 ≤ parTo zs k ∧ parTo zs k ≤ 1000000
  | 0, _ => by unfold parTo; omega
  | k + 1, hk => by
    have ih := par_bd h k (by omega)
    have hz := of_inB (h k (by omega))
    have := ser_prod (a := parTo zs k) (z := zs.getD k 0) (by omega) (by omega) (by omega) (by omega)
    unfold parTo
    omega
/-- The code of a list of outages. -/
def listC (zs : List Int) : Int := if 64 < zs.length then 5 else if zs.all okO = false then 2 else 0
theorem list_full {zs : List Int} (h : 64 < zs.length) : listC zs = 5 := if_pos h
theorem list_bad {zs : List Int} (h : ¬ 64 < zs.length) (h1 : zs.all okO = false) : listC zs = 2 := by unfold listC; rw [if_neg h, if_pos h1]
theorem list_ok {zs : List Int} (h : ¬ 64 < zs.length) (h1 : zs.all okO = true) : listC zs = 0 := by unfold listC; rw [if_neg h, h1]; rfl
theorem of_list {zs : List Int} (h : listC zs = 0) : zs.length ≤ 64 ∧ zs.all okO = true := by
  unfold listC at h
  split at h
  · omega
  · cases hb : zs.all okO with
    | false => rw [hb] at h; simp at h
    | true => exact ⟨by omega, rfl⟩
def serV (zs : List Int) : Int := if listC zs = 0 then 1000000 - serTo zs zs.length else 0
def parV (zs : List Int) : Int := if listC zs = 0 then parTo zs zs.length else 0
theorem serV_yes {zs : List Int} (h : listC zs = 0) : serV zs = 1000000 - serTo zs zs.length := if_pos h
theorem serV_no {zs : List Int} (h : listC zs ≠ 0) : serV zs = 0 := if_neg h
theorem parV_yes {zs : List Int} (h : listC zs = 0) : parV zs = parTo zs zs.length := if_pos h
theorem parV_no {zs : List Int} (h : listC zs ≠ 0) : parV zs = 0 := if_neg h
/-- The nines of an availability. -/
def ninesV (o : Int) : Int := if o ≤ 1 then 6 else if o ≤ 10 then 5 else if o ≤ 100 then 4 else if o ≤ 1000 then 3 else if o ≤ 10000 then 2 else if o ≤ 100000 then 1 else 0
theorem nines_at {o : Int} (k : Nat) (hk : k ≤ 6) (h1 : k = 0 ∨ o ≤ 10 ^ (6 - k)) (h2 : k = 6 ∨ ¬ o ≤ 10 ^ (5 - k)) : ninesV o = k := by
  match k, hk with
  | 0, _ => simp at h2; unfold ninesV; repeat (first | rw [if_neg (by omega)] | rfl)
  | 1, _ => simp at h1 h2; unfold ninesV; repeat (first | rw [if_neg (by omega)] | (rw [if_pos (by omega)]; rfl))
  | 2, _ => simp at h1 h2; unfold ninesV; repeat (first | rw [if_neg (by omega)] | (rw [if_pos (by omega)]; rfl))
  | 3, _ => simp at h1 h2; unfold ninesV; repeat (first | rw [if_neg (by omega)] | (rw [if_pos (by omega)]; rfl))
  | 4, _ => simp at h1 h2; unfold ninesV; repeat (first | rw [if_neg (by omega)] | (rw [if_pos (by omega)]; rfl))
  | 5, _ => simp at h1 h2; unfold ninesV; repeat (first | rw [if_neg (by omega)] | (rw [if_pos (by omega)]; rfl))
  | 6, _ => simp at h1; unfold ninesV; rw [if_pos (by omega)]; rfl
end Go.Proofs.YtafhphceojamoaaDoor.Fade
