
/-
  The functions of an antenna's losses, in the model and in the program. Condition: at most 1048576 losses in each list and bytes in the name.
-/
import Derived.Test.YtdnnepidkgnabaaAntRing
namespace Go.Proofs.Ytdnnepidkgnabaa.Ant
open Go.RowKit
open Plain
open Ints (Ints Own)

theorem ret_ii {a b c d : Int} (h1 : a = b) (h2 : c = d) : Ending.returned (.tuple #[.int .i64 a, .int .i64 c]) = .returned (.tuple #[.int .i64 b, .int .i64 d]) := by rw [h1, h2]
theorem anySlice {w : World} {v : Value} {zs : List Int} (h : Ints w v zs) : ∃ a n c, v = .slice a n c := by obtain ⟨a, cap, hv, -⟩ := h; exact ⟨a, _, cap, hv⟩
theorem impl_isElevation (e : Int) (w : World) :
    Calls Try.prog 35 #[.int .i64 e] w fun r w' => r = .returned (.bool (inB e (-90) 90)) ∧ w = w' := by
  go_enter Try.func35, Try.ntmps35
  go_wp2_with (go_at_call 20; refine (Arith.within _ _ _ _).mono ?_; rintro e w' ⟨rfl, rfl⟩)
  go_ret
  exact ⟨rfl, rfl⟩

def frontV (ok : Bool) (hs : List Int) : Int := if ok = true then hs.getD 18 0 else 0
def codeV (ok : Bool) : Int := if ok = true then 0 else 1
def acrossV (ok : Bool) (hs : List Int) (a : Int) : Int := if ok = true then across hs a else 0
def upV (ok : Bool) (vs : List Int) (e : Int) : Int := if ok = true then (if inB e (-90) 90 = true then up vs e else 0) else 0
def upC (ok : Bool) (e : Int) : Int := if ok = true then (if inB e (-90) 90 = true then 0 else 2) else 1
end Go.Proofs.Ytdnnepidkgnabaa.Ant
