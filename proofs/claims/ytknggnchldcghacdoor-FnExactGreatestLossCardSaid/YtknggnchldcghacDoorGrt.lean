
/-
  The greatest loss for a mode, in the program. Condition: at most 1048576 modes in each radio, and bytes in the names.
-/
import Derived.Test.YtknggnchldcghacDoorGrtLEEE
import Derived.Test.YtknggnchldcghacDoorGrtLEEN
import Derived.Test.YtknggnchldcghacDoorGrtLENE
import Derived.Test.YtknggnchldcghacDoorGrtLENN
import Derived.Test.YtknggnchldcghacDoorGrtLNEE
import Derived.Test.YtknggnchldcghacDoorGrtLNEN
import Derived.Test.YtknggnchldcghacDoorGrtLNNE
import Derived.Test.YtknggnchldcghacDoorGrtLNNN
import Derived.Deep.RegionWith
import Derived.Deep.RegionHeld3
import Derived.Deep.DeepCutAuto
namespace Go.Proofs.YtknggnchldcghacDoor.Rad
open Go.RowKit
open Plain
open Modes (Pairs)
open Err (errV own ErrVar)
open Chk (errIf gainS lossS levelS)
open Ints (Ints)
theorem impl_GreatestLoss (x0 : ByteArray) (x1 x2 x3 x4 : Int) (v5 : Value) (z5 : List (Int × Int)) (y0 : ByteArray) (y1 y2 y3 y4 : Int) (u5 : Value) (t5 : List (Int × Int)) (g t mo : Int) (w : World) (q0 : x0.size ≤ 1048576) (q5 : z5.length ≤ 1048576) (p0 : y0.size ≤ 1048576) (p5 : t5.length ≤ 1048576) (h5 : Pairs w v5 z5) (k5 : Pairs w u5 t5) (hg : ErrVar w) :
    Calls Tryd.prog 36 #[.agg #[.string x0, .int .i64 x1, .int .i64 x2, .int .i64 x3, .int .i64 x4, v5], .int .i64 g, .agg #[.string y0, .int .i64 y1, .int .i64 y2, .int .i64 y3, .int .i64 y4, u5], .int .i64 t, .int .i64 mo] w fun e w' => e = .returned (.tuple #[.int .i64 (greV (okR x0 x1 x2 x3 x4 z5 && okR y0 y1 y2 y3 y4 t5) (gB g && (gB t && moB t5 mo)) (lossN x1 x2 g t (leastV t5 mo y2 y3 y4))), .int .i64 (greC (okR x0 x1 x2 x3 x4 z5 && okR y0 y1 y2 y3 y4 t5) (gB g && (gB t && moB t5 mo)) (lossN x1 x2 g t (leastV t5 mo y2 y3 y4)))]) ∧ On w w' := by
  have e := And.intro (Bool.eq_false_or_eq_true (okR x0 x1 x2 x3 x4 z5 && okR y0 y1 y2 y3 y4 t5)) (And.intro (Bool.eq_false_or_eq_true (gB g && gB t)) (Bool.eq_false_or_eq_true (moB t5 mo)))
  obtain ⟨a | a, b | b, c | c⟩ := e
  · exact impl_great_NNN x0 x1 x2 x3 x4 v5 z5 y0 y1 y2 y3 y4 u5 t5 g t mo w q0 q5 p0 p5 h5 k5 hg a b c
  · exact impl_great_NNE x0 x1 x2 x3 x4 v5 z5 y0 y1 y2 y3 y4 u5 t5 g t mo w q0 q5 p0 p5 h5 k5 hg a b c
  · exact impl_great_NEN x0 x1 x2 x3 x4 v5 z5 y0 y1 y2 y3 y4 u5 t5 g t mo w q0 q5 p0 p5 h5 k5 hg a b c
  · exact impl_great_NEE x0 x1 x2 x3 x4 v5 z5 y0 y1 y2 y3 y4 u5 t5 g t mo w q0 q5 p0 p5 h5 k5 hg a b c
  · exact impl_great_ENN x0 x1 x2 x3 x4 v5 z5 y0 y1 y2 y3 y4 u5 t5 g t mo w q0 q5 p0 p5 h5 k5 hg a b c
  · exact impl_great_ENE x0 x1 x2 x3 x4 v5 z5 y0 y1 y2 y3 y4 u5 t5 g t mo w q0 q5 p0 p5 h5 k5 hg a b c
  · exact impl_great_EEN x0 x1 x2 x3 x4 v5 z5 y0 y1 y2 y3 y4 u5 t5 g t mo w q0 q5 p0 p5 h5 k5 hg a b c
  · exact impl_great_EEE x0 x1 x2 x3 x4 v5 z5 y0 y1 y2 y3 y4 u5 t5 g t mo w q0 q5 p0 p5 h5 k5 hg a b c
end Go.Proofs.YtknggnchldcghacDoor.Rad
