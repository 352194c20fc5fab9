
/-
  What the names and the check values of the model and of the program return. Condition: a text of at most 1048576 bytes.
-/
import Derived.Test.YtdkemoojlgdelaaProg
import Derived.Test.YtdkemoojlgdelaaBytes
import Derived.Test.YtdkemoojlgdelaaArith
import Derived.WalkKit
import Derived.Lib.Hide
import Derived.IntWalk
namespace Go.Proofs.Ytdkemoojlgdelaa.Text1
open Go.RowKit
open Plain
open Arith (ret_bool ret_int)

theorem len_data (s : ByteArray) : s.data.toList.length = s.size := Array.length_toList
theorem get_data (s : ByteArray) (k : Nat) (h : k < s.size) (h' : k < s.data.toList.length) : s.data.toList[k]'h' = s[k]'h := Array.getElem_toList _
theorem not_empty {s : ByteArray} (h : 0 < s.size) : s.toList.isEmpty = false := by
  rw [ByteArray.toList_eq]
  cases hl : s.data.toList with
  | nil => have := len_data s; rw [hl] at this; simp at this; omega
  | cons _ _ => rfl
theorem is_empty {s : ByteArray} (h : s.size = 0) : s = ByteArray.empty := by
  cases s; rename_i d; simp [ByteArray.size] at h; subst h; rfl

end Go.Proofs.Ytdkemoojlgdelaa.Text1
