
/-
  Whether two bands are equal, in the model and in the program. No condition.
-/
import Derived.Test.YtdkemoojlgdelaaBnd0
namespace Go.Proofs.Ytdkemoojlgdelaa.Bnd
open Go.RowKit
open Plain

def sameB (x : ByteArray) (l h r d : Int) (y : ByteArray) (m k s t : Int) : Bool := x.toList == y.toList && (l == m && (h == k && (r == s && d == t)))

set_option maxHeartbeats 1000000 in
theorem spec_Same (x : ByteArray) (l h r d : Int) (y : ByteArray) (m k s t : Int) (w : World) :
    Calls Try.prog 5 #[.agg #[.string x, .int .i64 l, .int .i64 h, .int .i64 r, .int .i64 d], .agg #[.string y, .int .i64 m, .int .i64 k, .int .i64 s, .int .i64 t]] w fun e w' => e = .returned (.bool (sameB x l h r d y m k s t)) ∧ On w w' := by
  have en := Lib.hid (show sameB x l h r d y m k s t = (x.toList == y.toList && (l == m && (h == k && (r == s && d == t)))) from rfl)
  cases e0 : x.toList == y.toList with
  | false =>
    have p0 : ¬ x.toList = y.toList := ne_of_beq_false e0
    have q0 : (x.toList != y.toList) = true := by rw [bne, e0]; rfl
    go_enter Try.func5, Try.ntmps5
    go_wp2_with fail
    go_ret
    exact ⟨ret_bool (by rw [en.out, e0]; rfl), by repeat (first | with_reducible exact On.refl _ | apply On.alloc | apply On.drewN | apply On.drew | refine On.setCell ?_ (by (try simp) <;> omega) _)⟩
  | true =>
    have p0 : x.toList = y.toList := eq_of_beq e0
    cases e1 : l == m with
    | false =>
      have p1 : ¬ l = m := ne_of_beq_false e1
      have q1 : (l != m) = true := by rw [bne, e1]; rfl
      go_enter Try.func5, Try.ntmps5
      go_wp2_with fail
      go_ret
      exact ⟨ret_bool (by rw [en.out, e0, e1]; rfl), by repeat (first | with_reducible exact On.refl _ | apply On.alloc | apply On.drewN | apply On.drew | refine On.setCell ?_ (by (try simp) <;> omega) _)⟩
    | true =>
      have p1 : l = m := eq_of_beq e1
      cases e2 : h == k with
      | false =>
        have p2 : ¬ h = k := ne_of_beq_false e2
        have q2 : (h != k) = true := by rw [bne, e2]; rfl
        go_enter Try.func5, Try.ntmps5
        go_wp2_with fail
        go_ret
        exact ⟨ret_bool (by rw [en.out, e0, e1, e2]; rfl), by repeat (first | with_reducible exact On.refl _ | apply On.alloc | apply On.drewN | apply On.drew | refine On.setCell ?_ (by (try simp) <;> omega) _)⟩
      | true =>
        have p2 : h = k := eq_of_beq e2
        cases e3 : r == s with
        | false =>
          have p3 : ¬ r = s := ne_of_beq_false e3
          have q3 : (r != s) = true := by rw [bne, e3]; rfl
          go_enter Try.func5, Try.ntmps5
          go_wp2_with fail
          go_ret
          exact ⟨ret_bool (by rw [en.out, e0, e1, e2, e3]; rfl), by repeat (first | with_reducible exact On.refl _ | apply On.alloc | apply On.drewN | apply On.drew | refine On.setCell ?_ (by (try simp) <;> omega) _)⟩
        | true =>
          have p3 : r = s := eq_of_beq e3
          cases e4 : d == t with
          | false =>
            have p4 : ¬ d = t := ne_of_beq_false e4
            have q4 : (d != t) = true := by rw [bne, e4]; rfl
            go_enter Try.func5, Try.ntmps5
            go_wp2_with fail
            go_ret
            exact ⟨ret_bool (by rw [en.out, e0, e1, e2, e3, e4]; rfl), by repeat (first | with_reducible exact On.refl _ | apply On.alloc | apply On.drewN | apply On.drew | refine On.setCell ?_ (by (try simp) <;> omega) _)⟩
          | true =>
            have p4 : d = t := eq_of_beq e4
            go_enter Try.func5, Try.ntmps5
            go_wp2_with fail
            go_ret
            exact ⟨ret_bool (by rw [en.out, e0, e1, e2, e3, e4]; rfl), by repeat (first | with_reducible exact On.refl _ | apply On.alloc | apply On.drewN | apply On.drew | refine On.setCell ?_ (by (try simp) <;> omega) _)⟩

set_option maxHeartbeats 1000000 in
theorem impl_Same (x : ByteArray) (l h r d : Int) (y : ByteArray) (m k s t : Int) (w : World) :
    Calls Try.prog 7 #[.agg #[.string x, .int .i64 l, .int .i64 h, .int .i64 r, .int .i64 d], .agg #[.string y, .int .i64 m, .int .i64 k, .int .i64 s, .int .i64 t]] w fun e w' => e = .returned (.bool (sameB x l h r d y m k s t)) ∧ On w w' := by
  have en := Lib.hid (show sameB x l h r d y m k s t = (x.toList == y.toList && (l == m && (h == k && (r == s && d == t)))) from rfl)
  cases e0 : x.toList == y.toList with
  | false =>
    have p0 : ¬ x.toList = y.toList := ne_of_beq_false e0
    have q0 : (x.toList != y.toList) = true := by rw [bne, e0]; rfl
    go_enter Try.func7, Try.ntmps7
    go_wp2_with fail
    go_ret
    exact ⟨ret_bool (by rw [en.out, e0]; rfl), by repeat (first | with_reducible exact On.refl _ | apply On.alloc | apply On.drewN | apply On.drew | refine On.setCell ?_ (by (try simp) <;> omega) _)⟩
  | true =>
    have p0 : x.toList = y.toList := eq_of_beq e0
    cases e1 : l == m with
    | false =>
      have p1 : ¬ l = m := ne_of_beq_false e1
      have q1 : (l != m) = true := by rw [bne, e1]; rfl
      go_enter Try.func7, Try.ntmps7
      go_wp2_with fail
      go_ret
      exact ⟨ret_bool (by rw [en.out, e0, e1]; rfl), by repeat (first | with_reducible exact On.refl _ | apply On.alloc | apply On.drewN | apply On.drew | refine On.setCell ?_ (by (try simp) <;> omega) _)⟩
    | true =>
      have p1 : l = m := eq_of_beq e1
      cases e2 : h == k with
      | false =>
        have p2 : ¬ h = k := ne_of_beq_false e2
        have q2 : (h != k) = true := by rw [bne, e2]; rfl
        go_enter Try.func7, Try.ntmps7
        go_wp2_with fail
        go_ret
        exact ⟨ret_bool (by rw [en.out, e0, e1, e2]; rfl), by repeat (first | with_reducible exact On.refl _ | apply On.alloc | apply On.drewN | apply On.drew | refine On.setCell ?_ (by (try simp) <;> omega) _)⟩
      | true =>
        have p2 : h = k := eq_of_beq e2
        cases e3 : r == s with
        | false =>
          have p3 : ¬ r = s := ne_of_beq_false e3
          have q3 : (r != s) = true := by rw [bne, e3]; rfl
          go_enter Try.func7, Try.ntmps7
          go_wp2_with fail
          go_ret
          exact ⟨ret_bool (by rw [en.out, e0, e1, e2, e3]; rfl), by repeat (first | with_reducible exact On.refl _ | apply On.alloc | apply On.drewN | apply On.drew | refine On.setCell ?_ (by (try simp) <;> omega) _)⟩
        | true =>
          have p3 : r = s := eq_of_beq e3
          cases e4 : d == t with
          | false =>
            have p4 : ¬ d = t := ne_of_beq_false e4
            have q4 : (d != t) = true := by rw [bne, e4]; rfl
            go_enter Try.func7, Try.ntmps7
            go_wp2_with fail
            go_ret
            exact ⟨ret_bool (by rw [en.out, e0, e1, e2, e3, e4]; rfl), by repeat (first | with_reducible exact On.refl _ | apply On.alloc | apply On.drewN | apply On.drew | refine On.setCell ?_ (by (try simp) <;> omega) _)⟩
          | true =>
            have p4 : d = t := eq_of_beq e4
            go_enter Try.func7, Try.ntmps7
            go_wp2_with fail
            go_ret
            exact ⟨ret_bool (by rw [en.out, e0, e1, e2, e3, e4]; rfl), by repeat (first | with_reducible exact On.refl _ | apply On.alloc | apply On.drewN | apply On.drew | refine On.setCell ?_ (by (try simp) <;> omega) _)⟩

end Go.Proofs.Ytdkemoojlgdelaa.Bnd
