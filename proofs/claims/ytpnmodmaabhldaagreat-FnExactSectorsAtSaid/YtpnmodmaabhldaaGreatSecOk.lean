
/-
  When a sector is valid, in the model and in the program. Conditions: at most 1048576 bytes in a text.
-/
import Derived.Test.YtpnmodmaabhldaaGreatSecs
import Derived.Test.YtpnmodmaabhldaaGreatText1
import Derived.Test.YtpnmodmaabhldaaGreatOnH
namespace Go.Proofs.YtpnmodmaabhldaaGreat.Sec
open Go.RowKit
open Plain

def okT (s0 s1 s2 s3 s4 : ByteArray) (v0 v1 v2 v3 : Int) : Bool := nameB s0.data.toList && (nameB s1.data.toList && (nameB s2.data.toList && (nameB s3.data.toList && (nameB s4.data.toList && (inB v0 0 359 && (inB v1 0 30 && (inB v2 1 3000 && (inB v3 (-1) 999))))))))
/-- The cells from o on in block g hold it. -/
def InO (w : World) (g o : Nat) (s0 s1 s2 s3 s4 : ByteArray) (v0 v1 v2 v3 : Int) : Prop := w.cell? ⟨g, o, none⟩ = some (.string s0) ∧ w.cell? ⟨g, o + 1, none⟩ = some (.string s1) ∧ w.cell? ⟨g, o + 2, none⟩ = some (.string s2) ∧ w.cell? ⟨g, o + 3, none⟩ = some (.string s3) ∧ w.cell? ⟨g, o + 4, none⟩ = some (.string s4) ∧ w.cell? ⟨g, o + 5, none⟩ = some (.int .i64 v0) ∧ w.cell? ⟨g, o + 6, none⟩ = some (.int .i64 v1) ∧ w.cell? ⟨g, o + 7, none⟩ = some (.int .i64 v2) ∧ w.cell? ⟨g, o + 8, none⟩ = some (.int .i64 v3)
theorem InO.lt {w : World} {g o : Nat} {s0 s1 s2 s3 s4 : ByteArray} {v0 v1 v2 v3 : Int} (hi : InO w g o s0 s1 s2 s3 s4 v0 v1 v2 v3) : g < w.heap.size := World.block_lt_of_cell? w _ hi.1
theorem InO.on {w w' : World} {g o : Nat} {s0 s1 s2 s3 s4 : ByteArray} {v0 v1 v2 v3 : Int} (hi : InO w g o s0 s1 s2 s3 s4 v0 v1 v2 v3) (ho : On w w') : InO w' g o s0 s1 s2 s3 s4 v0 v1 v2 v3 :=
  ⟨(ho.cell (by exact hi.lt)).trans hi.1, (ho.cell (by exact hi.lt)).trans hi.2.1, (ho.cell (by exact hi.lt)).trans hi.2.2.1, (ho.cell (by exact hi.lt)).trans hi.2.2.2.1, (ho.cell (by exact hi.lt)).trans hi.2.2.2.2.1, (ho.cell (by exact hi.lt)).trans hi.2.2.2.2.2.1, (ho.cell (by exact hi.lt)).trans hi.2.2.2.2.2.2.1, (ho.cell (by exact hi.lt)).trans hi.2.2.2.2.2.2.2.1, (ho.cell (by exact hi.lt)).trans hi.2.2.2.2.2.2.2.2⟩
set_option maxRecDepth 100000 in
set_option maxHeartbeats 8000000 in
theorem spec_okO (g o : Nat) (s0 s1 s2 s3 s4 : ByteArray) (v0 v1 v2 v3 : Int) (w : World) (q0 : s0.size ≤ 1048576) (q1 : s1.size ≤ 1048576) (q2 : s2.size ≤ 1048576) (q3 : s3.size ≤ 1048576) (q4 : s4.size ≤ 1048576) (hp : InO w g o s0 s1 s2 s3 s4 v0 v1 v2 v3) :
    Calls Tryz.prog 83 #[.pointer (some ⟨g, o, none⟩)] w fun e w' => e = .returned (.bool (okT s0 s1 s2 s3 s4 v0 v1 v2 v3)) ∧ On w w' := by
  have EN := Lib.hid (show okT s0 s1 s2 s3 s4 v0 v1 v2 v3 = (nameB s0.data.toList && (nameB s1.data.toList && (nameB s2.data.toList && (nameB s3.data.toList && (nameB s4.data.toList && (inB v0 0 359 && (inB v1 0 30 && (inB v2 1 3000 && (inB v3 (-1) 999))))))))) from rfl)
  have hN0 := fun w => Text1.spec_l01Name s0 w q0
  have hN1 := fun w => Text1.spec_l01Name s1 w q1
  have hN2 := fun w => Text1.spec_l01Name s2 w q2
  have hN3 := fun w => Text1.spec_l01Name s3 w q3
  have hN4 := fun w => Text1.spec_l01Name s4 w q4
  have hg := hp.lt
  obtain ⟨k0, k1, k2, k3, k4, k5, k6, k7, k8⟩ := hp
  generalize nameB s0.data.toList = b0 at *
  generalize nameB s1.data.toList = b1 at *
  generalize nameB s2.data.toList = b2 at *
  generalize nameB s3.data.toList = b3 at *
  generalize nameB s4.data.toList = b4 at *
  have HN0 := Lib.hid hN0
  have HN1 := Lib.hid hN1
  have HN2 := Lib.hid hN2
  have HN3 := Lib.hid hN3
  have HN4 := Lib.hid hN4
  clear hN0 hN1 hN2 hN3 hN4 q0 q1 q2 q3 q4
  cases b0 with
  | false =>
    have en := Lib.hid (show okT s0 s1 s2 s3 s4 v0 v1 v2 v3 = false by rw [EN.out]; rfl)
    clear EN
    go_enter Tryz.func83, Tryz.ntmps83
    go_wp2_with (first
      | (go_at_call 107; with_reducible refine (HN0.out _).mono ?_; rintro e w' ⟨rfl, rfl⟩)
      | (go_at_call 107; with_reducible refine (HN1.out _).mono ?_; rintro e w' ⟨rfl, rfl⟩)
      | (go_at_call 107; with_reducible refine (HN2.out _).mono ?_; rintro e w' ⟨rfl, rfl⟩)
      | (go_at_call 107; with_reducible refine (HN3.out _).mono ?_; rintro e w' ⟨rfl, rfl⟩)
      | (go_at_call 107; with_reducible refine (HN4.out _).mono ?_; rintro e w' ⟨rfl, rfl⟩)
      | (go_at_call 93; refine (Arith.l00In _ _ _ _).mono ?_; rintro e w' ⟨rfl, rfl⟩))
    go_ret
    exact ⟨ret_bool en.out.symm, by repeat (first | with_reducible exact On.refl _ | with_reducible apply On.alloc | with_reducible apply On.drewN | with_reducible apply On.drew | with_reducible refine On.setCell ?_ (by (try simp) <;> omega) _)⟩
  | true =>
    cases b1 with
    | false =>
      have en := Lib.hid (show okT s0 s1 s2 s3 s4 v0 v1 v2 v3 = false by rw [EN.out]; rfl)
      clear EN
      go_enter Tryz.func83, Tryz.ntmps83
      go_wp2_with (first
      | (go_at_call 107; with_reducible refine (HN0.out _).mono ?_; rintro e w' ⟨rfl, rfl⟩)
      | (go_at_call 107; with_reducible refine (HN1.out _).mono ?_; rintro e w' ⟨rfl, rfl⟩)
      | (go_at_call 107; with_reducible refine (HN2.out _).mono ?_; rintro e w' ⟨rfl, rfl⟩)
      | (go_at_call 107; with_reducible refine (HN3.out _).mono ?_; rintro e w' ⟨rfl, rfl⟩)
      | (go_at_call 107; with_reducible refine (HN4.out _).mono ?_; rintro e w' ⟨rfl, rfl⟩)
      | (go_at_call 93; refine (Arith.l00In _ _ _ _).mono ?_; rintro e w' ⟨rfl, rfl⟩))
      go_ret
      exact ⟨ret_bool en.out.symm, by repeat (first | with_reducible exact On.refl _ | with_reducible apply On.alloc | with_reducible apply On.drewN | with_reducible apply On.drew | with_reducible refine On.setCell ?_ (by (try simp) <;> omega) _)⟩
    | true =>
      cases b2 with
      | false =>
        have en := Lib.hid (show okT s0 s1 s2 s3 s4 v0 v1 v2 v3 = false by rw [EN.out]; rfl)
        clear EN
        go_enter Tryz.func83, Tryz.ntmps83
        go_wp2_with (first
      | (go_at_call 107; with_reducible refine (HN0.out _).mono ?_; rintro e w' ⟨rfl, rfl⟩)
      | (go_at_call 107; with_reducible refine (HN1.out _).mono ?_; rintro e w' ⟨rfl, rfl⟩)
      | (go_at_call 107; with_reducible refine (HN2.out _).mono ?_; rintro e w' ⟨rfl, rfl⟩)
      | (go_at_call 107; with_reducible refine (HN3.out _).mono ?_; rintro e w' ⟨rfl, rfl⟩)
      | (go_at_call 107; with_reducible refine (HN4.out _).mono ?_; rintro e w' ⟨rfl, rfl⟩)
      | (go_at_call 93; refine (Arith.l00In _ _ _ _).mono ?_; rintro e w' ⟨rfl, rfl⟩))
        go_ret
        exact ⟨ret_bool en.out.symm, by repeat (first | with_reducible exact On.refl _ | with_reducible apply On.alloc | with_reducible apply On.drewN | with_reducible apply On.drew | with_reducible refine On.setCell ?_ (by (try simp) <;> omega) _)⟩
      | true =>
        cases b3 with
        | false =>
          have en := Lib.hid (show okT s0 s1 s2 s3 s4 v0 v1 v2 v3 = false by rw [EN.out]; rfl)
          clear EN
          go_enter Tryz.func83, Tryz.ntmps83
          go_wp2_with (first
      | (go_at_call 107; with_reducible refine (HN0.out _).mono ?_; rintro e w' ⟨rfl, rfl⟩)
      | (go_at_call 107; with_reducible refine (HN1.out _).mono ?_; rintro e w' ⟨rfl, rfl⟩)
      | (go_at_call 107; with_reducible refine (HN2.out _).mono ?_; rintro e w' ⟨rfl, rfl⟩)
      | (go_at_call 107; with_reducible refine (HN3.out _).mono ?_; rintro e w' ⟨rfl, rfl⟩)
      | (go_at_call 107; with_reducible refine (HN4.out _).mono ?_; rintro e w' ⟨rfl, rfl⟩)
      | (go_at_call 93; refine (Arith.l00In _ _ _ _).mono ?_; rintro e w' ⟨rfl, rfl⟩))
          go_ret
          exact ⟨ret_bool en.out.symm, by repeat (first | with_reducible exact On.refl _ | with_reducible apply On.alloc | with_reducible apply On.drewN | with_reducible apply On.drew | with_reducible refine On.setCell ?_ (by (try simp) <;> omega) _)⟩
        | true =>
          cases b4 with
          | false =>
            have en := Lib.hid (show okT s0 s1 s2 s3 s4 v0 v1 v2 v3 = false by rw [EN.out]; rfl)
            clear EN
            go_enter Tryz.func83, Tryz.ntmps83
            go_wp2_with (first
      | (go_at_call 107; with_reducible refine (HN0.out _).mono ?_; rintro e w' ⟨rfl, rfl⟩)
      | (go_at_call 107; with_reducible refine (HN1.out _).mono ?_; rintro e w' ⟨rfl, rfl⟩)
      | (go_at_call 107; with_reducible refine (HN2.out _).mono ?_; rintro e w' ⟨rfl, rfl⟩)
      | (go_at_call 107; with_reducible refine (HN3.out _).mono ?_; rintro e w' ⟨rfl, rfl⟩)
      | (go_at_call 107; with_reducible refine (HN4.out _).mono ?_; rintro e w' ⟨rfl, rfl⟩)
      | (go_at_call 93; refine (Arith.l00In _ _ _ _).mono ?_; rintro e w' ⟨rfl, rfl⟩))
            go_ret
            exact ⟨ret_bool en.out.symm, by repeat (first | with_reducible exact On.refl _ | with_reducible apply On.alloc | with_reducible apply On.drewN | with_reducible apply On.drew | with_reducible refine On.setCell ?_ (by (try simp) <;> omega) _)⟩
          | true =>
            cases t0 : inB v0 0 359 with
            | false =>
              have en := Lib.hid (show okT s0 s1 s2 s3 s4 v0 v1 v2 v3 = false by rw [EN.out, t0]; rfl)
              clear EN
              go_enter Tryz.func83, Tryz.ntmps83
              go_wp2_with (first
      | (go_at_call 107; with_reducible refine (HN0.out _).mono ?_; rintro e w' ⟨rfl, rfl⟩)
      | (go_at_call 107; with_reducible refine (HN1.out _).mono ?_; rintro e w' ⟨rfl, rfl⟩)
      | (go_at_call 107; with_reducible refine (HN2.out _).mono ?_; rintro e w' ⟨rfl, rfl⟩)
      | (go_at_call 107; with_reducible refine (HN3.out _).mono ?_; rintro e w' ⟨rfl, rfl⟩)
      | (go_at_call 107; with_reducible refine (HN4.out _).mono ?_; rintro e w' ⟨rfl, rfl⟩)
      | (go_at_call 93; refine (Arith.l00In _ _ _ _).mono ?_; rintro e w' ⟨rfl, rfl⟩))
              go_ret
              exact ⟨ret_bool en.out.symm, by repeat (first | with_reducible exact On.refl _ | with_reducible apply On.alloc | with_reducible apply On.drewN | with_reducible apply On.drew | with_reducible refine On.setCell ?_ (by (try simp) <;> omega) _)⟩
            | true =>
              cases t1 : inB v1 0 30 with
              | false =>
                have en := Lib.hid (show okT s0 s1 s2 s3 s4 v0 v1 v2 v3 = false by rw [EN.out, t0, t1]; rfl)
                clear EN
                go_enter Tryz.func83, Tryz.ntmps83
                go_wp2_with (first
      | (go_at_call 107; with_reducible refine (HN0.out _).mono ?_; rintro e w' ⟨rfl, rfl⟩)
      | (go_at_call 107; with_reducible refine (HN1.out _).mono ?_; rintro e w' ⟨rfl, rfl⟩)
      | (go_at_call 107; with_reducible refine (HN2.out _).mono ?_; rintro e w' ⟨rfl, rfl⟩)
      | (go_at_call 107; with_reducible refine (HN3.out _).mono ?_; rintro e w' ⟨rfl, rfl⟩)
      | (go_at_call 107; with_reducible refine (HN4.out _).mono ?_; rintro e w' ⟨rfl, rfl⟩)
      | (go_at_call 93; refine (Arith.l00In _ _ _ _).mono ?_; rintro e w' ⟨rfl, rfl⟩))
                go_ret
                exact ⟨ret_bool en.out.symm, by repeat (first | with_reducible exact On.refl _ | with_reducible apply On.alloc | with_reducible apply On.drewN | with_reducible apply On.drew | with_reducible refine On.setCell ?_ (by (try simp) <;> omega) _)⟩
              | true =>
                cases t2 : inB v2 1 3000 with
                | false =>
                  have en := Lib.hid (show okT s0 s1 s2 s3 s4 v0 v1 v2 v3 = false by rw [EN.out, t0, t1, t2]; rfl)
                  clear EN
                  go_enter Tryz.func83, Tryz.ntmps83
                  go_wp2_with (first
      | (go_at_call 107; with_reducible refine (HN0.out _).mono ?_; rintro e w' ⟨rfl, rfl⟩)
      | (go_at_call 107; with_reducible refine (HN1.out _).mono ?_; rintro e w' ⟨rfl, rfl⟩)
      | (go_at_call 107; with_reducible refine (HN2.out _).mono ?_; rintro e w' ⟨rfl, rfl⟩)
      | (go_at_call 107; with_reducible refine (HN3.out _).mono ?_; rintro e w' ⟨rfl, rfl⟩)
      | (go_at_call 107; with_reducible refine (HN4.out _).mono ?_; rintro e w' ⟨rfl, rfl⟩)
      | (go_at_call 93; refine (Arith.l00In _ _ _ _).mono ?_; rintro e w' ⟨rfl, rfl⟩))
                  go_ret
                  exact ⟨ret_bool en.out.symm, by repeat (first | with_reducible exact On.refl _ | with_reducible apply On.alloc | with_reducible apply On.drewN | with_reducible apply On.drew | with_reducible refine On.setCell ?_ (by (try simp) <;> omega) _)⟩
                | true =>
                  cases t3 : inB v3 (-1) 999 with
                  | false =>
                    have en := Lib.hid (show okT s0 s1 s2 s3 s4 v0 v1 v2 v3 = false by rw [EN.out, t0, t1, t2, t3]; rfl)
                    clear EN
                    go_enter Tryz.func83, Tryz.ntmps83
                    go_wp2_with (first
      | (go_at_call 107; with_reducible refine (HN0.out _).mono ?_; rintro e w' ⟨rfl, rfl⟩)
      | (go_at_call 107; with_reducible refine (HN1.out _).mono ?_; rintro e w' ⟨rfl, rfl⟩)
      | (go_at_call 107; with_reducible refine (HN2.out _).mono ?_; rintro e w' ⟨rfl, rfl⟩)
      | (go_at_call 107; with_reducible refine (HN3.out _).mono ?_; rintro e w' ⟨rfl, rfl⟩)
      | (go_at_call 107; with_reducible refine (HN4.out _).mono ?_; rintro e w' ⟨rfl, rfl⟩)
      | (go_at_call 93; refine (Arith.l00In _ _ _ _).mono ?_; rintro e w' ⟨rfl, rfl⟩))
                    go_ret
                    exact ⟨ret_bool en.out.symm, by repeat (first | with_reducible exact On.refl _ | with_reducible apply On.alloc | with_reducible apply On.drewN | with_reducible apply On.drew | with_reducible refine On.setCell ?_ (by (try simp) <;> omega) _)⟩
                  | true =>
                    have en := Lib.hid (show okT s0 s1 s2 s3 s4 v0 v1 v2 v3 = true by rw [EN.out, t0, t1, t2, t3]; rfl)
                    clear EN
                    go_enter Tryz.func83, Tryz.ntmps83
                    go_wp2_with (first
      | (go_at_call 107; with_reducible refine (HN0.out _).mono ?_; rintro e w' ⟨rfl, rfl⟩)
      | (go_at_call 107; with_reducible refine (HN1.out _).mono ?_; rintro e w' ⟨rfl, rfl⟩)
      | (go_at_call 107; with_reducible refine (HN2.out _).mono ?_; rintro e w' ⟨rfl, rfl⟩)
      | (go_at_call 107; with_reducible refine (HN3.out _).mono ?_; rintro e w' ⟨rfl, rfl⟩)
      | (go_at_call 107; with_reducible refine (HN4.out _).mono ?_; rintro e w' ⟨rfl, rfl⟩)
      | (go_at_call 93; refine (Arith.l00In _ _ _ _).mono ?_; rintro e w' ⟨rfl, rfl⟩))
                    go_ret
                    exact ⟨ret_bool en.out.symm, by repeat (first | with_reducible exact On.refl _ | with_reducible apply On.alloc | with_reducible apply On.drewN | with_reducible apply On.drew | with_reducible refine On.setCell ?_ (by (try simp) <;> omega) _)⟩
theorem impl_isChannel (v : Int) (w : World) :
    Calls Tryz.prog 94 #[.int .i64 v] w fun e w' => e = .returned (.bool (inB v (-1) 999)) ∧ w = w' := by
  go_enter Tryz.func94, Tryz.ntmps94
  go_wp2_with (go_at_call 134; refine (Arith.within _ _ _ _).mono ?_; rintro e w' ⟨rfl, rfl⟩)
  go_ret
  exact ⟨rfl, rfl⟩
set_option maxRecDepth 100000 in
set_option maxHeartbeats 8000000 in
theorem impl_ok (s0 s1 s2 s3 s4 : ByteArray) (v0 v1 v2 v3 : Int) (w : World) (q0 : s0.size ≤ 1048576) (q1 : s1.size ≤ 1048576) (q2 : s2.size ≤ 1048576) (q3 : s3.size ≤ 1048576) (q4 : s4.size ≤ 1048576) :
    Calls Tryz.prog 86 #[.agg #[.string s0, .string s1, .string s2, .string s3, .string s4, .int .i64 v0, .int .i64 v1, .int .i64 v2, .int .i64 v3]] w fun e w' => e = .returned (.bool (okT s0 s1 s2 s3 s4 v0 v1 v2 v3)) ∧ On w w' := by
  have EN := Lib.hid (show okT s0 s1 s2 s3 s4 v0 v1 v2 v3 = (nameB s0.data.toList && (nameB s1.data.toList && (nameB s2.data.toList && (nameB s3.data.toList && (nameB s4.data.toList && (inB v0 0 359 && (inB v1 0 30 && (inB v2 1 3000 && (inB v3 (-1) 999))))))))) from rfl)
  have hN0 := fun w => Text1.impl_isName s0 w q0
  have hN1 := fun w => Text1.impl_isName s1 w q1
  have hN2 := fun w => Text1.impl_isName s2 w q2
  have hN3 := fun w => Text1.impl_isName s3 w q3
  have hN4 := fun w => Text1.impl_isName s4 w q4
  generalize nameB s0.data.toList = b0 at *
  generalize nameB s1.data.toList = b1 at *
  generalize nameB s2.data.toList = b2 at *
  generalize nameB s3.data.toList = b3 at *
  generalize nameB s4.data.toList = b4 at *
  have HN0 := Lib.hid hN0
  have HN1 := Lib.hid hN1
  have HN2 := Lib.hid hN2
  have HN3 := Lib.hid hN3
  have HN4 := Lib.hid hN4
  clear hN0 hN1 hN2 hN3 hN4 q0 q1 q2 q3 q4
  have ix0 : ∀ w, (Instr.index 174 (.agg #[.string s0, .string s1, .string s2, .string s3, .string s4]) (.int .i64 0)).run Tryz.prog w = .ok (.string s0) w := fun _ => by kernel_rfl
  have ix1 : ∀ w, (Instr.index 174 (.agg #[.string s0, .string s1, .string s2, .string s3, .string s4]) (.int .i64 1)).run Tryz.prog w = .ok (.string s1) w := fun _ => by kernel_rfl
  have ix2 : ∀ w, (Instr.index 174 (.agg #[.string s0, .string s1, .string s2, .string s3, .string s4]) (.int .i64 2)).run Tryz.prog w = .ok (.string s2) w := fun _ => by kernel_rfl
  have ix3 : ∀ w, (Instr.index 174 (.agg #[.string s0, .string s1, .string s2, .string s3, .string s4]) (.int .i64 3)).run Tryz.prog w = .ok (.string s3) w := fun _ => by kernel_rfl
  have ix4 : ∀ w, (Instr.index 174 (.agg #[.string s0, .string s1, .string s2, .string s3, .string s4]) (.int .i64 4)).run Tryz.prog w = .ok (.string s4) w := fun _ => by kernel_rfl
  cases b0 with
  | false =>
    have en := Lib.hid (show okT s0 s1 s2 s3 s4 v0 v1 v2 v3 = false by rw [EN.out]; rfl)
    clear EN
    go_enter Tryz.func86, Tryz.ntmps86
    go_wp2_with fail
    refine wp_loop_rounds 6 ?_
    rw [rounds_succ]
    go_wp2_with (first
      | (go_at_call 117; with_reducible refine (HN0.out _).mono ?_; rintro e w' ⟨rfl, rfl⟩)
      | (go_at_call 117; with_reducible refine (HN1.out _).mono ?_; rintro e w' ⟨rfl, rfl⟩)
      | (go_at_call 117; with_reducible refine (HN2.out _).mono ?_; rintro e w' ⟨rfl, rfl⟩)
      | (go_at_call 117; with_reducible refine (HN3.out _).mono ?_; rintro e w' ⟨rfl, rfl⟩)
      | (go_at_call 117; with_reducible refine (HN4.out _).mono ?_; rintro e w' ⟨rfl, rfl⟩)
      | (go_at_call 134; refine (Arith.within _ _ _ _).mono ?_; rintro e w' ⟨rfl, rfl⟩)
      | (go_at_call 94; refine (impl_isChannel _ _).mono ?_; rintro e w' ⟨rfl, rfl⟩))
    go_ret
    exact ⟨ret_bool en.out.symm, by repeat (first | with_reducible exact On.refl _ | with_reducible apply On.alloc | with_reducible apply On.drewN | with_reducible apply On.drew | with_reducible refine On.setCell ?_ (by (try simp) <;> omega) _)⟩
  | true =>
    cases b1 with
    | false =>
      have en := Lib.hid (show okT s0 s1 s2 s3 s4 v0 v1 v2 v3 = false by rw [EN.out]; rfl)
      clear EN
      go_enter Tryz.func86, Tryz.ntmps86
      go_wp2_with fail
      refine wp_loop_rounds 6 ?_
      rw [rounds_succ]
      go_wp2_with (first
      | (go_at_call 117; with_reducible refine (HN0.out _).mono ?_; rintro e w' ⟨rfl, rfl⟩)
      | (go_at_call 117; with_reducible refine (HN1.out _).mono ?_; rintro e w' ⟨rfl, rfl⟩)
      | (go_at_call 117; with_reducible refine (HN2.out _).mono ?_; rintro e w' ⟨rfl, rfl⟩)
      | (go_at_call 117; with_reducible refine (HN3.out _).mono ?_; rintro e w' ⟨rfl, rfl⟩)
      | (go_at_call 117; with_reducible refine (HN4.out _).mono ?_; rintro e w' ⟨rfl, rfl⟩)
      | (go_at_call 134; refine (Arith.within _ _ _ _).mono ?_; rintro e w' ⟨rfl, rfl⟩)
      | (go_at_call 94; refine (impl_isChannel _ _).mono ?_; rintro e w' ⟨rfl, rfl⟩))
      rw [rounds_succ]
      go_wp2_with (first
      | (go_at_call 117; with_reducible refine (HN0.out _).mono ?_; rintro e w' ⟨rfl, rfl⟩)
      | (go_at_call 117; with_reducible refine (HN1.out _).mono ?_; rintro e w' ⟨rfl, rfl⟩)
      | (go_at_call 117; with_reducible refine (HN2.out _).mono ?_; rintro e w' ⟨rfl, rfl⟩)
      | (go_at_call 117; with_reducible refine (HN3.out _).mono ?_; rintro e w' ⟨rfl, rfl⟩)
      | (go_at_call 117; with_reducible refine (HN4.out _).mono ?_; rintro e w' ⟨rfl, rfl⟩)
      | (go_at_call 134; refine (Arith.within _ _ _ _).mono ?_; rintro e w' ⟨rfl, rfl⟩)
      | (go_at_call 94; refine (impl_isChannel _ _).mono ?_; rintro e w' ⟨rfl, rfl⟩))
      go_ret
      exact ⟨ret_bool en.out.symm, by repeat (first | with_reducible exact On.refl _ | with_reducible apply On.alloc | with_reducible apply On.drewN | with_reducible apply On.drew | with_reducible refine On.setCell ?_ (by (try simp) <;> omega) _)⟩
    | true =>
      cases b2 with
      | false =>
        have en := Lib.hid (show okT s0 s1 s2 s3 s4 v0 v1 v2 v3 = false by rw [EN.out]; rfl)
        clear EN
        go_enter Tryz.func86, Tryz.ntmps86
        go_wp2_with fail
        refine wp_loop_rounds 6 ?_
        rw [rounds_succ]
        go_wp2_with (first
      | (go_at_call 117; with_reducible refine (HN0.out _).mono ?_; rintro e w' ⟨rfl, rfl⟩)
      | (go_at_call 117; with_reducible refine (HN1.out _).mono ?_; rintro e w' ⟨rfl, rfl⟩)
      | (go_at_call 117; with_reducible refine (HN2.out _).mono ?_; rintro e w' ⟨rfl, rfl⟩)
      | (go_at_call 117; with_reducible refine (HN3.out _).mono ?_; rintro e w' ⟨rfl, rfl⟩)
      | (go_at_call 117; with_reducible refine (HN4.out _).mono ?_; rintro e w' ⟨rfl, rfl⟩)
      | (go_at_call 134; refine (Arith.within _ _ _ _).mono ?_; rintro e w' ⟨rfl, rfl⟩)
      | (go_at_call 94; refine (impl_isChannel _ _).mono ?_; rintro e w' ⟨rfl, rfl⟩))
        rw [rounds_succ]
        go_wp2_with (first
      | (go_at_call 117; with_reducible refine (HN0.out _).mono ?_; rintro e w' ⟨rfl, rfl⟩)
      | (go_at_call 117; with_reducible refine (HN1.out _).mono ?_; rintro e w' ⟨rfl, rfl⟩)
      | (go_at_call 117; with_reducible refine (HN2.out _).mono ?_; rintro e w' ⟨rfl, rfl⟩)
      | (go_at_call 117; with_reducible refine (HN3.out _).mono ?_; rintro e w' ⟨rfl, rfl⟩)
      | (go_at_call 117; with_reducible refine (HN4.out _).mono ?_; rintro e w' ⟨rfl, rfl⟩)
      | (go_at_call 134; refine (Arith.within _ _ _ _).mono ?_; rintro e w' ⟨rfl, rfl⟩)
      | (go_at_call 94; refine (impl_isChannel _ _).mono ?_; rintro e w' ⟨rfl, rfl⟩))
        rw [rounds_succ]
        go_wp2_with (first
      | (go_at_call 117; with_reducible refine (HN0.out _).mono ?_; rintro e w' ⟨rfl, rfl⟩)
      | (go_at_call 117; with_reducible refine (HN1.out _).mono ?_; rintro e w' ⟨rfl, rfl⟩)
      | (go_at_call 117; with_reducible refine (HN2.out _).mono ?_; rintro e w' ⟨rfl, rfl⟩)
      | (go_at_call 117; with_reducible refine (HN3.out _).mono ?_; rintro e w' ⟨rfl, rfl⟩)
      | (go_at_call 117; with_reducible refine (HN4.out _).mono ?_; rintro e w' ⟨rfl, rfl⟩)
      | (go_at_call 134; refine (Arith.within _ _ _ _).mono ?_; rintro e w' ⟨rfl, rfl⟩)
      | (go_at_call 94; refine (impl_isChannel _ _).mono ?_; rintro e w' ⟨rfl, rfl⟩))
        go_ret
        exact ⟨ret_bool en.out.symm, by repeat (first | with_reducible exact On.refl _ | with_reducible apply On.alloc | with_reducible apply On.drewN | with_reducible apply On.drew | with_reducible refine On.setCell ?_ (by (try simp) <;> omega) _)⟩
      | true =>
        cases b3 with
        | false =>
          have en := Lib.hid (show okT s0 s1 s2 s3 s4 v0 v1 v2 v3 = false by rw [EN.out]; rfl)
          clear EN
          go_enter Tryz.func86, Tryz.ntmps86
          go_wp2_with fail
          refine wp_loop_rounds 6 ?_
          rw [rounds_succ]
          go_wp2_with (first
      | (go_at_call 117; with_reducible refine (HN0.out _).mono ?_; rintro e w' ⟨rfl, rfl⟩)
      | (go_at_call 117; with_reducible refine (HN1.out _).mono ?_; rintro e w' ⟨rfl, rfl⟩)
      | (go_at_call 117; with_reducible refine (HN2.out _).mono ?_; rintro e w' ⟨rfl, rfl⟩)
      | (go_at_call 117; with_reducible refine (HN3.out _).mono ?_; rintro e w' ⟨rfl, rfl⟩)
      | (go_at_call 117; with_reducible refine (HN4.out _).mono ?_; rintro e w' ⟨rfl, rfl⟩)
      | (go_at_call 134; refine (Arith.within _ _ _ _).mono ?_; rintro e w' ⟨rfl, rfl⟩)
      | (go_at_call 94; refine (impl_isChannel _ _).mono ?_; rintro e w' ⟨rfl, rfl⟩))
          rw [rounds_succ]
          go_wp2_with (first
      | (go_at_call 117; with_reducible refine (HN0.out _).mono ?_; rintro e w' ⟨rfl, rfl⟩)
      | (go_at_call 117; with_reducible refine (HN1.out _).mono ?_; rintro e w' ⟨rfl, rfl⟩)
      | (go_at_call 117; with_reducible refine (HN2.out _).mono ?_; rintro e w' ⟨rfl, rfl⟩)
      | (go_at_call 117; with_reducible refine (HN3.out _).mono ?_; rintro e w' ⟨rfl, rfl⟩)
      | (go_at_call 117; with_reducible refine (HN4.out _).mono ?_; rintro e w' ⟨rfl, rfl⟩)
      | (go_at_call 134; refine (Arith.within _ _ _ _).mono ?_; rintro e w' ⟨rfl, rfl⟩)
      | (go_at_call 94; refine (impl_isChannel _ _).mono ?_; rintro e w' ⟨rfl, rfl⟩))
          rw [rounds_succ]
          go_wp2_with (first
      | (go_at_call 117; with_reducible refine (HN0.out _).mono ?_; rintro e w' ⟨rfl, rfl⟩)
      | (go_at_call 117; with_reducible refine (HN1.out _).mono ?_; rintro e w' ⟨rfl, rfl⟩)
      | (go_at_call 117; with_reducible refine (HN2.out _).mono ?_; rintro e w' ⟨rfl, rfl⟩)
      | (go_at_call 117; with_reducible refine (HN3.out _).mono ?_; rintro e w' ⟨rfl, rfl⟩)
      | (go_at_call 117; with_reducible refine (HN4.out _).mono ?_; rintro e w' ⟨rfl, rfl⟩)
      | (go_at_call 134; refine (Arith.within _ _ _ _).mono ?_; rintro e w' ⟨rfl, rfl⟩)
      | (go_at_call 94; refine (impl_isChannel _ _).mono ?_; rintro e w' ⟨rfl, rfl⟩))
          rw [rounds_succ]
          go_wp2_with (first
      | (go_at_call 117; with_reducible refine (HN0.out _).mono ?_; rintro e w' ⟨rfl, rfl⟩)
      | (go_at_call 117; with_reducible refine (HN1.out _).mono ?_; rintro e w' ⟨rfl, rfl⟩)
      | (go_at_call 117; with_reducible refine (HN2.out _).mono ?_; rintro e w' ⟨rfl, rfl⟩)
      | (go_at_call 117; with_reducible refine (HN3.out _).mono ?_; rintro e w' ⟨rfl, rfl⟩)
      | (go_at_call 117; with_reducible refine (HN4.out _).mono ?_; rintro e w' ⟨rfl, rfl⟩)
      | (go_at_call 134; refine (Arith.within _ _ _ _).mono ?_; rintro e w' ⟨rfl, rfl⟩)
      | (go_at_call 94; refine (impl_isChannel _ _).mono ?_; rintro e w' ⟨rfl, rfl⟩))
          go_ret
          exact ⟨ret_bool en.out.symm, by repeat (first | with_reducible exact On.refl _ | with_reducible apply On.alloc | with_reducible apply On.drewN | with_reducible apply On.drew | with_reducible refine On.setCell ?_ (by (try simp) <;> omega) _)⟩
        | true =>
          cases b4 with
          | false =>
            have en := Lib.hid (show okT s0 s1 s2 s3 s4 v0 v1 v2 v3 = false by rw [EN.out]; rfl)
            clear EN
            go_enter Tryz.func86, Tryz.ntmps86
            go_wp2_with fail
            refine wp_loop_rounds 6 ?_
            rw [rounds_succ]
            go_wp2_with (first
      | (go_at_call 117; with_reducible refine (HN0.out _).mono ?_; rintro e w' ⟨rfl, rfl⟩)
      | (go_at_call 117; with_reducible refine (HN1.out _).mono ?_; rintro e w' ⟨rfl, rfl⟩)
      | (go_at_call 117; with_reducible refine (HN2.out _).mono ?_; rintro e w' ⟨rfl, rfl⟩)
      | (go_at_call 117; with_reducible refine (HN3.out _).mono ?_; rintro e w' ⟨rfl, rfl⟩)
      | (go_at_call 117; with_reducible refine (HN4.out _).mono ?_; rintro e w' ⟨rfl, rfl⟩)
      | (go_at_call 134; refine (Arith.within _ _ _ _).mono ?_; rintro e w' ⟨rfl, rfl⟩)
      | (go_at_call 94; refine (impl_isChannel _ _).mono ?_; rintro e w' ⟨rfl, rfl⟩))
            rw [rounds_succ]
            go_wp2_with (first
      | (go_at_call 117; with_reducible refine (HN0.out _).mono ?_; rintro e w' ⟨rfl, rfl⟩)
      | (go_at_call 117; with_reducible refine (HN1.out _).mono ?_; rintro e w' ⟨rfl, rfl⟩)
      | (go_at_call 117; with_reducible refine (HN2.out _).mono ?_; rintro e w' ⟨rfl, rfl⟩)
      | (go_at_call 117; with_reducible refine (HN3.out _).mono ?_; rintro e w' ⟨rfl, rfl⟩)
      | (go_at_call 117; with_reducible refine (HN4.out _).mono ?_; rintro e w' ⟨rfl, rfl⟩)
      | (go_at_call 134; refine (Arith.within _ _ _ _).mono ?_; rintro e w' ⟨rfl, rfl⟩)
      | (go_at_call 94; refine (impl_isChannel _ _).mono ?_; rintro e w' ⟨rfl, rfl⟩))
            rw [rounds_succ]
            go_wp2_with (first
      | (go_at_call 117; with_reducible refine (HN0.out _).mono ?_; rintro e w' ⟨rfl, rfl⟩)
      | (go_at_call 117; with_reducible refine (HN1.out _).mono ?_; rintro e w' ⟨rfl, rfl⟩)
      | (go_at_call 117; with_reducible refine (HN2.out _).mono ?_; rintro e w' ⟨rfl, rfl⟩)
      | (go_at_call 117; with_reducible refine (HN3.out _).mono ?_; rintro e w' ⟨rfl, rfl⟩)
      | (go_at_call 117; with_reducible refine (HN4.out _).mono ?_; rintro e w' ⟨rfl, rfl⟩)
      | (go_at_call 134; refine (Arith.within _ _ _ _).mono ?_; rintro e w' ⟨rfl, rfl⟩)
      | (go_at_call 94; refine (impl_isChannel _ _).mono ?_; rintro e w' ⟨rfl, rfl⟩))
            rw [rounds_succ]
            go_wp2_with (first
      | (go_at_call 117; with_reducible refine (HN0.out _).mono ?_; rintro e w' ⟨rfl, rfl⟩)
      | (go_at_call 117; with_reducible refine (HN1.out _).mono ?_; rintro e w' ⟨rfl, rfl⟩)
      | (go_at_call 117; with_reducible refine (HN2.out _).mono ?_; rintro e w' ⟨rfl, rfl⟩)
      | (go_at_call 117; with_reducible refine (HN3.out _).mono ?_; rintro e w' ⟨rfl, rfl⟩)
      | (go_at_call 117; with_reducible refine (HN4.out _).mono ?_; rintro e w' ⟨rfl, rfl⟩)
      | (go_at_call 134; refine (Arith.within _ _ _ _).mono ?_; rintro e w' ⟨rfl, rfl⟩)
      | (go_at_call 94; refine (impl_isChannel _ _).mono ?_; rintro e w' ⟨rfl, rfl⟩))
            rw [rounds_succ]
            go_wp2_with (first
      | (go_at_call 117; with_reducible refine (HN0.out _).mono ?_; rintro e w' ⟨rfl, rfl⟩)
      | (go_at_call 117; with_reducible refine (HN1.out _).mono ?_; rintro e w' ⟨rfl, rfl⟩)
      | (go_at_call 117; with_reducible refine (HN2.out _).mono ?_; rintro e w' ⟨rfl, rfl⟩)
      | (go_at_call 117; with_reducible refine (HN3.out _).mono ?_; rintro e w' ⟨rfl, rfl⟩)
      | (go_at_call 117; with_reducible refine (HN4.out _).mono ?_; rintro e w' ⟨rfl, rfl⟩)
      | (go_at_call 134; refine (Arith.within _ _ _ _).mono ?_; rintro e w' ⟨rfl, rfl⟩)
      | (go_at_call 94; refine (impl_isChannel _ _).mono ?_; rintro e w' ⟨rfl, rfl⟩))
            go_ret
            exact ⟨ret_bool en.out.symm, by repeat (first | with_reducible exact On.refl _ | with_reducible apply On.alloc | with_reducible apply On.drewN | with_reducible apply On.drew | with_reducible refine On.setCell ?_ (by (try simp) <;> omega) _)⟩
          | true =>
            cases t0 : inB v0 0 359 with
            | false =>
              have en := Lib.hid (show okT s0 s1 s2 s3 s4 v0 v1 v2 v3 = false by rw [EN.out, t0]; rfl)
              clear EN
              go_enter Tryz.func86, Tryz.ntmps86
              go_wp2_with fail
              refine wp_loop_rounds 6 ?_
              rw [rounds_succ]
              go_wp2_with (first
      | (go_at_call 117; with_reducible refine (HN0.out _).mono ?_; rintro e w' ⟨rfl, rfl⟩)
      | (go_at_call 117; with_reducible refine (HN1.out _).mono ?_; rintro e w' ⟨rfl, rfl⟩)
      | (go_at_call 117; with_reducible refine (HN2.out _).mono ?_; rintro e w' ⟨rfl, rfl⟩)
      | (go_at_call 117; with_reducible refine (HN3.out _).mono ?_; rintro e w' ⟨rfl, rfl⟩)
      | (go_at_call 117; with_reducible refine (HN4.out _).mono ?_; rintro e w' ⟨rfl, rfl⟩)
      | (go_at_call 134; refine (Arith.within _ _ _ _).mono ?_; rintro e w' ⟨rfl, rfl⟩)
      | (go_at_call 94; refine (impl_isChannel _ _).mono ?_; rintro e w' ⟨rfl, rfl⟩))
              rw [rounds_succ]
              go_wp2_with (first
      | (go_at_call 117; with_reducible refine (HN0.out _).mono ?_; rintro e w' ⟨rfl, rfl⟩)
      | (go_at_call 117; with_reducible refine (HN1.out _).mono ?_; rintro e w' ⟨rfl, rfl⟩)
      | (go_at_call 117; with_reducible refine (HN2.out _).mono ?_; rintro e w' ⟨rfl, rfl⟩)
      | (go_at_call 117; with_reducible refine (HN3.out _).mono ?_; rintro e w' ⟨rfl, rfl⟩)
      | (go_at_call 117; with_reducible refine (HN4.out _).mono ?_; rintro e w' ⟨rfl, rfl⟩)
      | (go_at_call 134; refine (Arith.within _ _ _ _).mono ?_; rintro e w' ⟨rfl, rfl⟩)
      | (go_at_call 94; refine (impl_isChannel _ _).mono ?_; rintro e w' ⟨rfl, rfl⟩))
              rw [rounds_succ]
              go_wp2_with (first
      | (go_at_call 117; with_reducible refine (HN0.out _).mono ?_; rintro e w' ⟨rfl, rfl⟩)
      | (go_at_call 117; with_reducible refine (HN1.out _).mono ?_; rintro e w' ⟨rfl, rfl⟩)
      | (go_at_call 117; with_reducible refine (HN2.out _).mono ?_; rintro e w' ⟨rfl, rfl⟩)
      | (go_at_call 117; with_reducible refine (HN3.out _).mono ?_; rintro e w' ⟨rfl, rfl⟩)
      | (go_at_call 117; with_reducible refine (HN4.out _).mono ?_; rintro e w' ⟨rfl, rfl⟩)
      | (go_at_call 134; refine (Arith.within _ _ _ _).mono ?_; rintro e w' ⟨rfl, rfl⟩)
      | (go_at_call 94; refine (impl_isChannel _ _).mono ?_; rintro e w' ⟨rfl, rfl⟩))
              rw [rounds_succ]
              go_wp2_with (first
      | (go_at_call 117; with_reducible refine (HN0.out _).mono ?_; rintro e w' ⟨rfl, rfl⟩)
      | (go_at_call 117; with_reducible refine (HN1.out _).mono ?_; rintro e w' ⟨rfl, rfl⟩)
      | (go_at_call 117; with_reducible refine (HN2.out _).mono ?_; rintro e w' ⟨rfl, rfl⟩)
      | (go_at_call 117; with_reducible refine (HN3.out _).mono ?_; rintro e w' ⟨rfl, rfl⟩)
      | (go_at_call 117; with_reducible refine (HN4.out _).mono ?_; rintro e w' ⟨rfl, rfl⟩)
      | (go_at_call 134; refine (Arith.within _ _ _ _).mono ?_; rintro e w' ⟨rfl, rfl⟩)
      | (go_at_call 94; refine (impl_isChannel _ _).mono ?_; rintro e w' ⟨rfl, rfl⟩))
              rw [rounds_succ]
              go_wp2_with (first
      | (go_at_call 117; with_reducible refine (HN0.out _).mono ?_; rintro e w' ⟨rfl, rfl⟩)
      | (go_at_call 117; with_reducible refine (HN1.out _).mono ?_; rintro e w' ⟨rfl, rfl⟩)
      | (go_at_call 117; with_reducible refine (HN2.out _).mono ?_; rintro e w' ⟨rfl, rfl⟩)
      | (go_at_call 117; with_reducible refine (HN3.out _).mono ?_; rintro e w' ⟨rfl, rfl⟩)
      | (go_at_call 117; with_reducible refine (HN4.out _).mono ?_; rintro e w' ⟨rfl, rfl⟩)
      | (go_at_call 134; refine (Arith.within _ _ _ _).mono ?_; rintro e w' ⟨rfl, rfl⟩)
      | (go_at_call 94; refine (impl_isChannel _ _).mono ?_; rintro e w' ⟨rfl, rfl⟩))
              rw [rounds_succ]
              go_wp2_with (first
      | (go_at_call 117; with_reducible refine (HN0.out _).mono ?_; rintro e w' ⟨rfl, rfl⟩)
      | (go_at_call 117; with_reducible refine (HN1.out _).mono ?_; rintro e w' ⟨rfl, rfl⟩)
      | (go_at_call 117; with_reducible refine (HN2.out _).mono ?_; rintro e w' ⟨rfl, rfl⟩)
      | (go_at_call 117; with_reducible refine (HN3.out _).mono ?_; rintro e w' ⟨rfl, rfl⟩)
      | (go_at_call 117; with_reducible refine (HN4.out _).mono ?_; rintro e w' ⟨rfl, rfl⟩)
      | (go_at_call 134; refine (Arith.within _ _ _ _).mono ?_; rintro e w' ⟨rfl, rfl⟩)
      | (go_at_call 94; refine (impl_isChannel _ _).mono ?_; rintro e w' ⟨rfl, rfl⟩))
              go_ret
              exact ⟨ret_bool en.out.symm, by repeat (first | with_reducible exact On.refl _ | with_reducible apply On.alloc | with_reducible apply On.drewN | with_reducible apply On.drew | with_reducible refine On.setCell ?_ (by (try simp) <;> omega) _)⟩
            | true =>
              cases t1 : inB v1 0 30 with
              | false =>
                have en := Lib.hid (show okT s0 s1 s2 s3 s4 v0 v1 v2 v3 = false by rw [EN.out, t0, t1]; rfl)
                clear EN
                go_enter Tryz.func86, Tryz.ntmps86
                go_wp2_with fail
                refine wp_loop_rounds 6 ?_
                rw [rounds_succ]
                go_wp2_with (first
      | (go_at_call 117; with_reducible refine (HN0.out _).mono ?_; rintro e w' ⟨rfl, rfl⟩)
      | (go_at_call 117; with_reducible refine (HN1.out _).mono ?_; rintro e w' ⟨rfl, rfl⟩)
      | (go_at_call 117; with_reducible refine (HN2.out _).mono ?_; rintro e w' ⟨rfl, rfl⟩)
      | (go_at_call 117; with_reducible refine (HN3.out _).mono ?_; rintro e w' ⟨rfl, rfl⟩)
      | (go_at_call 117; with_reducible refine (HN4.out _).mono ?_; rintro e w' ⟨rfl, rfl⟩)
      | (go_at_call 134; refine (Arith.within _ _ _ _).mono ?_; rintro e w' ⟨rfl, rfl⟩)
      | (go_at_call 94; refine (impl_isChannel _ _).mono ?_; rintro e w' ⟨rfl, rfl⟩))
                rw [rounds_succ]
                go_wp2_with (first
      | (go_at_call 117; with_reducible refine (HN0.out _).mono ?_; rintro e w' ⟨rfl, rfl⟩)
      | (go_at_call 117; with_reducible refine (HN1.out _).mono ?_; rintro e w' ⟨rfl, rfl⟩)
      | (go_at_call 117; with_reducible refine (HN2.out _).mono ?_; rintro e w' ⟨rfl, rfl⟩)
      | (go_at_call 117; with_reducible refine (HN3.out _).mono ?_; rintro e w' ⟨rfl, rfl⟩)
      | (go_at_call 117; with_reducible refine (HN4.out _).mono ?_; rintro e w' ⟨rfl, rfl⟩)
      | (go_at_call 134; refine (Arith.within _ _ _ _).mono ?_; rintro e w' ⟨rfl, rfl⟩)
      | (go_at_call 94; refine (impl_isChannel _ _).mono ?_; rintro e w' ⟨rfl, rfl⟩))
                rw [rounds_succ]
                go_wp2_with (first
      | (go_at_call 117; with_reducible refine (HN0.out _).mono ?_; rintro e w' ⟨rfl, rfl⟩)
      | (go_at_call 117; with_reducible refine (HN1.out _).mono ?_; rintro e w' ⟨rfl, rfl⟩)
      | (go_at_call 117; with_reducible refine (HN2.out _).mono ?_; rintro e w' ⟨rfl, rfl⟩)
      | (go_at_call 117; with_reducible refine (HN3.out _).mono ?_; rintro e w' ⟨rfl, rfl⟩)
      | (go_at_call 117; with_reducible refine (HN4.out _).mono ?_; rintro e w' ⟨rfl, rfl⟩)
      | (go_at_call 134; refine (Arith.within _ _ _ _).mono ?_; rintro e w' ⟨rfl, rfl⟩)
      | (go_at_call 94; refine (impl_isChannel _ _).mono ?_; rintro e w' ⟨rfl, rfl⟩))
                rw [rounds_succ]
                go_wp2_with (first
      | (go_at_call 117; with_reducible refine (HN0.out _).mono ?_; rintro e w' ⟨rfl, rfl⟩)
      | (go_at_call 117; with_reducible refine (HN1.out _).mono ?_; rintro e w' ⟨rfl, rfl⟩)
      | (go_at_call 117; with_reducible refine (HN2.out _).mono ?_; rintro e w' ⟨rfl, rfl⟩)
      | (go_at_call 117; with_reducible refine (HN3.out _).mono ?_; rintro e w' ⟨rfl, rfl⟩)
      | (go_at_call 117; with_reducible refine (HN4.out _).mono ?_; rintro e w' ⟨rfl, rfl⟩)
      | (go_at_call 134; refine (Arith.within _ _ _ _).mono ?_; rintro e w' ⟨rfl, rfl⟩)
      | (go_at_call 94; refine (impl_isChannel _ _).mono ?_; rintro e w' ⟨rfl, rfl⟩))
                rw [rounds_succ]
                go_wp2_with (first
      | (go_at_call 117; with_reducible refine (HN0.out _).mono ?_; rintro e w' ⟨rfl, rfl⟩)
      | (go_at_call 117; with_reducible refine (HN1.out _).mono ?_; rintro e w' ⟨rfl, rfl⟩)
      | (go_at_call 117; with_reducible refine (HN2.out _).mono ?_; rintro e w' ⟨rfl, rfl⟩)
      | (go_at_call 117; with_reducible refine (HN3.out _).mono ?_; rintro e w' ⟨rfl, rfl⟩)
      | (go_at_call 117; with_reducible refine (HN4.out _).mono ?_; rintro e w' ⟨rfl, rfl⟩)
      | (go_at_call 134; refine (Arith.within _ _ _ _).mono ?_; rintro e w' ⟨rfl, rfl⟩)
      | (go_at_call 94; refine (impl_isChannel _ _).mono ?_; rintro e w' ⟨rfl, rfl⟩))
                rw [rounds_succ]
                go_wp2_with (first
      | (go_at_call 117; with_reducible refine (HN0.out _).mono ?_; rintro e w' ⟨rfl, rfl⟩)
      | (go_at_call 117; with_reducible refine (HN1.out _).mono ?_; rintro e w' ⟨rfl, rfl⟩)
      | (go_at_call 117; with_reducible refine (HN2.out _).mono ?_; rintro e w' ⟨rfl, rfl⟩)
      | (go_at_call 117; with_reducible refine (HN3.out _).mono ?_; rintro e w' ⟨rfl, rfl⟩)
      | (go_at_call 117; with_reducible refine (HN4.out _).mono ?_; rintro e w' ⟨rfl, rfl⟩)
      | (go_at_call 134; refine (Arith.within _ _ _ _).mono ?_; rintro e w' ⟨rfl, rfl⟩)
      | (go_at_call 94; refine (impl_isChannel _ _).mono ?_; rintro e w' ⟨rfl, rfl⟩))
                go_ret
                exact ⟨ret_bool en.out.symm, by repeat (first | with_reducible exact On.refl _ | with_reducible apply On.alloc | with_reducible apply On.drewN | with_reducible apply On.drew | with_reducible refine On.setCell ?_ (by (try simp) <;> omega) _)⟩
              | true =>
                cases t2 : inB v2 1 3000 with
                | false =>
                  have en := Lib.hid (show okT s0 s1 s2 s3 s4 v0 v1 v2 v3 = false by rw [EN.out, t0, t1, t2]; rfl)
                  clear EN
                  go_enter Tryz.func86, Tryz.ntmps86
                  go_wp2_with fail
                  refine wp_loop_rounds 6 ?_
                  rw [rounds_succ]
                  go_wp2_with (first
      | (go_at_call 117; with_reducible refine (HN0.out _).mono ?_; rintro e w' ⟨rfl, rfl⟩)
      | (go_at_call 117; with_reducible refine (HN1.out _).mono ?_; rintro e w' ⟨rfl, rfl⟩)
      | (go_at_call 117; with_reducible refine (HN2.out _).mono ?_; rintro e w' ⟨rfl, rfl⟩)
      | (go_at_call 117; with_reducible refine (HN3.out _).mono ?_; rintro e w' ⟨rfl, rfl⟩)
      | (go_at_call 117; with_reducible refine (HN4.out _).mono ?_; rintro e w' ⟨rfl, rfl⟩)
      | (go_at_call 134; refine (Arith.within _ _ _ _).mono ?_; rintro e w' ⟨rfl, rfl⟩)
      | (go_at_call 94; refine (impl_isChannel _ _).mono ?_; rintro e w' ⟨rfl, rfl⟩))
                  rw [rounds_succ]
                  go_wp2_with (first
      | (go_at_call 117; with_reducible refine (HN0.out _).mono ?_; rintro e w' ⟨rfl, rfl⟩)
      | (go_at_call 117; with_reducible refine (HN1.out _).mono ?_; rintro e w' ⟨rfl, rfl⟩)
      | (go_at_call 117; with_reducible refine (HN2.out _).mono ?_; rintro e w' ⟨rfl, rfl⟩)
      | (go_at_call 117; with_reducible refine (HN3.out _).mono ?_; rintro e w' ⟨rfl, rfl⟩)
      | (go_at_call 117; with_reducible refine (HN4.out _).mono ?_; rintro e w' ⟨rfl, rfl⟩)
      | (go_at_call 134; refine (Arith.within _ _ _ _).mono ?_; rintro e w' ⟨rfl, rfl⟩)
      | (go_at_call 94; refine (impl_isChannel _ _).mono ?_; rintro e w' ⟨rfl, rfl⟩))
                  rw [rounds_succ]
                  go_wp2_with (first
      | (go_at_call 117; with_reducible refine (HN0.out _).mono ?_; rintro e w' ⟨rfl, rfl⟩)
      | (go_at_call 117; with_reducible refine (HN1.out _).mono ?_; rintro e w' ⟨rfl, rfl⟩)
      | (go_at_call 117; with_reducible refine (HN2.out _).mono ?_; rintro e w' ⟨rfl, rfl⟩)
      | (go_at_call 117; with_reducible refine (HN3.out _).mono ?_; rintro e w' ⟨rfl, rfl⟩)
      | (go_at_call 117; with_reducible refine (HN4.out _).mono ?_; rintro e w' ⟨rfl, rfl⟩)
      | (go_at_call 134; refine (Arith.within _ _ _ _).mono ?_; rintro e w' ⟨rfl, rfl⟩)
      | (go_at_call 94; refine (impl_isChannel _ _).mono ?_; rintro e w' ⟨rfl, rfl⟩))
                  rw [rounds_succ]
                  go_wp2_with (first
      | (go_at_call 117; with_reducible refine (HN0.out _).mono ?_; rintro e w' ⟨rfl, rfl⟩)
      | (go_at_call 117; with_reducible refine (HN1.out _).mono ?_; rintro e w' ⟨rfl, rfl⟩)
      | (go_at_call 117; with_reducible refine (HN2.out _).mono ?_; rintro e w' ⟨rfl, rfl⟩)
      | (go_at_call 117; with_reducible refine (HN3.out _).mono ?_; rintro e w' ⟨rfl, rfl⟩)
      | (go_at_call 117; with_reducible refine (HN4.out _).mono ?_; rintro e w' ⟨rfl, rfl⟩)
      | (go_at_call 134; refine (Arith.within _ _ _ _).mono ?_; rintro e w' ⟨rfl, rfl⟩)
      | (go_at_call 94; refine (impl_isChannel _ _).mono ?_; rintro e w' ⟨rfl, rfl⟩))
                  rw [rounds_succ]
                  go_wp2_with (first
      | (go_at_call 117; with_reducible refine (HN0.out _).mono ?_; rintro e w' ⟨rfl, rfl⟩)
      | (go_at_call 117; with_reducible refine (HN1.out _).mono ?_; rintro e w' ⟨rfl, rfl⟩)
      | (go_at_call 117; with_reducible refine (HN2.out _).mono ?_; rintro e w' ⟨rfl, rfl⟩)
      | (go_at_call 117; with_reducible refine (HN3.out _).mono ?_; rintro e w' ⟨rfl, rfl⟩)
      | (go_at_call 117; with_reducible refine (HN4.out _).mono ?_; rintro e w' ⟨rfl, rfl⟩)
      | (go_at_call 134; refine (Arith.within _ _ _ _).mono ?_; rintro e w' ⟨rfl, rfl⟩)
      | (go_at_call 94; refine (impl_isChannel _ _).mono ?_; rintro e w' ⟨rfl, rfl⟩))
                  rw [rounds_succ]
                  go_wp2_with (first
      | (go_at_call 117; with_reducible refine (HN0.out _).mono ?_; rintro e w' ⟨rfl, rfl⟩)
      | (go_at_call 117; with_reducible refine (HN1.out _).mono ?_; rintro e w' ⟨rfl, rfl⟩)
      | (go_at_call 117; with_reducible refine (HN2.out _).mono ?_; rintro e w' ⟨rfl, rfl⟩)
      | (go_at_call 117; with_reducible refine (HN3.out _).mono ?_; rintro e w' ⟨rfl, rfl⟩)
      | (go_at_call 117; with_reducible refine (HN4.out _).mono ?_; rintro e w' ⟨rfl, rfl⟩)
      | (go_at_call 134; refine (Arith.within _ _ _ _).mono ?_; rintro e w' ⟨rfl, rfl⟩)
      | (go_at_call 94; refine (impl_isChannel _ _).mono ?_; rintro e w' ⟨rfl, rfl⟩))
                  go_ret
                  exact ⟨ret_bool en.out.symm, by repeat (first | with_reducible exact On.refl _ | with_reducible apply On.alloc | with_reducible apply On.drewN | with_reducible apply On.drew | with_reducible refine On.setCell ?_ (by (try simp) <;> omega) _)⟩
                | true =>
                  cases t3 : inB v3 (-1) 999 with
                  | false =>
                    have en := Lib.hid (show okT s0 s1 s2 s3 s4 v0 v1 v2 v3 = false by rw [EN.out, t0, t1, t2, t3]; rfl)
                    clear EN
                    go_enter Tryz.func86, Tryz.ntmps86
                    go_wp2_with fail
                    refine wp_loop_rounds 6 ?_
                    rw [rounds_succ]
                    go_wp2_with (first
      | (go_at_call 117; with_reducible refine (HN0.out _).mono ?_; rintro e w' ⟨rfl, rfl⟩)
      | (go_at_call 117; with_reducible refine (HN1.out _).mono ?_; rintro e w' ⟨rfl, rfl⟩)
      | (go_at_call 117; with_reducible refine (HN2.out _).mono ?_; rintro e w' ⟨rfl, rfl⟩)
      | (go_at_call 117; with_reducible refine (HN3.out _).mono ?_; rintro e w' ⟨rfl, rfl⟩)
      | (go_at_call 117; with_reducible refine (HN4.out _).mono ?_; rintro e w' ⟨rfl, rfl⟩)
      | (go_at_call 134; refine (Arith.within _ _ _ _).mono ?_; rintro e w' ⟨rfl, rfl⟩)
      | (go_at_call 94; refine (impl_isChannel _ _).mono ?_; rintro e w' ⟨rfl, rfl⟩))
                    rw [rounds_succ]
                    go_wp2_with (first
      | (go_at_call 117; with_reducible refine (HN0.out _).mono ?_; rintro e w' ⟨rfl, rfl⟩)
      | (go_at_call 117; with_reducible refine (HN1.out _).mono ?_; rintro e w' ⟨rfl, rfl⟩)
      | (go_at_call 117; with_reducible refine (HN2.out _).mono ?_; rintro e w' ⟨rfl, rfl⟩)
      | (go_at_call 117; with_reducible refine (HN3.out _).mono ?_; rintro e w' ⟨rfl, rfl⟩)
      | (go_at_call 117; with_reducible refine (HN4.out _).mono ?_; rintro e w' ⟨rfl, rfl⟩)
      | (go_at_call 134; refine (Arith.within _ _ _ _).mono ?_; rintro e w' ⟨rfl, rfl⟩)
      | (go_at_call 94; refine (impl_isChannel _ _).mono ?_; rintro e w' ⟨rfl, rfl⟩))
                    rw [rounds_succ]
                    go_wp2_with (first
      | (go_at_call 117; with_reducible refine (HN0.out _).mono ?_; rintro e w' ⟨rfl, rfl⟩)
      | (go_at_call 117; with_reducible refine (HN1.out _).mono ?_; rintro e w' ⟨rfl, rfl⟩)
      | (go_at_call 117; with_reducible refine (HN2.out _).mono ?_; rintro e w' ⟨rfl, rfl⟩)
      | (go_at_call 117; with_reducible refine (HN3.out _).mono ?_; rintro e w' ⟨rfl, rfl⟩)
      | (go_at_call 117; with_reducible refine (HN4.out _).mono ?_; rintro e w' ⟨rfl, rfl⟩)
      | (go_at_call 134; refine (Arith.within _ _ _ _).mono ?_; rintro e w' ⟨rfl, rfl⟩)
      | (go_at_call 94; refine (impl_isChannel _ _).mono ?_; rintro e w' ⟨rfl, rfl⟩))
                    rw [rounds_succ]
                    go_wp2_with (first
      | (go_at_call 117; with_reducible refine (HN0.out _).mono ?_; rintro e w' ⟨rfl, rfl⟩)
      | (go_at_call 117; with_reducible refine (HN1.out _).mono ?_; rintro e w' ⟨rfl, rfl⟩)
      | (go_at_call 117; with_reducible refine (HN2.out _).mono ?_; rintro e w' ⟨rfl, rfl⟩)
      | (go_at_call 117; with_reducible refine (HN3.out _).mono ?_; rintro e w' ⟨rfl, rfl⟩)
      | (go_at_call 117; with_reducible refine (HN4.out _).mono ?_; rintro e w' ⟨rfl, rfl⟩)
      | (go_at_call 134; refine (Arith.within _ _ _ _).mono ?_; rintro e w' ⟨rfl, rfl⟩)
      | (go_at_call 94; refine (impl_isChannel _ _).mono ?_; rintro e w' ⟨rfl, rfl⟩))
                    rw [rounds_succ]
                    go_wp2_with (first
      | (go_at_call 117; with_reducible refine (HN0.out _).mono ?_; rintro e w' ⟨rfl, rfl⟩)
      | (go_at_call 117; with_reducible refine (HN1.out _).mono ?_; rintro e w' ⟨rfl, rfl⟩)
      | (go_at_call 117; with_reducible refine (HN2.out _).mono ?_; rintro e w' ⟨rfl, rfl⟩)
      | (go_at_call 117; with_reducible refine (HN3.out _).mono ?_; rintro e w' ⟨rfl, rfl⟩)
      | (go_at_call 117; with_reducible refine (HN4.out _).mono ?_; rintro e w' ⟨rfl, rfl⟩)
      | (go_at_call 134; refine (Arith.within _ _ _ _).mono ?_; rintro e w' ⟨rfl, rfl⟩)
      | (go_at_call 94; refine (impl_isChannel _ _).mono ?_; rintro e w' ⟨rfl, rfl⟩))
                    rw [rounds_succ]
                    go_wp2_with (first
      | (go_at_call 117; with_reducible refine (HN0.out _).mono ?_; rintro e w' ⟨rfl, rfl⟩)
      | (go_at_call 117; with_reducible refine (HN1.out _).mono ?_; rintro e w' ⟨rfl, rfl⟩)
      | (go_at_call 117; with_reducible refine (HN2.out _).mono ?_; rintro e w' ⟨rfl, rfl⟩)
      | (go_at_call 117; with_reducible refine (HN3.out _).mono ?_; rintro e w' ⟨rfl, rfl⟩)
      | (go_at_call 117; with_reducible refine (HN4.out _).mono ?_; rintro e w' ⟨rfl, rfl⟩)
      | (go_at_call 134; refine (Arith.within _ _ _ _).mono ?_; rintro e w' ⟨rfl, rfl⟩)
      | (go_at_call 94; refine (impl_isChannel _ _).mono ?_; rintro e w' ⟨rfl, rfl⟩))
                    go_ret
                    exact ⟨ret_bool en.out.symm, by repeat (first | with_reducible exact On.refl _ | with_reducible apply On.alloc | with_reducible apply On.drewN | with_reducible apply On.drew | with_reducible refine On.setCell ?_ (by (try simp) <;> omega) _)⟩
                  | true =>
                    have en := Lib.hid (show okT s0 s1 s2 s3 s4 v0 v1 v2 v3 = true by rw [EN.out, t0, t1, t2, t3]; rfl)
                    clear EN
                    go_enter Tryz.func86, Tryz.ntmps86
                    go_wp2_with fail
                    refine wp_loop_rounds 6 ?_
                    rw [rounds_succ]
                    go_wp2_with (first
      | (go_at_call 117; with_reducible refine (HN0.out _).mono ?_; rintro e w' ⟨rfl, rfl⟩)
      | (go_at_call 117; with_reducible refine (HN1.out _).mono ?_; rintro e w' ⟨rfl, rfl⟩)
      | (go_at_call 117; with_reducible refine (HN2.out _).mono ?_; rintro e w' ⟨rfl, rfl⟩)
      | (go_at_call 117; with_reducible refine (HN3.out _).mono ?_; rintro e w' ⟨rfl, rfl⟩)
      | (go_at_call 117; with_reducible refine (HN4.out _).mono ?_; rintro e w' ⟨rfl, rfl⟩)
      | (go_at_call 134; refine (Arith.within _ _ _ _).mono ?_; rintro e w' ⟨rfl, rfl⟩)
      | (go_at_call 94; refine (impl_isChannel _ _).mono ?_; rintro e w' ⟨rfl, rfl⟩))
                    rw [rounds_succ]
                    go_wp2_with (first
      | (go_at_call 117; with_reducible refine (HN0.out _).mono ?_; rintro e w' ⟨rfl, rfl⟩)
      | (go_at_call 117; with_reducible refine (HN1.out _).mono ?_; rintro e w' ⟨rfl, rfl⟩)
      | (go_at_call 117; with_reducible refine (HN2.out _).mono ?_; rintro e w' ⟨rfl, rfl⟩)
      | (go_at_call 117; with_reducible refine (HN3.out _).mono ?_; rintro e w' ⟨rfl, rfl⟩)
      | (go_at_call 117; with_reducible refine (HN4.out _).mono ?_; rintro e w' ⟨rfl, rfl⟩)
      | (go_at_call 134; refine (Arith.within _ _ _ _).mono ?_; rintro e w' ⟨rfl, rfl⟩)
      | (go_at_call 94; refine (impl_isChannel _ _).mono ?_; rintro e w' ⟨rfl, rfl⟩))
                    rw [rounds_succ]
                    go_wp2_with (first
      | (go_at_call 117; with_reducible refine (HN0.out _).mono ?_; rintro e w' ⟨rfl, rfl⟩)
      | (go_at_call 117; with_reducible refine (HN1.out _).mono ?_; rintro e w' ⟨rfl, rfl⟩)
      | (go_at_call 117; with_reducible refine (HN2.out _).mono ?_; rintro e w' ⟨rfl, rfl⟩)
      | (go_at_call 117; with_reducible refine (HN3.out _).mono ?_; rintro e w' ⟨rfl, rfl⟩)
      | (go_at_call 117; with_reducible refine (HN4.out _).mono ?_; rintro e w' ⟨rfl, rfl⟩)
      | (go_at_call 134; refine (Arith.within _ _ _ _).mono ?_; rintro e w' ⟨rfl, rfl⟩)
      | (go_at_call 94; refine (impl_isChannel _ _).mono ?_; rintro e w' ⟨rfl, rfl⟩))
                    rw [rounds_succ]
                    go_wp2_with (first
      | (go_at_call 117; with_reducible refine (HN0.out _).mono ?_; rintro e w' ⟨rfl, rfl⟩)
      | (go_at_call 117; with_reducible refine (HN1.out _).mono ?_; rintro e w' ⟨rfl, rfl⟩)
      | (go_at_call 117; with_reducible refine (HN2.out _).mono ?_; rintro e w' ⟨rfl, rfl⟩)
      | (go_at_call 117; with_reducible refine (HN3.out _).mono ?_; rintro e w' ⟨rfl, rfl⟩)
      | (go_at_call 117; with_reducible refine (HN4.out _).mono ?_; rintro e w' ⟨rfl, rfl⟩)
      | (go_at_call 134; refine (Arith.within _ _ _ _).mono ?_; rintro e w' ⟨rfl, rfl⟩)
      | (go_at_call 94; refine (impl_isChannel _ _).mono ?_; rintro e w' ⟨rfl, rfl⟩))
                    rw [rounds_succ]
                    go_wp2_with (first
      | (go_at_call 117; with_reducible refine (HN0.out _).mono ?_; rintro e w' ⟨rfl, rfl⟩)
      | (go_at_call 117; with_reducible refine (HN1.out _).mono ?_; rintro e w' ⟨rfl, rfl⟩)
      | (go_at_call 117; with_reducible refine (HN2.out _).mono ?_; rintro e w' ⟨rfl, rfl⟩)
      | (go_at_call 117; with_reducible refine (HN3.out _).mono ?_; rintro e w' ⟨rfl, rfl⟩)
      | (go_at_call 117; with_reducible refine (HN4.out _).mono ?_; rintro e w' ⟨rfl, rfl⟩)
      | (go_at_call 134; refine (Arith.within _ _ _ _).mono ?_; rintro e w' ⟨rfl, rfl⟩)
      | (go_at_call 94; refine (impl_isChannel _ _).mono ?_; rintro e w' ⟨rfl, rfl⟩))
                    rw [rounds_succ]
                    go_wp2_with (first
      | (go_at_call 117; with_reducible refine (HN0.out _).mono ?_; rintro e w' ⟨rfl, rfl⟩)
      | (go_at_call 117; with_reducible refine (HN1.out _).mono ?_; rintro e w' ⟨rfl, rfl⟩)
      | (go_at_call 117; with_reducible refine (HN2.out _).mono ?_; rintro e w' ⟨rfl, rfl⟩)
      | (go_at_call 117; with_reducible refine (HN3.out _).mono ?_; rintro e w' ⟨rfl, rfl⟩)
      | (go_at_call 117; with_reducible refine (HN4.out _).mono ?_; rintro e w' ⟨rfl, rfl⟩)
      | (go_at_call 134; refine (Arith.within _ _ _ _).mono ?_; rintro e w' ⟨rfl, rfl⟩)
      | (go_at_call 94; refine (impl_isChannel _ _).mono ?_; rintro e w' ⟨rfl, rfl⟩))
                    go_ret
                    exact ⟨ret_bool en.out.symm, by repeat (first | with_reducible exact On.refl _ | with_reducible apply On.alloc | with_reducible apply On.drewN | with_reducible apply On.drew | with_reducible refine On.setCell ?_ (by (try simp) <;> omega) _)⟩
end Go.Proofs.YtpnmodmaabhldaaGreat.Sec
namespace Go.Proofs.YtpnmodmaabhldaaGreat.Secs
open Go.RowKit
def ok (z : Z) : Bool := Sec.okT z.x0 z.x1 z.x2 z.x3 z.x4 z.x5 z.x6 z.x7 z.x8
def nm (z : Z) : ByteArray := z.x0
theorem spec_ok (g o : Nat) (z : Z) (w : World) (hs : Small 1048576 z) (h : El w g o z) :
    Calls Tryz.prog 83 #[.pointer (some ⟨g, o, none⟩)] w fun e w' => e = .returned (.bool (ok z)) ∧ On w w' :=
  Sec.spec_okO g o _ _ _ _ _ _ _ _ _ w hs.1 hs.2.1 hs.2.2.1 hs.2.2.2.1 hs.2.2.2.2 ⟨h.c0, h.c1, h.c2, h.c3, h.c4, h.c5, h.c6, h.c7, h.c8⟩
theorem impl_ok (z : Z) (w : World) (hs : Small 1048576 z) :
    Calls Tryz.prog 86 #[.agg #[.string z.x0, .string z.x1, .string z.x2, .string z.x3, .string z.x4, .int .i64 z.x5, .int .i64 z.x6, .int .i64 z.x7, .int .i64 z.x8]] w fun e w' => e = .returned (.bool (ok z)) ∧ On w w' :=
  Sec.impl_ok _ _ _ _ _ _ _ _ _ w hs.1 hs.2.1 hs.2.2.1 hs.2.2.2.1 hs.2.2.2.2
end Go.Proofs.YtpnmodmaabhldaaGreat.Secs
