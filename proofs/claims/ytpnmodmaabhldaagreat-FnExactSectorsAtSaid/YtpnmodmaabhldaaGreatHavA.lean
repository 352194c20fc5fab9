
/-
  Whether each of some names is that of something in a list of records Antenna, in the program. Condition: at most 1048576 elements and names.
-/
import Derived.Test.YtpnmodmaabhldaaGreatNarA
import Derived.Test.YtpnmodmaabhldaaGreatNamM
import Derived.Test.YtpnmodmaabhldaaGreatStrs
namespace Go.Proofs.YtpnmodmaabhldaaGreat.Ants
open Go.RowKit Go.Maps Go.WideMaps
open NamM (Sn Dl keyAt)

theorem law9 : Keyed Tryz.prog 9 := string_keyed Tryz.underlying9
theorem key_ok {s : ByteArray} (hs : s.size ≤ 1048576) : keyOf Tryz.prog 9 (.string s) = some (.string s.data.toList) := keyOf_string_mk Tryz.underlying9 (by unfold maxLen; omega)
/-- The map in block b reads as D. -/
def MapIs (w : World) (b k : Nat) (D : DataW Unit) : Prop := w.ownsMap Tryz.prog 9 (unitElem (H := Unit)) b k D
theorem MapIs.on {w w' : World} {b k : Nat} {D : DataW Unit} (h : MapIs w b k D) (ho : On w w') : MapIs w' b k D := by
  obtain ⟨es, clock, hb, r⟩ := h
  have hl : b < w.heap.size := by
    rcases Nat.lt_or_ge b w.heap.size with g | g
    · exact g
    · rw [Array.getElem?_eq_none g] at hb; cases hb
  exact ⟨es, clock, by rw [ho.block b hl]; exact hb, r⟩

/-- What the end says. -/
theorem fin_ok {w : World} {b k : Nat} {zs : List Z} {ss : List ByteArray} (h : MapIs w b k (Dl nm d0 zs ss zs.length)) : decide (Maps.size (Dl nm d0 zs ss zs.length) = 0) = NamM.haveAll nm d0 zs ss := by
  obtain ⟨es, he, _, hk⟩ := World.ownsMap.entries h law9
  exact NamM.size_Dl he hk
theorem eql_size (k : Nat) : ((k : Int) == 0) = decide (k = 0) := by
  by_cases g : k = 0
  · subst g; rfl
  · rw [decide_eq_false g]; exact beq_eq_false_iff_ne.2 (by omega)
set_option maxRecDepth 100000 in
set_option maxHeartbeats 4000000 in
theorem have_ss (b off cap : Nat) (zs : List Z) (b2 off2 cap2 : Nat) (ss : List ByteArray) (w : World) (hn : zs.length ≤ 1048576) (hm : ss.length ≤ 1048576) (hlt : b < w.heap.size) (hlt2 : b2 < w.heap.size)
    (hcell : ∀ k, k < zs.length → El w b (off + k * 4) (zs.getD k d0)) (hs : ∀ k, k < zs.length → Small 1048576 (zs.getD k d0)) (hcell2 : ∀ i, i < ss.length → w.cell? ⟨b2, off2 + i, none⟩ = some (.string (ss.getD i ⟨#[]⟩))) (hss : ∀ k, k < ss.length → (ss.getD k ⟨#[]⟩).size ≤ 1048576) :
    Calls Tryz.prog 136 #[.slice (some ⟨b, off, none⟩) zs.length cap, .slice (some ⟨b2, off2, none⟩) ss.length cap2] w fun e w' => e = .returned (.bool (NamM.haveAll nm d0 zs ss)) ∧ On w w' := by
  have hmk := @run_makeMap Tryz.prog
  have HC := Lib.hid hcell
  have HSM := Lib.hid hs
  obtain ⟨n, hnn⟩ : ∃ n, n = zs.length := ⟨_, rfl⟩
  have HL := Lib.hid hnn
  rw [← hnn] at hn
  clear hcell hs
  have HC2 := Lib.hid hcell2
  have HSS := Lib.hid hss
  obtain ⟨m, hmm⟩ : ∃ m, m = ss.length := ⟨_, rfl⟩
  have HM := Lib.hid hmm
  rw [← hmm] at hm
  clear hcell2 hss
  rw [← hnn, ← hmm]
  clear hnn hmm
  go_enter Tryz.func136, Tryz.ntmps136
  go_wp2_with fail
  clear hmk
  go_loopw [13] (fun i wr => ∃ k : Nat, k ≤ m ∧ i = .int .i64 k ∧ MapIs wr w.heap.size k (Sn ss k) ∧ On w wr) (fun i _ => m - (intOf i).toNat)
  case atStart => exact ⟨0, Nat.zero_le _, rfl, by rw [NamM.Sn_zero]; exact World.ownsMap_made _ _ _ _, by repeat (first | with_reducible exact On.refl _ | with_reducible apply On.alloc | with_reducible apply On.drewN | with_reducible apply On.drew | with_reducible refine On.setCell ?_ (by (try simp) <;> omega) _)⟩
  case round =>
    obtain ⟨k, hk, rfl, hown, ho⟩ := hrel
    have HW := Lib.hid hown
    have HB := Lib.hid ho
    by_cases hltm : k < m
    · have hlti : (k : Int) < (m : Int) := by omega
      obtain ⟨s, hs⟩ : ∃ s, s = ss.getD k ⟨#[]⟩ := ⟨_, rfl⟩
      have c1 : wr.cell? ⟨b2, off2 + k, none⟩ = some (.string s) := by rw [hs]; exact (ho.cell (by exact hlt2)).trans (HC2.out k (by rw [← HM.out]; exact hltm))
      have hkey := key_ok (s := s) (by rw [hs]; exact HSS.out k (by rw [← HM.out]; exact hltm))
      have HS := Lib.hid (show Sn ss (k + 1) = (Sn ss k).put (.string s.data.toList) (.agg []) by rw [hs]; exact NamM.Sn_succ ss k (by rw [← HM.out]; exact hltm))
      clear hs hown ho
      go_wp2_with (at_mapUpdate; refine wpList_mapUpdate_own _ rfl _ _ _ 192 rfl 9 193 law9 Tryz.underlying192 (unitElem (H := Unit)) w.heap.size k _ rfl HW.out (by unfold maxLen; omega) _ _ _ rfl rfl hkey _ [] unitElem_mk ?_; intro w1 hown1 hgrow1)
      have HW1 := Lib.hid hown1
      have HO1 := Lib.hid (Below.grown HB.out hgrow1 HB.out.size (fun j hj => by cases hj; exact Nat.le_refl _))
      clear hown1 hgrow1
      go_wp2_with fail
      go_roundw
      case rel => exact ⟨k + 1, by omega, by go_num, by rw [HS.out]; exact HW1.out, HO1.out⟩
      case measure => simp [intOf]; omega
    · obtain rfl : m = k := by omega
      have hlti : ¬ (m : Int) < (m : Int) := by omega
      clear hown ho
      go_wp2_with fail
      clear hlti
      go_loopw [23] (fun i wx => ∃ k : Nat, k ≤ n ∧ i = .int .i64 k ∧ MapIs wx w.heap.size m (Dl nm d0 zs ss k) ∧ On w wx) (fun i _ => n - (intOf i).toNat)
      case atStart => exact ⟨0, Nat.zero_le _, rfl, by rw [NamM.Dl_zero, ← HM.out]; exact HW.out, HB.out⟩
      case round =>
        obtain ⟨k, hk, rfl, hown, ho⟩ := hrel
        have HX := Lib.hid hown
        have HY := Lib.hid ho
        by_cases hlt0 : k < n
        · have hlti : (k : Int) < (n : Int) := by omega
          have hlt2_ : k < zs.length := by rw [← HL.out]; exact hlt0
          obtain ⟨z, hz⟩ : ∃ z : Z, z = zs.getD k d0 := ⟨_, rfl⟩
          have E : El wr b (off + k * 4) z := by rw [hz]; exact (HC.out k hlt2_).on ho
          have hsm : z.x0.size ≤ 1048576 := by rw [hz]; exact (HSM.out k hlt2_).1
          have HS := Lib.hid (show Dl nm d0 zs ss (k + 1) = (Dl nm d0 zs ss k).del (.string z.x0.data.toList) by rw [NamM.Dl_succ, hz]; rfl)
          have hkey := key_ok hsm
          have c0 := E.c0
          have c1 := E.c1
          obtain ⟨a2, cap2, c2, _, _⟩ := E.c2
          obtain ⟨a3, cap3, c3, _, _⟩ := E.c3
          have HN1 := Lib.hid (fun w' => impl_name z a2 cap2 a3 cap3 w')
          have hme := methodName
          have hbr := ho.lts _ hlt
          have hbn := Nat.ne_of_lt hbr
          clear hz hown ho E hsm
          go_wp2_with (first | (go_at_call 185; refine (HN1.out _).mono ?_; rintro e w1 ⟨rfl, h1⟩; have HZ1 := Lib.hid (HX.out.on (On.trans (On.alloc (On.refl _) _) h1)); have HO1 := Lib.hid (HY.out.trans (On.trans (On.alloc (On.refl _) _) h1)); clear h1) | (at_delete; refine wpList_delete_own _ rfl _ _ 192 9 rfl 193 law9 Tryz.underlying192 (unitElem (H := Unit)) w.heap.size m _ rfl HZ1.out _ _ rfl hkey ?_; intro w2 hown2 hturn2))
          have HW2 := Lib.hid hown2
          have HO2 := Lib.hid (Below.grown HO1.out hturn2.grown HO1.out.size (fun j hj => by cases hj; exact Nat.le_refl _))
          clear hown2 hturn2
          go_wp2_with fail
          go_roundw
          case rel => exact ⟨k + 1, by omega, by go_num, by rw [HS.out]; exact HW2.out, HO2.out⟩
          case measure => simp [intOf]; omega
        · obtain rfl : n = k := by omega
          have hlti : ¬ (n : Int) < (n : Int) := by omega
          have HX2 := Lib.hid (show MapIs wr w.heap.size m (Dl nm d0 zs ss zs.length) by rw [← HL.out]; exact hown)
          have en := Lib.hid (fin_ok HX2.out)
          clear hown ho
          go_wp2_with (at_len; refine wpList_len_own _ rfl _ 192 rfl 9 193 Tryz.underlying192 (unitElem (H := Unit)) w.heap.size m _ rfl HX2.out ?_)
          go_ret
          exact ⟨ret_bool (by rw [← en.out]; exact eql_size _), HY.out⟩

set_option maxRecDepth 100000 in
set_option maxHeartbeats 4000000 in
theorem have_sn (b off cap : Nat) (zs : List Z) (a2 : Option Addr) (cap2 : Nat) (ss : List ByteArray) (hss0 : ss = []) (w : World) (hn : zs.length ≤ 1048576) (hlt : b < w.heap.size)
    (hcell : ∀ k, k < zs.length → El w b (off + k * 4) (zs.getD k d0)) (hs : ∀ k, k < zs.length → Small 1048576 (zs.getD k d0)) :
    Calls Tryz.prog 136 #[.slice (some ⟨b, off, none⟩) zs.length cap, .slice a2 0 cap2] w fun e w' => e = .returned (.bool (NamM.haveAll nm d0 zs ss)) ∧ On w w' := by
  have hmk := @run_makeMap Tryz.prog
  have HC := Lib.hid hcell
  have HSM := Lib.hid hs
  obtain ⟨n, hnn⟩ : ∃ n, n = zs.length := ⟨_, rfl⟩
  have HL := Lib.hid hnn
  rw [← hnn] at hn
  clear hcell hs
  rw [← hnn]
  have HM := Lib.hid hss0
  clear hnn hss0
  go_enter Tryz.func136, Tryz.ntmps136
  go_wp2_with fail
  refine wp_loop_rounds 1 ?_
  rw [rounds_succ]
  have HW := Lib.hid (show MapIs (w.alloc (.map #[] 0)) w.heap.size 0 (Sn ss ss.length) by rw [HM.out]; exact World.ownsMap_made _ _ _ _)
  have HB := Lib.hid (show On w (w.alloc (.map #[] 0)) by repeat (first | with_reducible exact On.refl _ | with_reducible apply On.alloc | with_reducible apply On.drewN | with_reducible apply On.drew | with_reducible refine On.setCell ?_ (by (try simp) <;> omega) _))
  go_wp2_with fail
  clear hmk
  have hlti : True := trivial
  clear hlti
  go_loopw [23] (fun i wx => ∃ k : Nat, k ≤ n ∧ i = .int .i64 k ∧ MapIs wx w.heap.size 0 (Dl nm d0 zs ss k) ∧ On w wx) (fun i _ => n - (intOf i).toNat)
  case atStart => exact ⟨0, Nat.zero_le _, rfl, by rw [NamM.Dl_zero]; exact HW.out, HB.out⟩
  case round =>
    obtain ⟨k, hk, rfl, hown, ho⟩ := hrel
    have HX := Lib.hid hown
    have HY := Lib.hid ho
    by_cases hlt0 : k < n
    · have hlti : (k : Int) < (n : Int) := by omega
      have hlt2_ : k < zs.length := by rw [← HL.out]; exact hlt0
      obtain ⟨z, hz⟩ : ∃ z : Z, z = zs.getD k d0 := ⟨_, rfl⟩
      have E : El wr b (off + k * 4) z := by rw [hz]; exact (HC.out k hlt2_).on ho
      have hsm : z.x0.size ≤ 1048576 := by rw [hz]; exact (HSM.out k hlt2_).1
      have HS := Lib.hid (show Dl nm d0 zs ss (k + 1) = (Dl nm d0 zs ss k).del (.string z.x0.data.toList) by rw [NamM.Dl_succ, hz]; rfl)
      have hkey := key_ok hsm
      have c0 := E.c0
      have c1 := E.c1
      obtain ⟨a2, cap2, c2, _, _⟩ := E.c2
      obtain ⟨a3, cap3, c3, _, _⟩ := E.c3
      have HN1 := Lib.hid (fun w' => impl_name z a2 cap2 a3 cap3 w')
      have hme := methodName
      have hbr := ho.lts _ hlt
      have hbn := Nat.ne_of_lt hbr
      clear hz hown ho E hsm
      go_wp2_with (first | (go_at_call 185; refine (HN1.out _).mono ?_; rintro e w1 ⟨rfl, h1⟩; have HZ1 := Lib.hid (HX.out.on (On.trans (On.alloc (On.refl _) _) h1)); have HO1 := Lib.hid (HY.out.trans (On.trans (On.alloc (On.refl _) _) h1)); clear h1) | (at_delete; refine wpList_delete_own _ rfl _ _ 192 9 rfl 193 law9 Tryz.underlying192 (unitElem (H := Unit)) w.heap.size 0 _ rfl HZ1.out _ _ rfl hkey ?_; intro w2 hown2 hturn2))
      have HW2 := Lib.hid hown2
      have HO2 := Lib.hid (Below.grown HO1.out hturn2.grown HO1.out.size (fun j hj => by cases hj; exact Nat.le_refl _))
      clear hown2 hturn2
      go_wp2_with fail
      go_roundw
      case rel => exact ⟨k + 1, by omega, by go_num, by rw [HS.out]; exact HW2.out, HO2.out⟩
      case measure => simp [intOf]; omega
    · obtain rfl : n = k := by omega
      have hlti : ¬ (n : Int) < (n : Int) := by omega
      have HX2 := Lib.hid (show MapIs wr w.heap.size 0 (Dl nm d0 zs ss zs.length) by rw [← HL.out]; exact hown)
      have en := Lib.hid (fin_ok HX2.out)
      clear hown ho
      go_wp2_with (at_len; refine wpList_len_own _ rfl _ 192 rfl 9 193 Tryz.underlying192 (unitElem (H := Unit)) w.heap.size 0 _ rfl HX2.out ?_)
      go_ret
      exact ⟨ret_bool (by rw [← en.out]; exact eql_size _), HY.out⟩

set_option maxHeartbeats 4000000 in
theorem have_ns (a : Option Addr) (cap : Nat) (b2 off2 cap2 : Nat) (ss : List ByteArray) (w : World) (hm : ss.length ≤ 1048576) (hlt2 : b2 < w.heap.size)
    (hcell2 : ∀ i, i < ss.length → w.cell? ⟨b2, off2 + i, none⟩ = some (.string (ss.getD i ⟨#[]⟩))) (hss : ∀ k, k < ss.length → (ss.getD k ⟨#[]⟩).size ≤ 1048576) :
    Calls Tryz.prog 136 #[.slice a 0 cap, .slice (some ⟨b2, off2, none⟩) ss.length cap2] w fun e w' => e = .returned (.bool (NamM.haveAll nm d0 [] ss)) ∧ On w w' := by
  have hmk := @run_makeMap Tryz.prog
  have HC2 := Lib.hid hcell2
  have HSS := Lib.hid hss
  obtain ⟨m, hmm⟩ : ∃ m, m = ss.length := ⟨_, rfl⟩
  have HM := Lib.hid hmm
  rw [← hmm] at hm
  clear hcell2 hss
  rw [← hmm]
  clear hmm
  go_enter Tryz.func136, Tryz.ntmps136
  go_wp2_with fail
  clear hmk
  go_loopw [13] (fun i wr => ∃ k : Nat, k ≤ m ∧ i = .int .i64 k ∧ MapIs wr w.heap.size k (Sn ss k) ∧ On w wr) (fun i _ => m - (intOf i).toNat)
  case atStart => exact ⟨0, Nat.zero_le _, rfl, by rw [NamM.Sn_zero]; exact World.ownsMap_made _ _ _ _, by repeat (first | with_reducible exact On.refl _ | with_reducible apply On.alloc | with_reducible apply On.drewN | with_reducible apply On.drew | with_reducible refine On.setCell ?_ (by (try simp) <;> omega) _)⟩
  case round =>
    obtain ⟨k, hk, rfl, hown, ho⟩ := hrel
    have HW := Lib.hid hown
    have HB := Lib.hid ho
    by_cases hltm : k < m
    · have hlti : (k : Int) < (m : Int) := by omega
      obtain ⟨s, hs⟩ : ∃ s, s = ss.getD k ⟨#[]⟩ := ⟨_, rfl⟩
      have c1 : wr.cell? ⟨b2, off2 + k, none⟩ = some (.string s) := by rw [hs]; exact (ho.cell (by exact hlt2)).trans (HC2.out k (by rw [← HM.out]; exact hltm))
      have hkey := key_ok (s := s) (by rw [hs]; exact HSS.out k (by rw [← HM.out]; exact hltm))
      have HS := Lib.hid (show Sn ss (k + 1) = (Sn ss k).put (.string s.data.toList) (.agg []) by rw [hs]; exact NamM.Sn_succ ss k (by rw [← HM.out]; exact hltm))
      clear hs hown ho
      go_wp2_with (at_mapUpdate; refine wpList_mapUpdate_own _ rfl _ _ _ 192 rfl 9 193 law9 Tryz.underlying192 (unitElem (H := Unit)) w.heap.size k _ rfl HW.out (by unfold maxLen; omega) _ _ _ rfl rfl hkey _ [] unitElem_mk ?_; intro w1 hown1 hgrow1)
      have HW1 := Lib.hid hown1
      have HO1 := Lib.hid (Below.grown HB.out hgrow1 HB.out.size (fun j hj => by cases hj; exact Nat.le_refl _))
      clear hown1 hgrow1
      go_wp2_with fail
      go_roundw
      case rel => exact ⟨k + 1, by omega, by go_num, by rw [HS.out]; exact HW1.out, HO1.out⟩
      case measure => simp [intOf]; omega
    · obtain rfl : m = k := by omega
      have hlti : ¬ (m : Int) < (m : Int) := by omega
      clear hown ho
      go_wp2_with fail
      have HWL := Lib.hid (show MapIs _ w.heap.size m (Dl nm d0 [] ss ([] : List Z).length) by rw [List.length_nil, NamM.Dl_zero, ← HM.out]; exact HW.out)
      refine wp_loop_rounds 1 ?_
      rw [rounds_succ]
      have en := Lib.hid (fin_ok (zs := []) (ss := ss) HWL.out)
      go_wp2_with (at_len; refine wpList_len_own _ rfl _ 192 rfl 9 193 Tryz.underlying192 (unitElem (H := Unit)) w.heap.size m _ rfl HWL.out ?_)
      go_ret
      exact ⟨ret_bool (by rw [← en.out]; exact eql_size _), HB.out⟩

theorem have_nn (a : Option Addr) (cap : Nat) (a2 : Option Addr) (cap2 : Nat) (w : World) :
    Calls Tryz.prog 136 #[.slice a 0 cap, .slice a2 0 cap2] w fun e w' => e = .returned (.bool (NamM.haveAll nm d0 [] [])) ∧ On w w' := by
  have hmk := @run_makeMap Tryz.prog
  go_enter Tryz.func136, Tryz.ntmps136
  go_wp2_with fail
  refine wp_loop_rounds 1 ?_
  rw [rounds_succ]
  have HWL := Lib.hid (show MapIs (w.alloc (.map #[] 0)) w.heap.size 0 (Dl nm d0 [] [] ([] : List Z).length) by exact World.ownsMap_made _ _ _ _)
  have HB := Lib.hid (show On w (w.alloc (.map #[] 0)) by repeat (first | with_reducible exact On.refl _ | with_reducible apply On.alloc | with_reducible apply On.drewN | with_reducible apply On.drew | with_reducible refine On.setCell ?_ (by (try simp) <;> omega) _))
  go_wp2_with fail
  refine wp_loop_rounds 1 ?_
  rw [rounds_succ]
  have en := Lib.hid (fin_ok (zs := []) (ss := []) HWL.out)
  go_wp2_with (at_len; refine wpList_len_own _ rfl _ 192 rfl 9 193 Tryz.underlying192 (unitElem (H := Unit)) w.heap.size 0 _ rfl HWL.out ?_)
  go_ret
  exact ⟨ret_bool (by rw [← en.out]; exact eql_size _), HB.out⟩

theorem impl_have (v : Value) (zs : List Z) (u : Value) (ss : List ByteArray) (w : World) (hn : zs.length ≤ 1048576) (hs : ∀ k, k < zs.length → Small 1048576 (zs.getD k d0)) (hm : ss.length ≤ 1048576) (hss : ∀ k, k < ss.length → (ss.getD k ⟨#[]⟩).size ≤ 1048576) (h : Rows w v zs) (h2 : Strs.Strs w u ss) :
    Calls Tryz.prog 136 #[v, u] w fun e w' => e = .returned (.bool (NamM.haveAll nm d0 zs ss)) ∧ On w w' := by
  have h' := h
  obtain ⟨a, cap, rfl, -⟩ := h
  obtain ⟨a2, cap2, rfl, hc2⟩ := h2
  by_cases h0 : 0 < zs.length
  · obtain ⟨b, off, rfl, hlt, hcell⟩ := slice_of h' h0
    by_cases h1 : 0 < ss.length
    · obtain ⟨b2, off2, rfl, hlt2, hcell2⟩ := hc2 h1
      exact have_ss b off cap zs b2 off2 cap2 ss w hn hm hlt hlt2 hcell hs hcell2 hss
    · have e : ss.length = 0 := by omega
      rw [e]
      exact have_sn b off cap zs a2 cap2 ss (List.eq_nil_of_length_eq_zero e) w hn hlt hcell hs
  · have e : zs = [] := List.eq_nil_of_length_eq_zero (by omega)
    subst e
    by_cases h1 : 0 < ss.length
    · obtain ⟨b2, off2, rfl, hlt2, hcell2⟩ := hc2 h1
      exact have_ns a cap b2 off2 cap2 ss w hm hlt2 hcell2 hss
    · have e : ss = [] := List.eq_nil_of_length_eq_zero (by omega)
      subst e
      exact have_nn a cap a2 cap2 w
end Go.Proofs.YtpnmodmaabhldaaGreat.Ants
