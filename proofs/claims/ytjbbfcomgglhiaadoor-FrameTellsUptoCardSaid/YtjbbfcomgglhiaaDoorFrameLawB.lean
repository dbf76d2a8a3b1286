/- The walk of FrameTorn, over what the program's Encode and Scan tell. -/
import Derived.Test.YtjbbfcomgglhiaaDoorFrameLawA
namespace Go.Proofs.YtjbbfcomgglhiaaDoor
open Go.RowKit Go.Lib
set_option linter.unusedVariables false
set_option linter.unusedSimpArgs false

theorem RecsAt.take {w : World} {A : Option Addr} {rs : List (Int × List Int × ByteArray)} (h : RecsAt w A rs) (j : Nat) : RecsAt w A (rs.take j) := by
  intro i hi
  rw [List.length_take] at hi
  have e : (rs.take j)[i]'(by rw [List.length_take]; exact hi) = rs[i]'(by omega) := List.getElem_take ..
  rw [e]
  exact h i (by omega)
theorem frames_recs (E : EncOk) (A : Option Addr) (c : Nat) (rs : List (Int × List Int × ByteArray)) (n : Nat) (hn : Hid (rs.length = n)) (S : ByteArray) (hS : Hid (B (frAll (rs.map pure3)) = S)) (hl : n ≤ 1000000000) (hR : Hid (∀ r ∈ rs, frRight (pure3 r))) (w0 w : World) (hr : Rel w0 w) (hx : Hid (RecsAt w A rs)) :
    Calls Tryd.prog 20 #[.slice A n c] w fun e w' => e = .returned (.tuple #[.string S, .bool true]) ∧ Rel w0 w' := by
  have h1 := hn.out
  subst h1
  rw [← hS.out]
  exact frames_any E A c rs hl hR w0 w hr hx
theorem same_recs (A C : Option Addr) (c d : Nat) (us vs : List (Int × List Int × ByteArray)) (n m : Nat) (hn : Hid (us.length = n)) (hm : Hid (vs.length = m)) (b : Bool) (heq : Hid (sameB us vs = b)) (hl : n ≤ 1000000000) (hl' : m ≤ 1000000000) (hN : Hid (∀ r ∈ us, r.2.1.length ≤ 1000000000)) (w0 w : World) (hr : Rel w0 w)
    (hx : Hid (RecsAt w A us)) (hy : Hid (RecsAt w C vs)) :
    Calls Tryd.prog 19 #[.slice A n c, .slice C m d] w fun e w' => e = .returned (.bool b) ∧ Rel w0 w' := by
  have h1 := hn.out
  have h2 := hm.out
  subst h1
  subst h2
  rw [← heq.out]
  exact same_any A C c d us vs hl hl' hN w0 w hr hx hy
theorem own_cap {w : World} {base : Nat} {A : Option Addr} {n c : Nat} {es : List ((Int × List Int × ByteArray) × Option Addr × Nat)} (h : ElsOwn w base (.slice A n c) es) (hn : n = es.length) : n ≤ c ∧ c ≤ 9223372036854775807 := by
  rcases h.1.2 with ⟨h0, h1⟩ | ⟨g, cap, cur, hv, _, _, hc, hm, _⟩
  · have : n = 0 := by omega
    have hcc : c = 0 := by injection h0
    omega
  · have hcc : c = cap := by injection hv
    have : n = es.length := hn
    unfold maxLen at hm
    omega
/-- What is told of a text whose end was cut off. -/
theorem torn_facts {es fs : List ((Int × List Int × ByteArray) × Option Addr × Nat)} {S : ByteArray} {k n : Nat} {err : Int} (hS : B (frAll (recOf es)) = S) (hR : ∀ r ∈ recOf es, frRight r) (hk : k ≤ S.size)
    (h : (err = 0 ∧ frScan (S.extract 0 k).data.toList = (recOf fs, n, true)) ∨ (err = 40 ∧ frScan (S.extract 0 k).data.toList = (recOf fs, n, false))) :
    err = 0 ∧ fs.length ≤ es.length ∧ recOf fs = (recOf es).take fs.length ∧ n = (frAll ((recOf es).take fs.length)).length ∧ n ≤ k ∧ (fs.length < es.length → k < (frAll ((recOf es).take (fs.length + 1))).length) ∧ (fs.length = es.length → n = S.size) := by
  have hl : S.data.toList = frAll (recOf es) := by rw [← hS, B_list]
  have hn : (frAll (recOf es)).length = S.size := by rw [← hS, B_size]
  have hx : (S.extract 0 k).data.toList = (frAll (recOf es)).take k := by rw [tok_list, ← hl]; simp
  obtain ⟨j, j1, j2, j3, j4, j5⟩ := frScan_torn hR k (by omega)
  rw [hx, j2] at h
  have hlen := rec_len es
  rcases h with ⟨h1, h2⟩ | ⟨_, h2⟩
  · have e1 : (recOf es).take j = recOf fs := congrArg (fun p => p.1) h2
    have e2 : (frAll ((recOf es).take j)).length = n := congrArg (fun p => p.2.1) h2
    have ej : fs.length = j := by rw [← rec_len fs, ← e1, List.length_take]; omega
    rw [ej]
    refine ⟨h1, by omega, e1.symm, e2.symm, by omega, fun h => j4 (by omega), fun h => ?_⟩
    have := j5 (by omega)
    rw [← e2, List.take_of_length_le (by omega)]
    omega
  · have e3 : true = false := congrArg (fun p => p.2.2) h2
    cases e3
theorem map_take (es : List ((Int × List Int × ByteArray) × Option Addr × Nat)) (j : Nat) : ((es.map (·.1)).take j).map pure3 = (recOf es).take j := by
  rw [recOf_eq, List.map_take]
theorem recs_right {es : List ((Int × List Int × ByteArray) × Option Addr × Nat)} (h : ∀ e ∈ es, frRight (pure3 e.1)) : ∀ r ∈ es.map (·.1), frRight (pure3 r) := by
  intro r hr
  obtain ⟨e, he, rfl⟩ := List.mem_map.1 hr
  exact h e he
set_option maxRecDepth 100000 in
set_option maxHeartbeats 4000000 in
theorem FrameTorn_at (hA : AwakeOk) (hE : EncOk) (hS : ScanOk) (A T : Option Addr) (ca ct : Nat) (zss : List (List Int)) (ss : List ByteArray) (hl : zss.length ≤ 9223372036854775807) (hl' : ss.length ≤ 9223372036854775807) (hz : Hid (∀ zs ∈ zss, zs.length ≤ 9223372036854775807 ∧ w64 zs)) (hss : Hid (∀ s ∈ ss, s.size ≤ 9223372036854775807))
    (a2 : Int) (u0 : -9223372036854775808 ≤ a2) (u1 : a2 ≤ 9223372036854775807) (w : World) (hr : Rel w w) (hx : Hid (RowsAt w A zss)) (hy : Hid (StrsAt w T ss)) :
    Calls Tryd.prog 5 #[.slice A zss.length ca, .slice T ss.length ct, .int .i64 a2] w fun e w' => e = .returned (.bool true) ∧ Below w.heap.size w w' := by
  have HA := Lib.hid hA
  have HE := Lib.hid hE
  have HS := Lib.hid hS
  have HR := Lib.hid hr
  clear hA hE hS hr
  go_enter Tryd.func5, Tryd.ntmps5
  go_upto_region 6 with (first
    | (go_at_call 10; (with_reducible refine (awake_of HA.out _ _ HR.out).mono ?_); rintro e w1 ⟨rfl, h1⟩)
    | (go_at_call 15; (with_reducible refine (records_any A T ca ct zss ss hl hl' hz hss w _ h1 (Lib.hid (hx.out.rel h1)) (Lib.hid (hy.out.rel h1))).mono ?_); rintro e w2 ⟨es, D, cd, base, rfl, h2, hE2, hes⟩; have F := recs_facts hes; have HF := Lib.hid F.2; have f1 := F.1; clear F hes; obtain ⟨S, hSv⟩ : ∃ S, B (frAll (recOf es)) = S := ⟨_, rfl⟩; have HSV := Lib.hid hSv; have zS : S.size ≤ 29592 := hSv ▸ HF.out.2.2.2; clear hSv; obtain ⟨cc1, cc2⟩ := own_cap hE2 rfl; have HE2 := Lib.hid hE2; clear hE2; obtain ⟨k, hk⟩ : ∃ k : Nat, pk a2 ((S.size : Int) + 1) = (k : Int) := (Int.eq_ofNat_of_zero_le (pk_bd a2 ((S.size : Int) + 1) (by omega)).1); have hkb := (pk_bd a2 ((S.size : Int) + 1) (by omega)).2; rw [hk] at hkb; have HK := Lib.hid hk; clear hk)
    | (go_at_call 20; (with_reducible refine (frames_as HE.out es (by omega) HF.out.1 S HSV _ _ h2.self HE2.out).mono ?_); rintro e w3 ⟨rfl, h3⟩)
    | (go_at_call 16; (with_reducible refine (pick_as a2 _ _ HK u0 u1 (by omega) (by omega) _).mono ?_); rintro e w' ⟨rfl, rfl⟩)
    | (go_at_call 17; (with_reducible refine (scan_of HS.out (S.extract 0 k) (by rw [ByteArray.size_extract]; omega) _ _ h3).mono ?_); rintro e w4 ⟨fs, C, cf, n, bf, err, rfl, h4, hF4, hsc⟩; obtain ⟨rfl, t1, t2, t3, t4, t5, t6⟩ := torn_facts HSV.out HF.out.2.2.1 (by omega) hsc; have T2 := Lib.hid t2; have T3 := Lib.hid t3; have T5 := Lib.hid t5; have T6 := Lib.hid t6; have HF4 := Lib.hid hF4; clear hsc t2 t3 t5 t6 hF4))
  have g2 : fs.length ≤ 12 := Nat.le_trans t1 f1
  have HRR := Lib.hid (recs_right HF.out.1)
  have HT := Lib.hid (map_take es fs.length)
  have HB1 := Lib.hid (show sameB (fs.map (·.1)) ((es.map (·.1)).take fs.length) = true by
    unfold sameB
    rw [HT.out, ← recOf_eq, T2.out]
    exact decide_eq_true rfl)
  obtain ⟨S1, hS1⟩ : ∃ S, B (frAll (((es.map (·.1)).take fs.length).map pure3)) = S := ⟨_, rfl⟩
  have e1 : (S1.size != n) = false := by
    have : S1.size = n := by rw [← hS1, B_size, HT.out, ← T3.out]
    rw [this]; simp
  have HS1 := Lib.hid hS1
  have HL1 := Lib.hid (show (fs.map (·.1)).length = fs.length by rw [List.length_map])
  have HL2 := Lib.hid (show ((es.map (·.1)).take fs.length).length = fs.length by rw [List.length_take, List.length_map]; omega)
  have HN1 := Lib.hid (show ∀ r ∈ fs.map (·.1), r.2.1.length ≤ 1000000000 by
    intro r hr
    have hp : pure3 r ∈ recOf fs := by rw [recOf_eq]; exact List.mem_map_of_mem hr
    rw [T2.out] at hp
    exact nums_len (HF.out.2.2.1 _ (List.mem_of_mem_take hp)))
  have HN2 := Lib.hid (fun r (hr : r ∈ (es.map (·.1)).take fs.length) => HRR.out r (List.mem_of_mem_take hr))
  clear hS1
  by_cases hlt : fs.length < es.length
  · have HT3 := Lib.hid (map_take es (fs.length + 1))
    obtain ⟨S2, hS2⟩ : ∃ S, B (frAll (((es.map (·.1)).take (fs.length + 1)).map pure3)) = S := ⟨_, rfl⟩
    have e2 : k < S2.size := by rw [← hS2, B_size, HT3.out]; exact T5.out hlt
    have HS2 := Lib.hid hS2
    have HL3 := Lib.hid (show ((es.map (·.1)).take (fs.length + 1)).length = fs.length + 1 by rw [List.length_take, List.length_map]; omega)
    have HN3 := Lib.hid (fun r (hr : r ∈ (es.map (·.1)).take (fs.length + 1)) => HRR.out r (List.mem_of_mem_take hr))
    clear hS2
    go_wp2_with (first
      | (go_at_call 19; (with_reducible refine (same_recs C D cf cd (fs.map (·.1)) ((es.map (·.1)).take fs.length) fs.length fs.length HL1 HL2 true HB1 (by omega) (by omega) HN1 _ _ h4 (Lib.hid (HF4.out.recs rfl)) (Lib.hid (((HE2.out.rel h4).recs rfl).take _))).mono ?_); rintro e w5 ⟨rfl, h5⟩)
      | (go_at_call 20; (with_reducible refine (frames_recs HE.out D cd ((es.map (·.1)).take fs.length) fs.length HL2 S1 HS1 (by omega) HN2 _ _ h5 (Lib.hid (((HE2.out.rel h5).recs rfl).take _))).mono ?_); rintro e w6 ⟨rfl, h6⟩)
      | (go_at_call 20; (with_reducible refine (frames_recs HE.out D cd ((es.map (·.1)).take (fs.length + 1)) (fs.length + 1) HL3 S2 HS2 (by omega) HN3 _ _ h6 (Lib.hid (((HE2.out.rel h6).recs rfl).take _))).mono ?_); rintro e w7 ⟨rfl, h7⟩))
    go_ret
    exact ⟨rfl, (h2.trans h7).2⟩
  · have e2 : (n == S.size) = true := by rw [beq_iff_eq]; exact T6.out (by omega)
    go_wp2_with (first
      | (go_at_call 19; (with_reducible refine (same_recs C D cf cd (fs.map (·.1)) ((es.map (·.1)).take fs.length) fs.length fs.length HL1 HL2 true HB1 (by omega) (by omega) HN1 _ _ h4 (Lib.hid (HF4.out.recs rfl)) (Lib.hid (((HE2.out.rel h4).recs rfl).take _))).mono ?_); rintro e w5 ⟨rfl, h5⟩)
      | (go_at_call 20; (with_reducible refine (frames_recs HE.out D cd ((es.map (·.1)).take fs.length) fs.length HL2 S1 HS1 (by omega) HN2 _ _ h5 (Lib.hid (((HE2.out.rel h5).recs rfl).take _))).mono ?_); rintro e w6 ⟨rfl, h6⟩))
    go_ret
    exact ⟨ret_bool (by rw [beq_iff_eq]; have := T6.out (by omega); omega), (h2.trans h6).2⟩
end Go.Proofs.YtjbbfcomgglhiaaDoor
