/- The walk of FrameWrong, over what the program's Encode and Scan tell. -/
import Derived.Test.YtjbbfcomgglhiaaDoorBytesLeaf
import Derived.Deep.RegionWith
import Derived.Deep.Cut
namespace Go.Proofs.YtjbbfcomgglhiaaDoor
open Go.RowKit Go.Lib
set_option linter.unusedVariables false
set_option linter.unusedSimpArgs false

theorem one_drop {l : List (Int × List Int × ByteArray)} {i : Nat} (h : i < l.length) : (l.drop i).take 1 = [l[i]] := by
  rw [List.drop_eq_getElem_cons h]; rfl
theorem rec_split (es : List ((Int × List Int × ByteArray) × Option Addr × Nat)) (i : Nat) (h : i < es.length) :
    recOf es = (recOf es).take i ++ (recOf es)[i]'(by rw [rec_len]; exact h) :: (recOf es).drop (i + 1) := by
  rw [← List.drop_eq_getElem_cons, List.take_append_drop]
theorem map_drop (es : List ((Int × List Int × ByteArray) × Option Addr × Nat)) (j : Nat) : ((es.map (·.1)).drop j).map pure3 = (recOf es).drop j := by
  rw [recOf_eq, List.map_drop]
/-- What is told where one byte of a frame is another one. -/
theorem wrong_facts {es fs : List ((Int × List Int × ByteArray) × Option Addr × Nat)} {i k n : Nat} {c : UInt8} {err : Int} {s : ByteArray} {m : List UInt8} (hR : ∀ r ∈ recOf es, frRight r) (hi : i < (recOf es).length) (hk : 2 ≤ k) (hk' : k < (frEnc (recOf es)[i]).length) (hc : c ≠ (frEnc (recOf es)[i])[k])
    (hs : s.data.toList = frAll ((recOf es).take i) ++ ((frEnc (recOf es)[i]).set k c ++ m))
    (h : (err = 0 ∧ frScan s.data.toList = (recOf fs, n, true)) ∨ (err = 40 ∧ frScan s.data.toList = (recOf fs, n, false))) :
    err = 40 ∧ n = (frAll ((recOf es).take i)).length ∧ recOf fs = (recOf es).take i ∧ fs.length = i := by
  have hw := frScan_wrong (l := (recOf es).take i) (fun r hr => hR r (List.mem_of_mem_take hr)) (r := (recOf es)[i]) (hR _ (List.getElem_mem hi)) k hk hk' c hc m
  rw [hs, hw] at h
  rcases h with ⟨_, h2⟩ | ⟨h1, h2⟩
  · have e3 : false = true := congrArg (fun p => p.2.2) h2
    cases e3
  · have e1 : (recOf es).take i = recOf fs := congrArg (fun p => p.1) h2
    have e2 : (frAll ((recOf es).take i)).length = n := congrArg (fun p => p.2.1) h2
    refine ⟨h1, e2.symm, e1.symm, ?_⟩
    rw [← rec_len fs, ← e1, List.length_take]; omega
set_option maxRecDepth 100000 in
set_option maxHeartbeats 4000000 in
theorem FrameWrong_at (hA : AwakeOk) (hE : EncOk) (hS : ScanOk) (A T : Option Addr) (ca ct : Nat) (zss : List (List Int)) (ss : List ByteArray) (hl : zss.length ≤ 9223372036854775807) (hl' : ss.length ≤ 9223372036854775807) (hz : Hid (∀ zs ∈ zss, zs.length ≤ 9223372036854775807 ∧ w64 zs)) (hss : Hid (∀ s ∈ ss, s.size ≤ 9223372036854775807))
    (a2 a3 a4 : Int) (u0 : -9223372036854775808 ≤ a2) (u1 : a2 ≤ 9223372036854775807) (u2 : -9223372036854775808 ≤ a3) (u3 : a3 ≤ 9223372036854775807) (u4 : -9223372036854775808 ≤ a4) (u5 : a4 ≤ 9223372036854775807)
    (w : World) (hr : Rel w w) (hx : Hid (RowsAt w A zss)) (hy : Hid (StrsAt w T ss)) :
    Calls Tryd.prog 6 #[.slice A zss.length ca, .slice T ss.length ct, .int .i64 a2, .int .i64 a3, .int .i64 a4] w fun e w' => e = .returned (.bool true) ∧ Below w.heap.size w w' := by
  have HA := Lib.hid hA
  have HE := Lib.hid hE
  have HS := Lib.hid hS
  have HR := Lib.hid hr
  clear hA hE hS hr
  go_enter Tryd.func6, Tryd.ntmps6
  go_upto_region 3 with (first
    | (go_at_call 10; (with_reducible refine (awake_of HA.out _ _ HR.out).mono ?_); rintro e w1 ⟨rfl, h1⟩)
    | (go_at_call 15; (with_reducible refine (records_any A T ca ct zss ss hl hl' hz hss w _ h1 (Lib.hid (hx.out.rel h1)) (Lib.hid (hy.out.rel h1))).mono ?_); rintro e w2 ⟨es, D, cd, base, rfl, h2, hE2, hes⟩; have F := recs_facts hes; have HF := Lib.hid F.2; have f1 := F.1; clear F hes; obtain ⟨cc1, cc2⟩ := own_cap hE2 rfl; have HE2 := Lib.hid hE2; clear hE2))
  by_cases hn : es.length = 0
  · have e0 : ((es.length : Int) == 0) = true := by rw [beq_iff_eq]; omega
    clear hn
    go_wp2_with (fail)
    go_ret
    exact ⟨rfl, h2.2⟩
  · have e0 : ((es.length : Int) == 0) = false := by rw [beq_eq_false_iff_ne]; omega
    have e0' : (es.length == 0) = false := by rw [beq_eq_false_iff_ne]; omega
    obtain ⟨i, hi⟩ : ∃ i : Nat, pk a2 (es.length : Int) = (i : Int) := Int.eq_ofNat_of_zero_le (pk_bd a2 (es.length : Int) (by omega)).1
    have hib := (pk_bd a2 (es.length : Int) (by omega)).2
    rw [hi] at hib
    have HI := Lib.hid hi
    have hi1 : i < es.length := by omega
    have hi2 : i < (recOf es).length := by rw [rec_len]; exact hi1
    obtain ⟨rr, hrr⟩ : ∃ r, (recOf es)[i] = r := ⟨_, rfl⟩
    have hrt : frRight rr := by rw [← hrr]; exact HF.out.2.2.1 _ (List.getElem_mem hi2)
    obtain ⟨S1, hS1⟩ : ∃ S, B (frAll (((es.map (·.1)).take i).map pure3)) = S := ⟨_, rfl⟩
    obtain ⟨S2, hS2⟩ : ∃ S, B (frAll ((((es.map (·.1)).drop i).take 1).map pure3)) = S := ⟨_, rfl⟩
    obtain ⟨S3, hS3⟩ : ∃ S, B (frAll (((es.map (·.1)).drop (i + 1)).map pure3)) = S := ⟨_, rfl⟩
    have t1 : B (frAll ((recOf es).take i)) = S1 := by rw [← hS1, map_take]
    have t2 : B (frEnc rr) = S2 := by
      rw [← hS2, one_drop (by rw [List.length_map]; exact hi1), ← hrr]
      simp [frAll, recOf]
    have t3 : B (frAll ((recOf es).drop (i + 1))) = S3 := by rw [← hS3, map_drop]
    have z1 : S1.size ≤ 29592 := by
      rw [← t1, B_size]
      have := frAll_len (l := (recOf es).take i) (fun r hr => HF.out.2.2.1 r (List.mem_of_mem_take hr))
      rw [List.length_take, rec_len] at this
      omega
    have z3 : S3.size ≤ 29592 := by
      rw [← t3, B_size]
      have := frAll_len (l := (recOf es).drop (i + 1)) (fun r hr => HF.out.2.2.1 r (List.mem_of_mem_drop hr))
      rw [List.length_drop, rec_len] at this
      omega
    have z2 : 5 ≤ S2.size ∧ S2.size ≤ 2466 := by
      have := frBody_len hrt
      rw [← t2, B_size, frEnc_len]; omega
    obtain ⟨z2, z2'⟩ := z2
    have HS1 := Lib.hid hS1
    have HS2 := Lib.hid hS2
    have HS3 := Lib.hid hS3
    have T1 := Lib.hid t1
    have T2 := Lib.hid t2
    have T3 := Lib.hid t3
    have HRR := Lib.hid hrr
    have HRT := Lib.hid hrt
    have HRS := Lib.hid (recs_right HF.out.1)
    have L1 := Lib.hid (show ((es.map (·.1)).take i).length = i by rw [List.length_take, List.length_map]; omega)
    have L2 := Lib.hid (show (((es.map (·.1)).drop i).take 1).length = 1 by rw [List.length_take, List.length_drop, List.length_map]; omega)
    have L3 := Lib.hid (show ((es.map (·.1)).drop (i + 1)).length = es.length - (i + 1) by rw [List.length_drop, List.length_map])
    have Q1 := Lib.hid (fun r (hr : r ∈ (es.map (·.1)).take i) => HRS.out r (List.mem_of_mem_take hr))
    have Q2 := Lib.hid (fun r (hr : r ∈ ((es.map (·.1)).drop i).take 1) => HRS.out r (List.mem_of_mem_drop (List.mem_of_mem_take hr)))
    have Q3 := Lib.hid (fun r (hr : r ∈ (es.map (·.1)).drop (i + 1)) => HRS.out r (List.mem_of_mem_drop hr))
    have hDf := own_form HE2.out
    obtain ⟨g, rfl⟩ : ∃ g, D = some ⟨g, 0, none⟩ := by
      rcases hDf with ⟨_, h, _⟩ | h
      · omega
      · exact h
    have ncap : ¬ cd = i := by omega
    clear hi hrr hrt hS1 hS2 hS3 t1 t2 t3 hn hDf
    go_upto_region 8 with (first
      | (go_at_call 16; (with_reducible refine (pick_as a2 _ _ HI u0 u1 (by omega) (by omega) _).mono ?_); rintro e w' ⟨rfl, rfl⟩)
      | (go_at_call 20; (with_reducible refine (frames_recs HE.out _ cd ((es.map (·.1)).take i) i L1 S1 HS1 (by omega) Q1 _ _ h2.self (Lib.hid ((HE2.out.recs rfl).take _))).mono ?_); rintro e w3 ⟨rfl, h3⟩)
      | (go_at_call 20; (with_reducible refine (frames_recs HE.out _ _ (((es.map (·.1)).drop i).take 1) 1 L2 S2 HS2 (by omega) Q2 _ _ h3 (Lib.hid ((drop_zero' (((HE2.out.rel h3).recs rfl).drop _)).take _))).mono ?_); rintro e w4 ⟨rfl, h4⟩))
    obtain ⟨cp, W1, hcv, hb, hrw⟩ : ∃ (cp : World → Nat) (W1 : World → World), (∀ w : World, (convert 9 43 (.string S2)).run Tryd.prog w = .ok (.slice (some ⟨w.heap.size, 0, none⟩) S2.size (cp w)) (W1 w)) ∧ (∀ w : World, Buf (W1 w) w.heap.size S2.data.toList) ∧ (∀ w0 w : World, Rel w0 w → Rel w0 (W1 w)) :=
      ⟨fun w => grownCap w S2.size 0 5, fun w => bytesWorld w 5 S2, fun w => Lib.run_convert_string_bytes (P := Tryd.prog) w 9 43 5 S2 (u := .string) Tryd.underlying9 Tryd.underlying43 Tryd.underlying5, fun w => Buf.made w S2 _, fun w0 w h => h.bytes _ _⟩
    have HB := Lib.hid hb
    have HRW := Lib.hid hrw
    clear hb hrw
    obtain ⟨k0, k1⟩ := pk_bd a3 ((S2.size : Int) - 2) (by omega)
    obtain ⟨k, hk⟩ := Int.eq_ofNat_of_zero_le k0
    rw [hk] at k1
    have HK := Lib.hid hk
    obtain ⟨y0, y1⟩ := pk_bd a4 255 (by omega)
    obtain ⟨y, hy⟩ : ∃ y, pk a4 255 = y := ⟨_, rfl⟩
    rw [hy] at y0 y1
    have HY := Lib.hid hy
    clear hk hy k0
    have HE0 := Lib.hid (show cd = i + 1 → ∀ w A, RecsAt w A ((es.map (·.1)).drop (i + 1)) by
        intro hcap w A k hk
        rw [List.length_drop, List.length_map] at hk
        omega)
    by_cases hcap : cd = i + 1
    all_goals
      have HCAP := Lib.hid hcap
      go_upto_region 12 with (first
        | (go_at_call 20; (first
           | (with_reducible refine (frames_recs HE.out _ _ ((es.map (·.1)).drop (i + 1)) (es.length - (i + 1)) L3 S3 HS3 (by omega) Q3 _ _ h4 (Lib.hid (HE0.out HCAP.out _ _))).mono ?_)
           | (with_reducible refine (frames_recs HE.out _ _ ((es.map (·.1)).drop (i + 1)) (es.length - (i + 1)) L3 S3 HS3 (by omega) Q3 _ _ h4 (Lib.hid (drop_zero' (((HE2.out.rel h4).recs rfl).drop _)))).mono ?_)); rintro e w5 ⟨rfl, h5⟩)
        | (go_at_call 16; (first
           | (with_reducible refine (pick_as a3 _ _ HK u2 u3 (by omega) (by omega) _).mono ?_)
           | (with_reducible refine (pick_as a4 _ _ HY u4 u5 (by omega) (by omega) _).mono ?_)); rintro e w6 ⟨rfl, rfl⟩))
      have b := HB.out w5
      obtain ⟨j, hj⟩ : ∃ j, 2 + k = j := ⟨_, rfl⟩
      have hjl : j < S2.data.toList.length := by
        have : S2.data.toList.length = S2.size := by simp
        omega
      have d := b j hjl
      obtain ⟨p, hp⟩ : ∃ p, S2.data.toList[j] = p := ⟨_, rfl⟩
      rw [hp] at d
      obtain ⟨d1, d2⟩ := d
      have r := HRW.out _ _ h5
      have hw5 : w2.heap.size ≤ w5.heap.size := h5.size
      have HB2 := Lib.hid b
      have HP := Lib.hid hp
      clear b hp
      go_upto_region 13 with (first
        | (go_at_call 16; (with_reducible refine (pick_as a3 _ _ HK u2 u3 (by omega) (by omega) _).mono ?_); rintro e w6 ⟨rfl, rfl⟩))
      rw [show (2 : Int) + (k : Int) = (j : Int) by omega]
      have j0 : (0 : Int) ≤ (j : Int) := by omega
      have j1 : (j : Int) < (S2.size : Int) := by omega
      have hq := xor_bo p (1 + y) (by omega) (by omega)
      obtain ⟨q, hqv⟩ : ∃ q, p ^^^ bo (1 + y) = q := ⟨_, rfl⟩
      rw [hqv] at hq
      have HQ := Lib.hid hqv
      have hs1 : IntKind.i64.wrap (1 + y) = 1 + y := by rw [IntKind.wrap_i64]; omega
      have hs2 : IntKind.u8.wrap (1 + y) = 1 + y := by simp [IntKind.wrap, IntKind.bits, IntKind.signed]; omega
      clear hqv
      go_region_with (first
        | (go_at_call 16; (with_reducible refine (pick_as a4 255 y HY u4 u5 (by decide) (by decide) _).mono ?_); rintro e w6 ⟨rfl, rfl⟩))
      all_goals
        clear d1 d2
        have b3 := HB2.out.set hjl q
        obtain ⟨S', hS'⟩ : ∃ S, B (S2.data.toList.set j q) = S := ⟨_, rfl⟩
        have hback := Buf.back (w := ((W1 w5).setCell ⟨w5.heap.size, j, none⟩ (.int .u8 (q.toNat : Int))).drew) (fun x hx => b3 x hx) (cp w5)
        rw [List.length_set, show S2.data.toList.length = S2.size by simp, hS'] at hback
        have zs' : S'.size = S2.size := by rw [← hS', B_size, List.length_set]; simp
        have HS' := Lib.hid hS'
        have hw := (Rel.setCell r hw5 (p := ⟨w5.heap.size, j, none⟩) (.int .u8 (q.toNat : Int))).drew
        clear b3 hS'
        have HSF := Lib.hid (show ∀ (fs : List ((Int × List Int × ByteArray) × Option Addr × Nat)) (n : Nat) (err : Int), ((err = 0 ∧ frScan ((S1 ++ S') ++ S3).data.toList = (recOf fs, n, true)) ∨ (err = 40 ∧ frScan ((S1 ++ S') ++ S3).data.toList = (recOf fs, n, false))) → err = 40 ∧ n = S1.size ∧ recOf fs = (recOf es).take i ∧ fs.length = i by
          intro fs n err h
          have hlr := frEnc_len rr
          have e2 : S2.data.toList = frEnc rr := by rw [← T2.out, B_list]
          have := wrong_facts (es := es) (fs := fs) (i := i) (k := j) (n := n) (c := q) (err := err) (s := (S1 ++ S') ++ S3) (m := frAll ((recOf es).drop (i + 1))) HF.out.2.2.1 hi2 (by omega) ?_ ?_ ?_ h
          · obtain ⟨x1, x2, x3, x4⟩ := this
            refine ⟨x1, ?_, x3, x4⟩
            rw [x2, ← T1.out, B_size]
          · rw [HRR.out, ← e2]; exact hjl
          · intro hc
            rw [← HQ.out] at hc
            have hpp : (frEnc (recOf es)[i])[j]'(by rw [HRR.out, ← e2]; exact hjl) = p := by
              rw [← HP.out]
              simp only [HRR.out, e2]
            rw [hpp, xor_same] at hc
            have := bo_nat (k := 1 + y) (by omega) (by omega)
            omega
          · rw [ByteArray.data_append, ByteArray.data_append, Array.toList_append, Array.toList_append, ← T1.out, ← T3.out, ← HS'.out, B_list, B_list, B_list, e2, HRR.out, List.append_assoc])
        go_wp2_with (first
          | (go_at_call 17; (with_reducible refine (scan_of HS.out ((S1 ++ S') ++ S3) (by rw [ByteArray.size_append, ByteArray.size_append]; omega) _ _ hw).mono ?_); rintro e w7 ⟨fs, C, cf, n, bf, err, rfl, h7, hF7, hsc⟩; obtain ⟨rfl, rfl, J, JL⟩ := HSF.out _ _ _ hsc; have HJ := Lib.hid J; have HF7 := Lib.hid hF7; have HSC := Lib.hid hsc; clear hsc hF7 J)
          | (go_at_call 19; (with_reducible refine (same_recs _ _ _ _ (fs.map (·.1)) ((es.map (·.1)).take i) i i (Lib.hid (by rw [List.length_map]; exact JL)) L1 true (Lib.hid (by unfold sameB; rw [map_take, ← recOf_eq, HJ.out]; exact decide_eq_true rfl)) (by omega) (by omega) (Lib.hid (fun r hr => by
              have hp : pure3 r ∈ recOf fs := by rw [recOf_eq]; exact List.mem_map_of_mem hr
              rw [HJ.out] at hp
              exact nums_len (HF.out.2.2.1 _ (List.mem_of_mem_take hp)))) _ _ h7 (Lib.hid (HF7.out.recs rfl)) (Lib.hid (((HE2.out.rel h7).recs rfl).take _))).mono ?_); rintro e w8 ⟨rfl, h8⟩))
        go_ret
        exact ⟨rfl, (h2.trans h8).2⟩
end Go.Proofs.YtjbbfcomgglhiaaDoor
