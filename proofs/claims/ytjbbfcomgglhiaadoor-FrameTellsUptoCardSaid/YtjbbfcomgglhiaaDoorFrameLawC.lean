/- The walk of FrameJoined, over what the program's Encode and Scan tell. -/
import Derived.Test.YtjbbfcomgglhiaaDoorFrameLawB
namespace Go.Proofs.YtjbbfcomgglhiaaDoor
open Go.RowKit Go.Lib
set_option linter.unusedVariables false
set_option linter.unusedSimpArgs false

theorem RecsAt.drop {w : World} {g off : Nat} {rs : List (Int × List Int × ByteArray)} (h : RecsAt w (some ⟨g, off, none⟩) rs) (j : Nat) : RecsAt w (some ⟨g, off + j * 3, none⟩) (rs.drop j) := by
  intro i hi
  rw [List.length_drop] at hi
  obtain ⟨g', off', A', c, e, hl, h0, h1, h2, h3⟩ := h (j + i) (by omega)
  have e' := Option.some.inj e
  injection e' with e1 e2 _
  subst e1
  subst e2
  have er : (rs.drop j)[i]'(by rw [List.length_drop]; exact hi) = rs[j + i]'(by omega) := List.getElem_drop ..
  refine ⟨g, off + j * 3, A', c, rfl, hl, ?_, ?_, ?_, ?_⟩
  · rw [er, show off + j * 3 + i * 3 = off + (j + i) * 3 by omega]; exact h0
  · rw [er, show off + j * 3 + i * 3 + 1 = off + (j + i) * 3 + 1 by omega]; exact h1
  · rw [er, show off + j * 3 + i * 3 + 2 = off + (j + i) * 3 + 2 by omega]; exact h2
  · rw [er]; exact h3
theorem drop_zero' {w : World} {g j : Nat} {rs : List (Int × List Int × ByteArray)} (h : RecsAt w (some ⟨g, 0 + j * 3, none⟩) rs) : RecsAt w (some ⟨g, j * 3, none⟩) rs := by rw [Nat.zero_add] at h; exact h
theorem RecsAt.empty (w : World) (A : Option Addr) : RecsAt w A [] := fun i h => absurd h (by simp)
/-- What is told of frames and a text behind them. -/
theorem joined_facts {es fs gs : List ((Int × List Int × ByteArray) × Option Addr × Nat)} {S M : ByteArray} {n m : Nat} {err err' : Int} (hS : B (frAll (recOf es)) = S) (hR : ∀ r ∈ recOf es, frRight r)
    (h : (err = 0 ∧ frScan M.data.toList = (recOf fs, n, true)) ∨ (err = 40 ∧ frScan M.data.toList = (recOf fs, n, false)))
    (h' : (err' = 0 ∧ frScan (S ++ M).data.toList = (recOf gs, m, true)) ∨ (err' = 40 ∧ frScan (S ++ M).data.toList = (recOf gs, m, false))) :
    err' = err ∧ m = S.size + n ∧ gs.length = es.length + fs.length ∧ recOf gs = recOf es ++ recOf fs := by
  have hl : S.data.toList = frAll (recOf es) := by rw [← hS, B_list]
  have hn : (frAll (recOf es)).length = S.size := by rw [← hS, B_size]
  have hx : (S ++ M).data.toList = frAll (recOf es) ++ M.data.toList := by rw [ByteArray.data_append, Array.toList_append, hl]
  have hj := frScan_all hR M.data.toList
  rw [hx, hj] at h'
  have key : ∀ b b' : Bool, frScan M.data.toList = (recOf fs, n, b) → (recOf es ++ (frScan M.data.toList).1, (frAll (recOf es)).length + (frScan M.data.toList).2.1, (frScan M.data.toList).2.2) = (recOf gs, m, b') → b = b' ∧ m = S.size + n ∧ gs.length = es.length + fs.length ∧ recOf gs = recOf es ++ recOf fs := by
    intro b b' h1 h2
    rw [h1] at h2
    have e1 : recOf es ++ recOf fs = recOf gs := congrArg (fun p => p.1) h2
    have e2 : (frAll (recOf es)).length + n = m := congrArg (fun p => p.2.1) h2
    have e3 : b = b' := congrArg (fun p => p.2.2) h2
    refine ⟨e3, by omega, ?_, e1.symm⟩
    rw [← rec_len gs, ← e1, List.length_append, rec_len, rec_len]
  rcases h with ⟨a1, a2⟩ | ⟨a1, a2⟩ <;> rcases h' with ⟨b1, b2⟩ | ⟨b1, b2⟩
  · obtain ⟨_, k2⟩ := key _ _ a2 b2
    exact ⟨by rw [a1, b1], k2⟩
  · obtain ⟨k1, _⟩ := key _ _ a2 b2
    cases k1
  · obtain ⟨k1, _⟩ := key _ _ a2 b2
    cases k1
  · obtain ⟨_, k2⟩ := key _ _ a2 b2
    exact ⟨by rw [a1, b1], k2⟩
theorem own_form {w : World} {base : Nat} {A : Option Addr} {c : Nat} {es : List ((Int × List Int × ByteArray) × Option Addr × Nat)} (h : ElsOwn w base (.slice A es.length c) es) : (A = none ∧ es.length = 0 ∧ c = 0) ∨ ∃ g, A = some ⟨g, 0, none⟩ := by
  rcases h.1.2 with ⟨h0, h1⟩ | ⟨g, cap, cur, hv, _⟩
  · left
    injection h0 with a b c
    exact ⟨a, h1, c⟩
  · right
    injection hv with a
    exact ⟨g, a⟩
theorem scan_nums {fs : List ((Int × List Int × ByteArray) × Option Addr × Nat)} {l : List UInt8} {n : Nat} {b : Bool} (h : frScan l = (recOf fs, n, b)) : ∀ r ∈ fs.map (·.1), frRight (pure3 r) := by
  intro r hr
  have hp : pure3 r ∈ recOf fs := by rw [recOf_eq]; exact List.mem_map_of_mem hr
  have := (frScan_again l.length l (Nat.le_refl _)).2.2
  rw [h] at this
  exact this _ hp
theorem frAll_ge (l : List (Int × List Int × List UInt8)) : l.length ≤ (frAll l).length := by
  induction l with
  | nil => exact Nat.le_refl 0
  | cons r t ih => simp only [frAll, List.length_append, List.length_cons, frEnc_len]; omega
theorem scan_len {fs : List ((Int × List Int × ByteArray) × Option Addr × Nat)} {M : ByteArray} {n : Nat} {b : Bool} (h : frScan M.data.toList = (recOf fs, n, b)) : fs.length ≤ M.size ∧ n ≤ M.size := by
  have el : M.data.toList.length = M.size := by simp
  have h1 := (frScan_again M.data.toList.length M.data.toList (Nat.le_refl _))
  rw [h] at h1
  have h2 := frAll_ge (recOf fs)
  rw [h1.1, List.length_take, rec_len] at h2
  have h3 := h1.2.1
  simp only at h3 h2
  omega
set_option maxRecDepth 100000 in
set_option maxHeartbeats 4000000 in
theorem FrameJoined_at (hA : AwakeOk) (hE : EncOk) (hS : ScanOk) (A T : Option Addr) (ca ct : Nat) (zss : List (List Int)) (ss : List ByteArray) (hl : zss.length ≤ 9223372036854775807) (hl' : ss.length ≤ 9223372036854775807) (hz : Hid (∀ zs ∈ zss, zs.length ≤ 9223372036854775807 ∧ w64 zs)) (hss : Hid (∀ s ∈ ss, s.size ≤ 9223372036854775807))
    (M : ByteArray) (hM : M.size ≤ 1048576) (w : World) (hr : Rel w w) (hx : Hid (RowsAt w A zss)) (hy : Hid (StrsAt w T ss)) :
    Calls Tryd.prog 8 #[.slice A zss.length ca, .slice T ss.length ct, .string M] w fun e w' => e = .returned (.bool true) ∧ Below w.heap.size w w' := by
  have HA := Lib.hid hA
  have HE := Lib.hid hE
  have HS := Lib.hid hS
  have HR := Lib.hid hr
  clear hA hE hS hr
  go_enter Tryd.func8, Tryd.ntmps8
  go_upto_region 6 with (first
    | (go_at_call 10; (with_reducible refine (awake_of HA.out _ _ HR.out).mono ?_); rintro e w1 ⟨rfl, h1⟩)
    | (go_at_call 15; (with_reducible refine (records_any A T ca ct zss ss hl hl' hz hss w _ h1 (Lib.hid (hx.out.rel h1)) (Lib.hid (hy.out.rel h1))).mono ?_); rintro e w2 ⟨es, D, cd, base, rfl, h2, hE2, hes⟩; have F := recs_facts hes; have HF := Lib.hid F.2; have f1 := F.1; clear F hes; obtain ⟨S, hSv⟩ : ∃ S, B (frAll (recOf es)) = S := ⟨_, rfl⟩; have HSV := Lib.hid hSv; have zS : S.size ≤ 29592 := hSv ▸ HF.out.2.2.2; clear hSv; obtain ⟨cc1, cc2⟩ := own_cap hE2 rfl; have HE2 := Lib.hid hE2; clear hE2)
    | (go_at_call 20; (with_reducible refine (frames_as HE.out es (by omega) HF.out.1 S HSV _ _ h2.self HE2.out).mono ?_); rintro e w3 ⟨rfl, h3⟩)
    | (go_at_call 17; (with_reducible refine (scan_of HS.out M (by omega) _ _ h3.self).mono ?_); rintro e w4 ⟨fs, C, cf, n, bf, err, rfl, h4, hF4, hsc⟩; have HF4 := Lib.hid hF4; have HSC := Lib.hid hsc; clear hsc hF4)
    | (go_at_call 17; (with_reducible refine (scan_of HS.out (S ++ M) (by rw [ByteArray.size_append]; omega) _ _ h4.self).mono ?_); rintro e w5 ⟨gs, G, cg, m, bg, err', rfl, h5, hG5, hsg⟩; obtain ⟨rfl, rfl, j1, j2⟩ := joined_facts HSV.out HF.out.2.2.1 HSC.out hsg; have HG5 := Lib.hid hG5; have J2 := Lib.hid j2; have HSG := Lib.hid hsg; clear hsg j2 hG5))
  have hb : ∃ b, frScan M.data.toList = (recOf fs, n, b) := by
    rcases HSC.out with ⟨_, h⟩ | ⟨_, h⟩
    · exact ⟨_, h⟩
    · exact ⟨_, h⟩
  obtain ⟨bb, hb⟩ := hb
  obtain ⟨s1, s2⟩ := scan_len hb
  have HNF := Lib.hid (fun r hr => nums_len (scan_nums hb r hr))
  have GL := Lib.hid j1
  obtain ⟨cg1, cg2⟩ := own_cap HG5.out rfl
  rw [j1] at cg1
  have HGF := Lib.hid (own_form HG5.out)
  have V1 := Lib.hid (show sameB ((gs.map (·.1)).take es.length) (es.map (·.1)) = true by
    unfold sameB
    rw [map_take, ← recOf_eq, J2.out]
    exact decide_eq_true (by rw [← rec_len es, List.take_left]))
  have V2 := Lib.hid (show sameB ((gs.map (·.1)).drop es.length) (fs.map (·.1)) = true by
    unfold sameB
    rw [List.map_drop, ← recOf_eq, ← recOf_eq, J2.out]
    exact decide_eq_true (by rw [← rec_len es, List.drop_left]))
  have L1 := Lib.hid (show ((gs.map (·.1)).take es.length).length = es.length by rw [List.length_take, List.length_map]; omega)
  have L2 := Lib.hid (show ((gs.map (·.1)).drop es.length).length = fs.length by rw [List.length_drop, List.length_map]; omega)
  have L3 := Lib.hid (show (es.map (·.1)).length = es.length by rw [List.length_map])
  have L4 := Lib.hid (show (fs.map (·.1)).length = fs.length by rw [List.length_map])
  have NG := Lib.hid (show ∀ r ∈ gs.map (·.1), r.2.1.length ≤ 1000000000 by
    intro r hr
    have hp : pure3 r ∈ recOf gs := by rw [recOf_eq]; exact List.mem_map_of_mem hr
    rw [J2.out] at hp
    rcases List.mem_append.1 hp with hp | hp
    · exact nums_len (HF.out.2.2.1 _ hp)
    · have := (frScan_again M.data.toList.length M.data.toList (Nat.le_refl _)).2.2
      rw [hb] at this
      exact nums_len (this _ hp))
  have N1 := Lib.hid (fun r (hr : r ∈ (gs.map (·.1)).take es.length) => NG.out r (List.mem_of_mem_take hr))
  have N2 := Lib.hid (fun r (hr : r ∈ (gs.map (·.1)).drop es.length) => NG.out r (List.mem_of_mem_drop hr))
  have H25 := Lib.hid (h3.trans (h4.trans h5))
  have H45 := Lib.hid h5
  clear hb j1
  rcases HGF.out with ⟨g1, g2, g3⟩ | ⟨g, g1⟩
  · subst g1
    have he0 : es.length = 0 := by have := GL.out; omega
    have hf0 : fs.length = 0 := by have := GL.out; omega
    have V3 := Lib.hid (show sameB [] [] = true from rfl)
    have N3 := Lib.hid (show ∀ r ∈ ([] : List (Int × List Int × ByteArray)), r.2.1.length ≤ 1000000000 from fun r h => by cases h)
    clear g2
    go_wp2_with (first
      | (go_at_call 19; (with_reducible refine (same_recs _ D _ cd [] [] 0 0 (Lib.hid rfl) (Lib.hid rfl) true V3 (by omega) (by omega) N3 _ _ h5.self (Lib.hid (RecsAt.empty _ _)) (Lib.hid (RecsAt.empty _ _))).mono ?_); rintro e w6 ⟨rfl, h6⟩)
      | (go_at_call 19; (with_reducible refine (same_recs _ C _ cf [] [] 0 0 (Lib.hid rfl) (Lib.hid rfl) true V3 (by omega) (by omega) N3 _ _ h6 (Lib.hid (RecsAt.empty _ _)) (Lib.hid (RecsAt.empty _ _))).mono ?_); rintro e w7 ⟨rfl, h7⟩))
    go_ret
    exact ⟨rfl, ((h2.trans H25.out).trans h7).2⟩
  · subst g1
    by_cases hcap : cg = es.length
    · have hf0 : fs.length = 0 := by omega
      have V3 := Lib.hid (show sameB [] [] = true from rfl)
      have N3 := Lib.hid (show ∀ r ∈ ([] : List (Int × List Int × ByteArray)), r.2.1.length ≤ 1000000000 from fun r h => by cases h)
      go_wp2_with (first
        | (go_at_call 19; (with_reducible refine (same_recs _ D _ cd ((gs.map (·.1)).take es.length) (es.map (·.1)) es.length es.length L1 L3 true V1 (by omega) (by omega) N1 _ _ h5.self (Lib.hid ((HG5.out.recs rfl).take _)) (Lib.hid ((HE2.out.rel H25.out).recs rfl))).mono ?_); rintro e w6 ⟨rfl, h6⟩)
        | (go_at_call 19; (with_reducible refine (same_recs _ C _ cf [] [] 0 0 (Lib.hid rfl) (Lib.hid rfl) true V3 (by omega) (by omega) N3 _ _ h6 (Lib.hid (RecsAt.empty _ _)) (Lib.hid (RecsAt.empty _ _))).mono ?_); rintro e w7 ⟨rfl, h7⟩))
      go_ret
      exact ⟨rfl, ((h2.trans H25.out).trans h7).2⟩
    · have hm1 : ¬ (gs.length < es.length) := by have := GL.out; omega
      go_wp2_with (first
        | (go_at_call 19; (with_reducible refine (same_recs _ D cg cd ((gs.map (·.1)).take es.length) (es.map (·.1)) es.length es.length L1 L3 true V1 (by omega) (by omega) N1 _ _ h5.self (Lib.hid ((HG5.out.recs rfl).take _)) (Lib.hid ((HE2.out.rel H25.out).recs rfl))).mono ?_); rintro e w6 ⟨rfl, h6⟩)
        | (go_at_call 19; (with_reducible refine (same_recs (some ⟨g, es.length * 3, none⟩) C (cg - es.length) cf ((gs.map (·.1)).drop es.length) (fs.map (·.1)) fs.length fs.length L2 L4 true V2 (by omega) (by omega) N2 _ _ h6 (Lib.hid (drop_zero' (((HG5.out.recs rfl).rel h6).drop _))) (Lib.hid ((HF4.out.rel (h5.trans h6)).recs rfl))).mono ?_); rintro e w7 ⟨rfl, h7⟩))
      go_ret
      exact ⟨rfl, ((h2.trans H25.out).trans h7).2⟩
end Go.Proofs.YtjbbfcomgglhiaaDoor
