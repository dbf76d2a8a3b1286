/- Are records the same: the document's own. -/
import Derived.Test.YtjbbfcomgglhiaaDoorRecRead
namespace Go.Proofs.YtjbbfcomgglhiaaDoor
open Go.RowKit Go.Lib
set_option linter.unusedVariables false
set_option linter.unusedSimpArgs false

theorem IntsAt.drewN {w : World} {A : Option Addr} {xs : List Int} (h : IntsAt w A xs) (n : Nat) : IntsAt (w.drewN n) A xs := h
theorem RecsAt.drewN {w : World} {A : Option Addr} {rs : List (Int × List Int × ByteArray)} (h : RecsAt w A rs) (n : Nat) : RecsAt (w.drewN n) A rs := h
def sameB (us vs : List (Int × List Int × ByteArray)) : Bool := decide (us.map pure3 = vs.map pure3)
theorem same_len {us vs : List (Int × List Int × ByteArray)} (h : us.length ≠ vs.length) : sameB us vs = false :=
  decide_eq_false fun e => h (by have := congrArg List.length e; simpa using this)
theorem same_no {us vs : List (Int × List Int × ByteArray)} (j : Nat) (h : j < us.length) (h' : j < vs.length) (hne : pure3 us[j] ≠ pure3 vs[j]) : sameB us vs = false := by
  refine decide_eq_false fun e => hne ?_
  have h1 : (us.map pure3)[j]'(by simpa using h) = pure3 us[j] := List.getElem_map ..
  have h2 : (vs.map pure3)[j]'(by simpa using h') = pure3 vs[j] := List.getElem_map ..
  rw [← h1, ← h2]
  simp only [e]
theorem same_snoc {us vs : List (Int × List Int × ByteArray)} (j : Nat) (h : j < us.length) (h' : j < vs.length) (he : (us.take j).map pure3 = (vs.take j).map pure3) (hx : pure3 us[j] = pure3 vs[j]) :
    (us.take (j + 1)).map pure3 = (vs.take (j + 1)).map pure3 := by
  rw [List.take_succ_eq_append_getElem h, List.take_succ_eq_append_getElem h', List.map_append, List.map_append, he]
  simp [hx]
theorem take_eq {xs ys : List Int} (l : Nat) (h : l < xs.length) (h' : l < ys.length) (he : xs.take l = ys.take l) (hx : xs[l] = ys[l]) : xs.take (l + 1) = ys.take (l + 1) := by
  rw [List.take_succ_eq_append_getElem h, List.take_succ_eq_append_getElem h', he, hx]
set_option maxRecDepth 100000 in
set_option maxHeartbeats 4000000 in
theorem same_full0 (A C : Option Addr) (ca cc : Nat) (us vs : List (Int × List Int × ByteArray)) (hl : us.length ≤ 1000000000) (hlen : vs.length = us.length) (hN : Hid (∀ r ∈ us, r.2.1.length ≤ 1000000000)) (w0 w : World) (hr : Rel w0 w) (ha : Hid (RecsAt w A us)) (hb : Hid (RecsAt w C vs)) :
    Calls Tryd.prog 19 #[.slice A us.length ca, .slice C us.length cc] w fun e w' => e = .returned (.bool (sameB us vs)) ∧ Rel w0 w' := by
  have HL := Lib.hid hlen
  clear hlen
  have HR := Lib.hid hr
  have HW := Lib.hid hr.self
  go_enter Tryd.func19, Tryd.ntmps19
  go_wp2
  go_loopw [5] (fun i wr => ∃ (j : Nat), j ≤ us.length ∧ i = .int .i64 j ∧ Rel w wr ∧ Hid ((us.take j).map pure3 = (vs.take j).map pure3)) (fun i _ => us.length - (intOf i).toNat)
  case atStart => exact ⟨0, by omega, rfl, HW.out, Lib.hid rfl⟩
  case round =>
    obtain ⟨j, hj, rfl, hR2, HE⟩ := hrel
    by_cases hlt : j < us.length
    · have hlt' : j < vs.length := by rw [HL.out]; exact hlt
      obtain ⟨g, off, A', c, rfl, hg, h0, h1, h2, h3⟩ := (ha.out.rel hR2) j hlt
      obtain ⟨g', off', C', c', rfl, hg', h0', h1', h2', h3'⟩ := (hb.out.rel hR2) j hlt'
      have hn := hN.out us[j] (List.getElem_mem hlt)
      have NO := Lib.hid (fun hne : pure3 us[j] ≠ pure3 vs[j] => same_no j hlt hlt' hne)
      have YES := Lib.hid (fun hx : pure3 us[j] = pure3 vs[j] => same_snoc j hlt hlt' HE.out hx)
      obtain ⟨⟨k, xs, t⟩, hu⟩ : ∃ r, us[j] = r := ⟨_, rfl⟩
      obtain ⟨⟨k', ys, t'⟩, hv⟩ : ∃ r, vs[j] = r := ⟨_, rfl⟩
      rw [hu] at h0 h1 h2 h3 hn NO YES
      rw [hv] at h0' h1' h2' h3' NO YES
      simp only at h0 h1 h2 h3 h0' h1' h2' h3' hn
      have HX := Lib.hid h3
      have HX' := Lib.hid h3'
      clear h3 h3' hu hv HE hlt'
      by_cases e1 : k = k'
      · have f1 : (k != k') = false := by simp [e1]
        by_cases e2 : t.data.toList = t'.data.toList
        · have f2 := list_of.2 e2
          have f2' : (t.toList != t'.toList) = false := by unfold bne; rw [f2]; rfl
          by_cases e3 : xs.length = ys.length
          · have E1 := Lib.hid e1
            have E2 := Lib.hid e2
            have E3 := Lib.hid e3
            rw [← e3] at h1'
            clear e1 e2 e3
            go_wp2_with (fail)
            go_quiet (fail)
            go_wp2_with (fail)
            have hR3 := hR2.drewN nq
            generalize hw3 : wr.drewN nq = w3 at hR3 ⊢
            have HX3 := Lib.hid (HX.out.drewN nq)
            have HX3' := Lib.hid (HX'.out.drewN nq)
            rw [hw3] at HX3 HX3'
            have q1 : w3.cell? ⟨g, off + j * 3 + 1, none⟩ = some (.slice A' xs.length c) := by rw [← hw3]; exact h1
            have q1' : w3.cell? ⟨g', off' + j * 3 + 1, none⟩ = some (.slice C' xs.length c') := by rw [← hw3]; exact h1'
            have hgw : g < w3.heap.size := by rw [← hw3]; exact hg
            have hgw' : g' < w3.heap.size := by rw [← hw3]; exact hg'
            clear hw3 h0 h1 h2 h0' h1' h2' hg hg'
            have hs3 := Lib.hid hR3.self
            go_loopw [6] (fun i wr => ∃ (l : Nat), l ≤ xs.length ∧ i = .int .i64 l ∧ Rel w3 wr ∧ Hid (xs.take l = ys.take l)) (fun i _ => xs.length - (intOf i).toNat)
            case atStart => exact ⟨0, by omega, rfl, hs3.out, Lib.hid rfl⟩
            case round =>
              obtain ⟨l, hl2, rfl, hR4, HT⟩ := hrel
              have p1 := (hR4.2.cell (p := ⟨g, off + j * 3 + 1, none⟩) hgw).trans q1
              have p1' := (hR4.2.cell (p := ⟨g', off' + j * 3 + 1, none⟩) hgw').trans q1'
              clear q1 q1'
              by_cases hlt2 : l < xs.length
              · obtain ⟨b, rfl, hb1, hb2⟩ := (HX3.out.rel hR4) l hlt2
                obtain ⟨b', rfl, hb1', hb2'⟩ := (HX3'.out.rel hR4) l (by rw [← E3.out]; exact hlt2)
                obtain ⟨x, hx⟩ : ∃ x, xs[l] = x := ⟨_, rfl⟩
                obtain ⟨y, hy⟩ : ∃ y, ys[l]'(by rw [← E3.out]; exact hlt2) = y := ⟨_, rfl⟩
                rw [hx] at hb2
                rw [hy] at hb2'
                have HX5 := Lib.hid hx
                have HY5 := Lib.hid hy
                clear hx hy
                by_cases hxy : x = y
                · have g1 : (x != y) = false := by simp [hxy]
                  have HT2 := Lib.hid (take_eq l hlt2 (by rw [← E3.out]; exact hlt2) HT.out (by rw [HX5.out, HY5.out, hxy]))
                  clear hxy
                  go_wp2_with (fail)
                  go_quiet (fail)
                  go_wp2_with (fail)
                  go_roundw
                  case rel => exact ⟨l + 1, by omega, by go_num, hR4.drewN _, HT2⟩
                  case measure => simp [intOf]; omega
                · have g1 : (x != y) = true := by simp [hxy]
                  have hs := Lib.hid (NO.out (fun e => hxy (by
                    have e' : xs = ys := congrArg (fun p => p.2.1) e
                    rw [← HX5.out, ← HY5.out]
                    simp only [e'])))
                  clear hxy
                  go_wp2_with (fail)
                  go_quiet (fail)
                  go_wp2_with (fail)
                  go_ret
                  exact ⟨ret_bool (by rw [hs.out]), HR.out.trans (hR3.trans (hR4.drewN _))⟩
              · have hf : xs = ys := by
                  have h1 := HT.out
                  rw [show l = xs.length by omega, List.take_length, E3.out, List.take_length] at h1
                  exact h1
                have HY := Lib.hid (YES.out (by unfold pure3; simp only; rw [E1.out, hf, E2.out]))
                clear hf
                go_wp2_with (fail)
                go_roundw
                case rel => exact ⟨j + 1, by omega, by go_num, hR3.trans hR4, HY⟩
                case measure => simp [intOf]; omega
          · have f3 : (xs.length != ys.length) = true := by simp [e3]
            have f3' : ((xs.length : Int) != (ys.length : Int)) = true := by simp; omega
            have hs := Lib.hid (NO.out (fun e => e3 (congrArg (fun p => p.2.1.length) e)))
            clear e1 e2 e3
            go_wp2_with (fail)
            go_quiet (fail)
            go_wp2_with (fail)
            go_ret
            exact ⟨ret_bool (by rw [hs.out]), HR.out.trans (hR2.drewN _)⟩
        · have f2 : (t.toList == t'.toList) = false := by
            cases h : (t.toList == t'.toList)
            · rfl
            · exact absurd (list_of.1 h) e2
          have f2' : (t.toList != t'.toList) = true := by unfold bne; rw [f2]; rfl
          have hs := Lib.hid (NO.out (fun e => e2 (congrArg (fun p => p.2.2) e)))
          clear e1 e2
          go_wp2_with (fail)
          go_quiet (fail)
          go_wp2_with (fail)
          go_ret
          exact ⟨ret_bool (by rw [hs.out]), HR.out.trans (hR2.drewN _)⟩
      · have f1 : (k != k') = true := by simp [e1]
        have hs := Lib.hid (NO.out (fun e => e1 (congrArg (fun p => p.1) e)))
        clear e1
        go_wp2_with (fail)
        go_quiet (fail)
        go_wp2_with (fail)
        go_ret
        exact ⟨ret_bool (by rw [hs.out]), HR.out.trans (hR2.drewN _)⟩
    · obtain rfl : j = us.length := by omega
      have hs := Lib.hid (show sameB us vs = true by
        have h1 := HE.out
        rw [List.take_length, ← HL.out, List.take_length] at h1
        exact decide_eq_true h1)
      go_wp2_with (fail)
      go_ret
      exact ⟨ret_bool (by rw [hs.out]), HR.out.trans hR2⟩
set_option maxHeartbeats 1000000 in
theorem same_any (A C : Option Addr) (ca cc : Nat) (us vs : List (Int × List Int × ByteArray)) (hl : us.length ≤ 1000000000) (hl' : vs.length ≤ 1000000000) (hN : Hid (∀ r ∈ us, r.2.1.length ≤ 1000000000)) (w0 w : World) (hr : Rel w0 w) (ha : Hid (RecsAt w A us)) (hb : Hid (RecsAt w C vs)) :
    Calls Tryd.prog 19 #[.slice A us.length ca, .slice C vs.length cc] w fun e w' => e = .returned (.bool (sameB us vs)) ∧ Rel w0 w' := by
  by_cases h : us.length = vs.length
  · rw [← h]
    exact same_full0 A C ca cc us vs hl h.symm hN w0 w hr ha hb
  · have f1 : (us.length != vs.length) = true := by simp [h]
    have f2 : ((us.length : Int) != (vs.length : Int)) = true := by simp; omega
    have hs := Lib.hid (same_len h)
    clear h
    go_enter Tryd.func19, Tryd.ntmps19
    go_wp2_with (fail)
    go_ret
    exact ⟨ret_bool (by rw [hs.out]), hr⟩
end Go.Proofs.YtjbbfcomgglhiaaDoor
