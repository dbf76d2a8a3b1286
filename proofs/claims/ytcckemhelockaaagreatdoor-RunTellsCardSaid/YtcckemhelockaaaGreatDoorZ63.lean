/- The document's own answers of layer 11: play, Run, Steps. -/
import Derived.Test.YtcckemhelockaaaGreatDoorZL
import Derived.Test.YtcckemhelockaaaGreatDoorZ00
import Derived.Test.YtcckemhelockaaaGreatDoorZ01
import Derived.Test.YtcckemhelockaaaGreatDoorZ02
import Derived.Test.YtcckemhelockaaaGreatDoorZ03
import Derived.Test.YtcckemhelockaaaGreatDoorZ23
import Derived.Test.YtcckemhelockaaaGreatDoorZ43
import Derived.Test.YtcckemhelockaaaGreatDoorZ44
import Derived.Test.YtcckemhelockaaaGreatDoorZ50
import Derived.Test.YtcckemhelockaaaGreatDoorZ59
import Derived.Test.YtcckemhelockaaaGreatDoorZ60
import Derived.Test.YtcckemhelockaaaGreatDoorZ61
import Derived.Test.YtcckemhelockaaaGreatDoorZ62
namespace Go.Proofs.YtcckemhelockaaaGreatDoor
open Go.RowKit Go.Lib
set_option linter.unusedVariables false
set_option linter.unusedSimpArgs false
theorem rstep_any (b : Nat) (s : Ms) (o n : Int) (nm : List UInt8) (i len : Nat) (hin : inOk len i (o, n, nm) = true) (A : Option Addr) (ca : Nat) (os : List Of) (hok : offsOk os = true) (hi : i ≤ 100000) (hn : i64 n) (hs : s.1.length ≤ 1000) (w0 w : World) (hr : Rel w0 w) (h : Mr w w0.heap.size b s) (ho : OffArg w A ca os) :
    Calls Tryz.prog 43 #[.pointer (some ⟨b, 0, none⟩), .agg #[.int .i64 o, .int .i64 n, .string (B nm)], .int .i64 (i : Int), .slice A os.length ca] w fun r w' => r = .returned (.int .i64 ((stepM os (o, n, nm) i s).1 : Int)) ∧ Mr w' w0.heap.size b (stepM os (o, n, nm) i s).2 ∧ Rel w0 w' ∧ Kx b w w' := by
  rw [inOk_eq] at hin
  simp only [Bool.and_eq_true, decide_eq_true_eq] at hin
  obtain ⟨⟨h1, h2⟩, h3⟩ := hin
  have hn0 : 0 ≤ n := by
    have : 0 ≤ leastO i o := by unfold leastO; split <;> omega
    omega
  have ways : o = 1 ∨ o = 2 ∨ o = 3 ∨ o = 4 ∨ o = 5 ∨ o = 6 ∨ o = 7 ∨ o = 8 ∨ o = 9 ∨ o = 10 ∨ o = 11 ∨ o = 12 ∨ o = 13 := by omega
  rcases ways with rfl | rfl | rfl | rfl | rfl | rfl | rfl | rfl | rfl | rfl | rfl | rfl | rfl
  · exact rstep_1 b s n nm i A ca os hi hn hs w0 w hr h ho
  · exact rstep_2 b s n nm i A ca os hok (by simpa using h3) hi hn hs w0 w hr h ho
  · exact rstep_3 b s n nm i A ca os hok (by simpa using h3) hi hn hs w0 w hr h ho
  · exact rstep_4 b s n nm i A ca os hok (by simpa using h3) hi hn hs w0 w hr h ho
  · exact rstep_5 b s n nm i A ca os hi hn hs w0 w hr h ho
  · exact rstep_6 b s n nm i A ca os hi hn hs w0 w hr h ho
  · exact rstep_t7 b s n nm i A ca os hi hn hs w0 w hr h ho
  · exact rstep_t8 b s n nm i A ca os hi hn hs w0 w hr h ho
  · obtain ⟨⟨x, s1⟩, hx⟩ : ∃ p, takeM s = p := ⟨_, rfl⟩
    cases x with
    | some v => exact rstep_9s b s n nm i A ca os v s1 hx hn0 hi hn hs w0 w hr h ho
    | none => exact rstep_9n b s n nm i A ca os s1 hx hi hn hs w0 w hr h ho
  · by_cases hc : n < (os.length : Int)
    · exact rstep_10y b s n nm i A ca os hc hi hn hs w0 w hr h ho
    · exact rstep_10n b s n nm i A ca os hc hi hn hs w0 w hr h ho
  · exact rstep_t11 b s n nm i A ca os hi hn hs w0 w hr h ho
  · obtain ⟨⟨x, s1⟩, hx⟩ : ∃ p, takeM s = p := ⟨_, rfl⟩
    cases x with
    | some v =>
      by_cases hv : v = 0
      · subst hv; exact rstep_12z b s n nm i A ca os hn0 s1 hx hi hn hs w0 w hr h ho
      · exact rstep_12s b s n nm i A ca os v hv s1 hx hi hn hs w0 w hr h ho
    | none => exact rstep_12n b s n nm i A ca os hn0 s1 hx hi hn hs w0 w hr h ho
  · exact rstep_13 b s n nm i A ca os hn0 hi hn hs w0 w hr h ho
theorem put_len {s : Ms} {x : Ce} (h : s.1.length ≤ 100) : (putM s x).1.length ≤ 100 := by
  unfold putM
  split
  · split
    · exact h
    · simp only [List.length_append, List.length_cons, List.length_nil]; omega
  · exact h
theorem minus_len {s : Ms} {x : Ce} {f : Int → Rs} (h : s.1.length ≤ 100) : (minusM s x f).1.length ≤ 100 := by
  cases x with
  | none => exact put_len h
  | some v =>
    unfold minusM
    simp only
    split
    · split
      · exact h
      · exact put_len h
    · exact h
theorem step_len {l : List Of} {x : In} {i : Nat} {s : Ms} (h : s.1.length ≤ 100) : (stepM l x i s).2.1.length ≤ 100 := by
  have ht := take_len s
  have ht2 := take_len (takeM s).2
  have h1 : (takeM s).2.1.length ≤ 100 := by omega
  unfold stepM
  repeat' split
  all_goals first
    | exact put_len h
    | exact put_len h1
    | exact minus_len h1
    | exact h1
    | exact h
    | exact put_len (by omega)
/-- A call of step, told spelled. -/
theorem rstep_as (b : Nat) (s s' : Ms) (o n : Int) (nm : List UInt8) (i j len : Nat) (os : List Of) (hst : Hid (stepM os (o, n, nm) i s = (j, s'))) (hin : inOk len i (o, n, nm) = true) (A : Option Addr) (ca : Nat) (hok : offsOk os = true) (hi : i ≤ 100000) (hn : i64 n) (hs : s.1.length ≤ 1000) (w0 w : World) (hr : Rel w0 w) (h : Mr w w0.heap.size b s) (ho : OffArg w A ca os) :
    Calls Tryz.prog 43 #[.pointer (some ⟨b, 0, none⟩), .agg #[.int .i64 o, .int .i64 n, .string (B nm)], .int .i64 (i : Int), .slice A os.length ca] w fun r w' => r = .returned (.int .i64 (j : Int)) ∧ Mr w' w0.heap.size b s' ∧ Rel w0 w' ∧ Kx b w w' := by
  have := rstep_any b s o n nm i len hin A ca os hok hi hn hs w0 w hr h ho
  rw [hst.out] at this
  exact this
theorem end_many {P : List Ce} (h : P ≠ []) (x : Ce) : endR (P ++ [x], 0) = .error 100 := by
  cases P with
  | nil => exact absurd rfl h
  | cons a t =>
    cases t with
    | nil => rfl
    | cons b t => rfl
abbrev PV (r : Rs) (n : Nat) : Value := .tuple #[.agg #[.int .i64 (rsV r), .bool (rsB r)], .int .i64 (rsE r), .int .i64 (n : Int)]
set_option maxRecDepth 100000 in
set_option maxHeartbeats 4000000 in
theorem rplay_any (A A' : Option Addr) (c c' : Nat) (l : List In) (os : List Of) (w0 w : World) (hr : Rel w0 w) (h : InsArg w A c l) (ho : OffArg w A' c' os) :
    Calls Tryz.prog 26 #[.slice A l.length c, .slice A' os.length c'] w fun r w' => r = .returned (PV (runS os l) (stepsS os l)) ∧ Rel w0 w' := by
  have HR := Lib.hid hr
  have HI := Lib.hid h
  have HO := Lib.hid ho
  have HA := Lib.hid (hr.self.alloc (.cells #[.int .i64 0, .bool false] 66))
  have HX := Lib.hid (Bk.new w 66 #[.int .i64 0, .bool false])
  have hws : w.heap.size < (w.alloc (.cells #[.int .i64 0, .bool false] 66)).heap.size := by rw [World.size_alloc]; omega
  obtain ⟨W, hW⟩ : ∃ W, w.alloc (.cells #[.int .i64 0, .bool false] 66) = W := ⟨_, rfl⟩
  rw [hW] at HA HX hws
  have hl : l.length ≤ 9223372036854775807 := by have := h.1; have := h.2.1; unfold maxLen at this; omega
  clear h ho hr
  obtain ⟨a, ha⟩ : ∃ a, offsOk os = a := ⟨_, rfl⟩
  obtain ⟨d, hd⟩ : ∃ d, codeOk l = d := ⟨_, rfl⟩
  have HC1 := Lib.hid (fun (w' : World) (hh : Rel w w') => rright9_any A' c' os w' w' hh.self (HO.out.rel hh))
  have HC2 := Lib.hid (fun (w' : World) (hh : Rel w w') => rright10_any A c l w' w' hh.self (HI.out.rel hh))
  rw [ha] at HC1
  rw [hd] at HC2
  have HAa := Lib.hid ha
  have HDd := Lib.hid hd
  clear ha hd
  cases a with
  | false =>
    have HFin := Lib.hid (run_not HAa.out l)
    go_enter Tryz.func26, Tryz.ntmps26
    go_upto_region 3 with (first
      | (go_at_call 35; (with_reducible refine (HC1.out _ HA.out).mono ?_); rintro r w1 ⟨rfl, h1⟩; have R1 := Lib.hid (HA.out.trans h1); have X1 := Lib.hid (HX.out.rel h1))
      | (go_at_call 22; (with_reducible refine (HC2.out _ R1.out).mono ?_); rintro r w2 ⟨rfl, h2⟩; have R2 := Lib.hid (R1.out.trans h2); have X2 := Lib.hid (X1.out.rel h2)))
    obtain ⟨⟨k0, k1⟩, k2, k3⟩ := X2.out.two
    obtain ⟨⟨j0, j1⟩, j2, j3⟩ := (show Bk (w2.setCell ⟨w.heap.size, 0, none⟩ (.int .i64 0)) w.heap.size 66 #[.int .i64 0, .bool false] from X2.out.set_ 0 _).two
    obtain ⟨⟨r0, r1⟩, _⟩ := (X2.out.put (.int .i64 0) (.bool false)).two
    go_wp2_with (fail)
    exact bodyPost_ret (v := .tuple #[.agg #[.int .i64 0, .bool false], .int .i64 1, .int .i64 0]) (by simp [results, Tryz.results26, go_sem, r0, r1]) rfl ⟨by rw [HFin.out.1, HFin.out.2]; rfl, HR.out.trans (R2.out.box (Nat.le_refl _) _ _)⟩
  | true =>
    cases d with
    | false =>
      have HFin := Lib.hid (run_wrong HAa.out HDd.out)
      go_enter Tryz.func26, Tryz.ntmps26
      go_upto_region 3 with (first
        | (go_at_call 35; (with_reducible refine (HC1.out _ HA.out).mono ?_); rintro r w1 ⟨rfl, h1⟩; have R1 := Lib.hid (HA.out.trans h1); have X1 := Lib.hid (HX.out.rel h1))
        | (go_at_call 22; (with_reducible refine (HC2.out _ R1.out).mono ?_); rintro r w2 ⟨rfl, h2⟩; have R2 := Lib.hid (R1.out.trans h2); have X2 := Lib.hid (X1.out.rel h2)))
      obtain ⟨⟨k0, k1⟩, k2, k3⟩ := X2.out.two
      obtain ⟨⟨j0, j1⟩, j2, j3⟩ := (show Bk (w2.setCell ⟨w.heap.size, 0, none⟩ (.int .i64 0)) w.heap.size 66 #[.int .i64 0, .bool false] from X2.out.set_ 0 _).two
      obtain ⟨⟨r0, r1⟩, _⟩ := (X2.out.put (.int .i64 0) (.bool false)).two
      go_wp2_with (fail)
      exact bodyPost_ret (v := .tuple #[.agg #[.int .i64 0, .bool false], .int .i64 100, .int .i64 0]) (by simp [results, Tryz.results26, go_sem, r0, r1]) rfl ⟨by rw [HFin.out.1, HFin.out.2]; rfl, HR.out.trans (R2.out.box (Nat.le_refl _) _ _)⟩
    | true =>
      have hf := fwd_of HDd.out
      have HYes := Lib.hid (run_yes HAa.out HDd.out)
      have HGd := Lib.hid (codeOk_iff.1 HDd.out)
      have hl5 : l.length ≤ 5000 := HGd.out.1
      have HFw := Lib.hid hf
      clear hf
      go_enter Tryz.func26, Tryz.ntmps26
      go_wp2_with (first
        | (go_at_call 35; (with_reducible refine (HC1.out _ HA.out).mono ?_); rintro r w1 ⟨rfl, h1⟩; have R1 := Lib.hid (HA.out.trans h1); have X1 := Lib.hid (HX.out.rel h1))
        | (go_at_call 22; (with_reducible refine (HC2.out _ R1.out).mono ?_); rintro r w2 ⟨rfl, h2⟩; have R2 := Lib.hid (R1.out.trans h2); have X2 := Lib.hid (X1.out.rel h2)))
      have hb2 := (R1.out.trans h2).size
      have hw2 : w.heap.size < w2.heap.size := Nat.lt_of_lt_of_le hws (Nat.le_trans h1.size h2.size)
      have hbw : w2.heap.size ≠ w.heap.size := by omega
      have HN := Lib.hid (Mc.new (T := 66) (M := 94) R2.out.self)
      have HRN := Lib.hid (R2.out.self.alloc (.cells #[.slice none 0 0, .int .i64 0] 94))
      clear h1 h2
      go_loopw [10, 11] (fun sn i wr => ∃ (n at_ : Nat) (s : Ms), at_ ≤ l.length ∧ n ≤ at_ ∧ sn = .int .i64 (n : Int) ∧ i = .int .i64 (at_ : Int) ∧ s.1.length ≤ 100 ∧ Mr wr w2.heap.size w2.heap.size s ∧ Rel w2 wr ∧ Hid (goM os l at_ s n = goM os l 0 ([], 0) 0)) (fun _ i _ => l.length - (RowKit.intOf i).toNat)
      case atStart => exact ⟨0, 0, ([], 0), by omega, by omega, rfl, rfl, by simp, HN.out, HRN.out, Lib.hid rfl⟩
      case round =>
        obtain ⟨n, at_, ⟨S, E⟩, hat, hna, rfl, rfl, hs, hm, hRw, HG⟩ := hrel
        have HRw := Lib.hid hRw
        have HM := Lib.hid hm
        have XR := Lib.hid (X2.out.rel hRw)
        have HRf := Lib.hid (R2.out.trans hRw)
        have hm0 := hm
        obtain ⟨hC, As, cs, hb, hst⟩ := hm0
        obtain ⟨Ln, hLn⟩ : ∃ Ln, S.length = Ln := ⟨_, rfl⟩
        have HBr := Lib.hid (show Bk wr w2.heap.size 94 #[.slice As Ln cs, .int .i64 E] from by rw [← hLn]; exact hb)
        have HSr := Lib.hid (show StkOwn 66 wr w2.heap.size (.slice As Ln cs) S from by rw [← hLn]; exact hst)
        obtain ⟨⟨v0, v1⟩, v2, v3⟩ := HBr.out.two
        have HLn := Lib.hid hLn
        have hs2 : Ln ≤ 100 := by rw [← hLn]; exact hs
        clear hm hRw hb hst hLn
        by_cases hin : at_ < l.length ∧ E = 0
        · obtain ⟨hlt, rfl⟩ := hin
          obtain ⟨g, off, o, x, nm, rfl, c0, c1, c2, hx⟩ := ins_at HI.out.2.2.2 HRf.out at_ hlt
          have hfit := (HI.out.2.2.1 _ (List.getElem_mem hlt)).2.1
          rw [hx] at hfit
          have hok := HGd.out.2 at_ hlt
          rw [hx] at hok
          have hxn := step_next (l := os) HFw.out hlt (S, 0)
          rw [hx] at hxn
          have hsl := step_len (l := os) (x := (o, x, nm)) (i := at_) (s := (S, 0)) hs
          have hge : l[at_]? = some (o, x, nm) := by rw [List.getElem?_eq_getElem hlt, hx]
          have hgo := go_step (l := os) HFw.out hge S n
          obtain ⟨⟨j, s'⟩, hj⟩ : ∃ p, stepM os (o, x, nm) at_ (S, 0) = p := ⟨_, rfl⟩
          rw [hj] at hxn hsl hgo
          simp only at hxn hsl hgo
          have HJ := Lib.hid hj
          have HGo := Lib.hid (hgo.symm.trans HG.out)
          obtain ⟨hj1, hj2⟩ := hxn
          have HOk := Lib.hid hok
          have lt1 : (at_ : Int) < (l.length : Int) := by omega
          have q1 : IntKind.i64.wrap ((n : Int) + 1) = (n : Int) + 1 := IntWalk.i64_in _ (by omega)
          have hs3 : (S, (0 : Int)).1.length ≤ 1000 := Nat.le_trans hs (by omega)
          have hat5 : at_ ≤ 100000 := by omega
          have HFit := Lib.hid hfit
          have HOs := Lib.hid (HO.out.rel HRf.out)
          clear hx hj hgo hge hok hs hfit
          go_wp2_with (go_at_call 43; (with_reducible refine (rstep_as w2.heap.size (S, 0) s' o x nm at_ j l.length os HJ HOk.out A' c' HAa.out hat5 HFit.out hs3 w2 _ HRw.out HM.out HOs.out).mono ?_); rintro r w4 ⟨rfl, m4, r4, k4⟩)
          go_roundw
          case rel => exact ⟨n + 1, j, s', hj2, by omega, by go_num, rfl, hsl, m4, r4, HGo⟩
          case measure => simp [RowKit.intOf]; omega
        · have HEnd := Lib.hid (show goM os l 0 ([], 0) 0 = ((S, E), n) by
            rw [← HG.out]
            by_cases he : E = 0
            · exact go_end _ _ _ _ _ (by omega)
            · exact go_err _ _ _ _ _ he)
          have HFin0 := Lib.hid (show runS os l = endR (S, E) ∧ stepsS os l = n by rw [HYes.out.1, HYes.out.2, HEnd.out]; exact ⟨rfl, rfl⟩)
          by_cases he : E = 0
          · subst he
            obtain rfl : at_ = l.length := by omega
            rcases stack_ways S with rfl | ⟨P, x, rfl⟩
            · have HFin := Lib.hid (show runS os l = .error 100 ∧ stepsS os l = n by rw [HFin0.out.1, HFin0.out.2]; exact ⟨rfl, rfl⟩)
              obtain rfl : Ln = 0 := HLn.out.symm
              have HB5 := Lib.hid (HBr.out.set_ 1 (.int .i64 100))
              have HX5 := Lib.hid (XR.out.far (p := ⟨w2.heap.size, 1, none⟩) (Ne.symm hbw) (.int .i64 100))
              obtain ⟨⟨s0, s1⟩, s2, s3⟩ := (show Bk _ w2.heap.size 94 #[.slice As 0 cs, .int .i64 100] from HB5.out).two
              obtain ⟨⟨k0, k1⟩, k2, k3⟩ := HX5.out.two
              obtain ⟨⟨j0, j1⟩, j2, j3⟩ := (show Bk ((wr.setCell ⟨w2.heap.size, 1, none⟩ (.int .i64 100)).setCell ⟨w.heap.size, 0, none⟩ (.int .i64 0)) w.heap.size 66 #[.int .i64 0, .bool false] from HX5.out.set_ 0 _).two
              obtain ⟨⟨r0, r1⟩, _⟩ := (HX5.out.put (.int .i64 0) (.bool false)).two
              go_upto_region 16 with (fail)
              refine wp_region_held_drew (S := (fun w' => Bk w' w2.heap.size 94 #[.slice As 0 cs, .int .i64 100])) (by kernel_rfl) (show Bk (wr.setCell ⟨w2.heap.size, 1, none⟩ (.int .i64 100)).drew w2.heap.size _ _ from HB5.out) (fun hHeld => ?_)
              refine held_take (i := 0) (v := ?_) (some 66) rfl rfl (by kernel_rfl) (by kernel_rfl) (by kernel_rfl) (fun _ _ _ h => h) (Or.inl ⟨by rfl, ?_⟩) hHeld ?_
              rotate_left 1
              · intro w' (h : Bk w' w2.heap.size _ _); obtain ⟨⟨z0, z1⟩, _⟩ := h.two; go_simp; try with_reducible rfl
              try simp only [Act.put, List.setIfInBounds_toArray, List.set_cons_zero, List.set_cons_succ]
              refine held_take (i := 1) (v := ?_) (some 67) rfl rfl (by kernel_rfl) (by kernel_rfl) (by kernel_rfl) (fun _ _ _ h => h) (Or.inl ⟨by rfl, ?_⟩) hHeld ?_
              rotate_left 1
              · intro w' (h : Bk w' w2.heap.size _ _); obtain ⟨⟨z0, z1⟩, _⟩ := h.two; go_simp; try with_reducible rfl
              try simp only [Act.put, List.setIfInBounds_toArray, List.set_cons_zero, List.set_cons_succ]
              refine held_take (i := 2) (v := ?_) (some 68) rfl rfl (by kernel_rfl) (by kernel_rfl) (by kernel_rfl) (fun _ _ _ h => h) (Or.inl ⟨by rfl, ?_⟩) hHeld ?_
              rotate_left 1
              · intro w' (h : Bk w' w2.heap.size _ _); obtain ⟨⟨z0, z1⟩, _⟩ := h.two; go_simp; try with_reducible rfl
              try simp only [Act.put, List.setIfInBounds_toArray, List.set_cons_zero, List.set_cons_succ]
              refine held_take (i := 3) (v := ?_) (some 69) rfl rfl (by kernel_rfl) (by kernel_rfl) (by kernel_rfl) (fun _ _ _ h => h) (Or.inl ⟨by rfl, ?_⟩) hHeld ?_
              rotate_left 1
              · intro w' (h : Bk w' w2.heap.size _ _); obtain ⟨⟨z0, z1⟩, _⟩ := h.two; go_simp; try with_reducible rfl
              try simp only [Act.put, List.setIfInBounds_toArray, List.set_cons_zero, List.set_cons_succ]
              refine held_take (i := 4) (v := ?_) (some 70) rfl rfl (by kernel_rfl) (by kernel_rfl) (by kernel_rfl) (fun _ _ _ h => h) (Or.inl ⟨by rfl, ?_⟩) hHeld ?_
              rotate_left 1
              · intro w' (h : Bk w' w2.heap.size _ _); obtain ⟨⟨z0, z1⟩, _⟩ := h.two; go_simp; try with_reducible rfl
              try simp only [Act.put, List.setIfInBounds_toArray, List.set_cons_zero, List.set_cons_succ]
              refine held_take (i := 5) (v := ?_) (some 71) rfl rfl (by kernel_rfl) (by kernel_rfl) (by kernel_rfl) (fun _ _ _ h => h) (Or.inl ⟨by rfl, ?_⟩) hHeld ?_
              rotate_left 1
              · intro w' (h : Bk w' w2.heap.size _ _); obtain ⟨⟨z0, z1⟩, _⟩ := h.two; go_simp; try with_reducible rfl
              try simp only [Act.put, List.setIfInBounds_toArray, List.set_cons_zero, List.set_cons_succ]
              refine held_one (j := 6) (by kernel_rfl) rfl (fun K hK => ?_)
              try simp only [List.getElem_toArray, List.getElem_cons_succ, List.getElem_cons_zero]
              rw [if_pos (by rfl)]
              go_simp
              refine hK.out _ _ ((hHeld.far (p := ⟨w.heap.size, 0, none⟩) hbw _).far (p := ⟨w.heap.size, 1, none⟩) hbw _) (fun hHeld => ?_)
              clear hK K
              try simp only [Act.put, List.setIfInBounds_toArray, List.set_cons_zero, List.set_cons_succ]
              refine held_take (i := 7) (v := ?_) (some 5) rfl rfl (by kernel_rfl) (by kernel_rfl) (by kernel_rfl) (fun _ _ _ h => h) (Or.inl ⟨by rfl, ?_⟩) hHeld ?_
              rotate_left 1
              · intro w' (h : Bk w' w2.heap.size _ _); obtain ⟨⟨z0, z1⟩, _⟩ := h.two; go_simp; try with_reducible rfl
              try simp only [Act.put, List.setIfInBounds_toArray, List.set_cons_zero, List.set_cons_succ]
              refine held_take (i := 8) (v := ?_) (some 6) rfl rfl (by kernel_rfl) (by kernel_rfl) (by kernel_rfl) (fun _ _ _ h => h) (Or.inl ⟨by rfl, ?_⟩) hHeld ?_
              rotate_left 1
              · intro w' (h : Bk w' w2.heap.size _ _); obtain ⟨⟨z0, z1⟩, _⟩ := h.two; go_simp; try with_reducible rfl
              try simp only [Act.put, List.setIfInBounds_toArray, List.set_cons_zero, List.set_cons_succ]
              refine wpAnyH_done (by kernel_rfl) ?_ _
              go_wp2_with (fail)
              exact bodyPost_ret (v := .tuple #[.agg #[.int .i64 0, .bool false], .int .i64 100, .int .i64 (n : Int)]) (by simp [results, Tryz.results26, go_sem, r0, r1]) rfl ⟨by rw [HFin.out.1, HFin.out.2]; rfl, HR.out.trans (((HRf.out.setCell (p := ⟨w2.heap.size, 1, none⟩) hb2 (.int .i64 100)).drew).box (Nat.le_refl _) _ _)⟩
            · by_cases hP : P = []
              · subst hP
                have HFin := Lib.hid (show runS os l = .ok x ∧ stepsS os l = n by rw [HFin0.out.1, HFin0.out.2]; exact ⟨rfl, rfl⟩)
                have hLb : ((Ln : Int) == 1) = true := by have := HLn.out; simp at this; rw [beq_iff_eq]; omega
                have l0 : (0 : Int) < (Ln : Int) := by have := HLn.out; simp at this; omega
                obtain ⟨gs, cap, hv, _, hgl, _, t0, t1, _⟩ := HSr.out.top
                injection hv with e1 e2 e3
                subst e1
                subst e3
                clear e2
                obtain ⟨xn, hxn⟩ : ∃ xn, x.getD 0 = xn := ⟨_, rfl⟩
                obtain ⟨xi, hxi⟩ : ∃ xi, x.isSome = xi := ⟨_, rfl⟩
                rw [hxn] at t0
                rw [hxi] at t1
                simp only [List.length_nil, Nat.zero_mul, Nat.zero_add] at t0 t1
                have HXx := Lib.hid (show PV (.ok x) n = .tuple #[.agg #[.int .i64 xn, .bool xi], .int .i64 0, .int .i64 (n : Int)] by rw [← hxn, ← hxi]; cases x <;> rfl)
                obtain ⟨⟨k0, k1⟩, k2, k3⟩ := XR.out.two
                obtain ⟨⟨j0, j1⟩, j2, j3⟩ := (show Bk (wr.setCell ⟨w.heap.size, 0, none⟩ (.int .i64 xn)) w.heap.size 66 #[.int .i64 xn, .bool false] from XR.out.set_ 0 _).two
                obtain ⟨⟨r0, r1⟩, _⟩ := (XR.out.put (.int .i64 xn) (.bool xi)).two
                clear hxn hxi
                go_wp2_with (fail)
                exact bodyPost_ret (v := .tuple #[.agg #[.int .i64 xn, .bool xi], .int .i64 0, .int .i64 (n : Int)]) (by simp [results, Tryz.results26, go_sem, r0, r1]) rfl ⟨by rw [HFin.out.1, HFin.out.2, HXx.out], HR.out.trans (HRf.out.box (Nat.le_refl _) _ _)⟩
              · have hP2 : P.length ≠ 0 := fun e => hP (List.length_eq_zero_iff.1 e)
                have HFin := Lib.hid (show runS os l = .error 100 ∧ stepsS os l = n by rw [HFin0.out.1, HFin0.out.2]; exact ⟨end_many hP x, rfl⟩)
                have hLb : ((Ln : Int) == 1) = false := by have := HLn.out; simp at this; rw [beq_eq_false_iff_ne]; omega
                have HB5 := Lib.hid (HBr.out.set_ 1 (.int .i64 100))
                have HX5 := Lib.hid (XR.out.far (p := ⟨w2.heap.size, 1, none⟩) (Ne.symm hbw) (.int .i64 100))
                obtain ⟨⟨s0, s1⟩, s2, s3⟩ := (show Bk _ w2.heap.size 94 #[.slice As Ln cs, .int .i64 100] from HB5.out).two
                obtain ⟨⟨k0, k1⟩, k2, k3⟩ := HX5.out.two
                obtain ⟨⟨j0, j1⟩, j2, j3⟩ := (show Bk ((wr.setCell ⟨w2.heap.size, 1, none⟩ (.int .i64 100)).setCell ⟨w.heap.size, 0, none⟩ (.int .i64 0)) w.heap.size 66 #[.int .i64 0, .bool false] from HX5.out.set_ 0 _).two
                obtain ⟨⟨r0, r1⟩, _⟩ := (HX5.out.put (.int .i64 0) (.bool false)).two
                go_upto_region 16 with (fail)
                refine wp_region_held_drew (S := (fun w' => Bk w' w2.heap.size 94 #[.slice As Ln cs, .int .i64 100])) (by kernel_rfl) (show Bk (wr.setCell ⟨w2.heap.size, 1, none⟩ (.int .i64 100)).drew w2.heap.size _ _ from HB5.out) (fun hHeld => ?_)
                refine held_take (i := 0) (v := ?_) (some 66) rfl rfl (by kernel_rfl) (by kernel_rfl) (by kernel_rfl) (fun _ _ _ h => h) (Or.inl ⟨by rfl, ?_⟩) hHeld ?_
                rotate_left 1
                · intro w' (h : Bk w' w2.heap.size _ _); obtain ⟨⟨z0, z1⟩, _⟩ := h.two; go_simp; try with_reducible rfl
                try simp only [Act.put, List.setIfInBounds_toArray, List.set_cons_zero, List.set_cons_succ]
                refine held_take (i := 1) (v := ?_) (some 67) rfl rfl (by kernel_rfl) (by kernel_rfl) (by kernel_rfl) (fun _ _ _ h => h) (Or.inl ⟨by rfl, ?_⟩) hHeld ?_
                rotate_left 1
                · intro w' (h : Bk w' w2.heap.size _ _); obtain ⟨⟨z0, z1⟩, _⟩ := h.two; go_simp; try with_reducible rfl
                try simp only [Act.put, List.setIfInBounds_toArray, List.set_cons_zero, List.set_cons_succ]
                refine held_take (i := 2) (v := ?_) (some 68) rfl rfl (by kernel_rfl) (by kernel_rfl) (by kernel_rfl) (fun _ _ _ h => h) (Or.inl ⟨by rfl, ?_⟩) hHeld ?_
                rotate_left 1
                · intro w' (h : Bk w' w2.heap.size _ _); obtain ⟨⟨z0, z1⟩, _⟩ := h.two; go_simp; try with_reducible rfl
                try simp only [Act.put, List.setIfInBounds_toArray, List.set_cons_zero, List.set_cons_succ]
                refine held_take (i := 3) (v := ?_) (some 69) rfl rfl (by kernel_rfl) (by kernel_rfl) (by kernel_rfl) (fun _ _ _ h => h) (Or.inl ⟨by rfl, ?_⟩) hHeld ?_
                rotate_left 1
                · intro w' (h : Bk w' w2.heap.size _ _); obtain ⟨⟨z0, z1⟩, _⟩ := h.two; go_simp; try with_reducible rfl
                try simp only [Act.put, List.setIfInBounds_toArray, List.set_cons_zero, List.set_cons_succ]
                refine held_take (i := 4) (v := ?_) (some 70) rfl rfl (by kernel_rfl) (by kernel_rfl) (by kernel_rfl) (fun _ _ _ h => h) (Or.inl ⟨by rfl, ?_⟩) hHeld ?_
                rotate_left 1
                · intro w' (h : Bk w' w2.heap.size _ _); obtain ⟨⟨z0, z1⟩, _⟩ := h.two; go_simp; try with_reducible rfl
                try simp only [Act.put, List.setIfInBounds_toArray, List.set_cons_zero, List.set_cons_succ]
                refine held_take (i := 5) (v := ?_) (some 71) rfl rfl (by kernel_rfl) (by kernel_rfl) (by kernel_rfl) (fun _ _ _ h => h) (Or.inl ⟨by rfl, ?_⟩) hHeld ?_
                rotate_left 1
                · intro w' (h : Bk w' w2.heap.size _ _); obtain ⟨⟨z0, z1⟩, _⟩ := h.two; go_simp; try with_reducible rfl
                try simp only [Act.put, List.setIfInBounds_toArray, List.set_cons_zero, List.set_cons_succ]
                refine held_one (j := 6) (by kernel_rfl) rfl (fun K hK => ?_)
                try simp only [List.getElem_toArray, List.getElem_cons_succ, List.getElem_cons_zero]
                rw [if_pos (by rfl)]
                go_simp
                refine hK.out _ _ ((hHeld.far (p := ⟨w.heap.size, 0, none⟩) hbw _).far (p := ⟨w.heap.size, 1, none⟩) hbw _) (fun hHeld => ?_)
                clear hK K
                try simp only [Act.put, List.setIfInBounds_toArray, List.set_cons_zero, List.set_cons_succ]
                refine held_take (i := 7) (v := ?_) (some 5) rfl rfl (by kernel_rfl) (by kernel_rfl) (by kernel_rfl) (fun _ _ _ h => h) (Or.inl ⟨by rfl, ?_⟩) hHeld ?_
                rotate_left 1
                · intro w' (h : Bk w' w2.heap.size _ _); obtain ⟨⟨z0, z1⟩, _⟩ := h.two; go_simp; try with_reducible rfl
                try simp only [Act.put, List.setIfInBounds_toArray, List.set_cons_zero, List.set_cons_succ]
                refine held_take (i := 8) (v := ?_) (some 6) rfl rfl (by kernel_rfl) (by kernel_rfl) (by kernel_rfl) (fun _ _ _ h => h) (Or.inl ⟨by rfl, ?_⟩) hHeld ?_
                rotate_left 1
                · intro w' (h : Bk w' w2.heap.size _ _); obtain ⟨⟨z0, z1⟩, _⟩ := h.two; go_simp; try with_reducible rfl
                try simp only [Act.put, List.setIfInBounds_toArray, List.set_cons_zero, List.set_cons_succ]
                refine wpAnyH_done (by kernel_rfl) ?_ _
                go_wp2_with (fail)
                exact bodyPost_ret (v := .tuple #[.agg #[.int .i64 0, .bool false], .int .i64 100, .int .i64 (n : Int)]) (by simp [results, Tryz.results26, go_sem, r0, r1]) rfl ⟨by rw [HFin.out.1, HFin.out.2]; rfl, HR.out.trans (((HRf.out.setCell (p := ⟨w2.heap.size, 1, none⟩) hb2 (.int .i64 100)).drew).box (Nat.le_refl _) _ _)⟩
          · have heb : (E == 0) = false := by simpa using he
            have HFin := Lib.hid (show runS os l = .error E ∧ stepsS os l = n by rw [HFin0.out.1, HFin0.out.2]; exact ⟨by unfold endR; rw [if_neg he], rfl⟩)
            by_cases hlt : at_ < l.length
            · have lt1 : (at_ : Int) < (l.length : Int) := by omega
              obtain ⟨⟨k0, k1⟩, k2, k3⟩ := XR.out.two
              obtain ⟨⟨j0, j1⟩, j2, j3⟩ := (show Bk ((wr).setCell ⟨w.heap.size, 0, none⟩ (.int .i64 0)) w.heap.size 66 #[.int .i64 0, .bool false] from XR.out.set_ 0 _).two
              obtain ⟨⟨r0, r1⟩, _⟩ := (XR.out.put (.int .i64 0) (.bool false)).two
              go_upto_region 16 with (fail)
              refine wp_region_held_drew (S := (fun w' => Bk w' w2.heap.size 94 #[.slice As Ln cs, .int .i64 E])) (by kernel_rfl) (show Bk (wr).drew w2.heap.size _ _ from HBr.out) (fun hHeld => ?_)
              refine held_take (i := 0) (v := ?_) (some 66) rfl rfl (by kernel_rfl) (by kernel_rfl) (by kernel_rfl) (fun _ _ _ h => h) (Or.inl ⟨by rfl, ?_⟩) hHeld ?_
              rotate_left 1
              · intro w' (h : Bk w' w2.heap.size _ _); obtain ⟨⟨z0, z1⟩, _⟩ := h.two; go_simp; try with_reducible rfl
              try simp only [Act.put, List.setIfInBounds_toArray, List.set_cons_zero, List.set_cons_succ]
              refine held_take (i := 1) (v := ?_) (some 67) rfl rfl (by kernel_rfl) (by kernel_rfl) (by kernel_rfl) (fun _ _ _ h => h) (Or.inl ⟨by rfl, ?_⟩) hHeld ?_
              rotate_left 1
              · intro w' (h : Bk w' w2.heap.size _ _); obtain ⟨⟨z0, z1⟩, _⟩ := h.two; go_simp; try with_reducible rfl
              try simp only [Act.put, List.setIfInBounds_toArray, List.set_cons_zero, List.set_cons_succ]
              refine held_take (i := 2) (v := ?_) (some 68) rfl rfl (by kernel_rfl) (by kernel_rfl) (by kernel_rfl) (fun _ _ _ h => h) (Or.inl ⟨by rfl, ?_⟩) hHeld ?_
              rotate_left 1
              · intro w' (h : Bk w' w2.heap.size _ _); obtain ⟨⟨z0, z1⟩, _⟩ := h.two; go_simp; try with_reducible rfl
              try simp only [Act.put, List.setIfInBounds_toArray, List.set_cons_zero, List.set_cons_succ]
              refine held_take (i := 3) (v := ?_) (some 69) rfl rfl (by kernel_rfl) (by kernel_rfl) (by kernel_rfl) (fun _ _ _ h => h) (Or.inl ⟨by rfl, ?_⟩) hHeld ?_
              rotate_left 1
              · intro w' (h : Bk w' w2.heap.size _ _); obtain ⟨⟨z0, z1⟩, _⟩ := h.two; go_simp; try with_reducible rfl
              try simp only [Act.put, List.setIfInBounds_toArray, List.set_cons_zero, List.set_cons_succ]
              refine held_take (i := 4) (v := ?_) (some 70) rfl rfl (by kernel_rfl) (by kernel_rfl) (by kernel_rfl) (fun _ _ _ h => h) (Or.inl ⟨by rfl, ?_⟩) hHeld ?_
              rotate_left 1
              · intro w' (h : Bk w' w2.heap.size _ _); obtain ⟨⟨z0, z1⟩, _⟩ := h.two; go_simp; try with_reducible rfl
              try simp only [Act.put, List.setIfInBounds_toArray, List.set_cons_zero, List.set_cons_succ]
              refine held_take (i := 5) (v := ?_) (some 71) rfl rfl (by kernel_rfl) (by kernel_rfl) (by kernel_rfl) (fun _ _ _ h => h) (Or.inl ⟨by rfl, ?_⟩) hHeld ?_
              rotate_left 1
              · intro w' (h : Bk w' w2.heap.size _ _); obtain ⟨⟨z0, z1⟩, _⟩ := h.two; go_simp; try with_reducible rfl
              try simp only [Act.put, List.setIfInBounds_toArray, List.set_cons_zero, List.set_cons_succ]
              refine held_one (j := 6) (by kernel_rfl) rfl (fun K hK => ?_)
              try simp only [List.getElem_toArray, List.getElem_cons_succ, List.getElem_cons_zero]
              rw [if_pos (by rfl)]
              go_simp
              refine hK.out _ _ ((hHeld.far (p := ⟨w.heap.size, 0, none⟩) hbw _).far (p := ⟨w.heap.size, 1, none⟩) hbw _) (fun hHeld => ?_)
              clear hK K
              try simp only [Act.put, List.setIfInBounds_toArray, List.set_cons_zero, List.set_cons_succ]
              refine held_take (i := 7) (v := ?_) (some 5) rfl rfl (by kernel_rfl) (by kernel_rfl) (by kernel_rfl) (fun _ _ _ h => h) (Or.inl ⟨by rfl, ?_⟩) hHeld ?_
              rotate_left 1
              · intro w' (h : Bk w' w2.heap.size _ _); obtain ⟨⟨z0, z1⟩, _⟩ := h.two; go_simp; try with_reducible rfl
              try simp only [Act.put, List.setIfInBounds_toArray, List.set_cons_zero, List.set_cons_succ]
              refine held_take (i := 8) (v := ?_) (some 6) rfl rfl (by kernel_rfl) (by kernel_rfl) (by kernel_rfl) (fun _ _ _ h => h) (Or.inl ⟨by rfl, ?_⟩) hHeld ?_
              rotate_left 1
              · intro w' (h : Bk w' w2.heap.size _ _); obtain ⟨⟨z0, z1⟩, _⟩ := h.two; go_simp; try with_reducible rfl
              try simp only [Act.put, List.setIfInBounds_toArray, List.set_cons_zero, List.set_cons_succ]
              refine wpAnyH_done (by kernel_rfl) ?_ _
              go_wp2_with (fail)
              exact bodyPost_ret (v := .tuple #[.agg #[.int .i64 0, .bool false], .int .i64 E, .int .i64 (n : Int)]) (by simp [results, Tryz.results26, go_sem, r0, r1]) rfl ⟨by rw [HFin.out.1, HFin.out.2]; rfl, HR.out.trans ((HRf.out.drew).box (Nat.le_refl _) _ _)⟩
            · obtain rfl : at_ = l.length := by omega
              obtain ⟨⟨k0, k1⟩, k2, k3⟩ := XR.out.two
              obtain ⟨⟨j0, j1⟩, j2, j3⟩ := (show Bk ((wr).setCell ⟨w.heap.size, 0, none⟩ (.int .i64 0)) w.heap.size 66 #[.int .i64 0, .bool false] from XR.out.set_ 0 _).two
              obtain ⟨⟨r0, r1⟩, _⟩ := (XR.out.put (.int .i64 0) (.bool false)).two
              go_upto_region 16 with (fail)
              refine wp_region_held_drew (S := (fun w' => Bk w' w2.heap.size 94 #[.slice As Ln cs, .int .i64 E])) (by kernel_rfl) (show Bk (wr).drew w2.heap.size _ _ from HBr.out) (fun hHeld => ?_)
              refine held_take (i := 0) (v := ?_) (some 66) rfl rfl (by kernel_rfl) (by kernel_rfl) (by kernel_rfl) (fun _ _ _ h => h) (Or.inl ⟨by rfl, ?_⟩) hHeld ?_
              rotate_left 1
              · intro w' (h : Bk w' w2.heap.size _ _); obtain ⟨⟨z0, z1⟩, _⟩ := h.two; go_simp; try with_reducible rfl
              try simp only [Act.put, List.setIfInBounds_toArray, List.set_cons_zero, List.set_cons_succ]
              refine held_take (i := 1) (v := ?_) (some 67) rfl rfl (by kernel_rfl) (by kernel_rfl) (by kernel_rfl) (fun _ _ _ h => h) (Or.inl ⟨by rfl, ?_⟩) hHeld ?_
              rotate_left 1
              · intro w' (h : Bk w' w2.heap.size _ _); obtain ⟨⟨z0, z1⟩, _⟩ := h.two; go_simp; try with_reducible rfl
              try simp only [Act.put, List.setIfInBounds_toArray, List.set_cons_zero, List.set_cons_succ]
              refine held_take (i := 2) (v := ?_) (some 68) rfl rfl (by kernel_rfl) (by kernel_rfl) (by kernel_rfl) (fun _ _ _ h => h) (Or.inl ⟨by rfl, ?_⟩) hHeld ?_
              rotate_left 1
              · intro w' (h : Bk w' w2.heap.size _ _); obtain ⟨⟨z0, z1⟩, _⟩ := h.two; go_simp; try with_reducible rfl
              try simp only [Act.put, List.setIfInBounds_toArray, List.set_cons_zero, List.set_cons_succ]
              refine held_take (i := 3) (v := ?_) (some 69) rfl rfl (by kernel_rfl) (by kernel_rfl) (by kernel_rfl) (fun _ _ _ h => h) (Or.inl ⟨by rfl, ?_⟩) hHeld ?_
              rotate_left 1
              · intro w' (h : Bk w' w2.heap.size _ _); obtain ⟨⟨z0, z1⟩, _⟩ := h.two; go_simp; try with_reducible rfl
              try simp only [Act.put, List.setIfInBounds_toArray, List.set_cons_zero, List.set_cons_succ]
              refine held_take (i := 4) (v := ?_) (some 70) rfl rfl (by kernel_rfl) (by kernel_rfl) (by kernel_rfl) (fun _ _ _ h => h) (Or.inl ⟨by rfl, ?_⟩) hHeld ?_
              rotate_left 1
              · intro w' (h : Bk w' w2.heap.size _ _); obtain ⟨⟨z0, z1⟩, _⟩ := h.two; go_simp; try with_reducible rfl
              try simp only [Act.put, List.setIfInBounds_toArray, List.set_cons_zero, List.set_cons_succ]
              refine held_take (i := 5) (v := ?_) (some 71) rfl rfl (by kernel_rfl) (by kernel_rfl) (by kernel_rfl) (fun _ _ _ h => h) (Or.inl ⟨by rfl, ?_⟩) hHeld ?_
              rotate_left 1
              · intro w' (h : Bk w' w2.heap.size _ _); obtain ⟨⟨z0, z1⟩, _⟩ := h.two; go_simp; try with_reducible rfl
              try simp only [Act.put, List.setIfInBounds_toArray, List.set_cons_zero, List.set_cons_succ]
              refine held_one (j := 6) (by kernel_rfl) rfl (fun K hK => ?_)
              try simp only [List.getElem_toArray, List.getElem_cons_succ, List.getElem_cons_zero]
              rw [if_pos (by rfl)]
              go_simp
              refine hK.out _ _ ((hHeld.far (p := ⟨w.heap.size, 0, none⟩) hbw _).far (p := ⟨w.heap.size, 1, none⟩) hbw _) (fun hHeld => ?_)
              clear hK K
              try simp only [Act.put, List.setIfInBounds_toArray, List.set_cons_zero, List.set_cons_succ]
              refine held_take (i := 7) (v := ?_) (some 5) rfl rfl (by kernel_rfl) (by kernel_rfl) (by kernel_rfl) (fun _ _ _ h => h) (Or.inl ⟨by rfl, ?_⟩) hHeld ?_
              rotate_left 1
              · intro w' (h : Bk w' w2.heap.size _ _); obtain ⟨⟨z0, z1⟩, _⟩ := h.two; go_simp; try with_reducible rfl
              try simp only [Act.put, List.setIfInBounds_toArray, List.set_cons_zero, List.set_cons_succ]
              refine held_take (i := 8) (v := ?_) (some 6) rfl rfl (by kernel_rfl) (by kernel_rfl) (by kernel_rfl) (fun _ _ _ h => h) (Or.inl ⟨by rfl, ?_⟩) hHeld ?_
              rotate_left 1
              · intro w' (h : Bk w' w2.heap.size _ _); obtain ⟨⟨z0, z1⟩, _⟩ := h.two; go_simp; try with_reducible rfl
              try simp only [Act.put, List.setIfInBounds_toArray, List.set_cons_zero, List.set_cons_succ]
              refine wpAnyH_done (by kernel_rfl) ?_ _
              go_wp2_with (fail)
              exact bodyPost_ret (v := .tuple #[.agg #[.int .i64 0, .bool false], .int .i64 E, .int .i64 (n : Int)]) (by simp [results, Tryz.results26, go_sem, r0, r1]) rfl ⟨by rw [HFin.out.1, HFin.out.2]; rfl, HR.out.trans ((HRf.out.drew).box (Nat.le_refl _) _ _)⟩
end Go.Proofs.YtcckemhelockaaaGreatDoor
