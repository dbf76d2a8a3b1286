/- CodeTells, over what the program is asked and what the document's own answer tells. -/
import Derived.Test.YtldopbkjchgcnaaDoorZ30
import Derived.Test.YtldopbkjchgcnaaDoorZ34
namespace Go.Proofs.YtldopbkjchgcnaaDoor
open Go.RowKit Go.Lib
set_option linter.unusedVariables false
set_option linter.unusedSimpArgs false

theorem codX_text (x : Ex) : (textC (codX x)).length ≤ 1000000000 := by
  cases h : rightX x with
  | true => exact text_fits (codX_code x h).1
  | false => rw [(codX_no h).1]; simp [textC]
theorem two_ex10 {W : World} {q : Nat} {v0 v1 : El} {x0 x1 : Ex} (h : Bk W q 27 (cellsEs [v0, v1]).toArray) (h0 : ExAt (fun _ => True) W v0 x0) (h1 : ExAt (fun _ => True) W v1 x1) (z0 : size x0 ≤ 70000) (z1 : size x1 ≤ 70000) :
    ∃ (A : Option Addr) (l : List Ex) (es : List El), A = some ⟨q, 0, none⟩ ∧ l.length = 2 ∧ es.length = l.length ∧ RowE (fun _ => True) W A es ∧ (∀ i (h : i < es.length) (h' : i < l.length), ExAt (fun _ => True) W es[i] l[i]) ∧ (∀ z ∈ l, size z ≤ 70000) :=
  ⟨_, [x0, x1], [v0, v1], rfl, rfl, rfl, RowE.of_bk h trivial, (fun i h h' => by
    match i, h, h' with
    | 0, _, _ => exact h0
    | 1, _, _ => exact h1), (fun z hz => by
    simp only [List.mem_cons, List.not_mem_nil, or_false] at hz
    rcases hz with rfl | rfl <;> omega)⟩
theorem rcompile_as (x : Ex) (l : List In) (n : Nat) (er : Int) (hl : Hid (codX x = l ∧ l.length = n ∧ codR x = er)) (S : Nat → Prop) (e : El) (w0 w : World) (hr : Rel w0 w) (h : ExAt S w e x) (hz : size x ≤ 90000) (ev : Value) (he : Hid (EV e = ev)) :
    Calls Tryd.prog 12 #[ev] w fun r w' => ∃ A c, r = .returned (.tuple #[.slice A n c, .int .i64 er]) ∧ InsOwn w' w.heap.size (.slice A n c) l ∧ Rel w0 w' := by
  obtain ⟨h1, h2, h3⟩ := hl.out
  subst h1 h2 h3
  rw [← he.out]; exact rcompile_any x S e w0 w hr h (by omega)
theorem rcright_as (l : List In) (n : Nat) (b : Bool) (hb : Hid (codeOk l = b ∧ l.length = n)) (A : Option Addr) (c : Nat) (w0 w : World) (hr : Rel w0 w) (h : InsArg w A c l) :
    Calls Tryd.prog 17 #[.slice A n c] w fun z w' => z = .returned (.bool b) ∧ Rel w0 w' := by
  obtain ⟨h1, h2⟩ := hb.out
  subst h1 h2
  exact rright10_any A c l w0 w hr h
theorem rctext_as (l : List In) (n : Nat) (T : ByteArray) (hT : Hid (B (textC l) = T ∧ l.length = n ∧ (textC l).length ≤ 1000000000)) (A : Option Addr) (c : Nat) (w0 w : World) (hr : Rel w0 w) (h : InsArg w A c l) :
    Calls Tryd.prog 15 #[.slice A n c] w fun z w' => z = .returned (.string T) ∧ Rel w0 w' := by
  obtain ⟨h1, h2, h3⟩ := hT.out
  subst h1 h2
  exact rtext10_any A c l (by omega) w0 w hr h
theorem rsame_as10 (A A' : Option Addr) (c c' : Nat) (l : List In) (n : Nat) (hl : Hid (l.length = n ∧ n ≤ 100000)) (w0 w : World) (hr : Rel w0 w) (h : InsAt w A l) (h' : InsAt w A' l) :
    Calls Tryd.prog 13 #[.slice A n c, .slice A' n c'] w fun e w' => e = .returned (.bool true) ∧ Rel w0 w' := by
  obtain ⟨h1, h2⟩ := hl.out
  subst h1
  exact rsame10_any A A' c c' l l true (Lib.hid (by simp)) h2 h2 w0 w hr h h'
set_option maxRecDepth 100000 in
set_option maxHeartbeats 16000000 in
theorem CodeTells_at (H : CodeOk) (A : Option Addr) (c : Nat) (L : List Int) (what y : Int) (hw : i64 what) (hy : i64 y) (A4 : Option Addr) (c4 : Nat) (l4 : List In) (ht4 : (textC l4).length ≤ 1000000000) (w : World) (hr : Rel w w) (hi : IntsIn w A c L) (ho4 : InsArg w A4 c4 l4) :
    Calls Tryd.prog 3 #[.slice A L.length c, .int .i64 what, .int .i64 y, .slice A4 l4.length c4] w fun e w' => e = .returned (.bool true) ∧ Rel w w' := by
  have H := Lib.hid H
  have HR := Lib.hid hr
  have HI := Lib.hid hi
  have HO4 := Lib.hid ho4
  have HSt := Lib.hid (fun (w0 w1 : World) (hr : Rel w0 w1) (h : IntsIn w1 A c L) => strat_any A c L w0 w1 hr h)
  have HWi := Lib.hid (fun (w0 w1 : World) (hr : Rel w0 w1) (h : IntsIn w1 A c L) => wild_any A c L what y hw hy w0 w1 hr h)
  have z0 := strat_size L
  have z1 := wild_size (strat L) z0 what y
  generalize wildX (strat L) what y = x1 at *
  generalize strat L = x0 at *
  obtain ⟨b4, hb4⟩ : ∃ b, codeOk l4 = b := ⟨_, rfl⟩
  obtain ⟨T4, hT4⟩ : ∃ T, B (textC l4) = T := ⟨_, rfl⟩
  obtain ⟨n4, hn4⟩ : ∃ n, l4.length = n := ⟨_, rfl⟩
  rw [hn4]
  have HB4 := Lib.hid (show codeOk l4 = b4 ∧ l4.length = n4 from ⟨hb4, hn4⟩)
  have HT4 := Lib.hid (show B (textC l4) = T4 ∧ l4.length = n4 ∧ (textC l4).length ≤ 1000000000 from ⟨hT4, hn4, ht4⟩)
  have s1 : (b4 == b4) = true := by cases b4 <;> rfl
  have s2 : (T4.toList == T4.toList) = true := by simp
  clear hi hr hw hy ho4 hb4 hT4 ht4 hn4
  go_enter Tryd.func3, Tryd.ntmps3
  go_upto_block 0 with (first
    | (go_at_call 8; (with_reducible refine (awake10_any H.out _ _ HR.out).mono ?_); rintro e w1 ⟨rfl, h1⟩; have R4 := Lib.hid h1)
    | (go_at_call 9; (with_reducible refine (HSt.out _ _ R4.out.self (HI.out.rel R4.out)).mono ?_); rintro e w5 ⟨v0, rfl, e0, h5⟩; have R5 := Lib.hid h5)
    | (go_at_call 10; (with_reducible refine (HWi.out _ _ R5.out.self (HI.out.rel (R4.out.trans R5.out))).mono ?_); rintro e w6 ⟨v1, rfl, e1, h6⟩; have R6 := Lib.hid h6))
  have rV := R6.out.self.alloc (.cells #[.int .i64 v0.1, .int .i64 v0.2.1, .string (B v0.2.2.1), .slice v0.2.2.2.1 v0.2.2.2.2.1 v0.2.2.2.2.2, .int .i64 v1.1, .int .i64 v1.2.1, .string (B v1.2.2.1), .slice v1.2.2.2.1 v1.2.2.2.2.1 v1.2.2.2.2.2] 27)
  have RVv := Lib.hid ((R5.out.trans R6.out).alloc (.cells #[.int .i64 v0.1, .int .i64 v0.2.1, .string (B v0.2.2.1), .slice v0.2.2.2.1 v0.2.2.2.2.1 v0.2.2.2.2.2, .int .i64 v1.1, .int .i64 v1.2.1, .string (B v1.2.2.1), .slice v1.2.2.2.1 v1.2.2.2.2.1 v1.2.2.2.2.2] 27))
  obtain ⟨AX, l, es, hAX, hl2, hl, hrow0, hsub0, hzs⟩ := two_ex10 (Bk.new w6 27 _) (((e0.rel R6.out).rel rV).weak (S' := fun _ => True) (fun _ _ => trivial)) (e1.rel rV) (by omega) (by omega)
  obtain ⟨V, hV⟩ : ∃ V, w6.alloc (.cells #[.int .i64 v0.1, .int .i64 v0.2.1, .string (B v0.2.2.1), .slice v0.2.2.2.1 v0.2.2.2.2.1 v0.2.2.2.2.2, .int .i64 v1.1, .int .i64 v1.2.1, .string (B v1.2.2.1), .slice v1.2.2.2.1 v1.2.2.2.2.1 v1.2.2.2.2.2] 27) = V := ⟨_, rfl⟩
  have hV2 : w6.alloc (.cells (cellsEs [v0, v1]).toArray 27) = V := hV
  rw [hV2] at hrow0 hsub0
  rw [hV] at RVv ⊢
  rw [← hAX]
  have HRow := Lib.hid hrow0
  have HSub := Lib.hid hsub0
  have HZS := Lib.hid hzs
  have HL := Lib.hid hl
  have HL2 := Lib.hid hl2
  have RQ := Lib.hid (HR.out.trans (R4.out.trans RVv.out))
  clear hV hV2 hAX hl2 hl hrow0 hsub0 hzs rV e0 e1 h1 h5 h6
  go_wp2_with (fail)
  go_loopw [25] (fun i wr => ∃ (q : Nat), i = .int .i64 (q : Int) ∧ q ≤ 2 ∧ Rel V wr) (fun i _ => 2 - (RowKit.intOf i).toNat)
  case atStart => exact ⟨0, rfl, by omega, RQ.out.self⟩
  case round =>
    obtain ⟨q, rfl, hq, hRw2⟩ := hrel
    have HRw2 := Lib.hid hRw2
    by_cases hlt2 : q < 2
    · have hql : q < l.length := by rw [HL2.out]; exact hlt2
      have hq2 : (q : Int) < 2 := by omega
      obtain ⟨g, off, k, n, nm, A1, m, c1, hA, a0, a1, a2, a3, hx⟩ := ExAt.arg HRow.out HSub.out HL.out hRw2 q hql
      have zx := HZS.out _ (List.getElem_mem (l := l) (n := q) hql)
      obtain ⟨x, hxx⟩ : ∃ x, l[q] = x := ⟨_, rfl⟩
      rw [hxx] at hx zx
      subst hA
      obtain ⟨wp, hwp⟩ : ∃ wp, wp = wr := ⟨_, rfl⟩
      subst hwp
      have rB := hRw2.self.alloc (.cells #[.int .i64 k, .int .i64 n, .string (B nm), .slice A1 m c1] 27)
      have HEX := Lib.hid (hx.rel rB)
      have HBx := Lib.hid (Bk.new wp 27 #[.int .i64 k, .int .i64 n, .string (B nm), .slice A1 m c1])
      have RB := Lib.hid rB
      obtain ⟨lc, hlc⟩ : ∃ lc, codX x = lc := ⟨_, rfl⟩
      obtain ⟨nc, hnc⟩ : ∃ nc, lc.length = nc := ⟨_, rfl⟩
      obtain ⟨er, her⟩ : ∃ er, codR x = er := ⟨_, rfl⟩
      obtain ⟨b, hb⟩ : ∃ b, codeOk lc = b := ⟨_, rfl⟩
      obtain ⟨T, hT⟩ : ∃ T, B (textC lc) = T := ⟨_, rfl⟩
      have Q := Lib.hid (show codX x = lc ∧ lc.length = nc ∧ codR x = er from ⟨hlc, hnc, her⟩)
      have QB := Lib.hid (show codeOk lc = b ∧ lc.length = nc from ⟨hb, hnc⟩)
      have QT := Lib.hid (show B (textC lc) = T ∧ lc.length = nc ∧ (textC lc).length ≤ 1000000000 from ⟨hT, hnc, by rw [← hlc]; exact codX_text x⟩)
      have QS := Lib.hid (show lc.length = nc ∧ nc ≤ 100000 from ⟨hnc, by rw [← hnc, ← hlc]; have := codX_len x; omega⟩)
      have HFi := Lib.hid (show InsFit lc by rw [← hlc]; exact codX_fit x)
      have p1 : (b != b) = false := by cases b <;> rfl
      have p2 : (T.toList != T.toList) = false := by simp
      have p3 : (er != er) = false := by simp
      go_upto_region 5 with (fail)
      obtain ⟨U, hU⟩ : ∃ U, wp.alloc (.cells #[.int .i64 k, .int .i64 n, .string (B nm), .slice A1 m c1] 27) = U := ⟨_, rfl⟩
      rw [hU] at RB HBx HEX ⊢
      clear hU rB hx hxx hRw2 hlc hnc her hb hT
      obtain ⟨⟨u0, u1, u2, u3⟩, _⟩ := HBx.out.four
      go_upto_region 7 with (first
        | (go_at_call 11; (with_reducible refine (compile_as H.out x lc nc er Q _ (k, n, nm, A1, m, c1) _ _ RB.out.self HEX.out (by omega) _ (Lib.hid rfl)).mono ?_); rintro e w8 ⟨A8, a8, rfl, o8, h8⟩; have R8 := Lib.hid h8; have O8 := Lib.hid o8; obtain ⟨⟨s0, s1', s2', s3⟩, _⟩ := (HBx.out.rel h8).four)
        | (go_at_call 12; (with_reducible refine (rcompile_as x lc nc er Q _ (k, n, nm, A1, m, c1) _ _ R8.out.self (HEX.out.rel R8.out) (by omega) _ (Lib.hid rfl)).mono ?_); rintro e w9 ⟨A9, a9, rfl, o9, h9⟩; have R9 := Lib.hid (R8.out.trans h9); have O9 := Lib.hid o9; have O89 := Lib.hid (O8.out.rel h9)))
      have I8 := Lib.hid (show InsArg w9 A8 a8 lc from InsOwn.arg (by rw [QB.out.2]; exact O89.out) HFi.out)
      have I9 := Lib.hid (show InsArg w9 A9 a9 lc from InsOwn.arg (by rw [QB.out.2]; exact O9.out) HFi.out)
      have T8 := Lib.hid I8.out.2.2.2
      have T9 := Lib.hid I9.out.2.2.2
      clear o8 o9 h8 h9
      go_wp2_with (first
        | (go_at_call 13; ((with_reducible refine (rsame_as10 A8 A9 a8 a9 lc nc QS _ _ R9.out.self T8.out T9.out).mono ?_); rintro e wa ⟨rfl, ha⟩; have Ra := Lib.hid ha))
        | (go_at_call 14; (with_reducible refine (ctext_as H.out lc nc T QT A8 a8 _ _ Ra.out.self (I8.out.rel Ra.out)).mono ?_); rintro e wb ⟨rfl, hb⟩; have Rb := Lib.hid (Ra.out.trans hb))
        | (go_at_call 15; (with_reducible refine (rctext_as lc nc T QT A9 a9 _ _ Rb.out.self (I9.out.rel Rb.out)).mono ?_); rintro e wc ⟨rfl, hc⟩; have Rc := Lib.hid (Rb.out.trans hc))
        | (go_at_call 16; (with_reducible refine (cright_as H.out lc nc b QB A8 a8 _ _ Rc.out.self (I8.out.rel Rc.out)).mono ?_); rintro e wd ⟨rfl, hd⟩; have Rd := Lib.hid (Rc.out.trans hd))
        | (go_at_call 17; (with_reducible refine (rcright_as lc nc b QB A9 a9 _ _ Rd.out.self (I9.out.rel Rd.out)).mono ?_); rintro e we ⟨rfl, he⟩; have Re := Lib.hid (Rd.out.trans he)))
      go_roundw
      case rel => exact ⟨q + 1, by go_num, by omega, HRw2.out.trans (RB.out.trans (R9.out.trans Re.out))⟩
      case measure => simp [RowKit.intOf]; omega
    · obtain rfl : q = 2 := by omega
      have RW4 := Lib.hid (RQ.out.trans hRw2)
      have I4 := Lib.hid (HO4.out.rel (RQ.out.trans hRw2))
      go_wp2_with (first
        | (go_at_call 16; (with_reducible refine (cright_as H.out l4 n4 b4 HB4 A4 c4 _ _ RW4.out.self I4.out).mono ?_); rintro e wd ⟨rfl, hd⟩; have Rd := Lib.hid hd)
        | (go_at_call 17; (with_reducible refine (rcright_as l4 n4 b4 HB4 A4 c4 _ _ Rd.out.self (I4.out.rel Rd.out)).mono ?_); rintro e we ⟨rfl, he⟩; have Re := Lib.hid (Rd.out.trans he))
        | (go_at_call 14; (with_reducible refine (ctext_as H.out l4 n4 T4 HT4 A4 c4 _ _ Re.out.self (I4.out.rel Re.out)).mono ?_); rintro e wb ⟨rfl, hb⟩; have Rb := Lib.hid (Re.out.trans hb))
        | (go_at_call 15; (with_reducible refine (rctext_as l4 n4 T4 HT4 A4 c4 _ _ Rb.out.self (I4.out.rel Rb.out)).mono ?_); rintro e wc ⟨rfl, hc⟩; have Rc := Lib.hid (Rb.out.trans hc)))
      go_ret
      exact ⟨ret_bool (by simp [s1, s2]), RW4.out.trans Rc.out⟩
end Go.Proofs.YtldopbkjchgcnaaDoor
