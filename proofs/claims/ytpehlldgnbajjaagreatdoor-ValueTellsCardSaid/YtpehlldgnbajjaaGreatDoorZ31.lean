/- ValueTells, over what the program is asked and what the document's own answer tells. -/
import Derived.Test.YtpehlldgnbajjaaGreatDoorZ17
import Derived.Test.YtpehlldgnbajjaaGreatDoorZ30
namespace Go.Proofs.YtpehlldgnbajjaaGreatDoor
open Go.RowKit Go.Lib
set_option linter.unusedVariables false
set_option linter.unusedSimpArgs false

theorem two_offs {w : World} {q : Nat} {A A' : Option Addr} {c c' : Nat} {os os' : List Of} (h : Bk w q 24 #[.slice A os.length c, .slice A' os'.length c']) (ho : OffArg w A c os) (ho' : OffArg w A' c' os') (i : Nat) (hi : i < 2) :
    ∃ (A2 : Option Addr) (c2 : Nat) (os2 : List Of), w.cell? ⟨q, i, none⟩ = some (.slice A2 os2.length c2) ∧ OffArg w A2 c2 os2 := by
  have hc := h.cell i
  match i, hi with
  | 0, _ => exact ⟨A, c, os, hc, ho⟩
  | 1, _ => exact ⟨A', c', os', hc, ho'⟩
theorem two_exprs {W : World} {q : Nat} {v0 v1 : El} {x0 x1 : Ex} (h : Bk W q 31 (cellsEs [v0, v1]).toArray) (h0 : ExAt (fun _ => True) W v0 x0) (h1 : ExAt (fun _ => True) W v1 x1) (z0 : size x0 ≤ 70000) (z1 : size x1 ≤ 70000) :
    ∃ (A : Option Addr) (l : List Ex) (es : List El), A = some ⟨q, 0, none⟩ ∧ l.length = 2 ∧ es.length = l.length ∧ RowE (fun _ => True) W A es ∧ (∀ i (h : i < es.length) (h' : i < l.length), ExAt (fun _ => True) W es[i] l[i]) ∧ (∀ z ∈ l, size z ≤ 70000) :=
  ⟨_, [x0, x1], [v0, v1], rfl, rfl, rfl, RowE.of_bk h trivial, (fun i h h' => by
    match i, h, h' with
    | 0, _, _ => exact h0
    | 1, _, _ => exact h1), (fun z hz => by
    simp only [List.mem_cons, List.not_mem_nil, or_false] at hz
    rcases hz with rfl | rfl <;> omega)⟩
/-- The same, of the document's own answer. -/
theorem reval_as (x : Ex) (os : List Of) (v : Int) (b : Bool) (er : Int) (hv : Hid (RV (evalS os x) = .tuple #[.int .i64 v, .bool b, .int .i64 er])) (S : Nat → Prop) (e : El) (A : Option Addr) (c : Nat) (w0 w : World) (hr : Rel w0 w) (h : ExAt S w e x) (hz : size x ≤ 90000) (ho : OffArg w A c os) (ev ov : Value) (he : Hid (EV e = ev)) (hov : Hid (Value.slice A os.length c = ov)) :
    Calls Tryz.prog 12 #[ev, ov] w fun z w' => z = .returned (.tuple #[.int .i64 v, .bool b, .int .i64 er]) ∧ Rel w0 w' := by
  rw [← he.out, ← hov.out, ← hv.out]; exact reval_any x S e A c os w0 w hr h (by omega) ho
theorem rcond_as9 (x : Ex) (os : List Of) (b : Bool) (er : Int) (hv : Hid (CV (condS os x) = .tuple #[.bool b, .int .i64 er])) (S : Nat → Prop) (e : El) (A : Option Addr) (c : Nat) (w0 w : World) (hr : Rel w0 w) (h : ExAt S w e x) (hz : size x ≤ 90000) (ho : OffArg w A c os) (ev ov : Value) (he : Hid (EV e = ev)) (hov : Hid (Value.slice A os.length c = ov)) :
    Calls Tryz.prog 14 #[ev, ov] w fun z w' => z = .returned (.tuple #[.bool b, .int .i64 er]) ∧ Rel w0 w' := by
  rw [← he.out, ← hov.out, ← hv.out]; exact rcond9_any x S e A c os w0 w hr h (by omega) ho
set_option maxRecDepth 100000 in
set_option maxHeartbeats 16000000 in
theorem ValueTells_at (H : ValueOk) (A : Option Addr) (c : Nat) (L : List Int) (what y : Int) (hw : i64 what) (hy : i64 y) (A3 : Option Addr) (c3 : Nat) (zs : List (Int × Int)) (A4 : Option Addr) (c4 : Nat) (os4 : List Of) (w : World) (hr : Rel w w) (hi : IntsIn w A c L) (hz : PairsIn w A3 zs.length zs) (ho4 : OffArg w A4 c4 os4) :
    Calls Tryz.prog 3 #[.slice A L.length c, .int .i64 what, .int .i64 y, .slice A3 zs.length c3, .slice A4 os4.length c4] w fun e w' => e = .returned (.bool true) ∧ Rel w w' := by
  have H := Lib.hid H
  have HR := Lib.hid hr
  have HZ := Lib.hid hz
  have HI := Lib.hid hi
  have HO4 := Lib.hid ho4
  obtain ⟨os, hos⟩ : ∃ os, offS zs = os := ⟨_, rfl⟩
  have hOf := fun (w0 w : World) (hr : Rel w0 w) (hz : PairsIn w A3 zs.length zs) => offers_any A3 c3 zs w0 w hr hz
  rw [hos] at hOf
  have HOf := Lib.hid hOf
  have HFit := Lib.hid (show OffsFit os from by rw [← hos]; exact offs_fit (offS_ok zs))
  have HSt := Lib.hid (fun (w0 w1 : World) (hr : Rel w0 w1) (h : IntsIn w1 A c L) => strat_any A c L w0 w1 hr h)
  have HWi := Lib.hid (fun (w0 w1 : World) (hr : Rel w0 w1) (h : IntsIn w1 A c L) => wild_any A c L what y hw hy w0 w1 hr h)
  have z0 := strat_size L
  have z1 := wild_size (strat L) z0 what y
  generalize wildX (strat L) what y = x1 at *
  generalize strat L = x0 at *
  obtain ⟨b4, hb4⟩ : ∃ b, offsOk os4 = b := ⟨_, rfl⟩
  have HB4 := Lib.hid hb4
  have HRR := Lib.hid (fun (w0 w : World) (hr : Rel w0 w) (ho : OffArg w A4 c4 os4) => rright9_any A4 c4 os4 w0 w hr ho)
  rw [hb4] at HRR
  clear hi hz hr hw hy ho4 hos hOf hb4
  go_enter Tryz.func3, Tryz.ntmps3
  go_upto_block 0 with (first
    | (go_at_call 5; (with_reducible refine (awake9_any H.out _ _ HR.out).mono ?_); rintro e w1 ⟨rfl, h1⟩; have R1 := Lib.hid h1)
    | (go_at_call 6; (with_reducible refine (vright_as H.out os4 b4 HB4 A4 c4 _ _ R1.out (HO4.out.rel R1.out) _ (Lib.hid rfl)).mono ?_); rintro e w2 ⟨rfl, h2⟩; have R2 := Lib.hid h2)
    | (go_at_call 7; (with_reducible refine (HRR.out _ _ R2.out (HO4.out.rel R2.out)).mono ?_); rintro e w3 ⟨rfl, h3⟩; have R3 := Lib.hid h3)
    | (go_at_call 8; (with_reducible refine (HOf.out _ _ R3.out (HZ.out.rel9 R3.out)).mono ?_); rintro e w4 ⟨A2, c2, rfl, hO, h4⟩; have R4 := Lib.hid h4; have HO := Lib.hid (hO.arg HFit.out)))
  have RA := Lib.hid (R4.out.alloc (.cells #[.slice A2 os.length c2, .slice A4 os4.length c4] 24))
  have rA := R4.out.self.alloc (.cells #[.slice A2 os.length c2, .slice A4 os4.length c4] 24)
  have HTw := Lib.hid (fun i hi => two_offs (Bk.new w4 24 #[.slice A2 os.length c2, .slice A4 os4.length c4]) (HO.out.rel rA) ((HO4.out.rel R4.out).rel rA) i hi)
  obtain ⟨W, hW⟩ : ∃ W, w4.alloc (.cells #[.slice A2 os.length c2, .slice A4 os4.length c4] 24) = W := ⟨_, rfl⟩
  rw [hW] at RA HTw ⊢
  clear hW rA hO h1 h2 h3 h4
  go_wp2_with (fail)
  go_loopw [38] (fun i wr => ∃ (j : Nat), i = .int .i64 (j : Int) ∧ j ≤ 2 ∧ Rel W wr) (fun i _ => 2 - (RowKit.intOf i).toNat)
  case atStart => exact ⟨0, rfl, by omega, RA.out.self⟩
  case round =>
    obtain ⟨j, rfl, hj, hRw⟩ := hrel
    have HRw := Lib.hid hRw
    by_cases hlt : j < 2
    · obtain ⟨A5, c5, os5, hcell, ho5⟩ := HTw.out j hlt
      have hj2 : (j : Int) < 2 := by omega
      have hc5 := (hRw.2.cell (p := ⟨w4.heap.size, j, none⟩) (blk_of_cell hcell)).trans hcell
      have HO5 := Lib.hid (ho5.rel hRw)
      have HRq := Lib.hid (RA.out.trans hRw)
      obtain ⟨wo, hwo⟩ : ∃ wo, wo = wr := ⟨_, rfl⟩
      subst hwo
      clear hcell ho5 hRw
      go_upto_block 2 with (first
        | (go_at_call 9; (with_reducible refine (HSt.out _ _ HRq.out.self (HI.out.rel HRq.out)).mono ?_); rintro e w5 ⟨v0, rfl, e0, h5⟩; have R5 := Lib.hid h5)
        | (go_at_call 10; (with_reducible refine (HWi.out _ _ R5.out.self (HI.out.rel (HRq.out.trans R5.out))).mono ?_); rintro e w6 ⟨v1, rfl, e1, h6⟩; have R6 := Lib.hid h6))
      have rV := R6.out.self.alloc (.cells #[.int .i64 v0.1, .int .i64 v0.2.1, .string (B v0.2.2.1), .slice v0.2.2.2.1 v0.2.2.2.2.1 v0.2.2.2.2.2, .int .i64 v1.1, .int .i64 v1.2.1, .string (B v1.2.2.1), .slice v1.2.2.2.1 v1.2.2.2.2.1 v1.2.2.2.2.2] 31)
      have RVv := Lib.hid ((R5.out.trans R6.out).alloc (.cells #[.int .i64 v0.1, .int .i64 v0.2.1, .string (B v0.2.2.1), .slice v0.2.2.2.1 v0.2.2.2.2.1 v0.2.2.2.2.2, .int .i64 v1.1, .int .i64 v1.2.1, .string (B v1.2.2.1), .slice v1.2.2.2.1 v1.2.2.2.2.1 v1.2.2.2.2.2] 31))
      obtain ⟨AX, l, es, hAX, hl2, hl, hrow0, hsub0, hzs⟩ := two_exprs (Bk.new w6 31 _) (((e0.rel R6.out).rel rV).weak (S' := fun _ => True) (fun _ _ => trivial)) (e1.rel rV) (by omega) (by omega)
      obtain ⟨V, hV⟩ : ∃ V, w6.alloc (.cells #[.int .i64 v0.1, .int .i64 v0.2.1, .string (B v0.2.2.1), .slice v0.2.2.2.1 v0.2.2.2.2.1 v0.2.2.2.2.2, .int .i64 v1.1, .int .i64 v1.2.1, .string (B v1.2.2.1), .slice v1.2.2.2.1 v1.2.2.2.2.1 v1.2.2.2.2.2] 31) = V := ⟨_, rfl⟩
      have hV2 : w6.alloc (.cells (cellsEs [v0, v1]).toArray 31) = V := hV
      rw [hV2] at hrow0 hsub0
      rw [hV] at RVv ⊢
      rw [← hAX]
      have HRow := Lib.hid hrow0
      have HSub := Lib.hid hsub0
      have HZS := Lib.hid hzs
      have HL := Lib.hid hl
      have HL2 := Lib.hid hl2
      have RQ := Lib.hid (HRq.out.trans RVv.out)
      have HO6 := Lib.hid (HO5.out.rel RVv.out)
      clear hV hV2 hAX hl2 hl hrow0 hsub0 hzs rV e0 e1 h5 h6
      go_wp2_with (fail)
      go_loopw [50] (fun i wr => ∃ (q : Nat), i = .int .i64 (q : Int) ∧ q ≤ 2 ∧ Rel V wr) (fun i _ => 2 - (RowKit.intOf i).toNat)
      case atStart => exact ⟨0, rfl, by omega, RQ.out.self⟩
      case round =>
        obtain ⟨q, rfl, hq, hRw2⟩ := hrel
        have HRw2 := Lib.hid hRw2
        by_cases hlt2 : q < 2
        · have hql : q < l.length := by rw [HL2.out]; exact hlt2
          have hq2 : (q : Int) < 2 := by omega
          obtain ⟨g, off, k, n, nm, A1, m, c1, hA, a0, a1, a2, a3, hx⟩ := ExAt.arg HRow.out HSub.out HL.out hRw2 q hql
          have zx := HZS.out _ (List.getElem_mem (l := l) (n := q) hql)
          obtain ⟨x, hxx⟩ : ∃ x, l[q] = x := ⟨_, rfl⟩
          rw [hxx] at hx zx
          subst hA
          cases x with
          | mk k' n' nm' l1 =>
            obtain ⟨A1', c1', es1, heq, hk1, hn1, hm1, hle, hrow1, hsub1⟩ := hx.open
            simp only [Prod.mk.injEq] at heq
            obtain ⟨rfl, rfl, rfl, rfl, rfl, rfl⟩ := heq
            obtain ⟨wp, hwp⟩ : ∃ wp, wp = wr := ⟨_, rfl⟩
            subst hwp
            have HEX := Lib.hid hx
            have HRow1 := Lib.hid hrow1
            have HSub1 := Lib.hid hsub1
            have HLe := Lib.hid hle
            have HZ1 := Lib.hid (fun (i : Nat) (hi : i < l1.length) => show size l1[i] ≤ 90000 by
              have := size_mem (List.getElem_mem (l := l1) (n := i) hi)
              rw [size_mk] at zx; omega)
            have hl1 : l1.length ≤ 90000 := by
              have : ∀ l : List Ex, l.length ≤ sizes l := fun l => by
                induction l with
                | nil => simp
                | cons x t ih => rw [sizes_cons, List.length_cons]; have := size_pos x; omega
              have := this l1
              rw [size_mk] at zx; omega
            have rB := hRw2.self.alloc (.cells #[.int .i64 k, .int .i64 n, .string (B nm), .slice A1 l1.length c1] 31)
            have HBx := Lib.hid (Bk.new wp 31 #[.int .i64 k, .int .i64 n, .string (B nm), .slice A1 l1.length c1])
            have RB := Lib.hid rB
            obtain ⟨v, b, er, hv⟩ : ∃ (v : Int) (b : Bool) (er : Int), RV (evalS os5 (.mk k n nm l1)) = .tuple #[.int .i64 v, .bool b, .int .i64 er] := ⟨_, _, _, rfl⟩
            have HV := Lib.hid hv
            have zx9 : size (.mk k n nm l1) ≤ 90000 := by omega
            have V0 : Hid (EV (k, n, nm, A1, l1.length, c1) = .agg #[.int .i64 k, .int .i64 n, .string (B nm), .slice A1 l1.length c1]) := Lib.hid rfl
            go_upto_region 10 with (fail)
            obtain ⟨U, hU⟩ : ∃ U, wp.alloc (.cells #[.int .i64 k, .int .i64 n, .string (B nm), .slice A1 l1.length c1] 31) = U := ⟨_, rfl⟩
            rw [hU] at RB HBx ⊢
            clear hU rB hx hrow1 hsub1 hle hv zx hxx
            obtain ⟨⟨u0, u1, u2, u3⟩, _⟩ := HBx.out.four
            go_upto_block 4 with (first
              | (go_at_call 11; (with_reducible refine (eval_as H.out (.mk k n nm l1) os5 v b er HV _ (k, n, nm, A1, l1.length, c1) A5 c5 _ _ RB.out.self (HEX.out.rel RB.out) zx9 (HO6.out.rel (HRw2.out.trans RB.out)) _ _ (Lib.hid rfl) (Lib.hid rfl)).mono ?_); rintro e w8 ⟨rfl, h8⟩; have R8 := Lib.hid h8; obtain ⟨⟨s0, s1, s2, s3⟩, _⟩ := (HBx.out.rel h8).four)
              | (go_at_call 12; (with_reducible refine (reval_as (.mk k n nm l1) os5 v b er HV _ (k, n, nm, A1, l1.length, c1) A5 c5 _ _ R8.out.self (HEX.out.rel (RB.out.trans R8.out)) zx9 (HO6.out.rel ((HRw2.out.trans RB.out).trans R8.out)) _ _ (Lib.hid rfl) (Lib.hid rfl)).mono ?_); rintro e w9 ⟨rfl, h9⟩; have R9 := Lib.hid (R8.out.trans h9)))
            go_wp2_with (fail)
            go_loopw [22] (fun i wr => ∃ (p : Nat), i = .int .i64 (p : Int) ∧ p ≤ l1.length ∧ Rel w9 wr) (fun i _ => l1.length - (RowKit.intOf i).toNat)
            case atStart => exact ⟨0, rfl, by omega, R9.out.self⟩
            case round =>
              obtain ⟨p, rfl, hp, hRw3⟩ := hrel
              have HRw3 := Lib.hid hRw3
              have RU := Lib.hid (R9.out.trans hRw3)
              obtain ⟨⟨t0, t1, t2, t3⟩, _⟩ := (HBx.out.rel RU.out).four
              by_cases hlt3 : p < l1.length
              · obtain ⟨g1, off1, k2, n2, nm2, A6, m6, c6, hA6, f0, f1, f2, f3, hx2⟩ := ExAt.arg HRow1.out HSub1.out HLe.out (RB.out.trans RU.out) p hlt3
                have zx2 := HZ1.out p hlt3
                subst hA6
                obtain ⟨x2, hxx2⟩ : ∃ x, l1[p] = x := ⟨_, rfl⟩
                rw [hxx2] at hx2 zx2
                have HEX2 := Lib.hid hx2
                obtain ⟨cb, ce, hcv⟩ : ∃ (b : Bool) (er : Int), CV (condS os5 x2) = .tuple #[.bool b, .int .i64 er] := ⟨_, _, rfl⟩
                have HCV := Lib.hid hcv
                have HOr := Lib.hid (HO6.out.rel ((HRw2.out.trans RB.out).trans RU.out))
                clear hx2 hxx2 hcv hRw3
                go_wp2_with (first
                  | (go_at_call 13; (with_reducible refine (cond9_as H.out x2 os5 cb ce HCV _ (k2, n2, nm2, A6, m6, c6) A5 c5 _ _ RU.out.right3 HEX2.out zx2 HOr.out _ _ (Lib.hid rfl) (Lib.hid rfl)).mono ?_); rintro e wa ⟨rfl, ha⟩; have Ra := Lib.hid ha; obtain ⟨⟨i0, i1, i2, i3⟩, _⟩ := (HBx.out.rel (RU.out.trans ha)).four; have j0 := (ha.2.cell (p := ⟨g1, off1 + p * 4, none⟩) (blk_of_cell f0)).trans f0; have j1 := (ha.2.cell (p := ⟨g1, off1 + p * 4 + 1, none⟩) (blk_of_cell f1)).trans f1; have j2 := (ha.2.cell (p := ⟨g1, off1 + p * 4 + 2, none⟩) (blk_of_cell f2)).trans f2; have j3 := (ha.2.cell (p := ⟨g1, off1 + p * 4 + 3, none⟩) (blk_of_cell f3)).trans f3)
                  | (go_at_call 14; (with_reducible refine (rcond_as9 x2 os5 cb ce HCV _ (k2, n2, nm2, A6, m6, c6) A5 c5 _ _ Ra.out.self (HEX2.out.rel Ra.out) zx2 (HOr.out.rel Ra.out) _ _ (Lib.hid rfl) (Lib.hid rfl)).mono ?_); rintro e wb ⟨rfl, hb⟩; have Rb := Lib.hid (Ra.out.trans hb)))
                go_roundw
                case rel => exact ⟨p + 1, by go_num, by omega, HRw3.out.trans Rb.out⟩
                case measure => simp [RowKit.intOf]; omega
              · obtain rfl : p = l1.length := by omega
                go_wp2_with (fail)
                go_roundw
                case rel => exact ⟨q + 1, by go_num, by omega, (HRw2.out.trans RB.out).trans RU.out⟩
                case measure => simp [RowKit.intOf]; omega
        · obtain rfl : q = 2 := by omega
          go_wp2_with (fail)
          go_roundw
          case rel => exact ⟨j + 1, by go_num, by omega, (HRw.out.trans RVv.out).trans HRw2.out⟩
          case measure => simp [RowKit.intOf]; omega
    · obtain rfl : j = 2 := by omega
      go_wp2_with (fail)
      go_ret
      exact ⟨rfl, RA.out.trans HRw.out⟩
end Go.Proofs.YtpehlldgnbajjaaGreatDoor
