/- The document's own answers of layer 11: Run, Steps; RunTells, over what the program is asked and what the document's own answer tells. -/
import Derived.Test.YtcckemhelockaaaGreatDoorZL
import Derived.Test.YtcckemhelockaaaGreatDoorZ00
import Derived.Test.YtcckemhelockaaaGreatDoorZ01
import Derived.Test.YtcckemhelockaaaGreatDoorZ02
import Derived.Test.YtcckemhelockaaaGreatDoorZ03
import Derived.Test.YtcckemhelockaaaGreatDoorZ28
import Derived.Test.YtcckemhelockaaaGreatDoorZ37
import Derived.Test.YtcckemhelockaaaGreatDoorZ38
import Derived.Test.YtcckemhelockaaaGreatDoorZ63
namespace Go.Proofs.YtcckemhelockaaaGreatDoor
open Go.RowKit Go.Lib
set_option linter.unusedVariables false
set_option linter.unusedSimpArgs false
theorem rplay_as (A A' : Option Addr) (c c' : Nat) (l : List In) (os : List Of) (v e : Int) (b : Bool) (n : Nat) (hv : Hid (rsV (runS os l) = v ∧ rsB (runS os l) = b ∧ rsE (runS os l) = e ∧ stepsS os l = n)) (w0 w : World) (hr : Rel w0 w) (h : InsArg w A c l) (ho : OffArg w A' c' os) :
    Calls Tryz.prog 26 #[.slice A l.length c, .slice A' os.length c'] w fun r w' => r = .returned (.tuple #[.agg #[.int .i64 v, .bool b], .int .i64 e, .int .i64 (n : Int)]) ∧ Rel w0 w' := by
  obtain ⟨h1, h2, h3, h4⟩ := hv.out
  subst h1 h2 h3 h4
  exact rplay_any A A' c c' l os w0 w hr h ho
set_option maxRecDepth 100000 in
set_option maxHeartbeats 4000000 in
theorem rrun_any (A A' : Option Addr) (c c' : Nat) (l : List In) (os : List Of) (w0 w : World) (hr : Rel w0 w) (h : InsArg w A c l) (ho : OffArg w A' c' os) :
    Calls Tryz.prog 14 #[.slice A l.length c, .slice A' os.length c'] w fun r w' => r = .returned (RV (runS os l)) ∧ Rel w0 w' := by
  have HR := Lib.hid hr
  obtain ⟨v, hv⟩ : ∃ v, rsV (runS os l) = v := ⟨_, rfl⟩
  obtain ⟨b, hb⟩ : ∃ b, rsB (runS os l) = b := ⟨_, rfl⟩
  obtain ⟨e, he⟩ : ∃ e, rsE (runS os l) = e := ⟨_, rfl⟩
  have HV := Lib.hid (show rsV (runS os l) = v ∧ rsB (runS os l) = b ∧ rsE (runS os l) = e ∧ stepsS os l = stepsS os l from ⟨hv, hb, he, rfl⟩)
  have HC := Lib.hid (rplay_as A A' c c' l os v e b _ HV w w hr.self h ho)
  have HRV := Lib.hid (show RV (runS os l) = .tuple #[.int .i64 v, .bool b, .int .i64 e] by rw [← hv, ← hb, ← he])
  generalize stepsS os l = n at *
  clear hv hb he h ho hr
  go_enter Tryz.func14, Tryz.ntmps14
  go_upto_region 2 with (go_at_call 26; (with_reducible refine HC.out.mono ?_); rintro r w1 ⟨rfl, h1⟩)
  have HX := Lib.hid (Bk.new w1 66 #[.int .i64 v, .bool b])
  obtain ⟨⟨x0, x1⟩, _⟩ := HX.out.two
  go_quiet (fail)
  go_wp2_with (fail)
  refine bodyPost_ret (v := .tuple #[.int .i64 v, .bool b, .int .i64 e]) (by simp [results, Tryz.results14, go_sem]) rfl ?_
  exact ⟨by rw [HRV.out], HR.out.trans ((h1.alloc _).drewN _)⟩
set_option maxRecDepth 100000 in
set_option maxHeartbeats 4000000 in
theorem rsteps_any (A A' : Option Addr) (c c' : Nat) (l : List In) (os : List Of) (w0 w : World) (hr : Rel w0 w) (h : InsArg w A c l) (ho : OffArg w A' c' os) :
    Calls Tryz.prog 16 #[.slice A l.length c, .slice A' os.length c'] w fun r w' => r = .returned (.int .i64 (stepsS os l : Int)) ∧ Rel w0 w' := by
  have HR := Lib.hid hr
  obtain ⟨v, hv⟩ : ∃ v, rsV (runS os l) = v := ⟨_, rfl⟩
  obtain ⟨b, hb⟩ : ∃ b, rsB (runS os l) = b := ⟨_, rfl⟩
  obtain ⟨e, he⟩ : ∃ e, rsE (runS os l) = e := ⟨_, rfl⟩
  have HV := Lib.hid (show rsV (runS os l) = v ∧ rsB (runS os l) = b ∧ rsE (runS os l) = e ∧ stepsS os l = stepsS os l from ⟨hv, hb, he, rfl⟩)
  have HC := Lib.hid (rplay_as A A' c c' l os v e b _ HV w w hr.self h ho)
  generalize stepsS os l = n at *
  clear hv hb he h ho hr
  go_enter Tryz.func16, Tryz.ntmps16
  go_wp2_with (go_at_call 26; (with_reducible refine HC.out.mono ?_); rintro r w1 ⟨rfl, h1⟩)
  go_ret
  exact ⟨rfl, HR.out.trans (h1.alloc _)⟩
end Go.Proofs.YtcckemhelockaaaGreatDoor

namespace Go.Proofs.YtcckemhelockaaaGreatDoor
open Go.RowKit Go.Lib
set_option linter.unusedVariables false
set_option linter.unusedSimpArgs false
theorem two_offs11 {w : World} {q : Nat} {A A' : Option Addr} {c c' : Nat} {os os' : List Of} (h : Bk w q 24 #[.slice A os.length c, .slice A' os'.length c']) (ho : OffArg w A c os) (ho' : OffArg w A' c' os') (i : Nat) (hi : i < 2) :
    ∃ (A2 : Option Addr) (c2 : Nat) (os2 : List Of), w.cell? ⟨q, i, none⟩ = some (.slice A2 os2.length c2) ∧ OffArg w A2 c2 os2 := by
  have hc := h.cell i
  match i, hi with
  | 0, _ => exact ⟨A, c, os, hc, ho⟩
  | 1, _ => exact ⟨A', c', os', hc, ho'⟩
theorem two_ins {w : World} {q : Nat} {A A' : Option Addr} {c c' : Nat} {l l' : List In} (h : Bk w q 23 #[.slice A l.length c, .slice A' l'.length c']) (ho : InsArg w A c l) (ho' : InsArg w A' c' l') (i : Nat) (hi : i < 2) :
    ∃ (A2 : Option Addr) (c2 : Nat) (l2 : List In), w.cell? ⟨q, i, none⟩ = some (.slice A2 l2.length c2) ∧ InsArg w A2 c2 l2 := by
  have hc := h.cell i
  match i, hi with
  | 0, _ => exact ⟨A, c, l, hc, ho⟩
  | 1, _ => exact ⟨A', c', l', hc, ho'⟩
/-- The same, of the document's own answers. -/
theorem rrun_at (l : List In) (os : List Of) (v e : Int) (b : Bool) (hv : Hid (RV (runS os l) = .tuple #[.int .i64 v, .bool b, .int .i64 e])) (A A' : Option Addr) (c c' : Nat) (w0 w : World) (hr : Rel w0 w) (h : InsArg w A c l) (ho : OffArg w A' c' os) :
    Calls Tryz.prog 14 #[.slice A l.length c, .slice A' os.length c'] w fun r w' => r = .returned (.tuple #[.int .i64 v, .bool b, .int .i64 e]) ∧ Rel w0 w' := by
  rw [← hv.out]; exact rrun_any A A' c c' l os w0 w hr h ho
theorem rsteps_at (l : List In) (os : List Of) (k : Nat) (hv : Hid (stepsS os l = k)) (A A' : Option Addr) (c c' : Nat) (w0 w : World) (hr : Rel w0 w) (h : InsArg w A c l) (ho : OffArg w A' c' os) :
    Calls Tryz.prog 16 #[.slice A l.length c, .slice A' os.length c'] w fun r w' => r = .returned (.int .i64 (k : Int)) ∧ Rel w0 w' := by
  rw [← hv.out]; exact rsteps_any A A' c c' l os w0 w hr h ho
set_option maxRecDepth 100000 in
set_option maxHeartbeats 16000000 in
theorem RunTells_at (H : RunsOk) (A1 : Option Addr) (c1 : Nat) (ys : List (Int × Int)) (A7 : Option Addr) (c7 : Nat) (l7 : List In) (A3 : Option Addr) (c3 : Nat) (zs : List (Int × Int)) (A4 : Option Addr) (c4 : Nat) (os4 : List Of) (w : World) (hr : Rel w w) (hy : PairsIn w A1 ys.length ys) (h7 : InsArg w A7 c7 l7) (hz : PairsIn w A3 zs.length zs) (ho4 : OffArg w A4 c4 os4) :
    Calls Tryz.prog 3 #[.slice A1 ys.length c1, .slice A7 l7.length c7, .slice A3 zs.length c3, .slice A4 os4.length c4] w fun e w' => e = .returned (.bool true) ∧ Rel w w' := by
  have H := Lib.hid H
  have HR := Lib.hid hr
  have HZ := Lib.hid hz
  have HY := Lib.hid hy
  have HO4 := Lib.hid ho4
  have HI7 := Lib.hid h7
  obtain ⟨os, hos⟩ : ∃ os, offS zs = os := ⟨_, rfl⟩
  have hOf := fun (w0 w : World) (hr : Rel w0 w) (hz : PairsIn w A3 zs.length zs) => offers_any A3 c3 zs w0 w hr hz
  rw [hos] at hOf
  have HOf := Lib.hid hOf
  have HFit := Lib.hid (show OffsFit os from by rw [← hos]; exact offs_fit (offS_ok zs))
  obtain ⟨l, hl⟩ : ∃ l, someL ys = l := ⟨_, rfl⟩
  have hS := fun (w0 w : World) (hr : Rel w0 w) (hy : PairsIn w A1 ys.length ys) => some_any A1 c1 ys w0 w hr hy
  rw [hl] at hS
  have HS := Lib.hid hS
  have HFl := Lib.hid (show InsFit l from by rw [← hl]; exact ins_fit (some_ok ys).1)
  clear hy hz hr h7 ho4 hos hOf hl hS
  go_enter Tryz.func3, Tryz.ntmps3
  go_upto_block 0 with (first
    | (go_at_call 10; (with_reducible refine (awake11_any H.out _ _ HR.out).mono ?_); rintro e w1 ⟨rfl, h1⟩; have R1 := Lib.hid h1)
    | (go_at_call 11; (with_reducible refine (HS.out _ _ R1.out.self (HY.out.rel9 R1.out)).mono ?_); rintro e2 w2 ⟨A2, c2, rfl, o2, h2⟩; have R2 := Lib.hid (R1.out.trans h2); have I2 := Lib.hid (InsOwn.arg o2 HFl.out)))
  have RA := Lib.hid (R2.out.alloc (.cells #[.slice A2 l.length c2, .slice A7 l7.length c7] 23))
  have rA := R2.out.self.alloc (.cells #[.slice A2 l.length c2, .slice A7 l7.length c7] 23)
  have HTw := Lib.hid (fun i hi => two_ins (Bk.new w2 23 #[.slice A2 l.length c2, .slice A7 l7.length c7]) (I2.out.rel rA) ((HI7.out.rel R2.out).rel rA) i hi)
  obtain ⟨W, hW⟩ : ∃ W, w2.alloc (.cells #[.slice A2 l.length c2, .slice A7 l7.length c7] 23) = W := ⟨_, rfl⟩
  rw [hW] at RA HTw ⊢
  clear hW rA o2 h1 h2
  go_wp2_with (fail)
  go_loopw [26] (fun i wr => ∃ (j : Nat), i = .int .i64 (j : Int) ∧ j ≤ 2 ∧ Rel W wr) (fun i _ => 2 - (RowKit.intOf i).toNat)
  case atStart => exact ⟨0, rfl, by omega, RA.out.self⟩
  case round =>
    obtain ⟨j, rfl, hj, hRw⟩ := hrel
    have HRw := Lib.hid hRw
    by_cases hlt : j < 2
    · obtain ⟨A5, c5, l5, hcell, ho5⟩ := HTw.out j hlt
      have hj2 : (j : Int) < 2 := by omega
      have hc5 := (hRw.2.cell (p := ⟨w2.heap.size, j, none⟩) (blk_of_cell hcell)).trans hcell
      have HI5 := Lib.hid (ho5.rel hRw)
      have HRq := Lib.hid (RA.out.trans hRw)
      obtain ⟨wo, hwo⟩ : ∃ wo, wo = wr := ⟨_, rfl⟩
      subst hwo
      clear hcell ho5 hRw
      go_upto_block 2 with (go_at_call 12; (with_reducible refine (HOf.out _ _ HRq.out.self (HZ.out.rel9 HRq.out)).mono ?_); rintro e w4 ⟨A6, c6, rfl, hO, h4⟩; have R4 := Lib.hid h4; have HO := Lib.hid (hO.arg HFit.out))
      have rV := R4.out.self.alloc (.cells #[.slice A6 os.length c6, .slice A4 os4.length c4] 24)
      have RVv := Lib.hid (R4.out.alloc (.cells #[.slice A6 os.length c6, .slice A4 os4.length c4] 24))
      have HTo := Lib.hid (fun i hi => two_offs11 (Bk.new w4 24 #[.slice A6 os.length c6, .slice A4 os4.length c4]) (HO.out.rel rV) (((HO4.out.rel HRq.out).rel R4.out).rel rV) i hi)
      obtain ⟨V, hV⟩ : ∃ V, w4.alloc (.cells #[.slice A6 os.length c6, .slice A4 os4.length c4] 24) = V := ⟨_, rfl⟩
      rw [hV] at RVv HTo ⊢
      have HIv := Lib.hid (HI5.out.rel RVv.out)
      clear hV rV hO h4
      go_wp2_with (fail)
      go_loopw [35] (fun i wr => ∃ (q : Nat), i = .int .i64 (q : Int) ∧ q ≤ 2 ∧ Rel V wr) (fun i _ => 2 - (RowKit.intOf i).toNat)
      case atStart => exact ⟨0, rfl, by omega, RVv.out.right3⟩
      case round =>
        obtain ⟨q, rfl, hq, hRw2⟩ := hrel
        have HRw2 := Lib.hid hRw2
        by_cases hlt2 : q < 2
        · obtain ⟨A8, c8, os8, hcell2, ho8⟩ := HTo.out q hlt2
          have hq2 : (q : Int) < 2 := by omega
          have hc8 := (hRw2.2.cell (p := ⟨w4.heap.size, q, none⟩) (blk_of_cell hcell2)).trans hcell2
          have HO8 := Lib.hid (ho8.rel hRw2)
          have HI8 := Lib.hid (HIv.out.rel hRw2)
          have HSq := Lib.hid hRw2.right3
          obtain ⟨wp, hwp⟩ : ∃ wp, wp = wr := ⟨_, rfl⟩
          subst hwp
          obtain ⟨v, b, e, hv⟩ : ∃ (v : Int) (b : Bool) (e : Int), RV (runS os8 l5) = .tuple #[.int .i64 v, .bool b, .int .i64 e] := ⟨_, _, _, rfl⟩
          obtain ⟨k, hk⟩ : ∃ k, stepsS os8 l5 = k := ⟨_, rfl⟩
          have Q1 := Lib.hid hv
          have Q2 := Lib.hid hk
          clear hcell2 ho8 hRw2 hv hk
          go_upto_region 10 with (first
            | (go_at_call 13; (with_reducible refine (runl_at H.out l5 os8 v e b Q1 A5 A8 c5 c8 _ _ HSq.out HI8.out HO8.out).mono ?_); rintro e5 w5 ⟨rfl, h5⟩; have R5 := Lib.hid h5)
            | (go_at_call 14; (with_reducible refine (rrun_at l5 os8 v e b Q1 A5 A8 c5 c8 _ _ R5.out (HI8.out.rel R5.out) (HO8.out.rel R5.out)).mono ?_); rintro e6 w6 ⟨rfl, h6⟩; have R6 := Lib.hid h6))
          go_wp2_with (first
            | (go_at_call 15; (with_reducible refine (steps_at H.out l5 os8 k Q2 A5 A8 c5 c8 _ _ R6.out (HI8.out.rel R6.out) (HO8.out.rel R6.out)).mono ?_); rintro e7 w7 ⟨rfl, h7⟩; have R7 := Lib.hid h7)
            | (go_at_call 16; (with_reducible refine (rsteps_at l5 os8 k Q2 A5 A8 c5 c8 _ _ R7.out (HI8.out.rel R7.out) (HO8.out.rel R7.out)).mono ?_); rintro e8 w8 ⟨rfl, h8⟩; have R8 := Lib.hid h8))
          go_roundw
          case rel => exact ⟨q + 1, by go_num, by omega, HRw2.out.trans R8.out⟩
          case measure => simp [RowKit.intOf]; omega
        · obtain rfl : q = 2 := by omega
          go_wp2_with (fail)
          go_roundw
          case rel => exact ⟨j + 1, by go_num, by omega, (HRw.out.trans RVv.out).trans HRw2.out⟩
          case measure => simp [RowKit.intOf]; omega
    · obtain rfl : j = 2 := by omega
      go_wp2_with (fail)
      go_ret
      exact ⟨rfl, RA.out.trans HRw.out⟩
end Go.Proofs.YtcckemhelockaaaGreatDoor
