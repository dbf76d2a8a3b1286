/- RunSame, over what the program is asked. -/
import Derived.Test.YtcckemhelockaaaGreatDoorZL
import Derived.Test.YtcckemhelockaaaGreatDoorZ00
import Derived.Test.YtcckemhelockaaaGreatDoorZ01
import Derived.Test.YtcckemhelockaaaGreatDoorZ02
import Derived.Test.YtcckemhelockaaaGreatDoorZ03
import Derived.Test.YtcckemhelockaaaGreatDoorZ04
import Derived.Test.YtcckemhelockaaaGreatDoorZ07
import Derived.Test.YtcckemhelockaaaGreatDoorZ09
import Derived.Test.YtcckemhelockaaaGreatDoorZ15
import Derived.Test.YtcckemhelockaaaGreatDoorZ16
import Derived.Test.YtcckemhelockaaaGreatDoorZ30
import Derived.Test.YtcckemhelockaaaGreatDoorZ32
import Derived.Test.YtcckemhelockaaaGreatDoorZ33
import Derived.Test.YtcckemhelockaaaGreatDoorZ41
import Derived.Test.YtcckemhelockaaaGreatDoorZ52
namespace Go.Proofs.YtcckemhelockaaaGreatDoor
open Go.RowKit Go.Lib
set_option linter.unusedVariables false
set_option linter.unusedSimpArgs false
theorem reval11 (x : Ex) (os : List Of) (m : Nat) (v e : Int) (b : Bool) (hv : Hid (RV (evalS os x) = .tuple #[.int .i64 v, .bool b, .int .i64 e])) (hm : Hid (os.length = m)) (S : Nat → Prop) (el : El) (A : Option Addr) (c : Nat) (w0 w : World) (hr : Rel w0 w) (h : ExAt S w el x) (hz : size x ≤ 90000) (ho : OffArg w A c os) (ev : Value) (he : Hid (EV el = ev)) :
    Calls Tryz.prog 20 #[ev, .slice A m c] w fun z w' => z = .returned (.tuple #[.int .i64 v, .bool b, .int .i64 e]) ∧ Rel w0 w' := by
  rw [← he.out, ← hm.out, ← hv.out]; exact reval_any x S el A c os w0 w hr h (by omega) ho
theorem eval_no {os : List Of} {x : Ex} (h : rightX x = false) : evalS os x = .error 1 := by
  unfold evalS
  rw [h]
  simp
set_option maxRecDepth 100000 in
set_option maxHeartbeats 16000000 in
theorem RunSame_at (H : RunsOk) (HC : CompileOk) (HE : EvalOk) (A1 : Option Addr) (c1 : Nat) (L : List Int) (A : Option Addr) (c : Nat) (zs : List (Int × Int)) (w : World) (hr : Rel w w) (hi : IntsIn w A1 c1 L) (hz : PairsIn w A zs.length zs) :
    Calls Tryz.prog 4 #[.slice A1 L.length c1, .slice A zs.length c] w fun e w' => e = .returned (.bool true) ∧ Rel w w' := by
  have H := Lib.hid H
  have HC := Lib.hid HC
  have HE := Lib.hid HE
  have HR := Lib.hid hr
  have HZ := Lib.hid hz
  have HI0 := Lib.hid hi
  obtain ⟨os, hos⟩ : ∃ os, offS zs = os := ⟨_, rfl⟩
  obtain ⟨M, hM⟩ : ∃ M, os.length = M := ⟨_, rfl⟩
  have hOf := fun (w0 w : World) (hr : Rel w0 w) (hz : PairsIn w A zs.length zs) => offers_any A c zs w0 w hr hz
  rw [hos, hM] at hOf
  have HOf := Lib.hid hOf
  have HM := Lib.hid hM
  have HFit := Lib.hid (show OffsFit os from by rw [← hos]; exact offs_fit (offS_ok zs))
  obtain ⟨x, hx⟩ : ∃ x, strat L = x := ⟨_, rfl⟩
  have hS := fun (w0 w : World) (hr : Rel w0 w) (h : IntsIn w A1 c1 L) => strat_any A1 c1 L w0 w hr h
  have zx : size x ≤ 70000 := by have := strat_size L; rw [hx] at this; omega
  have zx9 : size x ≤ 90000 := by omega
  rw [hx] at hS
  have HSt := Lib.hid hS
  clear hi hx hS hr hz hos hOf hM
  go_enter Tryz.func4, Tryz.ntmps4
  go_upto_region 3 with (first
    | (go_at_call 10; (with_reducible refine (awake11_any H.out _ _ HR.out).mono ?_); rintro e1 w1 ⟨rfl, h1⟩; have R1 := Lib.hid h1)
    | (go_at_call 17; (with_reducible refine (HSt.out _ _ R1.out (HI0.out.rel R1.out)).mono ?_); rintro e2 w2 ⟨vx, rfl, ex, h2⟩; have R2 := Lib.hid h2))
  have RA := Lib.hid (R2.out.alloc (.cells #[.int .i64 vx.1, .int .i64 vx.2.1, .string (B vx.2.2.1), .slice vx.2.2.2.1 vx.2.2.2.2.1 vx.2.2.2.2.2] 38))
  have HB := Lib.hid (Bk.new w2 38 #[.int .i64 vx.1, .int .i64 vx.2.1, .string (B vx.2.2.1), .slice vx.2.2.2.1 vx.2.2.2.2.1 vx.2.2.2.2.2])
  have EX := Lib.hid ((ex.rel (R2.out.self.alloc (.cells #[.int .i64 vx.1, .int .i64 vx.2.1, .string (B vx.2.2.1), .slice vx.2.2.2.1 vx.2.2.2.2.1 vx.2.2.2.2.2] 38))).weak (S' := fun _ => True) (fun _ _ => trivial))
  obtain ⟨W, hW⟩ : ∃ W, w2.alloc (.cells #[.int .i64 vx.1, .int .i64 vx.2.1, .string (B vx.2.2.1), .slice vx.2.2.2.1 vx.2.2.2.2.1 vx.2.2.2.2.2] 38) = W := ⟨_, rfl⟩
  rw [hW] at RA HB EX ⊢
  clear hW ex h1 h2
  go_upto_region 4 with (go_at_call 12; (with_reducible refine (HOf.out _ _ RA.out.self (HZ.out.rel9 RA.out)).mono ?_); rintro e3 w3 ⟨A3, c3, rfl, o3, h3⟩; have R3 := Lib.hid h3; have O3 := Lib.hid (OffOwn.arg (by rw [HM.out]; exact o3) HFit.out))
  obtain ⟨⟨x0, x1, x2, x3⟩, _⟩ := (HB.out.rel R3.out).four
  have EX3 := Lib.hid (EX.out.rel R3.out)
  clear o3 h3
  obtain ⟨b, hb⟩ : ∃ b, rightX x = b := ⟨_, rfl⟩
  cases b with
  | false =>
    have Q := Lib.hid (show codX x = [] ∧ codR x = 1 from ⟨(codX_no hb).1, (codX_no hb).2⟩)
    have QN := Lib.hid (show ([] : List In).length = 0 from rfl)
    have QV := Lib.hid (show RV (evalS os x) = .tuple #[.int .i64 0, .bool false, .int .i64 1] from by rw [eval_no hb]; rfl)
    clear hb
    go_upto_region 5 with (go_at_call 18; (with_reducible refine (compile11 HC.out x [] 0 1 Q QN _ vx _ _ R3.out.self EX3.out zx9 _ (Lib.hid rfl)).mono ?_); rintro e w4 ⟨A4, a4, rfl, o4, h4⟩; have R4 := Lib.hid h4)
    obtain ⟨⟨y0, y1, y2, y3⟩, _⟩ := (HB.out.rel (R3.out.trans R4.out)).four
    go_upto_region 6 with (go_at_call 19; (with_reducible refine (eval11 HE.out x os M 0 1 false QV HM _ vx A3 c3 _ _ R4.out (EX3.out.rel R4.out) zx9 (O3.out.rel R4.out) _ (Lib.hid rfl)).mono ?_); rintro e5 w5 ⟨rfl, h5⟩; have R5 := Lib.hid h5)
    obtain ⟨⟨z0, z1, z2, z3⟩, _⟩ := (HB.out.rel (R3.out.trans R5.out)).four
    go_upto_region 7 with (go_at_call 20; (with_reducible refine (reval11 x os M 0 1 false QV HM _ vx A3 c3 _ _ R5.out (EX3.out.rel R5.out) zx9 (O3.out.rel R5.out) _ (Lib.hid rfl)).mono ?_); rintro e6 w6 ⟨rfl, h6⟩; have R6 := Lib.hid h6)
    go_wp2_with (fail)
    go_ret
    exact ⟨rfl, HR.out.trans (RA.out.trans (R3.out.trans R6.out))⟩
  | true =>
    obtain ⟨l, hl⟩ : ∃ l, codX x = l := ⟨_, rfl⟩
    obtain ⟨N, hN⟩ : ∃ N, l.length = N := ⟨_, rfl⟩
    obtain ⟨k1, k2, k3⟩ := codX_code x hb
    rw [hl] at k1
    obtain ⟨v, b, e, hv⟩ : ∃ (v : Int) (b : Bool) (e : Int), RV (evalS os x) = .tuple #[.int .i64 v, .bool b, .int .i64 e] := ⟨_, _, _, rfl⟩
    have Q := Lib.hid (show codX x = l ∧ codR x = 0 from ⟨hl, (codX_yes hb).2⟩)
    have QN := Lib.hid hN
    have QV := Lib.hid hv
    have QR := Lib.hid (show RV (runS os l) = .tuple #[.int .i64 v, .bool b, .int .i64 e] from by rw [← hl, (codX_yes hb).1, run_same os hb]; exact hv)
    have HF := Lib.hid (ins_fit k1)
    clear hl hb k1 k2 k3 hN hv
    go_upto_region 5 with (go_at_call 18; (with_reducible refine (compile11 HC.out x l N 0 Q QN _ vx _ _ R3.out.self EX3.out zx9 _ (Lib.hid rfl)).mono ?_); rintro e4 w4 ⟨A4, a4, rfl, o4, h4⟩; have R4 := Lib.hid h4; have I4 := Lib.hid (InsOwn.arg (by rw [QN.out]; exact o4) HF.out))
    obtain ⟨⟨y0, y1, y2, y3⟩, _⟩ := (HB.out.rel (R3.out.trans R4.out)).four
    have R4s := Lib.hid (show Rel w4 w4 from R4.out.right3)
    go_upto_region 6 with (go_at_call 19; (with_reducible refine (eval11 HE.out x os M v e b QV HM _ vx A3 c3 _ _ R4s.out (EX3.out.rel R4.out) zx9 (O3.out.rel R4.out) _ (Lib.hid rfl)).mono ?_); rintro e5 w5 ⟨rfl, h5⟩; have R5 := Lib.hid h5; have T5 := Lib.hid (R4.out.trans h5))
    obtain ⟨⟨z0, z1, z2, z3⟩, _⟩ := (HB.out.rel (R3.out.trans T5.out)).four
    go_upto_region 7 with (go_at_call 20; (with_reducible refine (reval11 x os M v e b QV HM _ vx A3 c3 _ _ R5.out (EX3.out.rel T5.out) zx9 (O3.out.rel T5.out) _ (Lib.hid rfl)).mono ?_); rintro e6 w6 ⟨rfl, h6⟩; have R6 := Lib.hid h6)
    go_wp2_with (go_at_call 13; (with_reducible refine (run_lm H.out l os N M v e b QR QN HM A4 A3 a4 c3 _ _ R6.out (I4.out.rel R6.out) (O3.out.rel (R4.out.trans R6.out))).mono ?_); rintro e7 w7 ⟨rfl, h7⟩; have R7 := Lib.hid h7)
    go_ret
    exact ⟨rfl, HR.out.trans (RA.out.trans (R3.out.trans (R4.out.trans R7.out)))⟩
end Go.Proofs.YtcckemhelockaaaGreatDoor
