/- Plain mathematics of layer 10: strategies as instructions. No program in this text; Plain mathematics of layer 10: which code may be; what is compiled may; where it leads. No program in this text; Plain mathematics of layer 11: what the laws say of code. No program in this text; RunAlone, over what the program is asked. -/
import Derived.Test.YtcckemhelockaaaGreatDoorZL
import Derived.Test.YtcckemhelockaaaGreatDoorZ00
import Derived.Test.YtcckemhelockaaaGreatDoorZ01
import Derived.Test.YtcckemhelockaaaGreatDoorZ02
import Derived.Test.YtcckemhelockaaaGreatDoorZ03
import Derived.Test.YtcckemhelockaaaGreatDoorZ04
import Derived.Test.YtcckemhelockaaaGreatDoorZ07
import Derived.Test.YtcckemhelockaaaGreatDoorZ09
import Derived.Test.YtcckemhelockaaaGreatDoorZ15
import Derived.Test.YtcckemhelockaaaGreatDoorZ16
import Derived.Test.YtcckemhelockaaaGreatDoorZ18
import Derived.Test.YtcckemhelockaaaGreatDoorZ20
import Derived.Test.YtcckemhelockaaaGreatDoorZ21
import Derived.Test.YtcckemhelockaaaGreatDoorZ22
import Derived.Test.YtcckemhelockaaaGreatDoorZ23
import Derived.Test.YtcckemhelockaaaGreatDoorZ24
import Derived.Test.YtcckemhelockaaaGreatDoorZ25
import Derived.Test.YtcckemhelockaaaGreatDoorZ29
import Derived.Test.YtcckemhelockaaaGreatDoorZ30
import Derived.Test.YtcckemhelockaaaGreatDoorZ32
import Derived.Test.YtcckemhelockaaaGreatDoorZ33
import Derived.Test.YtcckemhelockaaaGreatDoorZ39
import Derived.Test.YtcckemhelockaaaGreatDoorZ40
import Derived.Test.YtcckemhelockaaaGreatDoorZ41
namespace Go.Proofs.YtcckemhelockaaaGreatDoor
open Go.Lib
set_option linter.unusedVariables false
set_option linter.unusedSimpArgs false
def mv (s : Nat) (t : In) : In := if isTo t.1 then (t.1, t.2.1 + s, t.2.2) else t
theorem mv_map (s : Nat) (l : List In) : (l.map (mv s)).length = l.length := List.length_map ..
theorem mv_to (s : Nat) (o : Int) (n : Int) (nm : List UInt8) (h : isTo o = true) : mv s (o, n, nm) = (o, n + s, nm) := by unfold mv; rw [if_pos h]
theorem mv_no (s : Nat) (o : Int) (n : Int) (nm : List UInt8) (h : isTo o = false) : mv s (o, n, nm) = (o, n, nm) := by unfold mv; rw [if_neg (by simp only at h ⊢; simp [h])]
theorem opK_to {d : Nat} {k n : Int} {nm : List UInt8} {l : List Ex} (h : fine (d + 1) (.mk k n nm l) = true) (h9 : k ≠ 9) (h10 : k ≠ 10) : isTo (opK k) = false ∧ 1 ≤ opK k ∧ opK k ≤ 11 := by
  have hp := (fine_parts h).1
  have hk : k = 1 ∨ k = 2 ∨ k = 3 ∨ k = 4 ∨ k = 5 ∨ k = 6 ∨ k = 7 ∨ k = 8 ∨ k = 11 ∨ k = 12 := by
    unfold argsN at hp
    split at hp
    · omega
    · split at hp
      · omega
      · split at hp
        · omega
        · first | omega | (split at hp <;> omega)
  rcases hk with rfl | rfl | rfl | rfl | rfl | rfl | rfl | rfl | rfl | rfl <;> decide
/-- Code that stands elsewhere is the same, but for places. -/
theorem cod_move : ∀ d x, fine d x = true → ∀ s at_, cod x (s + at_) = (cod x at_).map (mv s) := fine_ind
  (fun d k n nm l h h9 h10 ih s at_ => by
    rw [cod_op h9 h10, cod_op h9 h10, List.map_append, List.map_cons, List.map_nil, mv_no s _ _ _ (opK_to h h9 h10).1]
    have : ∀ at_, cods l (s + at_) = (cods l at_).map (mv s) := by
      clear h
      induction l with
      | nil => intro _; rw [cods_nil, cods_nil]; rfl
      | cons x t ih2 => intro p; rw [cods_cons, cods_cons, List.map_append, ih x (List.mem_cons_self ..), Nat.add_assoc, ih2 fun y hy => ih y (List.mem_cons_of_mem _ hy)]
    rw [this])
  (fun d n nm a b h ha hb s at_ => by
    rw [cod_else, cod_else, ha, show s + at_ + clen a + 1 = s + (at_ + clen a + 1) by omega, hb]
    unfold joinE
    rw [List.map_append, List.map_cons, mv_to _ _ _ _ rfl, mv_map, mv_map]
    congr 3
    simp only [Prod.mk.injEq, and_true, true_and]; omega)
  (fun d n nm c a b h hc ha hb s at_ => by
    rw [cod_if, cod_if, hc, show s + at_ + clen c + 1 = s + (at_ + clen c + 1) by omega, ha, show s + at_ + clen c + 2 + clen a = s + (at_ + clen c + 2 + clen a) by omega, hb]
    unfold joinI
    rw [List.map_append, List.map_cons, List.map_append, List.map_cons, mv_to _ _ _ _ rfl, mv_to _ _ _ _ rfl, mv_map, mv_map, mv_map]
    congr 3
    · simp only [Prod.mk.injEq, and_true, true_and]; omega
    · congr 2
      simp only [Prod.mk.injEq, and_true, true_and]; omega)
end Go.Proofs.YtcckemhelockaaaGreatDoor

namespace Go.Proofs.YtcckemhelockaaaGreatDoor
open Go.Lib
set_option linter.unusedVariables false
set_option linter.unusedSimpArgs false
/-- Where it leads: behind itself, at most to the end. -/
theorem leads_in {l : List In} (h : codeOk l = true) {i : Nat} (hi : i < l.length) (ht : isTo l[i].1 = true) : (i : Int) < l[i].2.1 ∧ l[i].2.1 ≤ (l.length : Int) := by
  have := (codeOk_iff.1 h).2 i hi
  unfold inOk leastO mostO at this
  simp only [Bool.and_eq_true, decide_eq_true_eq, ht, if_true] at this
  omega
end Go.Proofs.YtcckemhelockaaaGreatDoor

namespace Go.Proofs.YtcckemhelockaaaGreatDoor
open Go.Lib
set_option linter.unusedVariables false
set_option linter.unusedSimpArgs false
/-- A strategy's code, a lead over another one's, and that. -/
def overC (x y : Ex) : List In := cod x 0 ++ ((13, ((clen x + 1 + clen y : Nat) : Int), []) :: (cod y 0).map (mv (clen x + 1)))
theorem over_ok {x y : Ex} (hx : rightX x = true) (hy : rightX y = true) : codeOk (overC x y) = true ∧ (overC x y).length = clen x + 1 + clen y := by
  have fx := (rt_fine hx).1
  have fy := (rt_fine hy).1
  have lx := cod_len 32 x fx 0
  have ly := cod_len 32 y fy 0
  have e1 : (cod y 0).map (mv (clen x + 1)) = cod y (clen x + 1) := by rw [← cod_move 32 y fy (clen x + 1) 0, Nat.add_zero]
  have hl : (overC x y).length = clen x + 1 + clen y := by
    unfold overC
    rw [List.length_append, List.length_cons, List.length_map, lx, ly]; omega
  refine ⟨good_ok ?_ (by have := clen_right hx; have := clen_right hy; omega), hl⟩
  rw [hl]
  unfold overC
  rw [e1]
  refine (cod_good 32 x fx _ 0 (by omega)).append (GoodC.cons (inOk_to (.inr (.inr rfl)) (by omega) (Nat.le_refl _)) ?_)
  rw [lx, Nat.zero_add]
  exact cod_good 32 y fy _ _ (by omega)
theorem run_over (l : List Of) {x y : Ex} (hx : rightX x = true) (hy : rightX y = true) : runS l (overC x y) = evalS l x := by
  obtain ⟨hc, hl⟩ := over_ok hx hy
  cases ho : offsOk l with
  | false => rw [eval_not ho, (run_not ho _).1]
  | true =>
    have h := run_then hx ho _ hc
    have lx := cod_len 32 x (rt_fine hx).1 0
    cases he : evalS l x with
    | error e => rw [he] at h; exact h
    | ok v =>
      rw [he] at h
      obtain ⟨n, e1⟩ := h
      show runS l (overC x y) = _
      have hj : (overC x y)[clen x]? = some (13, ((clen x + 1 + clen y : Nat) : Int), []) := by
        unfold overC
        rw [List.getElem?_append_right (by omega), lx, Nat.sub_self]; rfl
      rw [show runS l (overC x y) = _ from e1]
      show endR (goM l (overC x y) (clen x) ([v], 0) n).1 = _
      rw [go_step (fwd_of hc) hj, step_jump, go_end _ _ _ _ _ (by rw [hl]; simp; omega)]
      rfl
end Go.Proofs.YtcckemhelockaaaGreatDoor

namespace Go.Proofs.YtcckemhelockaaaGreatDoor
open Go.RowKit Go.Lib
set_option linter.unusedVariables false
set_option linter.unusedSimpArgs false
theorem over_step {l : List In} {j : Nat} (hj : j < l.length) {t : In} (h : l[j] = t) (s : Nat) : (l.take (j + 1)).map (mv s) = (l.take j).map (mv s) ++ [mv s t] := by
  rw [List.take_succ_eq_append_getElem hj, List.map_append, h]; rfl
theorem over_all (a : List In) (J : In) (b : List In) (s : Nat) : a ++ (J :: b.map (mv s)) = a ++ [J] ++ (b.take b.length).map (mv s) := by
  rw [List.take_length, List.append_assoc]; rfl
set_option maxRecDepth 100000 in
set_option maxHeartbeats 16000000 in
theorem RunAlone_at (H : RunsOk) (HC : CompileOk) (HE : EvalOk) (A1 : Option Addr) (c1 : Nat) (L1 : List Int) (A2 : Option Addr) (c2 : Nat) (L2 : List Int) (A : Option Addr) (c : Nat) (zs : List (Int × Int)) (w : World) (hr : Rel w w) (hi : IntsIn w A1 c1 L1) (hi2 : IntsIn w A2 c2 L2) (hz : PairsIn w A zs.length zs) :
    Calls Tryz.prog 8 #[.slice A1 L1.length c1, .slice A2 L2.length c2, .slice A zs.length c] w fun e w' => e = .returned (.bool true) ∧ Rel w w' := by
  have H := Lib.hid H
  have HC := Lib.hid HC
  have HE := Lib.hid HE
  have HR := Lib.hid hr
  have HZ := Lib.hid hz
  have HI1 := Lib.hid hi
  have HI2 := Lib.hid hi2
  obtain ⟨os, hos⟩ : ∃ os, offS zs = os := ⟨_, rfl⟩
  obtain ⟨M, hM⟩ : ∃ M, os.length = M := ⟨_, rfl⟩
  have hOf := fun (w0 w : World) (hr : Rel w0 w) (hz : PairsIn w A zs.length zs) => offers_any A c zs w0 w hr hz
  rw [hos, hM] at hOf
  have HOf := Lib.hid hOf
  have HM := Lib.hid hM
  have HFit := Lib.hid (show OffsFit os from by rw [← hos]; exact offs_fit (offS_ok zs))
  obtain ⟨x, hx⟩ : ∃ x, strat L1 = x := ⟨_, rfl⟩
  have hS := fun (w0 w : World) (hr : Rel w0 w) (h : IntsIn w A1 c1 L1) => strat_any A1 c1 L1 w0 w hr h
  have zx9 : size x ≤ 90000 := by have := strat_size L1; rw [hx] at this; omega
  rw [hx] at hS
  have HSt := Lib.hid hS
  obtain ⟨y, hy⟩ : ∃ y, strat L2 = y := ⟨_, rfl⟩
  have hS2 := fun (w0 w : World) (hr : Rel w0 w) (h : IntsIn w A2 c2 L2) => strat_any A2 c2 L2 w0 w hr h
  have zy9 : size y ≤ 90000 := by have := strat_size L2; rw [hy] at this; omega
  rw [hy] at hS2
  have HSt2 := Lib.hid hS2
  obtain ⟨la, hla⟩ : ∃ l, codX x = l := ⟨_, rfl⟩
  obtain ⟨na, hna⟩ : ∃ n, la.length = n := ⟨_, rfl⟩
  obtain ⟨ea, hea⟩ : ∃ e, codR x = e := ⟨_, rfl⟩
  obtain ⟨lb, hlb⟩ : ∃ l, codX y = l := ⟨_, rfl⟩
  obtain ⟨nb, hnb⟩ : ∃ n, lb.length = n := ⟨_, rfl⟩
  obtain ⟨eb, heb⟩ : ∃ e, codR y = e := ⟨_, rfl⟩
  have QA := Lib.hid (show codX x = la ∧ codR x = ea from ⟨hla, hea⟩)
  have QB := Lib.hid (show codX y = lb ∧ codR y = eb from ⟨hlb, heb⟩)
  have NA := Lib.hid hna
  have NB := Lib.hid hnb
  clear hi hi2 hx hS hy hS2 hr hz hos hOf hM hla hna hea hlb hnb heb
  go_enter Tryz.func8, Tryz.ntmps8
  go_upto_region 3 with (first
    | (go_at_call 10; (with_reducible refine (awake11_any H.out _ _ HR.out).mono ?_); rintro e1 w1 ⟨rfl, h1⟩; have R1 := Lib.hid h1)
    | (go_at_call 17; (with_reducible refine (HSt.out _ _ R1.out (HI1.out.rel R1.out)).mono ?_); rintro e2 w2 ⟨vx, rfl, ex, h2⟩; have R2 := Lib.hid h2))
  have RA := Lib.hid (R2.out.alloc (.cells #[.int .i64 vx.1, .int .i64 vx.2.1, .string (B vx.2.2.1), .slice vx.2.2.2.1 vx.2.2.2.2.1 vx.2.2.2.2.2] 38))
  have HB := Lib.hid (Bk.new w2 38 #[.int .i64 vx.1, .int .i64 vx.2.1, .string (B vx.2.2.1), .slice vx.2.2.2.1 vx.2.2.2.2.1 vx.2.2.2.2.2])
  have EX := Lib.hid ((ex.rel (R2.out.self.alloc (.cells #[.int .i64 vx.1, .int .i64 vx.2.1, .string (B vx.2.2.1), .slice vx.2.2.2.1 vx.2.2.2.2.1 vx.2.2.2.2.2] 38))).weak (S' := fun _ => True) (fun _ _ => trivial))
  obtain ⟨W, hW⟩ : ∃ W, w2.alloc (.cells #[.int .i64 vx.1, .int .i64 vx.2.1, .string (B vx.2.2.1), .slice vx.2.2.2.1 vx.2.2.2.2.1 vx.2.2.2.2.2] 38) = W := ⟨_, rfl⟩
  rw [hW] at RA HB EX ⊢
  clear hW ex h1 h2
  go_upto_region 4 with (go_at_call 17; (with_reducible refine (HSt2.out _ _ RA.out.self (HI2.out.rel RA.out)).mono ?_); rintro e2 w3 ⟨vy, rfl, ey, h3⟩; have R3 := Lib.hid h3)
  have RB := Lib.hid (R3.out.alloc (.cells #[.int .i64 vy.1, .int .i64 vy.2.1, .string (B vy.2.2.1), .slice vy.2.2.2.1 vy.2.2.2.2.1 vy.2.2.2.2.2] 38))
  have HBy := Lib.hid (Bk.new w3 38 #[.int .i64 vy.1, .int .i64 vy.2.1, .string (B vy.2.2.1), .slice vy.2.2.2.1 vy.2.2.2.2.1 vy.2.2.2.2.2])
  have EY := Lib.hid ((ey.rel (R3.out.self.alloc (.cells #[.int .i64 vy.1, .int .i64 vy.2.1, .string (B vy.2.2.1), .slice vy.2.2.2.1 vy.2.2.2.2.1 vy.2.2.2.2.2] 38))).weak (S' := fun _ => True) (fun _ _ => trivial))
  obtain ⟨U, hU⟩ : ∃ U, w3.alloc (.cells #[.int .i64 vy.1, .int .i64 vy.2.1, .string (B vy.2.2.1), .slice vy.2.2.2.1 vy.2.2.2.2.1 vy.2.2.2.2.2] 38) = U := ⟨_, rfl⟩
  rw [hU] at RB HBy EY ⊢
  clear hU ey h3
  have EXu := Lib.hid (EX.out.rel RB.out)
  have HBu := Lib.hid (HB.out.rel RB.out)
  have RU := Lib.hid (show Rel U U from RB.out.right3)
  go_upto_region 5 with (go_at_call 12; (with_reducible refine (HOf.out _ _ RU.out (HZ.out.rel9 (RA.out.trans RB.out))).mono ?_); rintro e3 w4 ⟨A3, c3, rfl, o3, h4⟩; have R4 := Lib.hid h4; have O4 := Lib.hid (OffOwn.arg (by rw [HM.out]; exact o3) HFit.out))
  have R4s := Lib.hid (show Rel w4 w4 from R4.out.right3)
  obtain ⟨⟨x0, x1, x2, x3⟩, _⟩ := (HBu.out.rel R4.out).four
  clear o3 h4
  go_upto_region 6 with (go_at_call 18; (with_reducible refine (compile11 HC.out x la na ea QA NA _ vx _ _ R4s.out (EXu.out.rel R4.out) zx9 _ (Lib.hid rfl)).mono ?_); rintro e4 w5 ⟨A5, c5, rfl, o5, h5⟩; have R5 := Lib.hid h5; have P5 := Lib.hid o5)
  obtain ⟨⟨y0, y1, y2, y3⟩, _⟩ := (HBy.out.rel (R4.out.trans R5.out)).four
  have R5s := Lib.hid (show Rel w5 w5 from R5.out.right3)
  clear o5 h5
  go_upto_region 7 with (go_at_call 18; (with_reducible refine (compile11 HC.out y lb nb eb QB NB _ vy _ _ R5s.out (EY.out.rel (R4.out.trans R5.out)) zy9 _ (Lib.hid rfl)).mono ?_); rintro e5 w6 ⟨A6, c6, rfl, o6, h6⟩; have R6 := Lib.hid h6; have P6 := Lib.hid o6)
  have RT := Lib.hid (HR.out.trans (RA.out.trans (RB.out.trans (R4.out.trans (R5.out.trans R6.out)))))
  clear o6 h6
  obtain ⟨b1, hb1⟩ : ∃ b, rightX x = b := ⟨_, rfl⟩
  obtain ⟨b2, hb2⟩ : ∃ b, rightX y = b := ⟨_, rfl⟩
  cases b1 with
  | false =>
    obtain rfl : ea = 1 := by rw [← QA.out.2]; exact (codX_no hb1).2
    clear hb1 hb2
    go_wp2_with (fail)
    go_ret
    exact ⟨rfl, RT.out⟩
  | true =>
    obtain rfl : ea = 0 := by rw [← QA.out.2]; exact (codX_yes hb1).2
    cases b2 with
    | false =>
      obtain rfl : eb = 1 := by rw [← QB.out.2]; exact (codX_no hb2).2
      clear hb1 hb2
      go_wp2_with (fail)
      go_ret
      exact ⟨rfl, RT.out⟩
    | true =>
      obtain rfl : eb = 0 := by rw [← QB.out.2]; exact (codX_yes hb2).2
      obtain ⟨v, b, e, hv⟩ : ∃ (v : Int) (b : Bool) (e : Int), RV (evalS os x) = .tuple #[.int .i64 v, .bool b, .int .i64 e] := ⟨_, _, _, rfl⟩
      have hca : cod x 0 = la := by rw [← QA.out.1, (codX_yes hb1).1]
      have hcb : cod y 0 = lb := by rw [← QB.out.1, (codX_yes hb2).1]
      obtain ⟨ka, ka2, _⟩ := codX_code x hb1
      obtain ⟨kb, kb2, _⟩ := codX_code y hb2
      have hca0 := right_code hb1
      have hcb0 := right_code hb2
      rw [QA.out.1] at ka ka2
      rw [QB.out.1] at kb kb2
      rw [NA.out] at ka2
      rw [NB.out] at kb2
      have pa : 0 < na := by have := size_pos x; omega
      have pb : 0 < nb := by have := size_pos y; omega
      have cla : clen x = na := by rw [← hca0.2.1, hca]; exact NA.out
      have clb : clen y = nb := by rw [← hcb0.2.1, hcb]; exact NB.out
      have n5 := (codeOk_iff.1 ka).1
      have m5 := (codeOk_iff.1 kb).1
      rw [NA.out] at n5
      rw [NB.out] at m5
      have QV := Lib.hid hv
      have QR := Lib.hid (show RV (runS os la) = .tuple #[.int .i64 v, .bool b, .int .i64 e] from by rw [← hca, run_same os hb1]; exact hv)
      have hov : overC x y = la ++ [(13, (na : Int) + 1 + (nb : Int), [])] ++ (lb.take lb.length).map (mv (na + 1)) := by
        unfold overC
        rw [hca, hcb, cla, clb, over_all, show ((na + 1 + nb : Nat) : Int) = (na : Int) + 1 + (nb : Int) by omega]
      have QO := Lib.hid (show RV (runS os (la ++ [(13, (na : Int) + 1 + (nb : Int), [])] ++ (lb.take lb.length).map (mv (na + 1)))) = .tuple #[.int .i64 v, .bool b, .int .i64 e] from by rw [← hov, run_over os hb1 hb2]; exact hv)
      have QOf := Lib.hid (show InsFit (la ++ [(13, (na : Int) + 1 + (nb : Int), [])] ++ (lb.take lb.length).map (mv (na + 1))) from by rw [← hov]; exact ins_fit (over_ok hb1 hb2).1)
      have HFa := Lib.hid (ins_fit ka)
      have HKb := Lib.hid kb
      have s1 : IntKind.i64.wrap ((na : Int) + 1) = (na : Int) + 1 := IntWalk.i64_in _ (by omega)
      have s2 : IntKind.i64.wrap ((na : Int) + 1 + (nb : Int)) = (na : Int) + 1 + (nb : Int) := IntWalk.i64_in _ (by omega)
      clear hca hcb ka ka2 kb kb2 hca0 hcb0 cla clb hv hov hb1 hb2
      have p5 : InsOwn w5 w4.heap.size (.slice A5 la.length c5) la := by rw [NA.out]; exact P5.out
      have p6 : InsOwn w6 w5.heap.size (.slice A6 lb.length c6) lb := by rw [NB.out]; exact P6.out
      obtain ⟨ga, rfl⟩ : ∃ g, A5 = some ⟨g, 0, none⟩ := by
        rcases p5.form with ⟨_, _, h0⟩ | ⟨g, h0, _⟩
        · have := NA.out; rw [h0] at this; simp at this; omega
        · exact ⟨g, h0⟩
      obtain ⟨gb, rfl⟩ : ∃ g, A6 = some ⟨g, 0, none⟩ := by
        rcases p6.form with ⟨_, _, h0⟩ | ⟨g, h0, _⟩
        · have := NB.out; rw [h0] at this; simp at this; omega
        · exact ⟨g, h0⟩
      have IA := Lib.hid ((InsOwn.arg p5 HFa.out).rel R6.out)
      have ATb := Lib.hid (InsOwn.at p6 rfl)
      have O6 := Lib.hid (O4.out.rel (R5.out.trans R6.out))
      have R6s := Lib.hid (show Rel w6 w6 from R6.out.right3)
      clear p5 p6
      go_upto_region 10 with (go_at_call 13; (with_reducible refine (run_lm H.out la os na M v e b QR NA HM (some ⟨ga, 0, none⟩) A3 c5 c3 _ _ R6s.out IA.out O6.out).mono ?_); rintro e7 w7 ⟨rfl, h7⟩; have R7 := Lib.hid h7)
      have ATa := Lib.hid (IA.out.2.2.2.rel R7.out)
      have R7s := Lib.hid (show Rel w7 w7 from R7.out.right3)
      have HIn := Lib.hid (fun (u : World) => InsAt.of_bk (l := [(13, (na : Int) + 1 + (nb : Int), [])]) (Bk.new u 45 #[.int .i64 13, .int .i64 ((na : Int) + 1 + (nb : Int)), .string ⟨#[]⟩]))
      clear h7
      go_upto_region 11 with (first
        | (at_builtin; (refine wpList_plain rfl fun K' hK => wp_iapp _ _ rfl (base := w7.heap.size) (v := .slice none 0 0) (os := []) rfl (InsOwn.nil _ _) (A := some ⟨ga, 0, none⟩) (c := c5) (n := na) (l := la) rfl NA.out (fun e => by cases e) ATa.out (by have := NA.out; omega) (by simp) (Nat.le_refl _) fun va wa oa ga' ba => hK _ _ ?_); have OA := Lib.hid oa; have RWa := Lib.hid (R7s.out.grown ga' (fun q hq => by cases hq)); have HZa := Lib.hid ((RWa.out.alloc (.cells #[.int .i64 13, .int .i64 ((na : Int) + 1 + (nb : Int)), .string ⟨#[]⟩] 45)).size); clear oa ga' ba)
        | (at_builtin; (refine wpList_plain rfl fun K' hK => wp_iapp _ _ rfl (base := w7.heap.size) (v := va) (os := la) rfl (OA.out.row.alloc _) (A := some ⟨wa.heap.size, 0, none⟩) (c := 1) (n := 1) (l := [(13, (na : Int) + 1 + (nb : Int), [])]) rfl rfl (fun e => by cases e) (HIn.out _) (by simp) (by have := NA.out; omega) HZa.out fun vb wb ob gb' bb => hK _ _ ?_); have OB := Lib.hid ob; have RWb := Lib.hid ((RWa.out.alloc _).grown gb' (fun q hq => (OA.out.row.lt q hq).1)); clear ob gb' bb))
      obtain ⟨Al, cl, hvl⟩ := OB.out.slice_of
      rw [show (la ++ ([(13, (na : Int) + 1 + (nb : Int), [])] : List In)).length = na + 1 by rw [List.length_append, NA.out]; rfl] at hvl
      subst hvl
      have ATb7 := Lib.hid (ATb.out.rel R7.out)
      go_upto_block 0 with (fail)
      go_cut [18] (fun v wx => ∃ (A8 : Option Addr) (c8 : Nat), v = .slice A8 (na + 1 + nb) c8 ∧ InsOwn wx w7.heap.size (.slice A8 (na + 1 + nb) c8) (la ++ [(13, (na : Int) + 1 + (nb : Int), [])] ++ (lb.take nb).map (mv (na + 1))) ∧ Rel w7 wx)
      case first =>
        go_wp2_with (fail)
        go_loopw [18, 19] (fun v i wr => ∃ (j : Nat) (A8 : Option Addr) (c8 : Nat), j ≤ nb ∧ i = .int .i64 (j : Int) ∧ v = .slice A8 (na + 1 + j) c8 ∧ InsOwn wr w7.heap.size (.slice A8 (na + 1 + j) c8) (la ++ [(13, (na : Int) + 1 + (nb : Int), [])] ++ (lb.take j).map (mv (na + 1))) ∧ Rel w7 wr) (fun _ i _ => nb - (RowKit.intOf i).toNat)
        case atStart => exact ⟨0, Al, cl, by omega, rfl, rfl, by rw [List.take_zero, List.map_nil, List.append_nil]; exact OB.out, RWb.out⟩
        case round =>
          obtain ⟨j, A8, c8, hj, rfl, rfl, hO, hRw⟩ := hrel
          have HRw := Lib.hid hRw
          have HO := Lib.hid hO
          clear hO
          by_cases hlt : j < nb
          · obtain ⟨g', off, o, n, nm, e1, d0, d1, d2, ho⟩ := ins_at ATb7.out hRw j (by rw [NB.out]; exact hlt)
            injection e1 with e1; injection e1 with e1 e3; subst e1; subst e3
            rw [Nat.zero_add] at d0 d1 d2
            have HSt := Lib.hid (over_step (by rw [NB.out]; exact hlt) ho (na + 1))
            have HLn := Lib.hid (show (la ++ [(13, (na : Int) + 1 + (nb : Int), [])] ++ (lb.take j).map (mv (na + 1))).length = na + 1 + j by rw [List.length_append, List.length_append, List.length_map, List.length_take, NA.out, NB.out, show min j nb = j by omega]; rfl)
            have hto : isTo o = true → (j : Int) < n ∧ n ≤ (nb : Int) := fun h => by
              have := leads_in HKb.out (i := j) (by rw [NB.out]; exact hlt) (by rw [ho]; exact h)
              rw [ho, NB.out] at this; exact this
            have q1 : IntKind.i64.wrap ((j : Int) + 1) = (j : Int) + 1 := IntWalk.i64_in _ (by omega)
            obtain ⟨⟨b0, b1', b2'⟩, b3, b4, b5⟩ := three_of11 (Bk.new wr 45 #[.int .i64 o, .int .i64 n, .string (B nm)])
            clear ho hRw
            by_cases ht : isTo o = true
            · obtain ⟨n1, n2⟩ := hto ht
              have q2 : IntKind.i64.wrap (n + (na : Int)) = n + (na : Int) := IntWalk.i64_in _ (by omega)
              have q3 : IntKind.i64.wrap (n + (na : Int) + 1) = n + (na : Int) + 1 := IntWalk.i64_in _ (by omega)
              have HMv := Lib.hid (show mv (na + 1) (o, n, nm) = (o, n + (na : Int) + 1, nm) by rw [mv_to _ _ _ _ ht, show n + ((na + 1 : Nat) : Int) = n + (na : Int) + 1 by omega])
              have hway : ((o == 9) = true) ∨ ((o == 9) = false ∧ (o == 12) = true) ∨ ((o == 9) = false ∧ (o == 12) = false ∧ (o == 13) = true) := by
                unfold isTo at ht
                simp only [Bool.or_eq_true, beq_iff_eq] at ht
                simp only [beq_iff_eq, beq_eq_false_iff_ne]
                omega
              clear hto ht
              rcases hway with w9' | ⟨w9', w12'⟩ | ⟨w9', w12', w13'⟩
              · skip
                obtain ⟨⟨f0, f1, f2⟩, f3, f4, f5⟩ := three_of11 (Bk.new wr 45 #[.int .i64 o, .int .i64 (n + (na : Int) + 1), .string (B nm)])
                have HRf := Lib.hid (HRw.out.alloc (.cells #[.int .i64 o, .int .i64 (n + (na : Int) + 1), .string (B nm)] 45))
                have HOf := Lib.hid (show InsOwn (wr.alloc (.cells #[.int .i64 o, .int .i64 (n + (na : Int) + 1), .string (B nm)] 45)) w7.heap.size (.slice A8 (na + 1 + j) c8) (la ++ [(13, (na : Int) + 1 + (nb : Int), [])] ++ (lb.take j).map (mv (na + 1))) from HO.out.row.alloc _)
                go_upto_region 17 with (fail)
                obtain ⟨V, hV⟩ : ∃ V, wr.alloc (.cells #[.int .i64 o, .int .i64 (n + (na : Int) + 1), .string (B nm)] 45) = V := ⟨_, rfl⟩
                rw [hV] at HRf HOf f0 f1 f2
                try rw [hV]
                have hrs : w7.heap.size ≤ (V.alloc (.cells #[.int .i64 o, .int .i64 (n + (na : Int) + 1), .string (B nm)] 45)).heap.size := (HRf.out.alloc _).size
                have HIn := Lib.hid (InsAt.of_bk (l := [(o, n + (na : Int) + 1, nm)]) (Bk.new V 45 #[.int .i64 o, .int .i64 (n + (na : Int) + 1), .string (B nm)]))
                clear hV
                go_wp2_with (at_builtin; (refine wpList_plain rfl fun K' hK => wp_iapp _ _ rfl (base := w7.heap.size) (v := .slice A8 (na + 1 + j) c8) (os := la ++ [(13, (na : Int) + 1 + (nb : Int), [])] ++ (lb.take j).map (mv (na + 1))) rfl (HOf.out.row.alloc _) (A := some ⟨V.heap.size, 0, none⟩) (c := 1) (n := 1) (l := [(o, n + (na : Int) + 1, nm)]) rfl rfl (fun e => by cases e) HIn.out (by simp) (by rw [HLn.out]; omega) hrs fun v9 w9 own9 g9 b9 => hK _ _ ?_); have OW := Lib.hid own9; have RW := Lib.hid ((HRf.out.alloc _).grown g9 (fun q hq => (HOf.out.row.lt q hq).1)); clear own9 g9 b9)
                obtain ⟨A9, c9, hv9⟩ := OW.out.slice_of
                rw [List.length_append, HLn.out, List.length_singleton] at hv9
                subst hv9
                go_roundw
                case rel => exact ⟨j + 1, A9, c9, by omega, by go_num, rfl, by rw [HSt.out, HMv.out, ← List.append_assoc]; exact OW.out, RW.out⟩
                case measure => simp [RowKit.intOf]; omega
              · skip
                obtain ⟨⟨f0, f1, f2⟩, f3, f4, f5⟩ := three_of11 (Bk.new wr 45 #[.int .i64 o, .int .i64 (n + (na : Int) + 1), .string (B nm)])
                have HRf := Lib.hid (HRw.out.alloc (.cells #[.int .i64 o, .int .i64 (n + (na : Int) + 1), .string (B nm)] 45))
                have HOf := Lib.hid (show InsOwn (wr.alloc (.cells #[.int .i64 o, .int .i64 (n + (na : Int) + 1), .string (B nm)] 45)) w7.heap.size (.slice A8 (na + 1 + j) c8) (la ++ [(13, (na : Int) + 1 + (nb : Int), [])] ++ (lb.take j).map (mv (na + 1))) from HO.out.row.alloc _)
                go_upto_region 17 with (fail)
                obtain ⟨V, hV⟩ : ∃ V, wr.alloc (.cells #[.int .i64 o, .int .i64 (n + (na : Int) + 1), .string (B nm)] 45) = V := ⟨_, rfl⟩
                rw [hV] at HRf HOf f0 f1 f2
                try rw [hV]
                have hrs : w7.heap.size ≤ (V.alloc (.cells #[.int .i64 o, .int .i64 (n + (na : Int) + 1), .string (B nm)] 45)).heap.size := (HRf.out.alloc _).size
                have HIn := Lib.hid (InsAt.of_bk (l := [(o, n + (na : Int) + 1, nm)]) (Bk.new V 45 #[.int .i64 o, .int .i64 (n + (na : Int) + 1), .string (B nm)]))
                clear hV
                go_wp2_with (at_builtin; (refine wpList_plain rfl fun K' hK => wp_iapp _ _ rfl (base := w7.heap.size) (v := .slice A8 (na + 1 + j) c8) (os := la ++ [(13, (na : Int) + 1 + (nb : Int), [])] ++ (lb.take j).map (mv (na + 1))) rfl (HOf.out.row.alloc _) (A := some ⟨V.heap.size, 0, none⟩) (c := 1) (n := 1) (l := [(o, n + (na : Int) + 1, nm)]) rfl rfl (fun e => by cases e) HIn.out (by simp) (by rw [HLn.out]; omega) hrs fun v9 w9 own9 g9 b9 => hK _ _ ?_); have OW := Lib.hid own9; have RW := Lib.hid ((HRf.out.alloc _).grown g9 (fun q hq => (HOf.out.row.lt q hq).1)); clear own9 g9 b9)
                obtain ⟨A9, c9, hv9⟩ := OW.out.slice_of
                rw [List.length_append, HLn.out, List.length_singleton] at hv9
                subst hv9
                go_roundw
                case rel => exact ⟨j + 1, A9, c9, by omega, by go_num, rfl, by rw [HSt.out, HMv.out, ← List.append_assoc]; exact OW.out, RW.out⟩
                case measure => simp [RowKit.intOf]; omega
              · skip
                obtain ⟨⟨f0, f1, f2⟩, f3, f4, f5⟩ := three_of11 (Bk.new wr 45 #[.int .i64 o, .int .i64 (n + (na : Int) + 1), .string (B nm)])
                have HRf := Lib.hid (HRw.out.alloc (.cells #[.int .i64 o, .int .i64 (n + (na : Int) + 1), .string (B nm)] 45))
                have HOf := Lib.hid (show InsOwn (wr.alloc (.cells #[.int .i64 o, .int .i64 (n + (na : Int) + 1), .string (B nm)] 45)) w7.heap.size (.slice A8 (na + 1 + j) c8) (la ++ [(13, (na : Int) + 1 + (nb : Int), [])] ++ (lb.take j).map (mv (na + 1))) from HO.out.row.alloc _)
                go_upto_region 17 with (fail)
                obtain ⟨V, hV⟩ : ∃ V, wr.alloc (.cells #[.int .i64 o, .int .i64 (n + (na : Int) + 1), .string (B nm)] 45) = V := ⟨_, rfl⟩
                rw [hV] at HRf HOf f0 f1 f2
                try rw [hV]
                have hrs : w7.heap.size ≤ (V.alloc (.cells #[.int .i64 o, .int .i64 (n + (na : Int) + 1), .string (B nm)] 45)).heap.size := (HRf.out.alloc _).size
                have HIn := Lib.hid (InsAt.of_bk (l := [(o, n + (na : Int) + 1, nm)]) (Bk.new V 45 #[.int .i64 o, .int .i64 (n + (na : Int) + 1), .string (B nm)]))
                clear hV
                go_wp2_with (at_builtin; (refine wpList_plain rfl fun K' hK => wp_iapp _ _ rfl (base := w7.heap.size) (v := .slice A8 (na + 1 + j) c8) (os := la ++ [(13, (na : Int) + 1 + (nb : Int), [])] ++ (lb.take j).map (mv (na + 1))) rfl (HOf.out.row.alloc _) (A := some ⟨V.heap.size, 0, none⟩) (c := 1) (n := 1) (l := [(o, n + (na : Int) + 1, nm)]) rfl rfl (fun e => by cases e) HIn.out (by simp) (by rw [HLn.out]; omega) hrs fun v9 w9 own9 g9 b9 => hK _ _ ?_); have OW := Lib.hid own9; have RW := Lib.hid ((HRf.out.alloc _).grown g9 (fun q hq => (HOf.out.row.lt q hq).1)); clear own9 g9 b9)
                obtain ⟨A9, c9, hv9⟩ := OW.out.slice_of
                rw [List.length_append, HLn.out, List.length_singleton] at hv9
                subst hv9
                go_roundw
                case rel => exact ⟨j + 1, A9, c9, by omega, by go_num, rfl, by rw [HSt.out, HMv.out, ← List.append_assoc]; exact OW.out, RW.out⟩
                case measure => simp [RowKit.intOf]; omega
            · have HMv := Lib.hid (show mv (na + 1) (o, n, nm) = (o, n, nm) by unfold mv; rw [if_neg ht])
              obtain ⟨w9', w12', w13'⟩ : (o == 9) = false ∧ (o == 12) = false ∧ (o == 13) = false := by
                unfold isTo at ht
                simp only [Bool.not_eq_true, Bool.or_eq_false_iff] at ht
                exact ⟨ht.1.1, ht.1.2, ht.2⟩
              clear hto ht
              obtain ⟨⟨f0, f1, f2⟩, f3, f4, f5⟩ := three_of11 (Bk.new wr 45 #[.int .i64 o, .int .i64 n, .string (B nm)])
              have HRf := Lib.hid (HRw.out.alloc (.cells #[.int .i64 o, .int .i64 n, .string (B nm)] 45))
              have HOf := Lib.hid (show InsOwn (wr.alloc (.cells #[.int .i64 o, .int .i64 n, .string (B nm)] 45)) w7.heap.size (.slice A8 (na + 1 + j) c8) (la ++ [(13, (na : Int) + 1 + (nb : Int), [])] ++ (lb.take j).map (mv (na + 1))) from HO.out.row.alloc _)
              go_upto_region 17 with (fail)
              obtain ⟨V, hV⟩ : ∃ V, wr.alloc (.cells #[.int .i64 o, .int .i64 n, .string (B nm)] 45) = V := ⟨_, rfl⟩
              rw [hV] at HRf HOf f0 f1 f2
              try rw [hV]
              have hrs : w7.heap.size ≤ (V.alloc (.cells #[.int .i64 o, .int .i64 n, .string (B nm)] 45)).heap.size := (HRf.out.alloc _).size
              have HIn := Lib.hid (InsAt.of_bk (l := [(o, n, nm)]) (Bk.new V 45 #[.int .i64 o, .int .i64 n, .string (B nm)]))
              clear hV
              go_wp2_with (at_builtin; (refine wpList_plain rfl fun K' hK => wp_iapp _ _ rfl (base := w7.heap.size) (v := .slice A8 (na + 1 + j) c8) (os := la ++ [(13, (na : Int) + 1 + (nb : Int), [])] ++ (lb.take j).map (mv (na + 1))) rfl (HOf.out.row.alloc _) (A := some ⟨V.heap.size, 0, none⟩) (c := 1) (n := 1) (l := [(o, n, nm)]) rfl rfl (fun e => by cases e) HIn.out (by simp) (by rw [HLn.out]; omega) hrs fun v9 w9 own9 g9 b9 => hK _ _ ?_); have OW := Lib.hid own9; have RW := Lib.hid ((HRf.out.alloc _).grown g9 (fun q hq => (HOf.out.row.lt q hq).1)); clear own9 g9 b9)
              obtain ⟨A9, c9, hv9⟩ := OW.out.slice_of
              rw [List.length_append, HLn.out, List.length_singleton] at hv9
              subst hv9
              go_roundw
              case rel => exact ⟨j + 1, A9, c9, by omega, by go_num, rfl, by rw [HSt.out, HMv.out, ← List.append_assoc]; exact OW.out, RW.out⟩
              case measure => simp [RowKit.intOf]; omega
          · obtain rfl : j = nb := by omega
            go_wp2_with (fail)
            go_meet
            exact ⟨A8, c8, rfl, HO.out, HRw.out⟩
      obtain ⟨A8, c8, rfl, hO8, hR8⟩ := hcut
      have HL8 := Lib.hid (show (la ++ [(13, (na : Int) + 1 + (nb : Int), [])] ++ (lb.take nb).map (mv (na + 1))).length = na + 1 + nb by rw [List.length_append, List.length_append, List.length_map, List.length_take, NA.out, NB.out, Nat.min_self]; rfl)
      rw [NB.out] at QO QOf
      have I8 := Lib.hid (InsOwn.arg (by rw [HL8.out]; exact hO8) QOf.out)
      have R8 := Lib.hid (R7.out.trans hR8)
      have T8 := Lib.hid (show Rel _ _ from hR8.right3)
      have O8 := Lib.hid (O6.out.rel R8.out)
      clear hO8 hR8
      go_upto_region 19 with (go_at_call 13; (with_reducible refine (run_lm H.out (la ++ [(13, (na : Int) + 1 + (nb : Int), [])] ++ (lb.take nb).map (mv (na + 1))) os (na + 1 + nb) M v e b QO HL8 HM A8 A3 c8 c3 _ _ R8.out I8.out O8.out).mono ?_); rintro e8 w9 ⟨rfl, h9⟩; have R9 := Lib.hid h9)
      obtain ⟨⟨k0, k1, k2, k3⟩, _⟩ := (HBu.out.rel (R4.out.trans (R5.out.trans (R6.out.trans R9.out)))).four
      go_wp2_with (go_at_call 19; (with_reducible refine (eval11 HE.out x os M v e b QV HM _ vx A3 c3 _ _ R9.out (EXu.out.rel (R4.out.trans (R5.out.trans (R6.out.trans R9.out)))) zx9 (O6.out.rel R9.out) _ (Lib.hid rfl)).mono ?_); rintro e9 wx ⟨rfl, h10⟩; have R10 := Lib.hid h10)
      go_ret
      exact ⟨rfl, RT.out.trans R10.out⟩
end Go.Proofs.YtcckemhelockaaaGreatDoor
