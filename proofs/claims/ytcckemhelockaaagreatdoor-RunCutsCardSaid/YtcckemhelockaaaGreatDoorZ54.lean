/- Plain mathematics of layer 9: what the laws ask. No program in this text; Plain mathematics of layer 11: what the laws say of code. No program in this text; RunCuts, over what the program is asked. -/
import Derived.Test.YtcckemhelockaaaGreatDoorZL
import Derived.Test.YtcckemhelockaaaGreatDoorZ00
import Derived.Test.YtcckemhelockaaaGreatDoorZ01
import Derived.Test.YtcckemhelockaaaGreatDoorZ02
import Derived.Test.YtcckemhelockaaaGreatDoorZ03
import Derived.Test.YtcckemhelockaaaGreatDoorZ04
import Derived.Test.YtcckemhelockaaaGreatDoorZ07
import Derived.Test.YtcckemhelockaaaGreatDoorZ09
import Derived.Test.YtcckemhelockaaaGreatDoorZ15
import Derived.Test.YtcckemhelockaaaGreatDoorZ16
import Derived.Test.YtcckemhelockaaaGreatDoorZ18
import Derived.Test.YtcckemhelockaaaGreatDoorZ21
import Derived.Test.YtcckemhelockaaaGreatDoorZ22
import Derived.Test.YtcckemhelockaaaGreatDoorZ23
import Derived.Test.YtcckemhelockaaaGreatDoorZ24
import Derived.Test.YtcckemhelockaaaGreatDoorZ30
import Derived.Test.YtcckemhelockaaaGreatDoorZ32
import Derived.Test.YtcckemhelockaaaGreatDoorZ33
import Derived.Test.YtcckemhelockaaaGreatDoorZ39
import Derived.Test.YtcckemhelockaaaGreatDoorZ42
namespace Go.Proofs.YtcckemhelockaaaGreatDoor
open Go.Lib
set_option linter.unusedVariables false
set_option linter.unusedSimpArgs false
theorem eval_err {l : List Of} {x : Ex} {e : Int} (h : evalS l x = .error e) : e = 1 ∨ e = 10 := by
  unfold evalS at h
  split at h
  · exact .inr (told_err _ _ _ _ h)
  · injection h with h; exact .inl h.symm
end Go.Proofs.YtcckemhelockaaaGreatDoor

namespace Go.Proofs.YtcckemhelockaaaGreatDoor
open Go.Lib
set_option linter.unusedVariables false
set_option linter.unusedSimpArgs false
/-- One more behind it. -/
theorem run_more (l : List Of) {x : Ex} (hx : rightX x = true) (o : Int) (ho' : o = 7 ∨ o = 2) : codeOk (cod x 0 ++ [(o, 0, [])]) = true ∧ runS l (cod x 0 ++ [(o, 0, [])]) = (if offsOk l then (match evalS l x with | .ok _ => .error 100 | .error e => .error e) else .error 1) := by
  have fx := (rt_fine hx).1
  have lx := cod_len 32 x fx 0
  have hlen : (cod x 0 ++ [(o, (0 : Int), ([] : List UInt8))]).length = clen x + 1 := by rw [List.length_append, lx]; rfl
  have hc : codeOk (cod x 0 ++ [(o, 0, [])]) = true := by
    refine good_ok ?_ (by have := clen_right hx; omega)
    rw [hlen]
    refine (cod_good 32 x fx _ 0 (by omega)).append (GoodC.cons ?_ (GoodC.nil _ _))
    rcases ho' with rfl | rfl <;> rfl
  refine ⟨hc, ?_⟩
  cases ho : offsOk l with
  | false => rw [(run_not ho _).1]; rfl
  | true =>
    have h := run_then hx ho _ hc
    rw [if_pos rfl]
    cases he : evalS l x with
    | error e => rw [he] at h; exact h
    | ok v =>
      rw [he] at h
      obtain ⟨n, e1⟩ := h
      have hj : (cod x 0 ++ [(o, (0 : Int), ([] : List UInt8))])[clen x]? = some (o, 0, []) := by
        rw [List.getElem?_append_right (by omega), lx, Nat.sub_self]; rfl
      simp only
      rw [e1, go_step (fwd_of hc) hj]
      rcases ho' with rfl | rfl
      · have e2 : stepM l (7, 0, []) (clen x) ([v], 0) = (clen x + 1, ([], 100)) := by
          have e3 : twoM 7 ([v], 0) = ([], 100) := by
            have t1 : takeM ([v], 0) = (v, ([], 0)) := take_last [] v
            unfold twoM; rw [t1]; simp only; rw [take_none]; exact put_err (by decide) _
          exact congrArg (Prod.mk (clen x + 1)) e3
        rw [e2, go_err _ _ _ _ _ (show (100 : Int) ≠ 0 by decide)]; rfl
      · have e2 : stepM l (2, 0, []) (clen x) ([v], 0) = (clen x + 1, ([v, rk l 0], 0)) := rfl
        rw [e2, go_end _ _ _ _ _ (by rw [hlen]; omega)]; rfl
theorem run_nil (l : List Of) : runS l [] = if offsOk l then .error 100 else .error 1 := by
  cases ho : offsOk l with
  | false => rw [(run_not ho _).1]; rfl
  | true => rw [(run_yes ho rfl).1]; rfl
end Go.Proofs.YtcckemhelockaaaGreatDoor

namespace Go.Proofs.YtcckemhelockaaaGreatDoor
open Go.RowKit Go.Lib
set_option linter.unusedVariables false
set_option linter.unusedSimpArgs false
theorem run_err {os : List Of} {l : List In} {e : Int} (h : runS os l = .error e) : RV (runS os l) = .tuple #[.int .i64 0, .bool false, .int .i64 e] := by rw [h]; rfl
/-- What is told, and what one more, or one too few, makes of it. -/
theorem cuts_tell {os : List Of} (ho : offsOk os = true) {x : Ex} (hx : rightX x = true) : ∃ (v : Int) (b : Bool) (E F : Int), RV (runS os (cod x 0)) = .tuple #[.int .i64 v, .bool b, .int .i64 E] ∧ RV (runS os (cod x 0 ++ [(7, 0, [])])) = .tuple #[.int .i64 0, .bool false, .int .i64 F] ∧ RV (runS os (cod x 0 ++ [(2, 0, [])])) = .tuple #[.int .i64 0, .bool false, .int .i64 F] ∧ ((E = 0 ∧ F = 100) ∨ ((E == 0) = false ∧ F = E)) := by
  have h7 := (run_more os hx 7 (.inl rfl)).2
  have h2 := (run_more os hx 2 (.inr rfl)).2
  rw [if_pos ho] at h7 h2
  cases hE : evalS os x with
  | error e =>
    rw [hE] at h7 h2
    refine ⟨0, false, e, e, by rw [run_same os hx, hE]; rfl, run_err h7, run_err h2, .inr ⟨?_, rfl⟩⟩
    rcases eval_err hE with rfl | rfl <;> rfl
  | ok c =>
    rw [hE] at h7 h2
    exact ⟨rsV (.ok c), rsB (.ok c), 0, 100, by rw [run_same os hx, hE]; rfl, run_err h7, run_err h2, .inl ⟨rfl, rfl⟩⟩
set_option maxRecDepth 100000 in
set_option maxHeartbeats 16000000 in
theorem RunCuts_at (H : RunsOk) (HC : CompileOk) (A1 : Option Addr) (c1 : Nat) (L : List Int) (A : Option Addr) (c : Nat) (zs : List (Int × Int)) (w : World) (hr : Rel w w) (hi : IntsIn w A1 c1 L) (hz : PairsIn w A zs.length zs) :
    Calls Tryz.prog 9 #[.slice A1 L.length c1, .slice A zs.length c] w fun e w' => e = .returned (.bool true) ∧ Rel w w' := by
  have H := Lib.hid H
  have HC := Lib.hid HC
  have HR := Lib.hid hr
  have HZ := Lib.hid hz
  have HI0 := Lib.hid hi
  obtain ⟨os, hos⟩ : ∃ os, offS zs = os := ⟨_, rfl⟩
  obtain ⟨M, hM⟩ : ∃ M, os.length = M := ⟨_, rfl⟩
  have hOf := fun (w0 w : World) (hr : Rel w0 w) (hz : PairsIn w A zs.length zs) => offers_any A c zs w0 w hr hz
  rw [hos, hM] at hOf
  have HOf := Lib.hid hOf
  have HM := Lib.hid hM
  have hok : offsOk os = true := by rw [← hos]; exact offS_ok zs
  have HFit := Lib.hid (offs_fit hok)
  obtain ⟨x, hx⟩ : ∃ x, strat L = x := ⟨_, rfl⟩
  have hS := fun (w0 w : World) (hr : Rel w0 w) (h : IntsIn w A1 c1 L) => strat_any A1 c1 L w0 w hr h
  have zx : size x ≤ 70000 := by have := strat_size L; rw [hx] at this; omega
  rw [hx] at hS
  have HSt := Lib.hid hS
  clear hi hx hS hr hz hos hOf hM
  go_enter Tryz.func9, Tryz.ntmps9
  go_upto_region 3 with (first
    | (go_at_call 10; (with_reducible refine (awake11_any H.out _ _ HR.out).mono ?_); rintro e1 w1 ⟨rfl, h1⟩; have R1 := Lib.hid h1)
    | (go_at_call 17; (with_reducible refine (HSt.out _ _ R1.out (HI0.out.rel R1.out)).mono ?_); rintro e2 w2 ⟨vx, rfl, ex, h2⟩; have R2 := Lib.hid h2))
  have RA := Lib.hid (R2.out.alloc (.cells #[.int .i64 vx.1, .int .i64 vx.2.1, .string (B vx.2.2.1), .slice vx.2.2.2.1 vx.2.2.2.2.1 vx.2.2.2.2.2] 38))
  have HB := Lib.hid (Bk.new w2 38 #[.int .i64 vx.1, .int .i64 vx.2.1, .string (B vx.2.2.1), .slice vx.2.2.2.1 vx.2.2.2.2.1 vx.2.2.2.2.2])
  have EX := Lib.hid ((ex.rel (R2.out.self.alloc (.cells #[.int .i64 vx.1, .int .i64 vx.2.1, .string (B vx.2.2.1), .slice vx.2.2.2.1 vx.2.2.2.2.1 vx.2.2.2.2.2] 38))).weak (S' := fun _ => True) (fun _ _ => trivial))
  obtain ⟨W, hW⟩ : ∃ W, w2.alloc (.cells #[.int .i64 vx.1, .int .i64 vx.2.1, .string (B vx.2.2.1), .slice vx.2.2.2.1 vx.2.2.2.2.1 vx.2.2.2.2.2] 38) = W := ⟨_, rfl⟩
  rw [hW] at RA HB EX ⊢
  clear hW ex h1 h2
  go_upto_region 4 with (go_at_call 12; (with_reducible refine (HOf.out _ _ RA.out.self (HZ.out.rel9 RA.out)).mono ?_); rintro e3 w3 ⟨A3, c3, rfl, o3, h3⟩; have R3 := Lib.hid h3; have O3 := Lib.hid (OffOwn.arg (by rw [HM.out]; exact o3) HFit.out))
  obtain ⟨⟨x0, x1, x2, x3⟩, _⟩ := (HB.out.rel R3.out).four
  have EX3 := Lib.hid (EX.out.rel R3.out)
  clear o3 h3
  obtain ⟨b, hb⟩ : ∃ b, rightX x = b := ⟨_, rfl⟩
  cases b with
  | false =>
    have Q := Lib.hid (show codX x = [] ∧ codR x = 1 from ⟨(codX_no hb).1, (codX_no hb).2⟩)
    have QN := Lib.hid (show ([] : List In).length = 0 from rfl)
    clear hb
    go_wp2_with (go_at_call 18; (with_reducible refine (compile11 HC.out x [] 0 1 Q QN _ vx _ _ R3.out.self EX3.out (by omega) _ (Lib.hid rfl)).mono ?_); rintro e w4 ⟨A4, a4, rfl, o4, h4⟩; have R4 := Lib.hid h4)
    go_ret
    exact ⟨rfl, HR.out.trans (RA.out.trans (R3.out.trans R4.out))⟩
  | true =>
    obtain ⟨l, hl⟩ : ∃ l, codX x = l := ⟨_, rfl⟩
    obtain ⟨k1, k2, k3⟩ := codX_code x hb
    have hcl : cod x 0 = l := by rw [← hl, (codX_yes hb).1]
    have hne : 0 < l.length := by rw [← hl]; have := size_pos x; omega
    obtain ⟨v, b, E, F, t1, t2, t3, hEF⟩ := cuts_tell hok hb
    rw [hl] at k1
    rw [hcl] at t1 t2 t3
    have hlen := (codeOk_iff.1 k1).1
    obtain ⟨j, hj⟩ : ∃ j, l.length = j + 1 := ⟨l.length - 1, by omega⟩
    have hj5 : j ≤ 5000 := by omega
    have Q := Lib.hid (show codX x = l ∧ codR x = 0 from ⟨hl, (codX_yes hb).2⟩)
    have QN := Lib.hid hj
    have QN2 := Lib.hid (show ∀ y : In, (l ++ [y]).length = j + 2 from fun y => by rw [List.length_append, hj]; rfl)
    have QT := Lib.hid t1
    have Q7 := Lib.hid t2
    have Q2 := Lib.hid t3
    have QE := Lib.hid (show RV (runS os []) = .tuple #[.int .i64 0, .bool false, .int .i64 100] from by rw [run_nil, if_pos hok]; rfl)
    have QEn := Lib.hid (show ([] : List In).length = 0 from rfl)
    have HK1 := Lib.hid k1
    have HF := Lib.hid (ins_fit k1)
    have HF2 := Lib.hid (show ∀ o : Int, (o = 7 ∨ o = 2) → InsFit (l ++ [(o, 0, [])]) from fun o ho => by
      have := (run_more os hb o ho).1
      rw [hcl] at this
      exact ins_fit this)
    have hEF := Lib.hid hEF
    clear hl hb k1 k2 k3 hcl t1 t2 t3 hj
    go_upto_region 5 with (go_at_call 18; (with_reducible refine (compile11 HC.out x l (j + 1) 0 Q QN _ vx _ _ R3.out.self EX3.out (by omega) _ (Lib.hid rfl)).mono ?_); rintro e w4 ⟨A4, c4, rfl, o4, h4⟩; have R4 := Lib.hid h4)
    have o4' : InsOwn w4 w3.heap.size (.slice A4 l.length c4) l := by rw [QN.out]; exact o4
    obtain ⟨g, rfl⟩ : ∃ g, A4 = some ⟨g, 0, none⟩ := by
      rcases o4'.form with ⟨_, _, h0⟩ | ⟨g, h0, _⟩
      · rw [h0] at hne; simp at hne
      · exact ⟨g, h0⟩
    have HI := Lib.hid (InsOwn.arg o4' HF.out)
    have HAt := Lib.hid (InsOwn.at o4' rfl)
    have HO4 := Lib.hid (O3.out.rel h4)
    obtain ⟨g', off, o, n, nm, e1, d0, d1, d2, ho⟩ := ins_at HAt.out R4.out.right3 j (by have := QN.out; omega)
    injection e1 with e1; injection e1 with e1 e3; subst e1; subst e3
    rw [Nat.zero_add] at d0 d1 d2
    have ho1 : 1 ≤ o := by
      have := (inOk_parts ((codeOk_iff.1 HK1.out).2 j (by have := QN.out; omega))).1.1
      rw [ho] at this; exact this
    have q1 : IntKind.i64.wrap ((j : Int) + 1 - 1) = (j : Int) := by rw [IntWalk.i64_in _ (by omega)]; omega
    have q2 : (j : Int) < (j : Int) + 1 := by omega
    have R4s := Lib.hid (show Rel w4 w4 from R4.out.right3)
    clear o4 o4' h4 ho
    go_upto_region 8 with (fail)
    have BL := Lib.hid (Bk.new w4 45 #[.int .i64 o, .int .i64 n, .string (B nm)])
    have RL := Lib.hid (R4s.out.alloc (.cells #[.int .i64 o, .int .i64 n, .string (B nm)] 45))
    obtain ⟨V, hV⟩ : ∃ V, w4.alloc (.cells #[.int .i64 o, .int .i64 n, .string (B nm)] 45) = V := ⟨_, rfl⟩
    rw [hV] at BL RL ⊢
    clear hV
    have HAt := Lib.hid (HAt.out.rel RL.out)
    have HO4 := Lib.hid (HO4.out.rel RL.out)
    have HI := Lib.hid (HI.out.rel RL.out)
    have R4V := Lib.hid (R4.out.trans RL.out)
    have RL := Lib.hid (show Rel V V from RL.out.right3)
    have HIn8 := Lib.hid (fun (u : World) => InsAt.of_bk (l := [(7, 0, [])]) (Bk.new u 45 #[.int .i64 7, .int .i64 0, .string ⟨#[]⟩]))
    have HFo8 := Lib.hid (HF2.out 7 (by omega))
    have S8 := Lib.hid (show Rel V V from RL.out.right3)
    have AT8 := Lib.hid (HAt.out.rel RL.out)
    go_upto_region 9 with (first
      | (at_builtin; (refine wpList_plain rfl fun K' hK => wp_iapp _ _ rfl (base := V.heap.size) (v := .slice none 0 0) (os := []) rfl (InsOwn.nil _ _) (A := some ⟨g, 0, none⟩) (c := c4) (n := j + 1) (l := l) rfl QN.out (fun e => by cases e) AT8.out (by omega) (by simp) (Nat.le_refl _) fun va8 wa8 oa8 ga8 ba8 => hK _ _ ?_); have OA8 := Lib.hid oa8; have RA8 := Lib.hid (S8.out.grown ga8 (fun q hq => by cases hq)); have HZ8 := Lib.hid ((RA8.out.alloc (.cells #[.int .i64 7, .int .i64 0, .string ⟨#[]⟩] 45)).size); clear oa8 ga8 ba8)
      | (at_builtin; (refine wpList_plain rfl fun K' hK => wp_iapp _ _ rfl (base := V.heap.size) (v := va8) (os := l) rfl (OA8.out.row.alloc _) (A := some ⟨wa8.heap.size, 0, none⟩) (c := 1) (n := 1) (l := [(7, 0, [])]) rfl rfl (fun e => by cases e) (HIn8.out _) (by simp) (by omega) HZ8.out fun vb8 wb8 ob8 gb8 bb8 => hK _ _ ?_); have OB8 := Lib.hid ob8; have RB8 := Lib.hid ((RA8.out.alloc _).grown gb8 (fun q hq => (OA8.out.row.lt q hq).1)); clear ob8 gb8 bb8; obtain ⟨Ab8, cb8, hv8⟩ := OB8.out.slice_of; rw [QN2.out] at hv8; subst hv8; have IB8 := Lib.hid (InsOwn.arg (by rw [QN2.out]; exact OB8.out) HFo8.out); have OF8 := Lib.hid (HO4.out.rel (RL.out.trans RB8.out)))
      | (go_at_call 13; (with_reducible refine (run_lm H.out (l ++ [(7, 0, [])]) os (j + 2) M 0 F false Q7 (Lib.hid (QN2.out _)) HM Ab8 A3 cb8 c3 _ _ RB8.out.self IB8.out OF8.out).mono ?_); rintro e8 wc8 ⟨rfl, hc8⟩; have RC8 := Lib.hid (RL.out.trans (RB8.out.trans hc8))))
    have HIn9 := Lib.hid (fun (u : World) => InsAt.of_bk (l := [(2, 0, [])]) (Bk.new u 45 #[.int .i64 2, .int .i64 0, .string ⟨#[]⟩]))
    have HFo9 := Lib.hid (HF2.out 2 (by omega))
    have S9 := Lib.hid (show Rel wc8 wc8 from RC8.out.right3)
    have AT9 := Lib.hid (HAt.out.rel RC8.out)
    go_upto_region 10 with (first
      | (at_builtin; (refine wpList_plain rfl fun K' hK => wp_iapp _ _ rfl (base := wc8.heap.size) (v := .slice none 0 0) (os := []) rfl (InsOwn.nil _ _) (A := some ⟨g, 0, none⟩) (c := c4) (n := j + 1) (l := l) rfl QN.out (fun e => by cases e) AT9.out (by omega) (by simp) (Nat.le_refl _) fun va9 wa9 oa9 ga9 ba9 => hK _ _ ?_); have OA9 := Lib.hid oa9; have RA9 := Lib.hid (S9.out.grown ga9 (fun q hq => by cases hq)); have HZ9 := Lib.hid ((RA9.out.alloc (.cells #[.int .i64 2, .int .i64 0, .string ⟨#[]⟩] 45)).size); clear oa9 ga9 ba9)
      | (at_builtin; (refine wpList_plain rfl fun K' hK => wp_iapp _ _ rfl (base := wc8.heap.size) (v := va9) (os := l) rfl (OA9.out.row.alloc _) (A := some ⟨wa9.heap.size, 0, none⟩) (c := 1) (n := 1) (l := [(2, 0, [])]) rfl rfl (fun e => by cases e) (HIn9.out _) (by simp) (by omega) HZ9.out fun vb9 wb9 ob9 gb9 bb9 => hK _ _ ?_); have OB9 := Lib.hid ob9; have RB9 := Lib.hid ((RA9.out.alloc _).grown gb9 (fun q hq => (OA9.out.row.lt q hq).1)); clear ob9 gb9 bb9; obtain ⟨Ab9, cb9, hv9⟩ := OB9.out.slice_of; rw [QN2.out] at hv9; subst hv9; have IB9 := Lib.hid (InsOwn.arg (by rw [QN2.out]; exact OB9.out) HFo9.out); have OF9 := Lib.hid (HO4.out.rel (RC8.out.trans RB9.out)))
      | (go_at_call 13; (with_reducible refine (run_lm H.out (l ++ [(2, 0, [])]) os (j + 2) M 0 F false Q2 (Lib.hid (QN2.out _)) HM Ab9 A3 cb9 c3 _ _ RB9.out.self IB9.out OF9.out).mono ?_); rintro e9 wc9 ⟨rfl, hc9⟩; have RC9 := Lib.hid (RC8.out.trans (RB9.out.trans hc9))))
    go_upto_region 12 with (first
      | (go_at_call 13; (with_reducible refine (run_lm H.out [] os 0 M 0 100 false QE QEn HM none A3 0 c3 _ _ RC9.out (insArg_nil _) (HO4.out.rel RC9.out)).mono ?_); rintro e8 w8 ⟨rfl, h8⟩; have R8 := Lib.hid h8)
      | (go_at_call 13; (with_reducible refine (run_lm H.out l os (j + 1) M v E b QT QN HM (some ⟨g, 0, none⟩) A3 c4 c3 _ _ R8.out (HI.out.rel R8.out) (HO4.out.rel R8.out)).mono ?_); rintro e9 w9 ⟨rfl, h9⟩; have R9 := Lib.hid h9))
    obtain ⟨⟨z0, _, _⟩, _⟩ := three_of11 (BL.out.rel R9.out)
    have z1 : (1 : Int) ≤ o := ho1
    rcases hEF.out with ⟨rfl, rfl⟩ | ⟨hE0, rfl⟩
    · go_wp2_with (fail)
      all_goals
        go_ret
        exact ⟨rfl, HR.out.trans (RA.out.trans (R3.out.trans (R4V.out.trans R9.out)))⟩
    · have hE1 : ¬ F = 0 := by simpa using hE0
      have hE2 : (F != 0) = true := by simpa using hE1
      go_wp2_with (fail)
      all_goals
        go_ret
        exact ⟨rfl, HR.out.trans (RA.out.trans (R3.out.trans (R4V.out.trans R9.out)))⟩
end Go.Proofs.YtcckemhelockaaaGreatDoor
