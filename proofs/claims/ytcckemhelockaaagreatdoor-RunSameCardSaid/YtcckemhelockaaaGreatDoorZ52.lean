/- The document's own answers of layer 9: a seller's price; what any expression tells; Eval and Cond; The document's own answers of layer 9: what any expression that may be tells; Eval and Cond; The document's own answers of layer 9: Eval and Cond. -/
import Derived.Test.YtcckemhelockaaaGreatDoorZL
import Derived.Test.YtcckemhelockaaaGreatDoorZ00
import Derived.Test.YtcckemhelockaaaGreatDoorZ01
import Derived.Test.YtcckemhelockaaaGreatDoorZ02
import Derived.Test.YtcckemhelockaaaGreatDoorZ03
import Derived.Test.YtcckemhelockaaaGreatDoorZ45
import Derived.Test.YtcckemhelockaaaGreatDoorZ50
import Derived.Test.YtcckemhelockaaaGreatDoorZ51
namespace Go.Proofs.YtcckemhelockaaaGreatDoor
open Go.RowKit Go.Lib
set_option linter.unusedVariables false
set_option linter.unusedSimpArgs false
set_option maxRecDepth 100000 in
set_option maxHeartbeats 4000000 in
theorem rtold_3 (d : Nat) (n : Int) (nm : List UInt8) (S : Nat → Prop) (e : El) (A : Option Addr) (c : Nat) (os : List Of) (w0 w : World) (hr : Rel w0 w) (h : ExAt S w e (.mk 3 n nm [])) (hl : offsOk os = true) (ho : OffArg w A c os) :
    Calls Tryz.prog 37 #[EV e, .slice A os.length c] w fun z w' => z = .returned (RV (toldN os (d + 1) (.mk 3 n nm []))) ∧ Rel w0 w' := by
  obtain ⟨A', c', es, rfl, hk, hn, hm, hle, hrow, hsub⟩ := h.open
  have HR := Lib.hid hr
  have HB := Lib.hid (Bk.new w 38 #[.int .i64 3, .int .i64 n, .string (B nm), .slice A' 0 c'])
  have HA := Lib.hid (hr.self.alloc (.cells #[.int .i64 3, .int .i64 n, .string (B nm), .slice A' 0 c'] 38))
  have HOf := Lib.hid ho.2.2.2
  obtain ⟨W, hW⟩ : ∃ W, w.alloc (.cells #[.int .i64 3, .int .i64 n, .string (B nm), .slice A' 0 c'] 38) = W := ⟨_, rfl⟩
  rw [hW] at HA HB
  have h8 := offs_len hl
  have HF := Lib.hid (told_from os d (.mk 3 n nm []) rfl)
  obtain ⟨X, hX⟩ : ∃ X, B nm = X := ⟨_, rfl⟩
  have HX := Lib.hid hX
  rw [hX] at HB hW
  have hW2 : w.alloc (.cells #[.int .i64 3, .int .i64 n, .string (B nm), .slice A' 0 c'] 38) = W := by rw [hX]; exact hW
  obtain ⟨⟨b0, b1, b2, b3⟩, _⟩ := HB.out.four
  clear hrow hsub h ho hX hW
  go_enter Tryz.func37, Tryz.ntmps37
  rw [HF.out]
  go_wp2_with (fail)
  go_loopw [11] (fun i wr => ∃ j : Nat, j ≤ os.length ∧ i = .int .i64 (j : Int) ∧ Hid (∀ k (hk : k < os.length), k < j → os[k].1 ≠ nm) ∧ Rel W wr) (fun i _ => os.length - (RowKit.intOf i).toNat)
  case atStart => exact ⟨0, by omega, rfl, Lib.hid (fun k _ hk => absurd hk (by omega)), HA.out.right2⟩
  case round =>
    obtain ⟨i, hi, rfl, HN, hRw⟩ := hrel
    have HRw := Lib.hid hRw
    obtain ⟨⟨d0, d1, d2, d3⟩, _⟩ := (HB.out.rel hRw).four
    by_cases hlt : i < os.length
    · obtain ⟨g, off, s, p, rfl, c0, c1, ho⟩ := offs_at HOf.out (HA.out.trans hRw) i hlt
      obtain ⟨Y, hY⟩ : ∃ Y, B s = Y := ⟨_, rfl⟩
      have HO := Lib.hid ho
      rw [hY] at c0
      have HY := Lib.hid hY
      clear ho hY hRw
      by_cases he : Y = X
      · have k1 := list_of.2 he
        have HV := Lib.hid (show fromO os nm = some p by
          have h1 : os[i].1 = nm := by rw [HO.out]; show s = nm; rw [← B_list s, ← B_list nm, HY.out, HX.out, he]
          rw [from_hit hlt h1 HN.out, HO.out])
        clear he
        go_wp2_with (fail)
        go_quiet (fail)
        go_wp2_with (fail)
        go_ret3
        exact ⟨by show _ = Ending.returned (RV (.ok (fromO os nm))); rw [HV.out]; rfl, ((HR.out.trans HA.out).trans HRw.out).drewN _⟩
      · have k1 := list_ne he
        have HN2 : Hid (∀ k (hk : k < os.length), k < i + 1 → os[k].1 ≠ nm) := Lib.hid (fun k hk hki => by
          by_cases e : k = i
          · subst e
            rw [HO.out]
            show s ≠ nm
            intro e; subst e; exact he (HY.out.symm.trans HX.out)
          · exact HN.out k hk (by omega))
        clear he
        go_wp2_with (fail)
        go_quiet (fail)
        go_wp2_with (fail)
        go_roundw
        case rel => exact ⟨i + 1, by omega, by go_num, HN2, HRw.out.drewN _⟩
        case measure => simp [RowKit.intOf]; omega
    · obtain rfl : i = os.length := by omega
      have HV := Lib.hid (show fromO os nm = none from from_none fun k hk => HN.out k hk hk)
      go_wp2_with (fail)
      go_ret3
      exact ⟨by show _ = Ending.returned (RV (.ok (fromO os nm))); rw [HV.out]; rfl, (HR.out.trans HA.out).trans HRw.out⟩
end Go.Proofs.YtcckemhelockaaaGreatDoor

namespace Go.Proofs.YtcckemhelockaaaGreatDoor
open Go.RowKit Go.Lib
set_option linter.unusedVariables false
set_option linter.unusedSimpArgs false
theorem er_ne {os : List Of} {d : Nat} {y : Ex} {er : Int} (h : toldN os d y = .error er) : (er != 0) = true := by
  have := told_err _ _ _ _ h; subst this; rfl
theorem erc_ne {os : List Of} {d : Nat} {y : Ex} {er : Int} (h : condN os d y = .error er) : (er != 0) = true := by
  have := cond_err _ _ _ _ h; subst this; rfl
theorem rtold_all : ∀ d, RToldAt d ∧ RCondAt d := by
  intro d
  induction d with
  | zero => exact ⟨fun x S e A c os w0 w hx => (by cases hx), fun x S e A c os w0 w hx => (by cases hx)⟩
  | succ d ih =>
    obtain ⟨H, HCd⟩ := ih
    refine ⟨fun x S e A c os w0 w hx hc hr h hl ho => ?_, fun x S e A c os w0 w hx hc hr h hl ho => ?_⟩
    · cases x with
      | mk k n nm xs =>
        obtain ⟨p1, p2, p3, p4, p5⟩ := fine_parts hx
        have hk := kind_list (k := k) (by omega)
        rcases hk with rfl | rfl | rfl | rfl | rfl | rfl | rfl | rfl | rfl | rfl | rfl | rfl
        · obtain rfl := len0 p1
          exact rtold_1 d n nm S e A c os w0 w hr h hl ho
        · obtain rfl := len0 p1
          exact rtold_2 d n nm S e A c os w0 w hr h hl ho
        · obtain rfl := len0 p1
          exact rtold_3 d n nm S e A c os w0 w hr h hl ho
        · obtain rfl := len0 p1
          exact rtold_4 d n nm S e A c os w0 w hr h hl ho
        · obtain ⟨y, rfl⟩ := len1 p1
          obtain ⟨g0, f0⟩ := p5 0 (by simp)
          have hh := told_less5 os d n nm y
          cases q0 : toldN os d y with
          | error er => rw [hh, q0]; exact rtold_5e d n nm y H f0 g0 (er_ne q0) S e A c os w0 w hr h hl ho q0
          | ok o =>
            cases o with
            | none => rw [hh, q0]; exact rtold_5n d n nm y H f0 g0 S e A c os w0 w hr h hl ho q0
            | some v => rw [hh, q0]; exact rtold_5s d n nm y H f0 g0 S e A c os w0 w hr h hl ho q0
        · obtain ⟨y, rfl⟩ := len1 p1
          obtain ⟨g0, f0⟩ := p5 0 (by simp)
          have hh := told_cut6 os d n nm y
          cases q0 : toldN os d y with
          | error er => rw [hh, q0]; exact rtold_6e d n nm y H f0 g0 (er_ne q0) S e A c os w0 w hr h hl ho q0
          | ok o =>
            cases o with
            | none => rw [hh, q0]; exact rtold_6n d n nm y H f0 g0 S e A c os w0 w hr h hl ho q0
            | some v =>
              rw [hh, q0]
              by_cases hp : part2 v n false = 0
              · show Calls _ _ _ _ fun z w' => z = .returned (RV (cutR v n)) ∧ Rel w0 w'
                rw [show cutR v n = subR v (part1 v n false) by unfold cutR; rw [if_pos hp]]
                exact rtold_6s d n nm y H f0 g0 rfl hp S e A c os w0 w hr h hl ho q0
              · show Calls _ _ _ _ fun z w' => z = .returned (RV (cutR v n)) ∧ Rel w0 w'
                rw [show cutR v n = .error (part2 v n false) by unfold cutR; rw [if_neg hp]]
                exact rtold_6p d n nm y H f0 g0 rfl rfl (by simpa using hp) S e A c os w0 w hr h hl ho q0
        · obtain ⟨x, y, rfl⟩ := len2 p1
          obtain ⟨g0, f0⟩ := p5 0 (by simp)
          obtain ⟨g1, f1⟩ := p5 1 (by simp)
          have hh := told_both os d 7 n nm x y (by omega)
          cases q0 : toldN os d x with
          | error er => rw [hh, q0]; exact rtold_7e d n nm x y H f0 g0 (er_ne q0) S e A c os w0 w hr h hl ho q0
          | ok o =>
            cases q1 : toldN os d y with
            | error er =>
              cases o with
              | none => rw [hh, q0, q1]; exact rtold_7ne d n nm x y H f0 g0 f1 g1 (er_ne q1) S e A c os w0 w hr h hl ho q0 q1
              | some v => rw [hh, q0, q1]; exact rtold_7se d n nm x y H f0 g0 f1 g1 (er_ne q1) S e A c os w0 w hr h hl ho q0 q1
            | ok o1 =>
              cases o with
              | none =>
                cases o1 with
                | none => rw [hh, q0, q1]; exact rtold_7nn d n nm x y H f0 g0 f1 g1 S e A c os w0 w hr h hl ho q0 q1
                | some u => rw [hh, q0, q1]; exact rtold_7ns d n nm x y H f0 g0 f1 g1 S e A c os w0 w hr h hl ho q0 q1
              | some v =>
                cases o1 with
                | none => rw [hh, q0, q1]; exact rtold_7sn d n nm x y H f0 g0 f1 g1 S e A c os w0 w hr h hl ho q0 q1
                | some u => rw [hh, q0, q1]; exact rtold_7ss d n nm x y H f0 g0 f1 g1 S e A c os w0 w hr h hl ho q0 q1
        · obtain ⟨x, y, rfl⟩ := len2 p1
          obtain ⟨g0, f0⟩ := p5 0 (by simp)
          obtain ⟨g1, f1⟩ := p5 1 (by simp)
          have hh := told_both os d 8 n nm x y (by omega)
          cases q0 : toldN os d x with
          | error er => rw [hh, q0]; exact rtold_8e d n nm x y H f0 g0 (er_ne q0) S e A c os w0 w hr h hl ho q0
          | ok o =>
            cases q1 : toldN os d y with
            | error er =>
              cases o with
              | none => rw [hh, q0, q1]; exact rtold_8ne d n nm x y H f0 g0 f1 g1 (er_ne q1) S e A c os w0 w hr h hl ho q0 q1
              | some v => rw [hh, q0, q1]; exact rtold_8se d n nm x y H f0 g0 f1 g1 (er_ne q1) S e A c os w0 w hr h hl ho q0 q1
            | ok o1 =>
              cases o with
              | none =>
                cases o1 with
                | none => rw [hh, q0, q1]; exact rtold_8nn d n nm x y H f0 g0 f1 g1 S e A c os w0 w hr h hl ho q0 q1
                | some u => rw [hh, q0, q1]; exact rtold_8ns d n nm x y H f0 g0 f1 g1 S e A c os w0 w hr h hl ho q0 q1
              | some v =>
                cases o1 with
                | none => rw [hh, q0, q1]; exact rtold_8sn d n nm x y H f0 g0 f1 g1 S e A c os w0 w hr h hl ho q0 q1
                | some u => rw [hh, q0, q1]; exact rtold_8ss d n nm x y H f0 g0 f1 g1 S e A c os w0 w hr h hl ho q0 q1
        · obtain ⟨x, y, rfl⟩ := len2 p1
          obtain ⟨g0, f0⟩ := p5 0 (by simp)
          obtain ⟨g1, f1⟩ := p5 1 (by simp)
          have hh := told_else os d n nm x y
          cases q0 : toldN os d x with
          | error er => rw [hh, q0]; exact rtold_9e d n nm x y H f0 g0 (er_ne q0) S e A c os w0 w hr h hl ho q0
          | ok o =>
            cases o with
            | none => rw [hh, q0]; exact rtold_9n d n nm x y H f0 g0 f1 g1 S e A c os w0 w hr h hl ho q0 rfl
            | some v => rw [hh, q0]; exact rtold_9s d n nm x y H f0 g0 S e A c os w0 w hr h hl ho q0
        · obtain ⟨k, x, y, rfl⟩ := len3 p1
          obtain ⟨g0, f0⟩ := p5 0 (by simp)
          obtain ⟨g1, f1⟩ := p5 1 (by simp)
          obtain ⟨g2, f2⟩ := p5 2 (by simp)
          have hh := told_if os d n nm k x y
          cases q0 : condN os d k with
          | error er => rw [hh, q0]; exact rtold_10e d n nm k x y H HCd f0 g0 (erc_ne q0) S e A c os w0 w hr h hl ho q0
          | ok b =>
            cases b with
            | true => rw [hh, q0]; exact rtold_10t d n nm k x y H HCd f0 g0 f1 g1 S e A c os w0 w hr h hl ho q0 rfl
            | false => rw [hh, q0]; exact rtold_10f d n nm k x y H HCd f0 g0 f2 g2 S e A c os w0 w hr h hl ho q0 rfl
        · cases hc
        · cases hc
    · cases x with
      | mk k n nm xs =>
        obtain ⟨p1, p2, p3, p4, p5⟩ := fine_parts hx
        have hk : k = 11 ∨ k = 12 := by simpa [isCond, Ex.k] using hc
        rcases hk with rfl | rfl
        · obtain rfl := len0 p1
          exact rcond_11 d n nm S e A c os w0 w hr h hl ho
        · obtain ⟨x, y, rfl⟩ := len2 p1
          obtain ⟨g0, f0⟩ := p5 0 (by simp)
          obtain ⟨g1, f1⟩ := p5 1 (by simp)
          have hh : condN os (d + 1) (.mk 12 n nm [x, y]) = match toldN os d x with | .error e => .error e | .ok a => match toldN os d y with | .error e => .error e | .ok b => .ok (match a, b with | some a, some b => decide (b < a) | _, _ => false) := by
            rw [cond_above, (told_less os d (d + 1) (by omega) x f0).1 g0, (told_less os d (d + 1) (by omega) y f1).1 g1]; rfl
          cases q0 : toldN os d x with
          | error er => rw [hh, q0]; exact rcond_12e d n nm x y H f0 g0 (er_ne q0) S e A c os w0 w hr h hl ho q0
          | ok o =>
            cases q1 : toldN os d y with
            | error er =>
              cases o with
              | none => rw [hh, q0, q1]; exact rcond_12ne d n nm x y H f0 g0 f1 g1 (er_ne q1) S e A c os w0 w hr h hl ho q0 q1
              | some v => rw [hh, q0, q1]; exact rcond_12se d n nm x y H f0 g0 f1 g1 (er_ne q1) S e A c os w0 w hr h hl ho q0 q1
            | ok o1 =>
              cases o with
              | none =>
                cases o1 with
                | none => rw [hh, q0, q1]; exact rcond_12nn d n nm x y H f0 g0 f1 g1 S e A c os w0 w hr h hl ho q0 q1
                | some u => rw [hh, q0, q1]; exact rcond_12ns d n nm x y H f0 g0 f1 g1 S e A c os w0 w hr h hl ho q0 q1
              | some v =>
                cases o1 with
                | none => rw [hh, q0, q1]; exact rcond_12sn d n nm x y H f0 g0 f1 g1 S e A c os w0 w hr h hl ho q0 q1
                | some u => rw [hh, q0, q1]; exact rcond_12ss d n nm x y H f0 g0 f1 g1 S e A c os w0 w hr h hl ho q0 q1
end Go.Proofs.YtcckemhelockaaaGreatDoor

namespace Go.Proofs.YtcckemhelockaaaGreatDoor
open Go.RowKit Go.Lib
set_option linter.unusedVariables false
set_option linter.unusedSimpArgs false
set_option maxRecDepth 100000 in
set_option maxHeartbeats 4000000 in
theorem reval_any (x : Ex) (S : Nat → Prop) (e : El) (A : Option Addr) (c : Nat) (os : List Of) (w0 w : World) (hr : Rel w0 w) (h : ExAt S w e x) (hz : size x ≤ 1000000) (ho : OffArg w A c os) :
    Calls Tryz.prog 20 #[EV e, .slice A os.length c] w fun z w' => z = .returned (RV (evalS os x)) ∧ Rel w0 w' := by
  have HR := Lib.hid hr
  have HE := Lib.hid h
  have HO := Lib.hid ho
  obtain ⟨k, n, nm, A', m, c'⟩ := e
  have HB := Lib.hid (Bk.new w 38 #[.int .i64 k, .int .i64 n, .string (B nm), .slice A' m c'])
  have HA := Lib.hid (hr.self.alloc (.cells #[.int .i64 k, .int .i64 n, .string (B nm), .slice A' m c'] 38))
  obtain ⟨W, hW⟩ : ∃ W, w.alloc (.cells #[.int .i64 k, .int .i64 n, .string (B nm), .slice A' m c'] 38) = W := ⟨_, rfl⟩
  rw [hW] at HA HB
  have hc1 := fun (w' : World) (hh : Rel w w') => rright9_any A c os w' w' (hr.self.trans hh).self (ho.rel hh)
  have hc2 := fun (w' : World) (hh : Rel w w') => rright_any x S (k, n, nm, A', m, c') w' w' (hr.self.trans hh).self (h.rel hh) hz
  obtain ⟨b1, h1⟩ : ∃ b, offsOk os = b := ⟨_, rfl⟩
  obtain ⟨b2, h2⟩ : ∃ b, rightX x = b := ⟨_, rfl⟩
  rw [h1] at hc1
  rw [h2] at hc2
  have HC1 := Lib.hid hc1
  have HC2 := Lib.hid hc2
  have H1 := Lib.hid h1
  have H2 := Lib.hid h2
  clear h ho hc1 hc2 h1 h2
  have key : b1 = false ∨ b2 = false ∨ (b1 = true ∧ b2 = true) := by cases b1 <;> cases b2 <;> simp
  have bad : b1 = false ∨ b2 = false → Hid (evalS os x = .error 1) := fun hb => Lib.hid (by
    unfold evalS; rw [H1.out, H2.out]
    rcases hb with rfl | rfl
    · rfl
    · rw [Bool.and_false]; rfl)
  rcases key with rfl | rfl | ⟨rfl, rfl⟩
  · have HF := bad (.inl rfl)
    clear bad
    go_enter Tryz.func20, Tryz.ntmps20
    rw [HF.out]
    go_wp2_with (first
      | (go_at_call 35; (with_reducible refine (HC1.out _ HA.out).mono ?_); rintro e w1 ⟨rfl, r1⟩; have R1 := Lib.hid (HA.out.trans r1); obtain ⟨⟨d0, d1, d2, d3⟩, _⟩ := (HB.out.rel r1).four)
      | (go_at_call 36; (with_reducible refine (HC2.out _ R1.out).mono ?_); rintro e w2 ⟨rfl, r2⟩; have R2 := Lib.hid (R1.out.trans r2)))
    go_ret3
    exact ⟨rfl, HR.out.trans R2.out⟩
  · have HF := bad (.inr rfl)
    clear bad
    go_enter Tryz.func20, Tryz.ntmps20
    rw [HF.out]
    cases b1
    all_goals
      go_wp2_with (first
        | (go_at_call 35; (with_reducible refine (HC1.out _ HA.out).mono ?_); rintro e w1 ⟨rfl, r1⟩; have R1 := Lib.hid (HA.out.trans r1); obtain ⟨⟨d0, d1, d2, d3⟩, _⟩ := (HB.out.rel r1).four)
        | (go_at_call 36; (with_reducible refine (HC2.out _ R1.out).mono ?_); rintro e w2 ⟨rfl, r2⟩; have R2 := Lib.hid (R1.out.trans r2)))
      go_ret3
      exact ⟨rfl, HR.out.trans R2.out⟩
  · clear bad
    have HF := Lib.hid (eval_yes H1.out H2.out)
    have HC3 := Lib.hid (fun (w' : World) (hh : Rel w w') => (rtold_all 32).1 x S (k, n, nm, A', m, c') A c os w' w' (right_fine H2.out).1 (right_fine H2.out).2 (HR.out.trans hh).self (HE.out.rel hh) H1.out (HO.out.rel hh))
    go_enter Tryz.func20, Tryz.ntmps20
    rw [HF.out]
    go_wp2_with (first
      | (go_at_call 35; (with_reducible refine (HC1.out _ HA.out).mono ?_); rintro e w1 ⟨rfl, r1⟩; have R1 := Lib.hid (HA.out.trans r1); obtain ⟨⟨d0, d1, d2, d3⟩, _⟩ := (HB.out.rel r1).four)
      | (go_at_call 36; (with_reducible refine (HC2.out _ R1.out).mono ?_); rintro e w2 ⟨rfl, r2⟩; have R2 := Lib.hid (R1.out.trans r2); obtain ⟨⟨e0, e1, e2, e3⟩, _⟩ := ((HB.out.rel r1).rel r2).four)
      | (go_at_call 37; (with_reducible refine (HC3.out _ R2.out).mono ?_); rintro e w3 ⟨rfl, r3⟩; have R3 := Lib.hid (R2.out.trans r3)))
    go_ret3
    exact ⟨rfl, HR.out.trans R3.out⟩
end Go.Proofs.YtcckemhelockaaaGreatDoor
