/- Layer 17, the landed code: fill, Next. -/
import Derived.Test.YtndmnlgancnbkaaZL
import Derived.Test.YtndmnlgancnbkaaZ00
import Derived.Test.YtndmnlgancnbkaaZ01
import Derived.Test.YtndmnlgancnbkaaZ02
import Derived.Test.YtndmnlgancnbkaaZ03
import Derived.Test.YtndmnlgancnbkaaZ04
import Derived.Test.YtndmnlgancnbkaaZ05
namespace Go.Proofs.Ytndmnlgancnbkaa
open Go.RowKit Go.Lib
set_option linter.unusedVariables false
set_option linter.unusedSimpArgs false
section
variable {HP : HpT} (H : HeapOk HP)
include H
set_option maxRecDepth 100000 in
set_option maxHeartbeats 8000000 in
theorem lfill17 {w : World} {b h d : Nat} {SH : Nat → Prop} {m g u : Int} {L : List It} {D : List Int} (hr : Rel w w) (q : Lb HP w b h d SH m g L D) (hi : QInv m g L D) (hu : -1099511627776 ≤ u ∧ u ≤ 1000000) :
    Calls Try.prog 35 #[.pointer (some ⟨b, 0, none⟩), .int .i64 u] w fun e w' => e = .returned (.tuple #[]) ∧ ∃ SH', Lb HP w' b h d SH' m g (fillQ m u L D).1 (fillQ m u L D).2 ∧ St (SqL b d SH) (SqL b d SH') w w' := by
  have HH := Lib.hid H
  have HR := Lib.hid hr
  have HS := Lib.hid (show Lb HP w b h d SH m g L D ∧ QInv m g L D ∧ St (SqL b d SH) (SqL b d SH) w w ∧ fillQ m u L D = fillQ m u L D from ⟨q, hi, St.of_rel17l hr, rfl⟩)
  have HU := Lib.hid hu
  clear hr q hi hu H
  go_enter Try.func35, Try.ntmps35
  go_wp2_with (fail)
  go_loopw [4] (fun _ wr => ∃ (SH1 : Nat → Prop) (L1 : List It) (D1 : List Int), Hid (Lb HP wr b h d SH1 m g L1 D1 ∧ QInv m g L1 D1 ∧ St (SqL b d SH) (SqL b d SH1) w wr ∧ fillQ m u L1 D1 = fillQ m u L D)) (fun _ wr => sizeAt wr d)
  case atStart => exact ⟨SH, L, D, Lib.hid ⟨HS.out.1, HS.out.2.1, HS.out.2.2.1, rfl⟩⟩
  case round =>
    obtain ⟨SH1, L1, D1, HL⟩ := hrel
    have k2 := HL.out.1.box.cell 2
    have Z := Lib.hid HL.out.1.set
    cases D1 with
    | nil =>
      go_wp2_with (refine wp_count _ rfl _ rfl d [] 0 rfl Z.out rfl ?_)
      go_end0
      refine ⟨rfl, SH1, ?_, HL.out.2.2.1⟩
      rw [← HL.out.2.2.2]
      exact HL.out.1
    | cons x D2 =>
      have HI := Lib.hid HL.out.2.1
      have hlen := HI.out.dlen
      have hx := HI.out.low x (List.mem_cons_self ..)
      have hh := HI.out.out x (List.mem_cons_self ..)
      obtain ⟨n, hn⟩ : ∃ n, (x :: D2).length = n := ⟨_, rfl⟩
      have hn0 : (0 : Int) < (n : Int) := by rw [← hn, List.length_cons]; omega
      have HN := Lib.hid hn
      have RW := Lib.hid (show Rel wr wr from Rel.start (by exact HR.out.1))
      have KC := Lib.hid (gather17 Z.out hlen RW.out (fun z hz => by have := HI.out.low z hz; exact ⟨by omega, by omega⟩))
      have ix := Lib.hid (show i64 x from ⟨by omega, by omega⟩)
      have iu := Lib.hid (show i64 u from by have := HU.out; exact ⟨by omega, by omega⟩)
      by_cases hm : (L1.length : Int) < m
      · have KA := Lib.hid (fun (w1 : World) (h1 : Rel wr w1) => show Calls Try.prog 29 #[.pointer (some ⟨b, 0, none⟩), .int .i64 x, .int .i64 u] w1 fun e w' => ∃ SH', e = .returned (.bool true) ∧ Hid (Lb HP w' b h d SH' m g (insH L1 (x, u)) (remD (x :: D2) x)) ∧ Hid (St (SqL b d SH) (SqL b d SH') w w') from
          (admit_room HH.out (HL.out.1.rel HH.out h1) h1.self x u ix.out iu.out hh hm).mono (by
            rintro e w' ⟨he, SH', h2, h3⟩
            exact ⟨SH', he, Lib.hid h2, Lib.hid (HL.out.2.2.1.trans17 ((St.of_rel17l h1).trans17 h3))⟩))
        have HE := Lib.hid (show fillQ m u L1 (x :: D2) = fillQ m u (insH L1 (x, u)) D2 from by conv => lhs; unfold fillQ; rw [if_pos hm])
        have HM := Lib.hid hm
        clear hx hh hn hlen hm
        go_wp2_with (first
          | (refine wp_count _ rfl _ rfl d (x :: D2) n rfl Z.out HN.out ?_)
          | (go_at_call 42; (with_reducible refine (keys17 (some d) _).mono ?_); rintro e w1 ⟨rfl, rfl⟩)
          | (go_at_call 50; (with_reducible refine KC.out.mono ?_); rintro e w2 ⟨A2, c2, ss, rfl, nu2, lo2, me2, r2⟩)
          | (go_at_call 49; (with_reducible refine (min17 x ss lo2.out me2.out A2 c2 _ nu2.out).mono ?_); rintro e w3 ⟨rfl, rfl⟩)
          | (go_at_call 29; (with_reducible refine (KA.out _ r2.out).mono ?_); rintro e w4 ⟨SH4, rfl, q4, s4⟩))
        have HI2 := Lib.hid (show QInv m g (insH L1 (x, u)) D2 from by
          have hi := HI.out
          obtain ⟨u1, u2⟩ := ups_cons.1 hi.ups
          have hx := hi.low x (List.mem_cons_self ..)
          have hd := hi.out x (List.mem_cons_self ..)
          refine ⟨ins_srt hi.srt hd, u2, fun e he => ?_, fun e he => hi.low e (List.mem_cons_of_mem _ he), fun z hz => ?_, fun z hz => ?_, by have := HM.out; rw [ins_len]; omega, hi.room, hi.age⟩
          · cases hq : hasH (insH L1 (x, u)) e with
            | false => rfl
            | true =>
              rcases has_ins.1 hq with q | q
              · have := u1 e he; have q : e = x := q; omega
              · rw [hi.out e (List.mem_cons_of_mem _ he)] at q; cases q
          · rcases ins_mem.1 hz with rfl | hz
            · exact hx
            · exact hi.key z hz
          · rcases ins_mem.1 hz with rfl | hz
            · exact HU.out
            · exact hi.wt z hz)
        have HQ := Lib.hid (show Lb HP w4 b h d SH4 m g (insH L1 (x, u)) D2 from by have := q4.out; rw [remD_head HI.out.ups] at this; exact this)
        have HM1 := Lib.hid (show sizeAt wr d = D2.length + 1 from Z.out.size)
        have HM2 := Lib.hid (show sizeAt w4 d = D2.length from HQ.out.set.size)
        go_roundw
        case rel => exact ⟨SH4, _, D2, Lib.hid ⟨HQ.out, HI2.out, s4.out, HE.out.symm.trans HL.out.2.2.2⟩⟩
        case measure => rw [HM1.out, HM2.out]; omega
      · have KA := Lib.hid (fun (w1 : World) (h1 : Rel wr w1) => show Calls Try.prog 29 #[.pointer (some ⟨b, 0, none⟩), .int .i64 x, .int .i64 u] w1 fun e w' => ∃ SH', e = .returned (.bool false) ∧ Hid (Lb HP w' b h d SH' m g L1 (x :: D2)) ∧ Hid (St (SqL b d SH) (SqL b d SH') w w') from
          (admit_full HH.out (HL.out.1.rel HH.out h1) h1.self x u ix.out iu.out hh hm).mono (by
            rintro e w' ⟨he, SH', h2, h3⟩
            exact ⟨SH', he, Lib.hid h2, Lib.hid (HL.out.2.2.1.trans17 ((St.of_rel17l h1).trans17 h3))⟩))
        have HE := Lib.hid (show fillQ m u L1 (x :: D2) = (L1, x :: D2) from by conv => lhs; unfold fillQ; rw [if_neg hm])
        clear hx hh hn hlen hm
        go_wp2_with (first
          | (refine wp_count _ rfl _ rfl d (x :: D2) n rfl Z.out HN.out ?_)
          | (go_at_call 42; (with_reducible refine (keys17 (some d) _).mono ?_); rintro e w1 ⟨rfl, rfl⟩)
          | (go_at_call 50; (with_reducible refine KC.out.mono ?_); rintro e w2 ⟨A2, c2, ss, rfl, nu2, lo2, me2, r2⟩)
          | (go_at_call 49; (with_reducible refine (min17 x ss lo2.out me2.out A2 c2 _ nu2.out).mono ?_); rintro e w3 ⟨rfl, rfl⟩)
          | (go_at_call 29; (with_reducible refine (KA.out _ r2.out).mono ?_); rintro e w4 ⟨SH4, rfl, q4, s4⟩))
        have HF := Lib.hid (show Lb HP w4 b h d SH4 m g (fillQ m u L D).1 (fillQ m u L D).2 from by rw [← HL.out.2.2.2, HE.out]; exact q4.out)
        exact bodyPost_ret (v := .tuple #[]) (by simp [results, Try.results35, go_sem]) rfl ⟨rfl, SH4, HF.out, s4.out⟩
set_option maxRecDepth 100000 in
set_option maxHeartbeats 8000000 in
theorem lnext17 {w : World} {v : Value} {S : Nat → Prop} {m g : Int} {L : List It} {D : List Int} (t : Int) (hr : Rel w w) (q : LQp HP w v S m g L D) (it : i64 t) :
    Calls Try.prog 14 #[v, .int .i64 t] w fun e w' => e = .returned (.tuple #[.int .i64 (itH (topH L)).1, .bool (topH L).isSome]) ∧ ∃ S', LQp HP w' v S' m g (nextQ m t L D).1 (nextQ m t L D).2 ∧ St S S' w w' := by
  have hi := q.1.next t
  have HR := Lib.hid hr
  rcases q.2 with ⟨rfl, rfl, rfl, rfl, rfl, rfl⟩ | ⟨b, h, d, SH, rfl, rfl, z, h1⟩
  · have HQ := Lib.hid q
    clear hr q hi it H
    show Calls _ _ _ _ fun e w' => e = .returned (.tuple #[.int .i64 0, .bool false]) ∧ _
    go_enter Try.func14, Try.ntmps14
    go_wp2_with (go_at_call 25; (with_reducible refine (made17_nil _).mono ?_); rintro e w1 ⟨rfl, rfl⟩)
    go_ret2
    exact ⟨rfl, _, HQ.out, St.of_rel17l HR.out⟩
  · have HB := Lib.hid z.box
    have HH := Lib.hid H
    have hp := q.1.pop
    obtain ⟨c, hc⟩ : ∃ c, clampT t = c := ⟨_, rfl⟩
    have hcb := clampT_bd t
    rw [hc] at hcb
    have HC := Lib.hid (show max 0 (min t 1099511627776) = c from hc)
    obtain ⟨x, hx⟩ : ∃ x, (itH (topH L)).1 = x := ⟨_, rfl⟩
    obtain ⟨y, hy⟩ : ∃ y, (itH (topH L)).2 = y := ⟨_, rfl⟩
    obtain ⟨is, his⟩ : ∃ y, (topH L).isSome = y := ⟨_, rfl⟩
    rw [hx, his]
    have KP := Lib.hid (show Calls Try.prog 34 #[.pointer (some ⟨h, 0, none⟩)] w fun e w' => ∃ SH', e = .returned (.tuple #[.agg #[.int .i64 x, .int .i64 y], .bool is]) ∧ Hid (Lb HP w' b h d SH' m g (popH L) D) ∧ Hid (St (SqL b d SH) (SqL b d SH') w w') from (H.pop hr z.hp).mono (by
      rintro e w' ⟨he, SH', h2, h3⟩
      obtain ⟨a2, c2⟩ := z.heap h2 h3
      refine ⟨SH', ?_, Lib.hid a2, Lib.hid c2⟩
      rw [he, ← hx, ← hy, ← his]))
    have HI := Lib.hid (show ∀ (w' : World) (SH' : Nat → Prop), Lb HP w' b h d SH' m g (nextQ m t L D).1 (nextQ m t L D).2 → LQp HP w' (.pointer (some ⟨b, 0, none⟩)) (SqL b d SH') m g (nextQ m t L D).1 (nextQ m t L D).2 from fun w' SH' a => ⟨hi, .inr ⟨b, h, d, SH', rfl, rfl, a, h1⟩⟩)
    have KF := Lib.hid (fun (w1 : World) (SH1 : Nat → Prop) (a : Lb HP w1 b h d SH1 m g (popH L) D) (s0 : St (SqL b d SH) (SqL b d SH1) w w1) => show Calls Try.prog 35 #[.pointer (some ⟨b, 0, none⟩), .int .i64 (-c)] w1 fun e w' => ∃ SH', e = .returned (.tuple #[]) ∧ Hid (Lb HP w' b h d SH' m g (nextQ m t L D).1 (nextQ m t L D).2) ∧ Hid (St (SqL b d SH) (SqL b d SH') w w') ∧ Hid (Ke (SqL b d SH1) w1 w') from by
      have hr2 : Rel w1 w1 := (Rel.start (by exact hr.1))
      refine (lfill17 H hr2 a hp (by omega)).mono ?_
      rintro e w' ⟨he, SH', h2, h3⟩
      refine ⟨SH', he, Lib.hid ?_, Lib.hid (s0.trans17 h3), Lib.hid h3.2⟩
      unfold nextQ
      rw [hc]
      exact h2)
    have k1 := z.box.cell 1
    have hcb0 := hcb.1
    have HW := Lib.hid (fun (w : World) (hb : Bk w b 56 #[.int .i64 g, .pointer (some ⟨h, 0, none⟩), .map (some d)]) => weight17 hb 0 c (-c) (by omega) (by omega) hcb.1 hcb.2 (by omega))
    clear hr q hi it H z hp hc hcb hx hy his
    go_enter Try.func14, Try.ntmps14
    go_upto_region 4 with (first
      | (go_at_call 25; (with_reducible refine (made17 HB.out).mono ?_); rintro e w1 ⟨rfl, rfl⟩)
      | (go_at_call 34; (with_reducible refine KP.out.mono ?_); rintro e w1 ⟨SH1, rfl, q1, s1⟩))
    have R2 := Lib.hid ((Rel.start (by exact HR.out.1) : Rel w1 w1).alloc (.cells #[.int .i64 x, .int .i64 y] 64))
    have BX := Lib.hid (Bk.new w1 64 #[.int .i64 x, .int .i64 y])
    have q2 := Lib.hid (q1.out.rel HH.out R2.out)
    have s2 := Lib.hid (s1.out.trans17 (St.of_rel17l (S := SqL b d SH1) R2.out))
    have nX := Lib.hid (show ¬ SqL b d SH1 w1.heap.size from fun e => Nat.lt_irrefl _ (q1.out.lt HH.out _ e))
    obtain ⟨w2, hw2⟩ : ∃ W, w1.alloc (.cells #[.int .i64 x, .int .i64 y] 64) = W := ⟨_, rfl⟩
    obtain ⟨gx, hgx⟩ : ∃ q, w1.heap.size = q := ⟨_, rfl⟩
    rw [hw2] at BX q2 s2 R2
    rw [hgx] at BX nX
    try rw [hw2]
    try rw [hgx]
    clear hw2 hgx
    go_upto_region 5 with (first
      | (go_at_call 36; (with_reducible refine (clamp17_as t 0 1099511627776 c HC _).mono ?_); rintro e w3 ⟨rfl, rfl⟩)
      | (go_at_call 26; (with_reducible refine (HW.out _ q2.out.box).mono ?_); rintro e w3 ⟨rfl, rfl⟩)
      | (go_at_call 35; (with_reducible refine (KF.out _ _ q2.out s2.out).mono ?_); rintro e w4 ⟨SH4, rfl, q4, s4, n4⟩))
    have BX2 := Lib.hid (n4.out.bk BX.out nX.out)
    obtain ⟨⟨b0, b1⟩, ⟨c0, c1⟩⟩ := BX2.out.two
    go_wp2_with (fail)
    go_ret2
    exact ⟨rfl, _, HI.out _ _ q4.out, s4.out⟩
end
end Go.Proofs.Ytndmnlgancnbkaa
