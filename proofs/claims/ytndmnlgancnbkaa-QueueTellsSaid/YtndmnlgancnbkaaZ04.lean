/- Layer 17, the landed code: Want, Drop. -/
import Derived.Test.YtndmnlgancnbkaaZL
import Derived.Test.YtndmnlgancnbkaaZ00
import Derived.Test.YtndmnlgancnbkaaZ01
import Derived.Test.YtndmnlgancnbkaaZ02
import Derived.Test.YtndmnlgancnbkaaZ03
namespace Go.Proofs.Ytndmnlgancnbkaa
open Go.RowKit Go.Lib
set_option linter.unusedVariables false
set_option linter.unusedSimpArgs false
section
variable {HP : HpT} (H : HeapOk HP)
include H
variable {w : World} {b h d : Nat} {SH : Nat → Prop} {m g : Int} {L : List It} {D : List Int} {s p t : Int}
omit H in
set_option maxRecDepth 100000 in
set_option maxHeartbeats 8000000 in
theorem lwant_bad (hr : Rel w w) (v : Value) (hv : wantV g s p t = false) (hq : v = .pointer none ∨ ∃ b h d : Nat, v = .pointer (some ⟨b, 0, none⟩) ∧ Bk w b 56 #[.int .i64 g, .pointer (some ⟨h, 0, none⟩), .map (some d)] ∧ 1 ≤ g) :
    Calls Try.prog 12 #[v, .int .i64 s, .int .i64 p, .int .i64 t] w fun e w' => e = .returned (.int .i64 1) ∧ Rel w w' := by
  have HR := Lib.hid hr
  rcases hq with rfl | ⟨b, h, d, rfl, hb, hg⟩
  · clear hr hv
    go_enter Try.func12, Try.ntmps12
    go_wp2_with (go_at_call 25; (with_reducible refine (made17_nil _).mono ?_); rintro e w1 ⟨rfl, rfl⟩)
    go_ret
    exact ⟨rfl, HR.out⟩
  · have HB := Lib.hid hb
    have L1 := Lib.hid (show (0 : Int) ≤ 999 by omega)
    have L2 := Lib.hid (show (0 : Int) ≤ 1000 by omega)
    have L3 := Lib.hid (show (0 : Int) ≤ 1099511627776 by omega)
    obtain ⟨b1, hb1⟩ : ∃ q, decide (0 ≤ s ∧ s ≤ 999) = q := ⟨_, rfl⟩
    obtain ⟨b2, hb2⟩ : ∃ q, decide (0 ≤ p ∧ p ≤ 1000) = q := ⟨_, rfl⟩
    obtain ⟨b3, hb3⟩ : ∃ q, decide (0 ≤ t ∧ t ≤ 1099511627776) = q := ⟨_, rfl⟩
    have hn : ¬ (b1 = true ∧ b2 = true ∧ b3 = true) := by
      rintro ⟨rfl, rfl, rfl⟩
      have := wantV_iff (g := g) (s := s) (p := p) (t := t)
      rw [hv] at this
      have := this.2 ⟨hg, of_decide_eq_true hb1, of_decide_eq_true hb2, of_decide_eq_true hb3⟩
      cases this
    have HB1 := Lib.hid hb1
    have HB2 := Lib.hid hb2
    have HB3 := Lib.hid hb3
    clear hr hv hb hb1 hb2 hb3
    cases b1
    · clear hn
      go_enter Try.func12, Try.ntmps12
      go_wp2_with (first | (go_at_call 25; (with_reducible refine (made17 HB.out).mono ?_); rintro e w1 ⟨rfl, rfl⟩) | (go_at_call 23; (with_reducible refine (within17_as s 0 999 false L1 HB1 _).mono ?_); rintro e w2 ⟨rfl, rfl⟩))
      go_ret
      exact ⟨rfl, HR.out⟩
    · cases b2
      · clear hn
        go_enter Try.func12, Try.ntmps12
        go_wp2_with (first | (go_at_call 25; (with_reducible refine (made17 HB.out).mono ?_); rintro e w1 ⟨rfl, rfl⟩) | (go_at_call 23; (with_reducible refine (within17_as s 0 999 true L1 HB1 _).mono ?_); rintro e w2 ⟨rfl, rfl⟩) | (go_at_call 23; (with_reducible refine (within17_as p 0 1000 false L2 HB2 _).mono ?_); rintro e w2 ⟨rfl, rfl⟩))
        go_ret
        exact ⟨rfl, HR.out⟩
      · cases b3
        · clear hn
          go_enter Try.func12, Try.ntmps12
          go_wp2_with (first | (go_at_call 25; (with_reducible refine (made17 HB.out).mono ?_); rintro e w1 ⟨rfl, rfl⟩) | (go_at_call 23; (with_reducible refine (within17_as s 0 999 true L1 HB1 _).mono ?_); rintro e w2 ⟨rfl, rfl⟩) | (go_at_call 23; (with_reducible refine (within17_as p 0 1000 true L2 HB2 _).mono ?_); rintro e w2 ⟨rfl, rfl⟩) | (go_at_call 23; (with_reducible refine (within17_as t 0 1099511627776 false L3 HB3 _).mono ?_); rintro e w2 ⟨rfl, rfl⟩))
          go_ret
          exact ⟨rfl, HR.out⟩
        · exact absurd ⟨rfl, rfl, rfl⟩ hn
/-- What a valid call reckons with. -/
structure WantL (g s p t W : Int) : Prop where
  a1 : Hid (decide (0 ≤ s ∧ s ≤ 999) = true)
  a2 : Hid (decide (0 ≤ p ∧ p ≤ 1000) = true)
  a3 : Hid (decide (0 ≤ t ∧ t ≤ 1099511627776) = true)
  is : i64 s
  ip : i64 p
  it : i64 t
  iw : i64 W
  h0 : 0 ≤ p * g
  h1 : p * g ≤ 1000000
  t0 : 0 ≤ t
  t1 : t ≤ 1099511627776
  hw : p * g - t = W
omit H in
theorem wantL_of (hv : wantV g s p t = true) (hg : g ≤ 1000) : WantL g s p t (wgt g p t) := by
  obtain ⟨v1, v2, v3, v4, v5⟩ := wantV_iff.1 hv
  have h1 : 0 ≤ p * g := Int.mul_nonneg v3.1 (by omega)
  have h2 : p * g ≤ 1000 * 1000 := Int.mul_le_mul v3.2 hg (by omega) (by omega)
  exact ⟨Lib.hid (decide_eq_true v2), Lib.hid (decide_eq_true v3), Lib.hid (decide_eq_true ⟨v4, v5⟩), ⟨by omega, by omega⟩, ⟨by omega, by omega⟩, ⟨by omega, by omega⟩, ⟨by unfold wgt; omega, by unfold wgt; omega⟩, h1, by omega, v4, v5, rfl⟩
set_option maxRecDepth 100000 in
set_option maxHeartbeats 8000000 in
theorem lwant_up (hr : Rel w w) (q : Lb HP w b h d SH m g L D) (hv : wantV g s p t = true) (hg : g ≤ 1000) (hh : hasH L s = true) (ho : i64 ((prioH L s).getD 0)) :
    Calls Try.prog 12 #[.pointer (some ⟨b, 0, none⟩), .int .i64 s, .int .i64 p, .int .i64 t] w fun e w' => e = .returned (.int .i64 0) ∧ ∃ SH', Lb HP w' b h d SH' m g (chgH L s (max ((prioH L s).getD 0) (wgt g p t))) D ∧ St (SqL b d SH) (SqL b d SH') w w' := by
  have hF := wantL_of hv hg
  obtain ⟨W, hW⟩ : ∃ W, wgt g p t = W := ⟨_, rfl⟩
  rw [hW] at hF ⊢
  obtain ⟨o, hO⟩ : ∃ o, (prioH L s).getD 0 = o := ⟨_, rfl⟩
  have HF := Lib.hid hF
  have L1 := Lib.hid (show (0 : Int) ≤ 999 by omega)
  have L2 := Lib.hid (show (0 : Int) ≤ 1000 by omega)
  have L3 := Lib.hid (show (0 : Int) ≤ 1099511627776 by omega)
  have K1 := Lib.hid (show Calls Try.prog 27 #[.pointer (some ⟨h, 0, none⟩), .int .i64 s] w fun e w' => e = .returned (.tuple #[.int .i64 o, .bool true]) ∧ Hid (Rel w w') from by
    rw [← hO, ← hh]
    exact (H.prio s hr q.hp hF.is).mono fun e w' h => ⟨h.1, Lib.hid h.2⟩)
  rw [hO] at ho ⊢
  have K2 := Lib.hid (fun (w1 : World) (x : Int) (h1 : Rel w w1) (hx : max o W = x) => show Calls Try.prog 28 #[.pointer (some ⟨h, 0, none⟩), .int .i64 s, .int .i64 x] w1 fun e w' => ∃ SH', e = .returned (.bool true) ∧ Hid (Lb HP w' b h d SH' m g (chgH L s (max o W)) D) ∧ Hid (St (SqL b d SH) (SqL b d SH') w w') from by
    have iw := hF.iw
    rw [hx]
    have q1 := q.rel H h1
    refine (H.change s x h1.self q1.hp hF.is (by unfold i64 at ho iw ⊢; omega)).mono ?_
    rw [hh]
    rintro e w' ⟨he, SH', h2, h3⟩
    obtain ⟨a, c⟩ := q1.heap h2 h3
    exact ⟨SH', he, Lib.hid a, Lib.hid ((St.of_rel17l h1).trans17 c)⟩)
  have HB := Lib.hid q.box
  have A1 := hF.a1
  have A2 := hF.a2
  have A3 := hF.a3
  have HW := Lib.hid (fun (w : World) (hb : Bk w b 56 #[.int .i64 g, .pointer (some ⟨h, 0, none⟩), .map (some d)]) => weight17 hb p t W hF.h0 hF.h1 hF.t0 hF.t1 hF.hw)
  have k1 := q.box.cell 1
  clear hv q hr hh hO hF hW H
  go_enter Try.func12, Try.ntmps12
  go_upto_region 5 with (first
    | (go_at_call 25; (with_reducible refine (made17 HB.out).mono ?_); rintro e w1 ⟨rfl, rfl⟩)
    | (go_at_call 23; (with_reducible refine (within17_as s 0 999 true L1 A1 _).mono ?_); rintro e w2 ⟨rfl, rfl⟩)
    | (go_at_call 23; (with_reducible refine (within17_as p 0 1000 true L2 A2 _).mono ?_); rintro e w2 ⟨rfl, rfl⟩)
    | (go_at_call 23; (with_reducible refine (within17_as t 0 1099511627776 true L3 A3 _).mono ?_); rintro e w2 ⟨rfl, rfl⟩)
    | (go_at_call 26; (with_reducible refine (HW.out _ HB.out).mono ?_); rintro e w2 ⟨rfl, rfl⟩)
    | (go_at_call 27; (with_reducible refine K1.out.mono ?_); rintro e w1 ⟨rfl, r1⟩))
  have k2 := (HB.out.rel r1.out).cell 1
  by_cases hc : o < W
  · have hx := Lib.hid (show max o W = W by omega)
    go_wp2_with (first | (go_at_call 28; (with_reducible refine (K2.out _ _ r1.out hx.out).mono ?_); rintro e w2 ⟨SH2, rfl, q2, s2⟩) | (go_at_call 28; (with_reducible refine (K2.out _ (max o W) r1.out rfl).mono ?_); rintro e w2 ⟨SH2, rfl, q2, s2⟩))
    go_ret
    exact ⟨rfl, SH2, q2.out, s2.out⟩
  · have hx := Lib.hid (show max o W = o by omega)
    go_wp2_with (first | (go_at_call 28; (with_reducible refine (K2.out _ _ r1.out hx.out).mono ?_); rintro e w2 ⟨SH2, rfl, q2, s2⟩) | (go_at_call 28; (with_reducible refine (K2.out _ (max o W) r1.out rfl).mono ?_); rintro e w2 ⟨SH2, rfl, q2, s2⟩))
    go_ret
    exact ⟨rfl, SH2, q2.out, s2.out⟩
set_option maxRecDepth 100000 in
set_option maxHeartbeats 8000000 in
theorem lwant_new (hr : Rel w w) (q : Lb HP w b h d SH m g L D) (hv : wantV g s p t = true) (hg : g ≤ 1000) (hh : hasH L s = false) (hD : D.length < maxLen) (bk : Bool) (hbk : decide ((L.length : Int) < m) = bk) :
    Calls Try.prog 12 #[.pointer (some ⟨b, 0, none⟩), .int .i64 s, .int .i64 p, .int .i64 t] w fun e w' => e = .returned (.int .i64 (if bk then 0 else 50)) ∧ ∃ SH', Lb HP w' b h d SH' m g (if bk then insH L (s, wgt g p t) else L) (if bk then remD D s else insD D s) ∧ St (SqL b d SH) (SqL b d SH') w w' := by
  have hF := wantL_of hv hg
  obtain ⟨W, hW⟩ : ∃ W, wgt g p t = W := ⟨_, rfl⟩
  rw [hW] at hF ⊢
  obtain ⟨o, hO⟩ : ∃ o, (prioH L s).getD 0 = o := ⟨_, rfl⟩
  have HF := Lib.hid hF
  have HH := Lib.hid H
  have L1 := Lib.hid (show (0 : Int) ≤ 999 by omega)
  have L2 := Lib.hid (show (0 : Int) ≤ 1000 by omega)
  have L3 := Lib.hid (show (0 : Int) ≤ 1099511627776 by omega)
  have K1 := Lib.hid (show Calls Try.prog 27 #[.pointer (some ⟨h, 0, none⟩), .int .i64 s] w fun e w' => e = .returned (.tuple #[.int .i64 o, .bool false]) ∧ Hid (Rel w w') from by
    rw [← hO, ← hh]
    exact (H.prio s hr q.hp hF.is).mono fun e w' h => ⟨h.1, Lib.hid h.2⟩)
  have HB := Lib.hid q.box
  have A1 := hF.a1
  have A2 := hF.a2
  have A3 := hF.a3
  have HS := Lib.hid (i64_wf hF.is)
  have HW := Lib.hid (fun (w : World) (hb : Bk w b 56 #[.int .i64 g, .pointer (some ⟨h, 0, none⟩), .map (some d)]) => weight17 hb p t W hF.h0 hF.h1 hF.t0 hF.t1 hF.hw)
  have k1 := q.box.cell 1
  have HDl := Lib.hid hD
  cases bk
  · have hn := of_decide_eq_false hbk
    have K2 := Lib.hid (fun (w1 : World) (h1 : Rel w w1) => show Calls Try.prog 29 #[.pointer (some ⟨b, 0, none⟩), .int .i64 s, .int .i64 W] w1 fun e w' => ∃ SH', e = .returned (.bool false) ∧ Hid (Lb HP w' b h d SH' m g L D) ∧ Hid (St (SqL b d SH) (SqL b d SH') w w') from
      (admit_full H (q.rel H h1) h1.self s W hF.is hF.iw hh hn).mono (by
        rintro e w' ⟨he, SH', h2, h3⟩
        exact ⟨SH', he, Lib.hid h2, Lib.hid ((St.of_rel17l h1).trans17 h3)⟩))
    clear hv q hr hh hO hF hW H hbk hn hD
    go_enter Try.func12, Try.ntmps12
    go_upto_region 9 with (first
      | (go_at_call 25; (with_reducible refine (made17 HB.out).mono ?_); rintro e w1 ⟨rfl, rfl⟩)
      | (go_at_call 23; (with_reducible refine (within17_as s 0 999 true L1 A1 _).mono ?_); rintro e w2 ⟨rfl, rfl⟩)
      | (go_at_call 23; (with_reducible refine (within17_as p 0 1000 true L2 A2 _).mono ?_); rintro e w2 ⟨rfl, rfl⟩)
      | (go_at_call 23; (with_reducible refine (within17_as t 0 1099511627776 true L3 A3 _).mono ?_); rintro e w2 ⟨rfl, rfl⟩)
      | (go_at_call 26; (with_reducible refine (HW.out _ HB.out).mono ?_); rintro e w2 ⟨rfl, rfl⟩)
      | (go_at_call 27; (with_reducible refine K1.out.mono ?_); rintro e w1 ⟨rfl, r1⟩)
      | (go_at_call 29; (with_reducible refine (K2.out _ r1.out).mono ?_); rintro e w2 ⟨SH2, rfl, q2, s2⟩))
    have k2 := q2.out.box.cell 2
    have QS := Lib.hid q2.out.set
    go_wp2_with ((refine wp_dirty _ rfl _ _ _ rfl d D rfl QS.out HDl.out s rfl HS.out rfl ?_); intro w3 d3 g3; have D3 := Lib.hid d3; have G3 := Lib.hid g3; clear d3 g3)
    go_ret
    obtain ⟨a, c⟩ := q2.out.map HH.out D3.out G3.out
    exact ⟨rfl, SH2, a, s2.out.trans17 c⟩
  · have hn := of_decide_eq_true hbk
    have K2 := Lib.hid (fun (w1 : World) (h1 : Rel w w1) => show Calls Try.prog 29 #[.pointer (some ⟨b, 0, none⟩), .int .i64 s, .int .i64 W] w1 fun e w' => ∃ SH', e = .returned (.bool true) ∧ Hid (Lb HP w' b h d SH' m g (insH L (s, W)) (remD D s)) ∧ Hid (St (SqL b d SH) (SqL b d SH') w w') from
      (admit_room H (q.rel H h1) h1.self s W hF.is hF.iw hh hn).mono (by
        rintro e w' ⟨he, SH', h2, h3⟩
        exact ⟨SH', he, Lib.hid h2, Lib.hid ((St.of_rel17l h1).trans17 h3)⟩))
    clear hv q hr hh hO hF hW H hbk hn hD
    go_enter Try.func12, Try.ntmps12
    go_wp2_with (first
      | (go_at_call 25; (with_reducible refine (made17 HB.out).mono ?_); rintro e w1 ⟨rfl, rfl⟩)
      | (go_at_call 23; (with_reducible refine (within17_as s 0 999 true L1 A1 _).mono ?_); rintro e w2 ⟨rfl, rfl⟩)
      | (go_at_call 23; (with_reducible refine (within17_as p 0 1000 true L2 A2 _).mono ?_); rintro e w2 ⟨rfl, rfl⟩)
      | (go_at_call 23; (with_reducible refine (within17_as t 0 1099511627776 true L3 A3 _).mono ?_); rintro e w2 ⟨rfl, rfl⟩)
      | (go_at_call 26; (with_reducible refine (HW.out _ HB.out).mono ?_); rintro e w2 ⟨rfl, rfl⟩)
      | (go_at_call 27; (with_reducible refine K1.out.mono ?_); rintro e w1 ⟨rfl, r1⟩)
      | (go_at_call 29; (with_reducible refine (K2.out _ r1.out).mono ?_); rintro e w2 ⟨SH2, rfl, q2, s2⟩))
    go_ret
    exact ⟨rfl, SH2, q2.out, s2.out⟩
end
section
variable {HP : HpT} (H : HeapOk HP)
include H
omit H in
theorem ups_len_l {D : List Int} (h : Ups D) {lo hi : Int} (hb : ∀ d ∈ D, lo ≤ d ∧ d ≤ hi) (h0 : lo ≤ hi + 1) : (D.length : Int) ≤ hi - lo + 1 := by
  induction D generalizing lo with
  | nil => simp; omega
  | cons x t ih =>
    obtain ⟨h1, h2⟩ := ups_cons.1 h
    have hx := hb x (List.mem_cons_self ..)
    have := ih h2 (lo := x + 1) (fun d hd => ⟨by have := h1 d hd; omega, (hb d (List.mem_cons_of_mem _ hd)).2⟩) (by omega)
    rw [List.length_cons]
    omega
omit H in
theorem QInv.dlen {m g : Int} {L : List It} {D : List Int} (h : QInv m g L D) : D.length ≤ 1000 := by
  have := ups_len_l h.ups h.low (by omega)
  omega
theorem lwant17 {w : World} {v : Value} {S : Nat → Prop} {m g : Int} {L : List It} {D : List Int} (s p t : Int) (hr : Rel w w) (q : LQp HP w v S m g L D) (is : i64 s) (ip : i64 p) (it : i64 t) :
    Calls Try.prog 12 #[v, .int .i64 s, .int .i64 p, .int .i64 t] w fun e w' => e = .returned (.int .i64 (wantE m g L s p t)) ∧ ∃ S', LQp HP w' v S' m g (wantL m g L s p t) (wantD m g L D s p t) ∧ St S S' w w' := by
  have hi := q.1.want s p t
  have hi0 := q.1
  cases hv : wantV g s p t with
  | false =>
    have eE : wantE m g L s p t = 1 := by unfold wantE; rw [hv]; rfl
    have eL : wantL m g L s p t = L := by unfold wantL; rw [hv]; rfl
    have eD : wantD m g L D s p t = D := by unfold wantD; rw [hv]; rfl
    rw [eE, eL, eD]
    refine (lwant_bad hr v hv ?_).mono ?_
    · rcases q.2 with ⟨rfl, _⟩ | ⟨b, h, d, SH, rfl, rfl, z, h1⟩
      · exact .inl rfl
      · exact .inr ⟨b, h, d, rfl, z.box, h1⟩
    · rintro e w' ⟨he, r1⟩
      exact ⟨he, S, q.rel H r1, St.of_rel17l r1⟩
  | true =>
    have hg1 := (wantV_iff.1 hv).1
    rcases q.2 with ⟨_, _, _, e, _⟩ | ⟨b, h, d, SH, rfl, rfl, z, h1⟩
    · omega
    · cases hh : hasH L s with
      | true =>
        have eE : wantE m g L s p t = 0 := by unfold wantE; rw [hv, hh]; rfl
        have eL : wantL m g L s p t = chgH L s (max ((prioH L s).getD 0) (wgt g p t)) := by unfold wantL; rw [hv, hh]; rfl
        have eD : wantD m g L D s p t = D := by unfold wantD; rw [hv, hh]; rfl
        rw [eL, eD] at hi
        rw [eE, eL, eD]
        refine (lwant_up H hr z hv hi0.age hh ?_).mono ?_
        · obtain ⟨y, hy, hm⟩ := prio_mem hh
          rw [hy]
          exact (H.fit z.hp _ hm).2
        · rintro e w' ⟨he, SH', h2, h3⟩
          exact ⟨he, _, ⟨hi, .inr ⟨b, h, d, SH', rfl, rfl, h2, h1⟩⟩, h3⟩
      | false =>
        obtain ⟨bk, hbk⟩ : ∃ bk, decide ((L.length : Int) < m) = bk := ⟨_, rfl⟩
        have eE : wantE m g L s p t = if bk then 0 else 50 := by unfold wantE; rw [hv, hh, ← hbk]; simp
        have eL : wantL m g L s p t = if bk then insH L (s, wgt g p t) else L := by unfold wantL; rw [hv, hh, ← hbk]; simp
        have eD : wantD m g L D s p t = if bk then remD D s else insD D s := by unfold wantD; rw [hv, hh, ← hbk]; simp
        rw [eL, eD] at hi
        rw [eE, eL, eD]
        refine (lwant_new H hr z hv hi0.age hh (Nat.lt_of_le_of_lt hi0.dlen (by unfold maxLen; omega)) bk hbk).mono ?_
        rintro e w' ⟨he, SH', h2, h3⟩
        exact ⟨he, _, ⟨hi, .inr ⟨b, h, d, SH', rfl, rfl, h2, h1⟩⟩, h3⟩
end
end Go.Proofs.Ytndmnlgancnbkaa
