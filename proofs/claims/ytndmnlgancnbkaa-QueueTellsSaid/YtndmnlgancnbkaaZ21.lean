/- The document's own answers of layer 17: Want. -/
import Derived.Test.YtndmnlgancnbkaaZL
import Derived.Test.YtndmnlgancnbkaaZ00
import Derived.Test.YtndmnlgancnbkaaZ01
import Derived.Test.YtndmnlgancnbkaaZ02
import Derived.Test.YtndmnlgancnbkaaZ03
import Derived.Test.YtndmnlgancnbkaaZ05
import Derived.Test.YtndmnlgancnbkaaZ11
import Derived.Test.YtndmnlgancnbkaaZ14
import Derived.Test.YtndmnlgancnbkaaZ16
import Derived.Test.YtndmnlgancnbkaaZ18
import Derived.Test.YtndmnlgancnbkaaZ19
import Derived.Test.YtndmnlgancnbkaaZ20
namespace Go.Proofs.Ytndmnlgancnbkaa
open Go.RowKit Go.Lib
set_option linter.unusedVariables false
set_option linter.unusedSimpArgs false
section
variable {w : World} {q : Nat} {u : Value} {A : Option Addr} {c : Nat} {m g : Int} {L : List It} {D : List Int} {s p t : Int}
/-- What a valid call reckons with. -/
structure WantF (g s p t W : Int) : Prop where
  v1 : ¬ g < 1
  v2 : ¬ s < 0
  v3 : ¬ 999 < s
  v4 : ¬ p < 0
  v5 : ¬ 1000 < p
  v6 : ¬ t < 0
  v7 : ¬ 1099511627776 < t
  m0 : 0 ≤ p * g
  m1 : p * g ≤ 1000000
  hw : p * g - t = W
theorem wantF (hv : wantV g s p t = true) (hg : g ≤ 1000) : WantF g s p t (wgt g p t) := by
  obtain ⟨v1, v2, v3, v4, v5⟩ := wantV_iff.1 hv
  have h1 : 0 ≤ p * g := Int.mul_nonneg v3.1 (by omega)
  have h2 : p * g ≤ 1000 * 1000 := Int.mul_le_mul v3.2 hg (by omega) (by omega)
  exact ⟨by omega, by omega, by omega, by omega, by omega, by omega, by omega, h1, by omega, rfl⟩
set_option maxRecDepth 100000 in
set_option maxHeartbeats 8000000 in
theorem rwant_up (hr : Rel w w) (hq : Rq w q u m g L A c D) (hv : wantV g s p t = true) (hg : g ≤ 1000) (hh : hasH L s = true) (ho : i64 ((prioH L s).getD 0)) :
    Calls Try.prog 13 #[.pointer (some ⟨q, 0, none⟩), .int .i64 s, .int .i64 p, .int .i64 t] w fun e w' => e = .returned (.int .i64 0) ∧ ∃ u', Rq w' q u' m g (chgH L s (max ((prioH L s).getD 0) (wgt g p t))) A c D ∧ St (SqR q u A) (SqR q u' A) w w' := by
  have hF := wantF hv hg
  obtain ⟨W, hW⟩ : ∃ W, wgt g p t = W := ⟨_, rfl⟩
  rw [hW] at hF ⊢
  clear hW
  obtain ⟨o, hO⟩ : ∃ o, (prioH L s).getD 0 = o := ⟨_, rfl⟩
  have K1 := Lib.hid (show Calls Try.prog 30 #[.pointer (some ⟨q, 0, none⟩), .int .i64 s] w fun e w' => e = .returned (.tuple #[.int .i64 o, .bool true]) ∧ Hid (Rel w w') from by
    rw [← hO, ← hh]
    exact (rprio16 s hr ⟨q, u, rfl, rfl, hq.hp⟩).mono fun e w' h => ⟨h.1, Lib.hid h.2⟩)
  rw [hO] at ho ⊢
  have K2 := Lib.hid (fun (w1 : World) (x : Int) (h1 : Rel w w1) (hx : max o W = x) => show Calls Try.prog 31 #[.pointer (some ⟨q, 0, none⟩), .int .i64 s, .int .i64 x] w1 fun e w' => ∃ u', e = .returned (.bool true) ∧ Hid (Rq w' q u' m g (chgH L s (max o W)) A c D) ∧ Hid (St (SqR q u A) (SqR q u' A) w w') from by
    obtain ⟨f1, f2, f3, f4, f5, f6, f7, f8, f9, f10⟩ := hF
    rw [hx]
    have q1 := hq.rel h1
    refine (rchange16 s x h1.self ⟨q, u, rfl, rfl, q1.hp⟩ ⟨by omega, by omega⟩ (by unfold i64 at ho ⊢; omega)).mono ?_
    rw [hh]
    rintro e w' ⟨he, S', h2, h3⟩
    obtain ⟨u', rfl, h4⟩ := h2.un
    obtain ⟨a, b⟩ := q1.heap h4 h3
    exact ⟨u', he, Lib.hid a, Lib.hid ((St.of_rel17 h1).on17 b)⟩)
  obtain ⟨f1, f2, f3, f4, f5, f6, f7, f8, f9, f10⟩ := hF
  have k0 := (hq.cell hr).1
  clear hv hq hr hh hO
  go_enter Try.func13, Try.ntmps13
  go_upto_region 4 with (fail)
  try rw [f10]
  go_upto_region 5 with (go_at_call 30; (with_reducible refine K1.out.mono ?_); rintro e w1 ⟨rfl, r1⟩)
  by_cases hc : o < W
  · have hx := Lib.hid (show max o W = W by omega)
    go_wp2_with (first | (go_at_call 31; (with_reducible refine (K2.out _ _ r1.out hx.out).mono ?_); rintro e w2 ⟨u2, rfl, q2, s2⟩) | (go_at_call 31; (with_reducible refine (K2.out _ (max o W) r1.out rfl).mono ?_); rintro e w2 ⟨u2, rfl, q2, s2⟩))
    go_ret
    exact ⟨rfl, _, q2.out, s2.out⟩
  · have hx := Lib.hid (show max o W = o by omega)
    go_wp2_with (first | (go_at_call 31; (with_reducible refine (K2.out _ _ r1.out hx.out).mono ?_); rintro e w2 ⟨u2, rfl, q2, s2⟩) | (go_at_call 31; (with_reducible refine (K2.out _ (max o W) r1.out rfl).mono ?_); rintro e w2 ⟨u2, rfl, q2, s2⟩))
    go_ret
    exact ⟨rfl, _, q2.out, s2.out⟩
set_option maxRecDepth 100000 in
set_option maxHeartbeats 8000000 in
theorem rwant_new (hr : Rel w w) (hq : Rq w q u m g L A c D) (hv : wantV g s p t = true) (hg : g ≤ 1000) (hm : m ≤ 1000) (hh : hasH L s = false) (E : Int) (L' : List It) (b : Bool) (hE : (E = 50 ∧ b = true ∧ L' = L ∧ m ≤ (L.length : Int)) ∨ (E = 0 ∧ b = false ∧ L' = insH L (s, wgt g p t) ∧ ¬ m ≤ (L.length : Int))) :
    Calls Try.prog 13 #[.pointer (some ⟨q, 0, none⟩), .int .i64 s, .int .i64 p, .int .i64 t] w fun e w' => e = .returned (.int .i64 E) ∧ ∃ u' A' c', Rq w' q u' m g L' A' c' (markD D s b) ∧ St (SqR q u A) (SqR q u' A') w w' := by
  have hF := wantF hv hg
  obtain ⟨W, hW⟩ : ∃ W, wgt g p t = W := ⟨_, rfl⟩
  rw [hW] at hF hE
  clear hW
  obtain ⟨o, hO⟩ : ∃ o, (prioH L s).getD 0 = o := ⟨_, rfl⟩
  have K1 := Lib.hid (show Calls Try.prog 30 #[.pointer (some ⟨q, 0, none⟩), .int .i64 s] w fun e w' => e = .returned (.tuple #[.int .i64 o, .bool false]) ∧ Hid (Rel w w') from by
    rw [← hO, ← hh]
    exact (rprio16 s hr ⟨q, u, rfl, rfl, hq.hp⟩).mono fun e w' h => ⟨h.1, Lib.hid h.2⟩)
  have K2 := Lib.hid (fun (w1 : World) (h1 : Rel w w1) => show Calls Try.prog 32 #[.pointer (some ⟨q, 0, none⟩), .int .i64 s, .int .i64 W] w1 fun e w' => ∃ u', e = .returned (.int .i64 E) ∧ Hid (Rq w' q u' m g L' A c D) ∧ Hid (St (SqR q u A) (SqR q u' A) w w') from by
    obtain ⟨f1, f2, f3, f4, f5, f6, f7, f8, f9, f10⟩ := hF
    have q1 := hq.rel h1
    have hn : ¬ hasH L s = true := by rw [hh]; simp
    have e1 : pushE m L s = E ∧ pushL m L s W = L' := by
      unfold pushL pushE
      rw [if_neg hn]
      rcases hE with ⟨rfl, _, rfl, hl⟩ | ⟨rfl, _, rfl, hl⟩
      · rw [if_pos hl]; exact ⟨rfl, rfl⟩
      · rw [if_neg hl]; exact ⟨rfl, rfl⟩
    refine (rpush16 s W h1.self ⟨q, u, rfl, rfl, q1.hp⟩ hm ⟨by omega, by omega⟩ ⟨by omega, by omega⟩).mono ?_
    rw [e1.1, e1.2]
    rintro e w' ⟨he, S', h2, h3⟩
    obtain ⟨u', rfl, h4⟩ := h2.un
    obtain ⟨a, b⟩ := q1.heap h4 h3
    exact ⟨u', he, Lib.hid a, Lib.hid ((St.of_rel17 h1).on17 b)⟩)
  have K3 := Lib.hid (fun (w1 : World) (u' : Value) (hs : St (SqR q u A) (SqR q u' A) w w1) (h : Rq w1 q u' m g L' A c D) => show Calls Try.prog 33 #[.pointer (some ⟨q, 0, none⟩), .int .i64 s, .bool b] w1 fun e w' => ∃ (A2 : Option Addr) (c2 : Nat) (x : Bool), e = .returned (.bool x) ∧ Hid (Rq w' q u' m g L' A2 c2 (markD D s b)) ∧ Hid (St (SqR q u A) (SqR q u' A2) w w') from by
    obtain ⟨f1, f2, f3, f4, f5, f6, f7, f8, f9, f10⟩ := hF
    refine (rqmark h s b (hs.self17 hr) (fun _ => by omega)).mono ?_
    rintro e w' ⟨he, A2, c2, a, b⟩
    exact ⟨A2, c2, _, he, Lib.hid a, Lib.hid (hs.on17 b)⟩)
  obtain ⟨f1, f2, f3, f4, f5, f6, f7, f8, f9, f10⟩ := hF
  have k0 := (hq.cell hr).1
  have hE2 : (E = 50 ∧ b = true) ∨ (E = 0 ∧ b = false) := by
    rcases hE with ⟨a, b, _⟩ | ⟨a, b, _⟩
    · exact .inl ⟨a, b⟩
    · exact .inr ⟨a, b⟩
  clear hv hq hr hh hO hE
  go_enter Try.func13, Try.ntmps13
  go_upto_region 4 with (fail)
  try rw [f10]
  go_upto_region 5 with (go_at_call 30; (with_reducible refine K1.out.mono ?_); rintro e w1 ⟨rfl, r1⟩)
  rcases hE2 with ⟨rfl, rfl⟩ | ⟨rfl, rfl⟩
  all_goals
    go_wp2_with (first | (go_at_call 32; (with_reducible refine (K2.out _ r1.out).mono ?_); rintro e w2 ⟨u2, rfl, q2, s2⟩) | (go_at_call 33; (with_reducible refine (K3.out _ _ s2.out q2.out).mono ?_); rintro e w3 ⟨A3, c3, x3, rfl, q3, s3⟩))
    go_ret
    exact ⟨rfl, _, _, _, q3.out, s3.out⟩
end
theorem rwant17 {w : World} {v : Value} {S : Nat → Prop} {m g : Int} {L : List It} {D : List Int} (s p t : Int) (hr : Rel w w) (h : RqP w v S m g L D) :
    Calls Try.prog 13 #[v, .int .i64 s, .int .i64 p, .int .i64 t] w fun e w' => e = .returned (.int .i64 (wantE m g L s p t)) ∧ ∃ S', RqP w' v S' m g (wantL m g L s p t) (wantD m g L D s p t) ∧ St S S' w w' := by
  by_cases hv : wantV g s p t = true
  · have hi := h
    obtain ⟨q, u, A, c, rfl, rfl, hq, hI⟩ := h
    have hI' := hI.want s p t
    by_cases hh : hasH L s = true
    · obtain ⟨e1, e2, e3⟩ := want_up (m := m) (D := D) hv hh
      obtain ⟨y, hy, hm⟩ := prio_mem hh
      have hb := hI.wt _ hm
      have hb2 : -1099511627776 ≤ y ∧ y ≤ 1000000 := hb
      rw [e2, e3] at hI'
      rw [e1, e2, e3]
      refine (rwant_up hr hq hv hI.age hh (by rw [hy]; exact ⟨by omega, by omega⟩)).mono ?_
      rintro e w' ⟨he, u', a, b⟩
      exact ⟨he, _, ⟨q, u', A, c, rfl, rfl, a, hI'⟩, b⟩
    · have hh' : hasH L s = false := by simpa using hh
      by_cases hl : m ≤ (L.length : Int)
      · obtain ⟨e1, e2, e3⟩ := want_out (m := m) (D := D) hv hh' (by omega)
        rw [e2, e3] at hI'
        rw [e1, e2, e3]
        refine (rwant_new hr hq hv hI.age hI.room hh' 50 L true (.inl ⟨rfl, rfl, rfl, hl⟩)).mono ?_
        rintro e w' ⟨he, u', A', c', a, b⟩
        exact ⟨he, _, ⟨q, u', A', c', rfl, rfl, a, hI'⟩, b⟩
      · obtain ⟨e1, e2, e3⟩ := want_in (m := m) (D := D) hv hh' (by omega)
        rw [e2, e3] at hI'
        rw [e1, e2, e3]
        refine (rwant_new hr hq hv hI.age hI.room hh' 0 _ false (.inr ⟨rfl, rfl, rfl, hl⟩)).mono ?_
        rintro e w' ⟨he, u', A', c', a, b⟩
        exact ⟨he, _, ⟨q, u', A', c', rfl, rfl, a, hI'⟩, b⟩
  · have hv' : wantV g s p t = false := by simpa using hv
    have e1 : wantE m g L s p t = 1 := by unfold wantE; rw [if_neg hv]
    have e2 : wantL m g L s p t = L := by unfold wantL; rw [if_neg hv]
    have e3 : wantD m g L D s p t = D := by unfold wantD; rw [if_neg hv]
    rw [e1, e2, e3]
    refine (rwant_bad s p t hr h hv').mono ?_
    rintro e w' ⟨he, rfl⟩
    exact ⟨he, S, h, Gr.refl _ _, Ke.refl _ _⟩
end Go.Proofs.Ytndmnlgancnbkaa
