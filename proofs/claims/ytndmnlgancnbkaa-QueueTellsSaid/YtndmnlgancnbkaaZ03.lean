/- Layer 17, the landed code: what the queue of the program is in memory; its small ones (made, weight, within); Plain mathematics of layer 17: as urgent ones, wanted one behind the other (QueueAges). No program in this text; Layer 17, the landed code: New; admit; Want. -/
import Derived.Test.YtndmnlgancnbkaaZL
import Derived.Test.YtndmnlgancnbkaaZ00
import Derived.Test.YtndmnlgancnbkaaZ01
import Derived.Test.YtndmnlgancnbkaaZ02
namespace Go.Proofs.Ytndmnlgancnbkaa
open Go.RowKit Go.Lib
set_option linter.unusedVariables false
set_option linter.unusedSimpArgs false
/-- A queue's own blocks: its box b, the heap's, the set d. -/
def SqL (b d : Nat) (SH : Nat → Prop) : Nat → Prop := fun k => k = b ∨ k = d ∨ SH k
structure Lb (HP : HpT) (w : World) (b h d : Nat) (SH : Nat → Prop) (m g : Int) (L : List It) (D : List Int) : Prop where
  box : Bk w b 56 #[.int .i64 g, .pointer (some ⟨h, 0, none⟩), .map (some d)]
  hp : HP w (.pointer (some ⟨h, 0, none⟩)) SH m L
  set : DtAt w d D
  nb : ¬ SH b
  nd : ¬ SH d
section
variable {HP : HpT} (H : HeapOk HP) {w0 w w' : World} {b h d : Nat} {SH SH' : Nat → Prop} {m g : Int} {L L' : List It} {D D' : List Int}
theorem Lb.ne (q : Lb HP w b h d SH m g L D) : b ≠ d := fun e => q.set.ne q.box e.symm
include H
theorem Lb.lt (q : Lb HP w b h d SH m g L D) : ∀ k, SqL b d SH k → k < w.heap.size := by
  rintro k (rfl | rfl | hk)
  · exact q.box.lt
  · exact q.set.lt
  · exact H.lt q.hp k hk
theorem Lb.keep (q : Lb HP w b h d SH m g L D) (hz : w.heap.size ≤ w'.heap.size) (hb : ∀ k, SqL b d SH k → w'.heap[k]? = w.heap[k]?) : Lb HP w' b h d SH m g L D :=
  ⟨(hb b (.inl rfl)).trans q.box, H.keep q.hp hz (fun k hk => hb k (.inr (.inr hk))), q.set.blk (hb d (.inr (.inl rfl))), q.nb, q.nd⟩
theorem Lb.rel (q : Lb HP w b h d SH m g L D) (hr : Rel w w') : Lb HP w' b h d SH m g L D := q.keep H hr.size (fun k hk => hr.2.block k (q.lt H k hk))
omit H in
/-- Behind a call on its heap. -/
theorem Lb.heap (q : Lb HP w b h d SH m g L D) (hp : HP w' (.pointer (some ⟨h, 0, none⟩)) SH' m L') (hs : St SH SH' w w') : Lb HP w' b h d SH' m g L' D ∧ St (SqL b d SH) (SqL b d SH') w w' := by
  refine ⟨⟨hs.2.bk q.box q.nb, hp, q.set.blk (hs.2.block d q.set.lt q.nd), fun e => (hs.1 b e).elim q.nb (fun z => Nat.not_le_of_lt q.box.lt z), fun e => (hs.1 d e).elim q.nd (fun z => Nat.not_le_of_lt q.set.lt z)⟩, fun k hk => ?_, ⟨hs.2.os, hs.2.tape, hs.2.output, hs.2.size, fun k hk hn => hs.2.block k hk (fun e => hn (.inr (.inr e)))⟩⟩
  rcases hk with e | e | e
  · exact .inl (.inl e)
  · exact .inl (.inr (.inl e))
  · exact (hs.1 k e).imp (fun z => .inr (.inr z)) id
/-- Behind an operation on its set. -/
theorem Lb.map (q : Lb HP w b h d SH m g L D) (hd : DtAt w' d D') (hg : w.grownBy w' (some d)) : Lb HP w' b h d SH m g L D' ∧ St (SqL b d SH) (SqL b d SH) w w' := by
  have hn : ∀ k, k < w.heap.size → k ≠ d → w'.heap[k]? = w.heap[k]? := fun k hk e => hg.block k hk (fun z => e (Option.some.inj z))
  have hk : Ke (SqL b d SH) w w' := Ke.grown hg (fun k e => .inr (.inl (Option.some.inj e).symm))
  refine ⟨⟨(hn b q.box.lt q.ne).trans q.box, H.keep q.hp hk.size (fun k hk => hn k (H.lt q.hp k hk) (fun e => q.nd (e ▸ hk))), hd, q.nb, q.nd⟩, Gr.refl _ _, hk⟩
end
theorem St.of_rel17l {S : Nat → Prop} {w w' : World} (hr : Rel w w') : St S S w w' := ⟨Gr.refl _ _, Ke.of_rel hr⟩
theorem St.trans17 {S S' S'' : Nat → Prop} {w w' w'' : World} (h : St S S' w w') (h' : St S' S'' w' w'') : St S S'' w w'' := ⟨Gr.trans h.2.size h.1 h'.1, h.2.trans h.1 h'.2⟩
theorem ret_int17 {x y : Int} (h : x = y) : Ending.returned (.int .i64 x) = .returned (.int .i64 y) := by rw [h]
theorem ret_bool17 {x y : Bool} (h : x = y) : Ending.returned (.bool x) = .returned (.bool y) := by rw [h]
theorem clamp17 (n l h : Int) (w : World) : Calls Try.prog 36 #[.int .i64 n, .int .i64 l, .int .i64 h] w fun e w' => e = .returned (.int .i64 (max l (min n h))) ∧ w = w' := by
  by_cases h1 : h < n <;> by_cases h2 : h < l <;> by_cases h3 : n < l
  all_goals
    go_enter Try.func36, Try.ntmps36
    go_wp2
    all_goals
      go_ret
      exact ⟨ret_int17 (by omega), rfl⟩
theorem clamp17_as (n l h c : Int) (hc : Hid (max l (min n h) = c)) (w : World) : Calls Try.prog 36 #[.int .i64 n, .int .i64 l, .int .i64 h] w fun e w' => e = .returned (.int .i64 c) ∧ w = w' := by
  rw [← hc.out]; exact clamp17 n l h w
theorem within17 (n l h : Int) (hlh : l ≤ h) (w : World) : Calls Try.prog 23 #[.int .i64 n, .int .i64 l, .int .i64 h] w fun e w' => e = .returned (.bool (decide (l ≤ n ∧ n ≤ h))) ∧ w = w' := by
  obtain ⟨c, hc⟩ : ∃ c, max l (min n h) = c := ⟨_, rfl⟩
  have HC := Lib.hid hc
  by_cases e : c = n
  · have b0 : (c == n) = true := by simpa using e
    have HD := Lib.hid (show decide (l ≤ n ∧ n ≤ h) = true from decide_eq_true (by omega))
    clear e hc
    go_enter Try.func23, Try.ntmps23
    go_wp2_with (go_at_call 36; (with_reducible refine (clamp17_as n l h c HC _).mono ?_); rintro e w' ⟨rfl, rfl⟩)
    go_ret
    exact ⟨ret_bool17 (by rw [HD.out]), rfl⟩
  · have b0 : (c == n) = false := by simpa using e
    have HD := Lib.hid (show decide (l ≤ n ∧ n ≤ h) = false from decide_eq_false (by omega))
    clear e hc
    go_enter Try.func23, Try.ntmps23
    go_wp2_with (go_at_call 36; (with_reducible refine (clamp17_as n l h c HC _).mono ?_); rintro e w' ⟨rfl, rfl⟩)
    go_ret
    exact ⟨ret_bool17 (by rw [HD.out]), rfl⟩
theorem within17_as (n l h : Int) (q : Bool) (hlh : Hid (l ≤ h)) (hq : Hid (decide (l ≤ n ∧ n ≤ h) = q)) (w : World) : Calls Try.prog 23 #[.int .i64 n, .int .i64 l, .int .i64 h] w fun e w' => e = .returned (.bool q) ∧ w = w' := by
  rw [← hq.out]; exact within17 n l h hlh.out w
theorem made17_nil (w : World) : Calls Try.prog 25 #[.pointer none] w fun e w' => e = .returned (.bool false) ∧ w = w' := by
  go_enter Try.func25, Try.ntmps25
  go_wp2_with (fail)
  go_ret
  exact ⟨rfl, rfl⟩
theorem made17 {w : World} {b h d : Nat} {g : Int} (hb : Bk w b 56 #[.int .i64 g, .pointer (some ⟨h, 0, none⟩), .map (some d)]) : Calls Try.prog 25 #[.pointer (some ⟨b, 0, none⟩)] w fun e w' => e = .returned (.bool true) ∧ w = w' := by
  have k1 := hb.cell 1
  clear hb
  go_enter Try.func25, Try.ntmps25
  go_wp2_with (fail)
  go_ret
  exact ⟨rfl, rfl⟩
theorem weight17 {w : World} {b h d : Nat} {g : Int} (hb : Bk w b 56 #[.int .i64 g, .pointer (some ⟨h, 0, none⟩), .map (some d)]) (p t x : Int) (h0 : 0 ≤ p * g) (h1 : p * g ≤ 1000000) (h2 : 0 ≤ t) (h3 : t ≤ 1099511627776) (hx : p * g - t = x) :
    Calls Try.prog 26 #[.pointer (some ⟨b, 0, none⟩), .int .i64 p, .int .i64 t] w fun e w' => e = .returned (.int .i64 x) ∧ w = w' := by
  have k0 := hb.cell 0
  have HX := Lib.hid hx
  clear hb hx
  go_enter Try.func26, Try.ntmps26
  go_wp2_with (fail)
  go_ret
  exact ⟨ret_int17 HX.out, rfl⟩
end Go.Proofs.Ytndmnlgancnbkaa

namespace Go.Proofs.Ytndmnlgancnbkaa
open Go.Lib
set_option linter.unusedVariables false
set_option linter.unusedSimpArgs false
theorem want_in {m g s p t : Int} {L : List It} {D : List Int} (hv : wantV g s p t = true) (hh : hasH L s = false) (hr : (L.length : Int) < m) :
    wantE m g L s p t = 0 ∧ wantL m g L s p t = insH L (s, wgt g p t) ∧ wantD m g L D s p t = remD D s := by
  have hn : ¬ hasH L s = true := by rw [hh]; simp
  refine ⟨?_, ?_, ?_⟩
  · unfold wantE; rw [if_pos hv, if_neg hn, if_pos hr]
  · unfold wantL; rw [if_pos hv, if_neg hn, if_pos hr]
  · unfold wantD; rw [if_pos hv, if_neg hn, if_pos hr]
theorem want_up {m g s p t : Int} {L : List It} {D : List Int} (hv : wantV g s p t = true) (hh : hasH L s = true) :
    wantE m g L s p t = 0 ∧ wantL m g L s p t = chgH L s (max ((prioH L s).getD 0) (wgt g p t)) ∧ wantD m g L D s p t = D := by
  refine ⟨?_, ?_, ?_⟩
  · unfold wantE; rw [if_pos hv, if_pos hh]
  · unfold wantL; rw [if_pos hv, if_pos hh]
  · unfold wantD; rw [if_pos hv, if_pos hh]
theorem want_out {m g s p t : Int} {L : List It} {D : List Int} (hv : wantV g s p t = true) (hh : hasH L s = false) (hr : ¬ (L.length : Int) < m) :
    wantE m g L s p t = 50 ∧ wantL m g L s p t = L ∧ wantD m g L D s p t = insD D s := by
  have hn : ¬ hasH L s = true := by rw [hh]; simp
  refine ⟨?_, ?_, ?_⟩
  · unfold wantE; rw [if_pos hv, if_neg hn, if_neg hr]
  · unfold wantL; rw [if_pos hv, if_neg hn, if_neg hr]
  · unfold wantD; rw [if_pos hv, if_neg hn, if_neg hr]
end Go.Proofs.Ytndmnlgancnbkaa

namespace Go.Proofs.Ytndmnlgancnbkaa
open Go.RowKit Go.Lib
set_option linter.unusedVariables false
set_option linter.unusedSimpArgs false
/-- The landed queue: L waits, D is dirty. -/
def LQp (HP : HpT) (w : World) (v : Value) (S : Nat → Prop) (m g : Int) (L : List It) (D : List Int) : Prop :=
  QInv m g L D ∧ ((v = .pointer none ∧ S = (fun _ => False) ∧ m = 0 ∧ g = 0 ∧ L = [] ∧ D = []) ∨ ∃ (b h d : Nat) (SH : Nat → Prop), v = .pointer (some ⟨b, 0, none⟩) ∧ S = SqL b d SH ∧ Lb HP w b h d SH m g L D ∧ 1 ≤ g)
section
variable {HP : HpT} (H : HeapOk HP)
include H
theorem LQp.keep {w w' : World} {v : Value} {S : Nat → Prop} {m g : Int} {L : List It} {D : List Int} (q : LQp HP w v S m g L D) (hz : w.heap.size ≤ w'.heap.size) (hb : ∀ k, S k → w'.heap[k]? = w.heap[k]?) : LQp HP w' v S m g L D := by
  obtain ⟨hi, q | ⟨b, h, d, SH, rfl, rfl, q, h1⟩⟩ := q
  · exact ⟨hi, .inl q⟩
  · exact ⟨hi, .inr ⟨b, h, d, SH, rfl, rfl, q.keep H hz hb, h1⟩⟩
theorem LQp.lt {w : World} {v : Value} {S : Nat → Prop} {m g : Int} {L : List It} {D : List Int} (q : LQp HP w v S m g L D) : ∀ k, S k → k < w.heap.size := by
  obtain ⟨hi, ⟨_, rfl, _⟩ | ⟨b, h, d, SH, rfl, rfl, q, h1⟩⟩ := q
  · exact fun k hk => hk.elim
  · exact q.lt H
theorem LQp.rel {w w' : World} {v : Value} {S : Nat → Prop} {m g : Int} {L : List It} {D : List Int} (q : LQp HP w v S m g L D) (hr : Rel w w') : LQp HP w' v S m g L D := q.keep H hr.size (fun k hk => hr.2.block k (q.lt H k hk))
omit H in
theorem LQp.nil (w : World) : LQp HP w (.pointer none) (fun _ => False) 0 0 [] [] := ⟨QInv.nil (by omega) (by omega) (by omega), .inl ⟨rfl, rfl, rfl, rfl, rfl, rfl⟩⟩
set_option maxRecDepth 100000 in
set_option maxHeartbeats 4000000 in
theorem lnew17 (room age : Int) (w : World) (hr : Rel w w) (i1 : i64 room) (i2 : i64 age) :
    Calls Try.prog 10 #[.int .i64 room, .int .i64 age] w fun e w' => Rel w w' ∧ (((1 ≤ room ∧ room ≤ 1000) ∧ (1 ≤ age ∧ age ≤ 1000) ∧ ∃ (g : Nat) (S : Nat → Prop), e = .returned (.pointer (some ⟨g, 0, none⟩)) ∧ LQp HP w' (.pointer (some ⟨g, 0, none⟩)) S room age [] [] ∧ ∀ k, S k → w.heap.size ≤ k) ∨ (¬ ((1 ≤ room ∧ room ≤ 1000) ∧ 1 ≤ age ∧ age ≤ 1000) ∧ e = .returned (.pointer none))) := by
  have hmm := @run_makeMap Try.prog
  have HK := H.new room w hr i1
  have HH := Lib.hid H
  have HL := Lib.hid (show (1 : Int) ≤ 1000 by omega)
  generalize hQ : (fun (e : Ending) (w' : World) => Rel w w' ∧ (((1 ≤ room ∧ room ≤ 1000) ∧ (1 ≤ age ∧ age ≤ 1000) ∧ ∃ (g : Nat) (S : Nat → Prop), e = .returned (.pointer (some ⟨g, 0, none⟩)) ∧ LQp HP w' (.pointer (some ⟨g, 0, none⟩)) S room age [] [] ∧ ∀ k, S k → w.heap.size ≤ k) ∨ (¬ ((1 ≤ room ∧ room ≤ 1000) ∧ 1 ≤ age ∧ age ≤ 1000) ∧ e = .returned (.pointer none)))) = Q
  have HQ := Lib.hid hQ
  clear hQ
  by_cases hm : 1 ≤ room ∧ room ≤ 1000
  · have KN := Lib.hid (show Calls Try.prog 22 #[.int .i64 room] w fun e w' => ∃ (gh : Nat) (SH : Nat → Prop), e = .returned (.pointer (some ⟨gh, 0, none⟩)) ∧ Hid (Rel w w') ∧ Hid (HP w' (.pointer (some ⟨gh, 0, none⟩)) SH room []) ∧ Hid (∀ k, SH k → w.heap.size ≤ k) from HK.mono (by
      rintro e w' ⟨r1, ⟨_, _, g, S, he, hp, hS⟩ | ⟨hn, _⟩⟩
      · exact ⟨g, S, he, Lib.hid r1, Lib.hid hp, Lib.hid hS⟩
      · exact absurd hm hn))
    have HM := Lib.hid hm
    obtain ⟨ba, hba⟩ : ∃ ba, decide (1 ≤ age ∧ age ≤ 1000) = ba := ⟨_, rfl⟩
    have HW := Lib.hid hba
    clear hba HK hm i1 i2 H hr
    cases ba
    · go_enter Try.func10, Try.ntmps10
      go_wp2_with (first | (go_at_call 22; (with_reducible refine KN.out.mono ?_); rintro e w1 ⟨gh, SH, rfl, r1, p1, n1⟩) | (go_at_call 23; (with_reducible refine (within17_as age 1 1000 false HL HW _).mono ?_); rintro e w2 ⟨rfl, rfl⟩))
      rw [← HQ.out]
      exact ⟨r1.out, .inr ⟨fun z => of_decide_eq_false HW.out z.2, rfl⟩⟩
    · go_enter Try.func10, Try.ntmps10
      go_wp2_with (first | (go_at_call 22; (with_reducible refine KN.out.mono ?_); rintro e w1 ⟨gh, SH, rfl, r1, p1, n1⟩) | (go_at_call 23; (with_reducible refine (within17_as age 1 1000 true HL HW _).mono ?_); rintro e w2 ⟨rfl, rfl⟩))
      rw [← HQ.out]
      have hag := of_decide_eq_true HW.out
      have hH := HH.out
      have hr2 : Rel w1 (w1.alloc (.map #[] 0)) := r1.out.self.alloc _
      have e1 : (w1.alloc (.map #[] 0)).heap.size = w1.heap.size + 1 := World.size_alloc ..
      have hr3 := hr2.alloc (.cells #[.int .i64 age, .pointer (some ⟨gh, 0, none⟩), .map (some w1.heap.size)] 56)
      have hb := Bk.new (w1.alloc (.map #[] 0)) 56 #[.int .i64 age, .pointer (some ⟨gh, 0, none⟩), .map (some w1.heap.size)]
      rw [e1] at hb
      have hlt := hH.lt p1.out
      refine ⟨r1.out.trans hr3, .inl ⟨HM.out, hag, _, SqL (w1.heap.size + 1) w1.heap.size SH, rfl, ⟨QInv.nil (by have := HM.out; omega) HM.out.2 hag.2, .inr ⟨_, gh, _, SH, rfl, rfl, ⟨hb, ?_, ?_, fun e => ?_, fun e => ?_⟩, hag.1⟩⟩, ?_⟩⟩
      · exact hH.keep p1.out hr3.size (fun k hk => hr3.2.block k (hlt k hk))
      · exact (DtAt.made w1).alloc _
      · have := hlt _ e; omega
      · have := hlt _ e; omega
      · have := r1.out.size
        rintro k (rfl | rfl | hk)
        · omega
        · exact this
        · exact n1.out k hk
  · have KN := Lib.hid (show Calls Try.prog 22 #[.int .i64 room] w fun e w' => e = .returned (.pointer none) ∧ Hid (Rel w w') from HK.mono (by
      rintro e w' ⟨r1, ⟨h1, h2, _⟩ | ⟨_, he⟩⟩
      · exact absurd ⟨h1, h2⟩ hm
      · exact ⟨he, Lib.hid r1⟩))
    have HM := Lib.hid hm
    clear HK hm i1 i2 H hr
    go_enter Try.func10, Try.ntmps10
    go_wp2_with (go_at_call 22; (with_reducible refine KN.out.mono ?_); rintro e w1 ⟨rfl, r1⟩)
    rw [← HQ.out]
    exact ⟨r1.out, .inr ⟨fun z => HM.out z.1, rfl⟩⟩
end
section
variable {HP : HpT} (H : HeapOk HP)
include H
variable {w : World} {b h d : Nat} {SH : Nat → Prop} {m g : Int} {L : List It} {D : List Int}
set_option maxRecDepth 100000 in
set_option maxHeartbeats 4000000 in
theorem admit_full (q : Lb HP w b h d SH m g L D) (hr : Rel w w) (s u : Int) (hs : i64 s) (hu : i64 u) (hh : hasH L s = false) (hm : ¬ (L.length : Int) < m) :
    Calls Try.prog 29 #[.pointer (some ⟨b, 0, none⟩), .int .i64 s, .int .i64 u] w fun e w' => e = .returned (.bool false) ∧ ∃ SH', Lb HP w' b h d SH' m g L D ∧ St (SqL b d SH) (SqL b d SH') w w' := by
  have KP := Lib.hid (show Calls Try.prog 45 #[.pointer (some ⟨h, 0, none⟩), .int .i64 s, .int .i64 u] w fun e w' => ∃ SH', e = .returned (.int .i64 50) ∧ Hid (Lb HP w' b h d SH' m g L D) ∧ Hid (St (SqL b d SH) (SqL b d SH') w w') from (H.push s u hr q.hp hs hu).mono (by
    rintro e w' ⟨he, SH', hp, hst⟩
    have e1 : pushE m L s = 50 := by unfold pushE; rw [hh]; simp; omega
    have e2 : pushL m L s u = L := by unfold pushL; rw [e1]; simp
    rw [e1] at he
    rw [e2] at hp
    obtain ⟨a, c⟩ := q.heap hp hst
    exact ⟨SH', he, Lib.hid a, Lib.hid c⟩))
  have k1 := q.box.cell 1
  clear q hh hm H hr
  go_enter Try.func29, Try.ntmps29
  go_wp2_with (go_at_call 45; (with_reducible refine KP.out.mono ?_); rintro e w1 ⟨SH1, rfl, q1, s1⟩)
  go_ret
  exact ⟨rfl, SH1, q1.out, s1.out⟩
set_option maxRecDepth 100000 in
set_option maxHeartbeats 4000000 in
theorem admit_room (q : Lb HP w b h d SH m g L D) (hr : Rel w w) (s u : Int) (hs : i64 s) (hu : i64 u) (hh : hasH L s = false) (hm : (L.length : Int) < m) :
    Calls Try.prog 29 #[.pointer (some ⟨b, 0, none⟩), .int .i64 s, .int .i64 u] w fun e w' => e = .returned (.bool true) ∧ ∃ SH', Lb HP w' b h d SH' m g (insH L (s, u)) (remD D s) ∧ St (SqL b d SH) (SqL b d SH') w w' := by
  have HH := Lib.hid H
  have HS := Lib.hid (i64_wf hs)
  have KP := Lib.hid (show Calls Try.prog 45 #[.pointer (some ⟨h, 0, none⟩), .int .i64 s, .int .i64 u] w fun e w' => ∃ SH', e = .returned (.int .i64 0) ∧ Hid (Lb HP w' b h d SH' m g (insH L (s, u)) D) ∧ Hid (St (SqL b d SH) (SqL b d SH') w w') from (H.push s u hr q.hp hs hu).mono (by
    rintro e w' ⟨he, SH', hp, hst⟩
    have e1 : pushE m L s = 0 := by unfold pushE; rw [hh]; simp; omega
    have e2 : pushL m L s u = insH L (s, u) := by unfold pushL; rw [e1]; simp
    rw [e1] at he
    rw [e2] at hp
    obtain ⟨a, c⟩ := q.heap hp hst
    exact ⟨SH', he, Lib.hid a, Lib.hid c⟩))
  have k1 := q.box.cell 1
  clear q hh hm H hr hs hu
  go_enter Try.func29, Try.ntmps29
  go_upto_region 3 with (go_at_call 45; (with_reducible refine KP.out.mono ?_); rintro e w1 ⟨SH1, rfl, q1, s1⟩)
  have k2 := q1.out.box.cell 2
  have QS := Lib.hid q1.out.set
  go_wp2_with ((refine wp_clean _ rfl _ _ rfl d D rfl QS.out s rfl HS.out ?_); intro w2 d2 g2; have D2 := Lib.hid d2; have G2 := Lib.hid g2; clear d2 g2)
  go_ret
  obtain ⟨a, c⟩ := q1.out.map HH.out D2.out G2.out
  exact ⟨rfl, SH1, a, s1.out.trans17 c⟩
end
end Go.Proofs.Ytndmnlgancnbkaa
