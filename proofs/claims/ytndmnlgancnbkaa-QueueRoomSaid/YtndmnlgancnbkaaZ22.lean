/- Plain mathematics of layer 16: items by their keys, rising; the most urgent one. No program in this text; Plain mathematics of layer 17: who waits, by their keys, with weights; who is dirty, rising. No program in this text; Plain mathematics of layer 17: as urgent ones, wanted one behind the other (QueueAges). No program in this text; Two things in memory, each with blocks of its own, side by side; Layer 17: two queues side by side, one with room for all (QueueRoom), and rows of marks; Plain mathematics of layer 17: as many as there are are told, each once (QueueRoom). No program in this text; Plain mathematics of layer 17: what holds of the two queues and of the marks (QueueRoom). No program in this text. -/
import Derived.Test.YtndmnlgancnbkaaZL
import Derived.Test.YtndmnlgancnbkaaZ00
import Derived.Test.YtndmnlgancnbkaaZ01
import Derived.Test.YtndmnlgancnbkaaZ02
import Derived.Test.YtndmnlgancnbkaaZ03
import Derived.Test.YtndmnlgancnbkaaZ11
import Derived.Test.YtndmnlgancnbkaaZ15
namespace Go.Proofs.Ytndmnlgancnbkaa
open Go.Lib
set_option linter.unusedVariables false
set_option linter.unusedSimpArgs false
theorem pop_len {L : List It} (h : Srt L) {x : It} (ht : topH L = some x) : (popH L).length + 1 = L.length := by
  unfold popH
  rw [ht]
  exact rem_len h (top_mem ht)
end Go.Proofs.Ytndmnlgancnbkaa

namespace Go.Proofs.Ytndmnlgancnbkaa
open Go.Lib
set_option linter.unusedVariables false
set_option linter.unusedSimpArgs false
/-- Who is in a queue at all. -/
def inQ (L : List It) (D : List Int) (k : Int) : Prop := hasH L k = true ∨ k ∈ D
theorem in_want {m g : Int} {L : List It} {D : List Int} {s p t : Int} (hv : wantV g s p t = true) (k : Int) : inQ (wantL m g L s p t) (wantD m g L D s p t) k ↔ inQ L D k ∨ k = s := by
  unfold inQ wantL wantD
  rw [if_pos hv, if_pos hv]
  by_cases hh : hasH L s = true
  · rw [if_pos hh, if_pos hh, has_chg]
    constructor
    · exact .inl
    · rintro (h | rfl)
      · exact h
      · exact .inl hh
  · rw [if_neg hh, if_neg hh]
    by_cases hr : (L.length : Int) < m
    · rw [if_pos hr, if_pos hr, has_ins, remD_mem]
      constructor
      · rintro ((h | h) | ⟨h, _⟩)
        · exact .inr h
        · exact .inl (.inl h)
        · exact .inl (.inr h)
      · rintro ((h | h) | h)
        · exact .inl (.inr h)
        · by_cases e : k = s
          · exact .inl (.inl e)
          · exact .inr ⟨h, e⟩
        · exact .inl (.inl h)
    · rw [if_neg hr, if_neg hr, insD_mem]
      constructor
      · rintro (h | h | h)
        · exact .inl (.inl h)
        · exact .inr h
        · exact .inl (.inr h)
      · rintro ((h | h) | h)
        · exact .inl h
        · exact .inr (.inr h)
        · exact .inr (.inl h)
theorem in_fill {m u : Int} {L : List It} {D : List Int} (k : Int) : inQ (fillQ m u L D).1 (fillQ m u L D).2 k ↔ inQ L D k := by
  induction D generalizing L with
  | nil => exact Iff.rfl
  | cons d D ih =>
    unfold fillQ
    split
    · rw [ih]
      unfold inQ
      rw [has_ins, List.mem_cons]
      constructor
      · rintro ((h | h) | h)
        · exact .inr (.inl h)
        · exact .inl h
        · exact .inr (.inr h)
      · rintro (h | h | h)
        · exact .inl (.inr h)
        · exact .inl (.inl h)
        · exact .inr h
    · exact Iff.rfl
/-- What Next leaves. -/
theorem in_next {m g t : Int} {L : List It} {D : List Int} (h : QInv m g L D) (k : Int) : inQ (nextQ m t L D).1 (nextQ m t L D).2 k ↔ inQ L D k ∧ ∀ x, topH L = some x → k ≠ x.1 := by
  unfold nextQ
  rw [in_fill]
  rcases pop_cases L with ⟨e0, e, e2⟩ | ⟨x, hx, e0, e⟩
  · rw [e2, e0, e]
    exact ⟨fun h => ⟨h, fun x hx => by cases hx⟩, fun h => h.1⟩
  · rw [e, e0]
    unfold inQ
    rw [has_rem]
    constructor
    · rintro (⟨h1, h2⟩ | h1)
      · exact ⟨.inl h1, fun y hy => by injection hy with hy; rw [← hy]; exact h2⟩
      · refine ⟨.inr h1, fun y hy e => ?_⟩
        injection hy with hy
        have := h.out k h1
        rw [e, ← hy, has_iff.2 ⟨x, hx, rfl⟩] at this
        cases this
    · rintro ⟨h1 | h1, h2⟩
      · exact .inl ⟨h1, h2 x rfl⟩
      · exact .inr h1
end Go.Proofs.Ytndmnlgancnbkaa

namespace Go.Proofs.Ytndmnlgancnbkaa
open Go.Lib
set_option linter.unusedVariables false
set_option linter.unusedSimpArgs false
theorem want_out {m g s p t : Int} {L : List It} {D : List Int} (hv : wantV g s p t = true) (hh : hasH L s = false) (hr : ¬ (L.length : Int) < m) :
    wantE m g L s p t = 50 ∧ wantL m g L s p t = L ∧ wantD m g L D s p t = insD D s := by
  have hn : ¬ hasH L s = true := by rw [hh]; simp
  refine ⟨?_, ?_, ?_⟩
  · unfold wantE; rw [if_pos hv, if_neg hn, if_neg hr]
  · unfold wantL; rw [if_pos hv, if_neg hn, if_neg hr]
  · unfold wantD; rw [if_pos hv, if_neg hn, if_neg hr]
end Go.Proofs.Ytndmnlgancnbkaa

namespace Go.Proofs.Ytndmnlgancnbkaa
open Go.RowKit Go.Lib
set_option linter.unusedVariables false
set_option linter.unusedSimpArgs false
/-- A thing is told by its blocks: they are there, and while they are as they were, so is it. -/
structure Keepy (P : World → (Nat → Prop) → Prop) : Prop where
  lt : ∀ {w S}, P w S → ∀ k, S k → k < w.heap.size
  keep : ∀ {w w' S}, P w S → w.heap.size ≤ w'.heap.size → (∀ k, S k → w'.heap[k]? = w.heap[k]?) → P w' S
/-- Two of them, newer than w0, their blocks together T. -/
structure Duo2 (P1 P2 : World → (Nat → Prop) → Prop) (w0 w : World) (T : Nat → Prop) : Prop where
  ex : ∃ S S2 : Nat → Prop, T = (fun k => S k ∨ S2 k) ∧ P1 w S ∧ P2 w S2 ∧ ∀ k, S k → ¬ S2 k
  rel : Rel w0 w
  new : ∀ k, T k → w0.heap.size ≤ k
section
variable {P1 P2 P1' P2' : World → (Nat → Prop) → Prop} {w0 w w' : World} {T : Nat → Prop}
theorem Duo2.lt (h : Duo2 P1 P2 w0 w T) (K1 : Keepy P1) (K2 : Keepy P2) : ∀ k, T k → k < w.heap.size := by
  obtain ⟨S, S2, rfl, h1, h2, _⟩ := h.ex
  rintro k (q | q)
  · exact K1.lt h1 k q
  · exact K2.lt h2 k q
theorem Duo2.to (h : Duo2 P1 P2 w0 w T) (K1 : Keepy P1) (K2 : Keepy P2) (hr : Rel w w') : Duo2 P1 P2 w0 w' T := by
  obtain ⟨S, S2, hT, h1, h2, h3⟩ := h.ex
  exact ⟨⟨S, S2, hT, K1.keep h1 hr.size (fun k hk => hr.2.block k (K1.lt h1 k hk)), K2.keep h2 hr.size (fun k hk => hr.2.block k (K2.lt h2 k hk)), h3⟩, h.rel.trans hr, h.new⟩
theorem Duo2.put (h : Duo2 P1 P2 w0 w T) (K1 : Keepy P1) (K2 : Keepy P2) {p : Addr} (hp : ¬ T p.block) (hn : w0.heap.size ≤ p.block) (u : Value) : Duo2 P1 P2 w0 (w.setCell p u) T := by
  obtain ⟨S, S2, rfl, h1, h2, h3⟩ := h.ex
  exact ⟨⟨S, S2, rfl, K1.keep h1 (by simp) (fun k hk => Below.heap_setCell w p u k (fun e => hp (by rw [← e]; exact .inl hk))), K2.keep h2 (by simp) (fun k hk => Below.heap_setCell w p u k (fun e => hp (by rw [← e]; exact .inr hk))), h3⟩, h.rel.setCell hn u, h.new⟩
theorem Duo2.fst_st (h : Duo2 P1 P2 w0 w T) (K2 : Keepy P2) {S S2 S' : Nat → Prop} (hT : T = (fun k => S k ∨ S2 k)) (h2 : P2 w S2) (h3 : ∀ k, S k → ¬ S2 k) (hp : P1' w' S') (hs : St S S' w w') :
    Duo2 P1' P2 w0 w' (fun k => S' k ∨ S2 k) ∧ St T (fun k => S' k ∨ S2 k) w w' := by
  subst hT
  obtain ⟨hg, hk⟩ := hs
  have hnS : ∀ k, k < w.heap.size → ¬ (S k ∨ S2 k) → w'.heap[k]? = w.heap[k]? := fun k hk1 hn => hk.block k hk1 (fun q => hn (.inl q))
  refine ⟨⟨⟨S', S2, rfl, hp, K2.keep h2 hk.size (fun k hk2 => hk.block k (K2.lt h2 k hk2) (fun q => h3 k q hk2)), fun k q q2 => ?_⟩, hk.rel h.rel (fun k q => h.new k (.inl q)), fun k q => ?_⟩, fun k q => ?_, ⟨hk.os, hk.tape, hk.output, hk.size, hnS⟩⟩
  · rcases hg k q with q | q
    · exact h3 k q q2
    · exact Nat.not_lt_of_le q (K2.lt h2 k q2)
  · rcases q with q | q
    · rcases hg k q with q | q
      · exact h.new k (.inl q)
      · exact Nat.le_trans h.rel.size q
    · exact h.new k (.inr q)
  · rcases q with q | q
    · rcases hg k q with q | q
      · exact .inl (.inl q)
      · exact .inr q
    · exact .inl (.inr q)
theorem Duo2.swap (h : Duo2 P1 P2 w0 w T) : Duo2 P2 P1 w0 w T := by
  obtain ⟨S, S2, rfl, h1, h2, h3⟩ := h.ex
  exact ⟨⟨S2, S, funext fun k => propext Or.comm, h2, h1, fun k a b => h3 k b a⟩, h.rel, h.new⟩
/-- A call on the first of them. -/
theorem two_fst {F : Nat} {args : Array Value} {E : Ending} (h : Duo2 P1 P2 w0 w T) (K2 : Keepy P2) (hc : ∀ S, P1 w S → Calls Try.prog F args w fun e w' => e = E ∧ ∃ S', P1' w' S' ∧ St S S' w w') :
    Calls Try.prog F args w fun e w' => ∃ T', e = E ∧ Hid (Duo2 P1' P2 w0 w' T') ∧ Hid (St T T' w w') := by
  obtain ⟨S, S2, hT, h1, h2, h3⟩ := h.ex
  refine (hc S h1).mono ?_
  rintro e w' ⟨he, S', hp, hs⟩
  obtain ⟨a, b⟩ := h.fst_st K2 hT h2 h3 hp hs
  exact ⟨_, he, Lib.hid a, Lib.hid b⟩
/-- .. on the second. -/
theorem two_snd {F : Nat} {args : Array Value} {E : Ending} (h : Duo2 P1 P2 w0 w T) (K1 : Keepy P1) (hc : ∀ S, P2 w S → Calls Try.prog F args w fun e w' => e = E ∧ ∃ S', P2' w' S' ∧ St S S' w w') :
    Calls Try.prog F args w fun e w' => ∃ T', e = E ∧ Hid (Duo2 P1 P2' w0 w' T') ∧ Hid (St T T' w w') := by
  refine (two_fst h.swap K1 hc).mono ?_
  rintro e w' ⟨T', he, a, b⟩
  exact ⟨T', he, Lib.hid a.out.swap, b⟩
theorem Bx.two (h : Duo2 P1 P2 w0 w T) (K1 : Keepy P1) (K2 : Keepy P2) (t : TypeId) (cs : Array Value) : Bx T (w.alloc (.cells cs t)) w.heap.size t cs :=
  ⟨Bk.new _ _ _, fun e => Nat.lt_irrefl _ (h.lt K1 K2 _ e)⟩
/-- One thing, and another one that is newer than all of it. -/
theorem two_new {S S2 : Nat → Prop} (K1 : Keepy P1) (hr : Rel w0 w) (h1 : P1 w S) (n1 : ∀ k, S k → w0.heap.size ≤ k) (hr2 : Rel w w') (h2 : P2 w' S2) (n2 : ∀ k, S2 k → w.heap.size ≤ k) : Duo2 P1 P2 w0 w' (fun k => S k ∨ S2 k) :=
  ⟨⟨S, S2, rfl, K1.keep h1 hr2.size (fun k hk => hr2.2.block k (K1.lt h1 k hk)), h2, fun k q q2 => Nat.not_le_of_lt (K1.lt h1 k q) (n2 k q2)⟩, hr.trans hr2, fun k q => q.elim (n1 k) (fun q => Nat.le_trans hr.size (n2 k q))⟩
end
end Go.Proofs.Ytndmnlgancnbkaa

namespace Go.Proofs.Ytndmnlgancnbkaa
open Go.RowKit Go.Lib
set_option linter.unusedVariables false
set_option linter.unusedSimpArgs false
def TwoQ (QP : QpT) (v v2 : Value) (m : Int) (L L2 : List It) (D2 : List Int) (w0 w : World) (T : Nat → Prop) : Prop :=
  Duo2 (fun w S => QP w v S 100 10 L []) (fun w S => QP w v2 S m 10 L2 D2) w0 w T
section
variable {QP : QpT} (H : QueueOk QP) {w0 w w' : World} {v v2 : Value} {T : Nat → Prop} {m : Int} {L L2 L' : List It} {D2 D' : List Int}
theorem TwoQ.rel (h : TwoQ QP v v2 m L L2 D2 w0 w T) : Rel w0 w := Duo2.rel h
include H
theorem keepyQ (v : Value) (m g : Int) (L : List It) (D : List Int) : Keepy (fun w S => QP w v S m g L D) := ⟨fun h => H.lt h, fun h => H.keep h⟩
theorem TwoQ.to (h : TwoQ QP v v2 m L L2 D2 w0 w T) (hr : Rel w w') : TwoQ QP v v2 m L L2 D2 w0 w' T := Duo2.to h (keepyQ H ..) (keepyQ H ..) hr
theorem TwoQ.put (h : TwoQ QP v v2 m L L2 D2 w0 w T) {p : Addr} (hp : ¬ T p.block) (hn : w0.heap.size ≤ p.block) (u : Value) : TwoQ QP v v2 m L L2 D2 w0 (w.setCell p u) T := Duo2.put h (keepyQ H ..) (keepyQ H ..) hp hn u
theorem TwoQ.box (h : TwoQ QP v v2 m L L2 D2 w0 w T) (t : TypeId) (cs : Array Value) : Bx T (w.alloc (.cells cs t)) w.heap.size t cs := Bx.two h (keepyQ H ..) (keepyQ H ..) t cs
theorem two_wantA (h : TwoQ QP v v2 m L L2 D2 w0 w T) {k : Int} (hk : i64 k) (hE : wantE 100 10 L k 1 5 = 0) (hL : wantL 100 10 L k 1 5 = L') (hD : wantD 100 10 L [] k 1 5 = []) :
    Calls Try.prog 12 #[v, .int .i64 k, .int .i64 1, .int .i64 5] w fun e w' => ∃ T', e = .returned (.int .i64 0) ∧ Hid (TwoQ QP v v2 m L' L2 D2 w0 w' T') ∧ Hid (St T T' w w') := by
  refine two_fst h (keepyQ H ..) fun S hp => ?_
  refine (H.want k 1 5 h.rel.self hp hk ⟨by omega, by omega⟩ ⟨by omega, by omega⟩).mono ?_
  rw [hE, hL, hD]
  rintro e w' ⟨he, S', h1, h2⟩
  exact ⟨he, S', h1, h2⟩
theorem two_wantB (h : TwoQ QP v v2 m L L2 D2 w0 w T) {k E : Int} (hk : i64 k) (hE : wantE m 10 L2 k 1 5 = E) (hL : wantL m 10 L2 k 1 5 = L') (hD : wantD m 10 L2 D2 k 1 5 = D') :
    Calls Try.prog 12 #[v2, .int .i64 k, .int .i64 1, .int .i64 5] w fun e w' => ∃ T', e = .returned (.int .i64 E) ∧ Hid (TwoQ QP v v2 m L L' D' w0 w' T') ∧ Hid (St T T' w w') := by
  refine two_snd h (keepyQ H ..) fun S hp => ?_
  refine (H.want k 1 5 h.rel.self hp hk ⟨by omega, by omega⟩ ⟨by omega, by omega⟩).mono ?_
  rw [hE, hL, hD]
  rintro e w' ⟨he, S', h1, h2⟩
  exact ⟨he, S', h1, h2⟩
theorem two_nextA (h : TwoQ QP v v2 m L L2 D2 w0 w T) {x : Int} {b : Bool} (hx : (itH (topH L)).1 = x) (hb : (topH L).isSome = b) (hL : popH L = L') :
    Calls Try.prog 14 #[v, .int .i64 6] w fun e w' => ∃ T', e = .returned (.tuple #[.int .i64 x, .bool b]) ∧ Hid (TwoQ QP v v2 m L' L2 D2 w0 w' T') ∧ Hid (St T T' w w') := by
  refine two_fst h (keepyQ H ..) fun S hp => ?_
  refine (H.next 6 h.rel.self hp ⟨by omega, by omega⟩).mono ?_
  rw [hx, hb, show nextQ 100 6 L [] = (popH L, []) from rfl, hL]
  rintro e w' ⟨he, S', h1, h2⟩
  exact ⟨he, S', h1, h2⟩
theorem two_nextB (h : TwoQ QP v v2 m L L2 D2 w0 w T) {x : Int} {b : Bool} (hx : (itH (topH L2)).1 = x) (hb : (topH L2).isSome = b) (hL : (nextQ m 6 L2 D2).1 = L') (hD : (nextQ m 6 L2 D2).2 = D') :
    Calls Try.prog 14 #[v2, .int .i64 6] w fun e w' => ∃ T', e = .returned (.tuple #[.int .i64 x, .bool b]) ∧ Hid (TwoQ QP v v2 m L L' D' w0 w' T') ∧ Hid (St T T' w w') := by
  refine two_snd h (keepyQ H ..) fun S hp => ?_
  refine (H.next 6 h.rel.self hp ⟨by omega, by omega⟩).mono ?_
  rw [hx, hb, hL, hD]
  rintro e w' ⟨he, S', h1, h2⟩
  exact ⟨he, S', h1, h2⟩
theorem two_dirtyA (h : TwoQ QP v v2 m L L2 D2 w0 w T) :
    Calls Try.prog 21 #[v] w fun e w' => ∃ (A : Option Addr) (c : Nat), e = .returned (.slice A 0 c) ∧ Hid (TwoQ QP v v2 m L L2 D2 w0 w' T) ∧ Hid (Rel w w') := by
  obtain ⟨S, S2, hT, h1, h2, h3⟩ := Duo2.ex h
  refine (H.dirty h.rel.self h1).mono ?_
  rintro e w' ⟨A, c, he, _, _, hr⟩
  exact ⟨A, c, he, Lib.hid (TwoQ.to H h hr), Lib.hid hr⟩
theorem two_waitA (h : TwoQ QP v v2 m L L2 D2 w0 w T) {n : Nat} (hn : L.length = n) :
    Calls Try.prog 19 #[v] w fun e w' => ∃ (A : Option Addr) (c : Nat), e = .returned (.slice A n c) ∧ Hid (TwoQ QP v v2 m L L2 D2 w0 w' T) ∧ Hid (Rel w w') := by
  rw [← hn]
  obtain ⟨S, S2, hT, h1, h2, h3⟩ := Duo2.ex h
  refine (H.waiting h.rel.self h1).mono ?_
  rintro e w' ⟨A, c, he, _, _, hr⟩
  exact ⟨A, c, he, Lib.hid (TwoQ.to H h hr), Lib.hid hr⟩
theorem two_dirtyB (h : TwoQ QP v v2 m L L2 D2 w0 w T) {n : Nat} (hn : D2.length = n) :
    Calls Try.prog 21 #[v2] w fun e w' => ∃ (A : Option Addr) (c : Nat), e = .returned (.slice A n c) ∧ Hid (TwoQ QP v v2 m L L2 D2 w0 w' T) ∧ Hid (Rel w w') := by
  rw [← hn]
  obtain ⟨S, S2, hT, h1, h2, h3⟩ := Duo2.ex h
  refine (H.dirty h.rel.self h2).mono ?_
  rintro e w' ⟨A, c, he, _, _, hr⟩
  exact ⟨A, c, he, Lib.hid (TwoQ.to H h hr), Lib.hid hr⟩
theorem two_waitB (h : TwoQ QP v v2 m L L2 D2 w0 w T) {n : Nat} (hn : L2.length = n) :
    Calls Try.prog 19 #[v2] w fun e w' => ∃ (A : Option Addr) (c : Nat), e = .returned (.slice A n c) ∧ Hid (TwoQ QP v v2 m L L2 D2 w0 w' T) ∧ Hid (Rel w w') := by
  rw [← hn]
  obtain ⟨S, S2, hT, h1, h2, h3⟩ := Duo2.ex h
  refine (H.waiting h.rel.self h2).mono ?_
  rintro e w' ⟨A, c, he, _, _, hr⟩
  exact ⟨A, c, he, Lib.hid (TwoQ.to H h hr), Lib.hid hr⟩
/-- TwoQ new ones. -/
theorem twoq_new (w : World) (hr : Rel w0 w) {S : Nat → Prop} (h1 : QP w v S 100 10 [] []) (n1 : ∀ k, S k → w0.heap.size ≤ k) {room : Int} (a1 : 1 ≤ room) (a2 : room ≤ 1000) :
    Calls Try.prog 10 #[.int .i64 room, .int .i64 10] w fun e w' => ∃ (p : Nat) (T : Nat → Prop), e = .returned (.pointer (some ⟨p, 0, none⟩)) ∧ Hid (TwoQ QP v (.pointer (some ⟨p, 0, none⟩)) room [] [] [] w0 w' T) ∧ Hid (Rel w w') := by
  refine (H.new room 10 w hr.self ⟨by omega, by omega⟩ ⟨by omega, by omega⟩).mono ?_
  rintro e w' ⟨hr2, ⟨_, _, g, S2, he, hh, hn⟩ | ⟨hn, _⟩⟩
  · exact ⟨g, _, he, Lib.hid (two_new (keepyQ H ..) hr h1 n1 hr2 hh hn), Lib.hid hr2⟩
  · exact absurd ⟨⟨a1, a2⟩, by omega, by omega⟩ hn
end
/-- A row of marks. -/
def cellsB (f : List Bool) : Array Value := (f.map Value.bool).toArray
theorem cellsB_at {f : List Bool} {k : Nat} {b : Bool} (h : f[k]? = some b) : (cellsB f)[k]? = some (.bool b) := by
  unfold cellsB
  rw [List.getElem?_toArray, List.getElem?_map, h]; rfl
theorem cellsB_set (f : List Bool) (k : Nat) (b : Bool) : (cellsB f).setIfInBounds k (.bool b) = cellsB (f.set k b) := by
  unfold cellsB
  rw [List.setIfInBounds_toArray, List.map_set]
theorem Bx.mark {T : Nat → Prop} {w : World} {g : Nat} {t : TypeId} {f : List Bool} (h : Bx T w g t (cellsB f)) (k : Nat) (b : Bool) : Bx T (w.setCell ⟨g, k, none⟩ (.bool b)) g t (cellsB (f.set k b)) :=
  ⟨by rw [← cellsB_set]; exact h.1.set_ k (.bool b), h.2⟩
theorem Bx.marked {T : Nat → Prop} {w : World} {g : Nat} {t : TypeId} {f : List Bool} (h : Bx T w g t (cellsB f)) {k : Nat} {b : Bool} (hb : f[k]? = some b) : w.cell? ⟨g, k, none⟩ = some (.bool b) ∧ w.frozen? ⟨g, k, none⟩ = false :=
  ⟨by rw [h.1.cell]; exact cellsB_at hb, h.1.frozen k⟩
theorem Bx.far {T : Nat → Prop} {w : World} {g : Nat} {t : TypeId} {cs : Array Value} (h : Bx T w g t cs) {p : Addr} (hp : g ≠ p.block) (u : Value) : Bx T (w.setCell p u) g t cs := ⟨h.1.far hp u, h.2⟩
end Go.Proofs.Ytndmnlgancnbkaa

namespace Go.Proofs.Ytndmnlgancnbkaa
open Go.Lib
set_option linter.unusedVariables false
set_option linter.unusedSimpArgs false
/-- How many are in a queue. -/
def cardQ (L : List It) (D : List Int) : Nat := L.length + D.length
theorem remD_len {D : List Int} (h : Ups D) {s : Int} : (remD D s).length + (if s ∈ D then 1 else 0) = D.length := by
  induction D with
  | nil => rfl
  | cons x t ih =>
    obtain ⟨h1, h2⟩ := ups_cons.1 h
    have i2 := ih h2
    unfold remD at i2 ⊢
    by_cases e : x = s
    · subst e
      have hn : x ∉ t := fun hm => by have := h1 x hm; omega
      rw [List.filter_cons_of_neg (by simp), if_pos (List.mem_cons_self ..)]
      rw [if_neg hn] at i2
      rw [List.length_cons]; omega
    · rw [List.filter_cons_of_pos (by simpa using e), List.length_cons, List.length_cons]
      by_cases hm : s ∈ t
      · rw [if_pos (List.mem_cons_of_mem _ hm)]
        rw [if_pos hm] at i2
        omega
      · rw [if_neg (fun q => (List.mem_cons.1 q).elim (fun q => e q.symm) hm)]
        rw [if_neg hm] at i2
        omega
theorem insD_len {D : List Int} (h : Ups D) {s : Int} : (insD D s).length = if s ∈ D then D.length else D.length + 1 := by
  induction D with
  | nil => rfl
  | cons x t ih =>
    obtain ⟨h1, h2⟩ := ups_cons.1 h
    have i2 := ih h2
    unfold insD
    by_cases e1 : s < x
    · rw [if_pos e1, if_neg]
      · rfl
      · intro hm
        rcases List.mem_cons.1 hm with q | q
        · omega
        · have := h1 s q; omega
    · rw [if_neg e1]
      by_cases e2 : s = x
      · rw [if_pos e2, if_pos (by rw [e2]; exact List.mem_cons_self ..)]
      · rw [if_neg e2, List.length_cons, i2]
        by_cases hm : s ∈ t
        · rw [if_pos hm, if_pos (List.mem_cons_of_mem _ hm)]; rfl
        · rw [if_neg hm, if_neg (fun q => (List.mem_cons.1 q).elim e2 hm)]; rfl
theorem card_want {m g s p t : Int} {L : List It} {D : List Int} (h : QInv m g L D) (hv : wantV g s p t = true) [Decidable (inQ L D s)] : cardQ (wantL m g L s p t) (wantD m g L D s p t) = if inQ L D s then cardQ L D else cardQ L D + 1 := by
  unfold cardQ
  by_cases hh : hasH L s = true
  · obtain ⟨_, e2, e3⟩ := want_up (m := m) (D := D) hv hh
    rw [e2, e3, chg_len, if_pos (show inQ L D s from Or.inl hh)]
  · have hh' : hasH L s = false := by simpa using hh
    by_cases hr : (L.length : Int) < m
    · obtain ⟨_, e2, e3⟩ := want_in (D := D) hv hh' hr
      rw [e2, e3, ins_len]
      have := remD_len h.ups (s := s)
      by_cases hm : s ∈ D
      · rw [if_pos (show inQ L D s from Or.inr hm)]
        rw [if_pos hm] at this
        omega
      · rw [if_neg (show ¬ inQ L D s from fun q => q.elim hh hm)]
        rw [if_neg hm] at this
        omega
    · obtain ⟨_, e2, e3⟩ := want_out (D := D) hv hh' hr
      rw [e2, e3, insD_len h.ups]
      by_cases hm : s ∈ D
      · rw [if_pos hm, if_pos (show inQ L D s from Or.inr hm)]
      · rw [if_neg hm, if_neg (show ¬ inQ L D s from fun q => q.elim hh hm)]; omega
theorem card_fill {m u : Int} {L : List It} {D : List Int} : cardQ (fillQ m u L D).1 (fillQ m u L D).2 = cardQ L D := by
  induction D generalizing L with
  | nil => rfl
  | cons d D ih =>
    unfold fillQ
    split
    · rw [ih]; unfold cardQ; rw [ins_len, List.length_cons]; omega
    · rfl
/-- Who is dirty is so for want of room. -/
def FullQ (m : Int) (L : List It) (D : List Int) : Prop := D = [] ∨ m ≤ (L.length : Int)
theorem full_fill {m u : Int} {L : List It} {D : List Int} : FullQ m (fillQ m u L D).1 (fillQ m u L D).2 := by
  induction D generalizing L with
  | nil => exact .inl rfl
  | cons d D ih =>
    unfold fillQ
    split
    · exact ih
    · rename_i h; exact .inr (by show m ≤ (L.length : Int); omega)
theorem full_want {m g s p t : Int} {L : List It} {D : List Int} (hv : wantV g s p t = true) (h : FullQ m L D) : FullQ m (wantL m g L s p t) (wantD m g L D s p t) := by
  by_cases hh : hasH L s = true
  · obtain ⟨_, e2, e3⟩ := want_up (m := m) (D := D) hv hh
    rw [e2, e3]
    exact h.imp id (fun q => by rw [chg_len]; exact q)
  · have hh' : hasH L s = false := by simpa using hh
    by_cases hr : (L.length : Int) < m
    · obtain ⟨_, e2, e3⟩ := want_in (D := D) hv hh' hr
      rw [e2, e3]
      rcases h with rfl | q
      · exact .inl rfl
      · omega
    · obtain ⟨_, e2, e3⟩ := want_out (D := D) hv hh' hr
      rw [e2, e3]
      exact .inr (by omega)
theorem full_top {m : Int} {L : List It} {D : List Int} (hm : 1 ≤ m) (h : FullQ m L D) (hc : 0 < cardQ L D) : ∃ x ∈ L, topH L = some x := by
  rcases pop_cases L with ⟨_, e, _⟩ | ⟨x, hx, e, _⟩
  · subst e
    rcases h with rfl | q
    · exact absurd hc (by simp [cardQ])
    · have q : m ≤ 0 := q
      omega
  · exact ⟨x, hx, e⟩
theorem card_next {m t : Int} {L : List It} {D : List Int} {x : It} (hs : Srt L) (hx : x ∈ L) (ht : topH L = some x) : cardQ (nextQ m t L D).1 (nextQ m t L D).2 + 1 = cardQ L D := by
  unfold nextQ
  rw [card_fill]
  unfold cardQ
  have := pop_len hs ht
  omega
/-- All of one weight: the least key first. -/
def Flat (u : Int) (L : List It) : Prop := ∀ z ∈ L, z.2 = u
theorem flat_top {u : Int} {x : It} {t : List It} (hs : Srt (x :: t)) (hf : Flat u (x :: t)) : topH (x :: t) = some x ∧ popH (x :: t) = t := by
  have ht : topH (x :: t) = some x := top_is hs (List.mem_cons_self ..) fun y hy => by
    rcases List.mem_cons.1 hy with rfl | hm
    · exact .inl rfl
    · right
      have h1 := hf x (List.mem_cons_self ..)
      have h2 := hf y hy
      have h3 := (srt_cons.1 hs).1 y hm
      exact .inr ⟨by omega, h3⟩
  refine ⟨ht, ?_⟩
  unfold popH
  rw [ht]
  refine srt_ext (rem_srt hs _) (srt_cons.1 hs).2 fun z => ?_
  rw [rem_mem, List.mem_cons]
  constructor
  · rintro ⟨rfl | hm, hk⟩
    · exact absurd rfl hk
    · exact hm
  · intro hm
    refine ⟨.inr hm, fun e => ?_⟩
    have := (srt_cons.1 hs).1 z hm
    omega
theorem flat_want {m g s p t u : Int} {L : List It} {D : List Int} (hi : QInv m g L D) (hv : wantV g s p t = true) (hu : wgt g p t = u) (hf : Flat u L) : Flat u (wantL m g L s p t) := by
  by_cases hh : hasH L s = true
  · obtain ⟨_, e2, _⟩ := want_up (m := m) (D := D) hv hh
    obtain ⟨y, hy, hm⟩ := prio_mem hh
    have hyu : y = u := hf _ hm
    rw [e2, hy, hu, hyu]
    intro z hz
    rcases (chg_mem hi.srt).1 hz with ⟨rfl, _⟩ | ⟨hz, _⟩
    · show max u u = u; omega
    · exact hf z hz
  · have hh' : hasH L s = false := by simpa using hh
    by_cases hr : (L.length : Int) < m
    · obtain ⟨_, e2, _⟩ := want_in (D := D) hv hh' hr
      rw [e2, hu]
      intro z hz
      rcases ins_mem.1 hz with rfl | hz
      · rfl
      · exact hf z hz
    · obtain ⟨_, e2, _⟩ := want_out (D := D) hv hh' hr
      rw [e2]; exact hf
end Go.Proofs.Ytndmnlgancnbkaa

namespace Go.Proofs.Ytndmnlgancnbkaa
open Go.Lib
set_option linter.unusedVariables false
set_option linter.unusedSimpArgs false
theorem mark_set {f : List Bool} {k : Nat} (hk : k < f.length) {i : Nat} : (f.set k true)[i]? = some true ↔ i = k ∨ f[i]? = some true := by
  rw [List.getElem?_set]
  by_cases e : k = i
  · subst e
    rw [if_pos rfl, if_pos hk]
    exact ⟨fun _ => .inl rfl, fun _ => rfl⟩
  · rw [if_neg e]
    exact ⟨.inr, fun h => h.elim (fun h => absurd h.symm e) id⟩
theorem mark_at {f : List Bool} {k : Nat} (hk : k < f.length) : f[k]? = some true ∨ f[k]? = some false := by
  rw [List.getElem?_eq_getElem hk]
  cases f[k] <;> simp
theorem room_wv {k : Int} (h : 0 ≤ k) (h' : k < 30) : wantV 10 k 1 5 = true := wantV_iff.2 ⟨by omega, ⟨h, by omega⟩, ⟨by omega, by omega⟩, by omega, by omega⟩
theorem in_bare (M : List It) (z : Int) : inQ M [] z ↔ hasH M z = true := ⟨fun h => h.elim id (fun h => absurd h List.not_mem_nil), .inl⟩
/-- n are wanted, those that f marks: by one with room for all, and by one with room for m. -/
structure RoomA (m : Int) (n : Nat) (f : List Bool) (L L2 : List It) (D2 : List Int) : Prop where
  ia : QInv 100 10 L []
  ib : QInv m 10 L2 D2
  flat : Flat 5 L
  full : FullQ m L2 D2
  la : L.length = n
  lb : cardQ L2 D2 = n
  len : f.length = 30
  ha : ∀ z, hasH L z = true ↔ 0 ≤ z ∧ f[z.toNat]? = some true
  hb : ∀ z, inQ L2 D2 z ↔ 0 ≤ z ∧ f[z.toNat]? = some true
/-- None is marked. -/
def noMarks : List Bool := List.replicate 30 false
theorem mark_rep (i : Nat) : ¬ noMarks[i]? = some true := by
  unfold noMarks
  rw [List.getElem?_replicate]
  split
  · intro h; injection h with h; cases h
  · intro h; cases h
theorem room_nil {m : Int} (h : 0 ≤ m) (h' : m ≤ 1000) : RoomA m 0 noMarks [] [] [] :=
  ⟨QInv.nil (by omega) (by omega) (by omega), QInv.nil h h' (by omega), (fun z hz => absurd hz List.not_mem_nil), .inl rfl, rfl, rfl, rfl, (fun z => ⟨(fun h => nomatch (h : false = true)), (fun h => absurd h.2 (mark_rep _))⟩), (fun z => ⟨(fun h => h.elim (fun h => nomatch (h : false = true)) (fun h => absurd h List.not_mem_nil)), (fun h => absurd h.2 (mark_rep _))⟩)⟩
theorem room_step {m : Int} {n k : Nat} {f : List Bool} {L L2 : List It} {D2 : List Int} (h : RoomA m n f L L2 D2) (hk : k < 30) (hn : n ≤ 30) :
    wantE 100 10 L (k : Int) 1 5 = 0 ∧ wantD 100 10 L [] (k : Int) 1 5 = [] ∧
    (f[k]? = some true → RoomA m n f (wantL 100 10 L k 1 5) (wantL m 10 L2 k 1 5) (wantD m 10 L2 D2 k 1 5)) ∧
    (f[k]? = some false → RoomA m (n + 1) (f.set k true) (wantL 100 10 L k 1 5) (wantL m 10 L2 k 1 5) (wantD m 10 L2 D2 k 1 5)) := by
  classical
  have hv := room_wv (k := (k : Int)) (by omega) (by omega)
  have hal : ((L.length : Nat) : Int) < 100 := by rw [h.la]; omega
  have ia' := h.ia.want (k : Int) 1 5
  have ib' := h.ib.want (k : Int) 1 5
  have hE : wantE 100 10 L (k : Int) 1 5 = 0 := by
    unfold wantE
    rw [if_pos hv, if_pos hal]
    split <;> rfl
  have hD : wantD 100 10 L [] (k : Int) 1 5 = [] := by
    unfold wantD
    rw [if_pos hv, if_pos hal]
    split <;> rfl
  rw [hD] at ia'
  have hfl := flat_want (D := []) h.ia hv (u := 5) (by decide) h.flat
  have hfu := full_want hv h.full
  have ca := card_want (m := 100) h.ia hv
  have cb := card_want h.ib hv
  have na := in_want (m := 100) (D := []) (L := L) hv
  have nb := in_want (m := m) (L := L2) (D := D2) hv
  rw [hD] at ca na
  have c0 : ∀ M : List It, cardQ M [] = M.length := fun _ => rfl
  rw [c0, c0] at ca
  refine ⟨hE, hD, fun hf => ?_, fun hf => ?_⟩
  · have q1 : hasH L k = true := (h.ha k).2 ⟨by omega, by rw [Int.toNat_natCast]; exact hf⟩
    have q2 : inQ L2 D2 k := (h.hb k).2 ⟨by omega, by rw [Int.toNat_natCast]; exact hf⟩
    rw [if_pos ((in_bare _ _).2 q1)] at ca
    rw [if_pos q2] at cb
    refine ⟨ia', ib', hfl, hfu, by rw [ca, h.la], by rw [cb, h.lb], h.len, fun z => ?_, fun z => ?_⟩
    · rw [← in_bare, na, in_bare, h.ha]
      exact ⟨fun q => q.elim id (fun e => by subst e; exact ⟨by omega, by rw [Int.toNat_natCast]; exact hf⟩), .inl⟩
    · rw [nb, h.hb]
      exact ⟨fun q => q.elim id (fun e => by subst e; exact ⟨by omega, by rw [Int.toNat_natCast]; exact hf⟩), .inl⟩
  · have nf : ¬ f[k]? = some true := by rw [hf]; simp
    have q1 : ¬ hasH L k = true := fun q => nf (by have := ((h.ha k).1 q).2; rwa [Int.toNat_natCast] at this)
    have q2 : ¬ inQ L2 D2 k := fun q => nf (by have := ((h.hb k).1 q).2; rwa [Int.toNat_natCast] at this)
    rw [if_neg (fun q => q1 ((in_bare _ _).1 q))] at ca
    rw [if_neg q2] at cb
    have hz : ∀ z : Int, ((0 ≤ z ∧ f[z.toNat]? = some true) ∨ z = (k : Int)) ↔ 0 ≤ z ∧ (f.set k true)[z.toNat]? = some true := fun z => by
      rw [mark_set (by rw [h.len]; exact hk)]
      constructor
      · rintro (⟨a, b⟩ | rfl)
        · exact ⟨a, .inr b⟩
        · exact ⟨by omega, .inl (Int.toNat_natCast _)⟩
      · rintro ⟨a, b | b⟩
        · exact .inr (by omega)
        · exact .inl ⟨a, b⟩
    refine ⟨ia', ib', hfl, hfu, by rw [ca, h.la], by rw [cb, h.lb], by rw [List.length_set]; exact h.len, fun z => ?_, fun z => ?_⟩
    · rw [← in_bare, na, in_bare, h.ha]; exact hz z
    · rw [nb, h.hb]; exact hz z
/-- i of n are told: the last one told by the first, and what the second told. -/
structure RoomB (m : Int) (n i : Nat) (last : Int) (f g : List Bool) (L L2 : List It) (D2 : List Int) : Prop where
  ia : QInv 100 10 L []
  ib : QInv m 10 L2 D2
  flat : Flat 5 L
  full : FullQ m L2 D2
  la : L.length + i = n
  lb : cardQ L2 D2 + i = n
  fl : f.length = 30
  gl : g.length = 30
  ge : -1 ≤ last
  ha : ∀ z ∈ L, last < z.1 ∧ z.1 < 30 ∧ f[z.1.toNat]? = some true
  hb : ∀ z, inQ L2 D2 z → 0 ≤ z ∧ z < 30 ∧ f[z.toNat]? = some true ∧ g[z.toNat]? = some false
theorem mark_lt {f : List Bool} {z : Nat} {b : Bool} (h : f[z]? = some b) : z < f.length := by
  rcases Nat.lt_or_ge z f.length with q | q
  · exact q
  · rw [List.getElem?_eq_none q] at h; cases h
theorem RoomA.told {m : Int} {n : Nat} {f : List Bool} {L L2 : List It} {D2 : List Int} (h : RoomA m n f L L2 D2) : RoomB m n 0 (-1) f noMarks L L2 D2 := by
  refine ⟨h.ia, h.ib, h.flat, h.full, by rw [h.la]; rfl, by rw [h.lb]; rfl, h.len, rfl, by omega, fun z hz => ?_, fun z hz => ?_⟩
  · obtain ⟨a, b⟩ := (h.ha z.1).1 (has_iff.2 ⟨z, hz, rfl⟩)
    have := mark_lt b
    rw [h.len] at this
    exact ⟨by omega, by omega, b⟩
  · obtain ⟨a, b⟩ := (h.hb z).1 hz
    have := mark_lt b
    rw [h.len] at this
    refine ⟨a, by omega, b, ?_⟩
    unfold noMarks
    rw [List.getElem?_replicate, if_pos this]
theorem room_next {m : Int} {n i : Nat} {last : Int} {f g : List Bool} {L L2 : List It} {D2 : List Int} (h : RoomB m n i last f g L L2 D2) (hi : i < n) (hm : 1 ≤ m) :
    ∃ x y : Nat, x < 30 ∧ y < 30 ∧ (topH L).isSome = true ∧ ((topH L).getD (0, 0)).1 = (x : Int) ∧ (topH L2).isSome = true ∧ ((topH L2).getD (0, 0)).1 = (y : Int) ∧ last < (x : Int) ∧ f[x]? = some true ∧ f[y]? = some true ∧ g[y]? = some false ∧
      RoomB m n (i + 1) (x : Int) f (g.set y true) (popH L) (nextQ m 6 L2 D2).1 (nextQ m 6 L2 D2).2 := by
  have la := h.la
  have lb := h.lb
  have hge := h.ge
  cases hL : L with
  | nil => rw [hL] at la; simp at la; omega
  | cons x t =>
    obtain ⟨y, hy, hty⟩ := full_top hm h.full (by omega)
    have hx := h.ha x (by rw [hL]; exact List.mem_cons_self ..)
    have hyb := h.hb y.1 (.inl (has_iff.2 ⟨y, hy, rfl⟩))
    have hs := h.ia.srt
    have hf := h.flat
    rw [hL] at hs hf
    obtain ⟨tx, px⟩ := flat_top hs hf
    obtain ⟨xn, hxn⟩ : ∃ xn : Nat, x.1 = (xn : Int) := ⟨x.1.toNat, by omega⟩
    obtain ⟨yn, hyn⟩ : ∃ yn : Nat, y.1 = (yn : Int) := ⟨y.1.toNat, by omega⟩
    have ix := h.ia.pop
    rw [hL, px] at ix
    refine ⟨xn, yn, by omega, by omega, by rw [tx]; rfl, by rw [tx]; exact hxn, by rw [hty]; rfl, by rw [hty]; exact hyn, by omega, by have := hx.2.2; rw [hxn, Int.toNat_natCast] at this; exact this, by have := hyb.2.2.1; rw [hyn, Int.toNat_natCast] at this; exact this, by have := hyb.2.2.2; rw [hyn, Int.toNat_natCast] at this; exact this, ?_⟩
    refine ⟨by rw [px]; exact ix, h.ib.next 6, by rw [px]; exact fun z hz => hf z (List.mem_cons_of_mem _ hz), full_fill, ?_, ?_, h.fl, by rw [List.length_set]; exact h.gl, by omega, fun z hz => ?_, fun z hz => ?_⟩
    · rw [px]; rw [hL, List.length_cons] at la; omega
    · have := card_next (m := m) (t := 6) (D := D2) h.ib.srt hy hty; omega
    · rw [px] at hz
      have h1 := (srt_cons.1 hs).1 z hz
      have h2 := h.ha z (by rw [hL]; exact List.mem_cons_of_mem _ hz)
      exact ⟨by omega, h2.2.1, h2.2.2⟩
    · obtain ⟨h1, h2⟩ := (in_next h.ib z).1 hz
      obtain ⟨a, b, c, d⟩ := h.hb z h1
      refine ⟨a, b, c, ?_⟩
      have hne : z ≠ y.1 := h2 y hty
      rw [List.getElem?_set, if_neg (by omega)]
      exact d
theorem room_end {m : Int} {n : Nat} {last : Int} {f g : List Bool} {L L2 : List It} {D2 : List Int} (h : RoomB m n n last f g L L2 D2) : L = [] ∧ L2 = [] ∧ D2 = [] := by
  have la := h.la
  have lb := h.lb
  unfold cardQ at lb
  exact ⟨List.eq_nil_of_length_eq_zero (by omega), List.eq_nil_of_length_eq_zero (by omega), List.eq_nil_of_length_eq_zero (by omega)⟩
end Go.Proofs.Ytndmnlgancnbkaa
