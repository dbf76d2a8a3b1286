/- Layer 16: the landed heap and the document's own, side by side (HeapTells). -/
import Derived.Test.YtminmcledbfchaaZL
import Derived.Test.YtminmcledbfchaaZ00
import Derived.Test.YtminmcledbfchaaZ01
import Derived.Test.YtminmcledbfchaaZ06
import Derived.Test.YtminmcledbfchaaZ11
import Derived.Test.YtminmcledbfchaaZ13
import Derived.Test.YtminmcledbfchaaZ14
namespace Go.Proofs.Ytminmcledbfchaa
open Go.RowKit Go.Lib
set_option linter.unusedVariables false
set_option linter.unusedSimpArgs false
abbrev Tr := Int × Int × Int
def TripsAt (w : World) (A : Option Addr) (zs : List Tr) : Prop :=
  ∀ i (h : i < zs.length), ∃ (a : Addr), A = some a ∧ a.block < w.heap.size ∧ w.cell? (a.add (i * 3)) = some (.int .i64 zs[i].1) ∧ w.cell? (a.add (i * 3 + 1)) = some (.int .i64 zs[i].2.1) ∧ w.cell? (a.add (i * 3 + 2)) = some (.int .i64 zs[i].2.2)
theorem TripsAt.rel {w w' : World} {A : Option Addr} {zs : List Tr} (h : TripsAt w A zs) (hr : Rel w w') : TripsAt w' A zs := by
  intro i hi
  obtain ⟨a, e, hl, h0, h1, h2⟩ := h i hi
  have hk : ∀ j, w'.cell? (a.add j) = w.cell? (a.add j) := fun j => hr.2.cell (p := a.add j) (by rw [block_add]; exact hl)
  exact ⟨a, e, by have := hr.size; omega, by rw [hk]; exact h0, by rw [hk]; exact h1, by rw [hk]; exact h2⟩
def TripsIn (w : World) (A : Option Addr) (n : Nat) (zs : List Tr) : Prop := zs.length = n ∧ n ≤ 9223372036854775807 ∧ (∀ z ∈ zs, i64 z.1 ∧ i64 z.2.1 ∧ i64 z.2.2) ∧ TripsAt w A zs
theorem TripsIn.rel {w w' : World} {A : Option Addr} {n : Nat} {zs : List Tr} (h : TripsIn w A n zs) (hr : Rel w w') : TripsIn w' A n zs := ⟨h.1, h.2.1, h.2.2.1, h.2.2.2.rel hr⟩
theorem add13 (a : Addr) (n k : Nat) : a.add (n + (k + 1)) = ⟨(a.add n).block, (a.add n).off + (k + 1), none⟩ := by
  unfold Addr.add
  by_cases h : n = 0
  · subst h; simp
  · simp [h]; omega
theorem trips_at {w : World} {A : Option Addr} {n : Nat} {zs : List Tr} (h : TripsIn w A n zs) (j : Nat) (hj : j < zs.length) :
    ∃ (a : Addr) (x y z : Int), A = some a ∧ w.cell? (a.add (j * 3)) = some (.int .i64 x) ∧ w.cell? ⟨(a.add (j * 3)).block, (a.add (j * 3)).off + 1, none⟩ = some (.int .i64 y) ∧ w.cell? ⟨(a.add (j * 3)).block, (a.add (j * 3)).off + 2, none⟩ = some (.int .i64 z) ∧ i64 x ∧ i64 y ∧ i64 z := by
  obtain ⟨_, _, hb, hp⟩ := h
  obtain ⟨a, e, hl0, c0, c1, c2⟩ := hp j hj
  have := hb zs[j] (List.getElem_mem hj)
  rw [show j * 3 + 1 = j * 3 + (0 + 1) from rfl, add13] at c1
  rw [show j * 3 + 2 = j * 3 + (1 + 1) from rfl, add13] at c2
  exact ⟨a, zs[j].1, zs[j].2.1, zs[j].2.2, e, c0, c1, c2, this.1, this.2.1, this.2.2⟩
/-- v: the landed heap, of items L; gr: the document's own, of items M; T: their blocks. -/
structure Duo (HP : HpT) (w0 w : World) (v : Value) (gr : Nat) (m : Int) (L M : List It) (T : Nat → Prop) : Prop where
  ex : ∃ S S2 : Nat → Prop, T = (fun k => S k ∨ S2 k) ∧ HP w v S m L ∧ RHp w (.pointer (some ⟨gr, 0, none⟩)) S2 m M ∧ ∀ k, S k → ¬ S2 k
  rel : Rel w0 w
  new : ∀ k, T k → w0.heap.size ≤ k
section
variable {HP : HpT} (H : HeapOk HP) {w0 w w' : World} {v : Value} {gr : Nat} {m : Int} {L L' M M' : List It} {T T' : Nat → Prop}
include H
theorem Duo.lt (h : Duo HP w0 w v gr m L M T) : ∀ k, T k → k < w.heap.size := by
  obtain ⟨S, S2, rfl, h1, h2, _⟩ := h.ex
  rintro k (q | q)
  · exact H.lt h1 k q
  · exact h2.lt k q
theorem Duo.to (h : Duo HP w0 w v gr m L M T) (hr : Rel w w') : Duo HP w0 w' v gr m L M T := by
  obtain ⟨S, S2, hT, h1, h2, h3⟩ := h.ex
  exact ⟨⟨S, S2, hT, H.keep h1 hr.size (fun k hk => hr.2.block k (H.lt h1 k hk)), h2.rel hr, h3⟩, h.rel.trans hr, h.new⟩
theorem duo_land {F : Nat} {args : Array Value} {E : Ending} (h : Duo HP w0 w v gr m L M T) (hc : ∀ S, HP w v S m L → Calls Try.prog F args w fun e w' => e = E ∧ ∃ S', HP w' v S' m L' ∧ St S S' w w') :
    Calls Try.prog F args w fun e w' => ∃ T', e = E ∧ Hid (Duo HP w0 w' v gr m L' M T') ∧ Hid (St T T' w w') := by
  have hlt := h.lt H
  obtain ⟨S, S2, rfl, h1, h2, h3⟩ := h.ex
  refine (hc S h1).mono ?_
  rintro e w' ⟨he, S', hp, hg, hk⟩
  have hnS : ∀ k, k < w.heap.size → ¬ (S k ∨ S2 k) → w'.heap[k]? = w.heap[k]? := fun k hk1 hn => hk.block k hk1 (fun q => hn (.inl q))
  refine ⟨fun k => S' k ∨ S2 k, he, Lib.hid ⟨⟨S', S2, rfl, hp, h2.keep fun k hk2 => hk.block k (h2.lt k hk2) (fun q => h3 k q hk2), fun k q q2 => ?_⟩, hk.rel h.rel (fun k q => h.new k (.inl q)), fun k q => ?_⟩, Lib.hid ⟨fun k q => ?_, ⟨hk.os, hk.tape, hk.output, hk.size, hnS⟩⟩⟩
  · rcases hg k q with q | q
    · exact h3 k q q2
    · exact Nat.not_lt_of_le q (h2.lt k q2)
  · rcases q with q | q
    · rcases hg k q with q | q
      · exact h.new k (.inl q)
      · exact Nat.le_trans h.rel.size q
    · exact h.new k (.inr q)
  · rcases q with q | q
    · rcases hg k q with q | q
      · exact .inl (.inl q)
      · exact .inr q
    · exact .inl (.inr q)
theorem duo_ref {F : Nat} {args : Array Value} {E : Ending} (h : Duo HP w0 w v gr m L M T) (hc : ∀ S, RHp w (.pointer (some ⟨gr, 0, none⟩)) S m M → Calls Try.prog F args w fun e w' => e = E ∧ ∃ S', RHp w' (.pointer (some ⟨gr, 0, none⟩)) S' m M' ∧ St S S' w w') :
    Calls Try.prog F args w fun e w' => ∃ T', e = E ∧ Hid (Duo HP w0 w' v gr m L M' T') ∧ Hid (St T T' w w') := by
  obtain ⟨S, S2, rfl, h1, h2, h3⟩ := h.ex
  refine (hc S2 h2).mono ?_
  rintro e w' ⟨he, S', hp, hg, hk⟩
  have hnS : ∀ k, k < w.heap.size → ¬ (S k ∨ S2 k) → w'.heap[k]? = w.heap[k]? := fun k hk1 hn => hk.block k hk1 (fun q => hn (.inr q))
  refine ⟨fun k => S k ∨ S' k, he, Lib.hid ⟨⟨S, S', rfl, H.keep h1 hk.size (fun k hk2 => hk.block k (H.lt h1 k hk2) (fun q => h3 k hk2 q)), hp, fun k q q2 => ?_⟩, hk.rel h.rel (fun k q => h.new k (.inr q)), fun k q => ?_⟩, Lib.hid ⟨fun k q => ?_, ⟨hk.os, hk.tape, hk.output, hk.size, hnS⟩⟩⟩
  · rcases hg k q2 with q2 | q2
    · exact h3 k q q2
    · exact Nat.not_lt_of_le q2 (H.lt h1 k q)
  · rcases q with q | q
    · exact h.new k (.inl q)
    · rcases hg k q with q | q
      · exact h.new k (.inr q)
      · exact Nat.le_trans h.rel.size q
  · rcases q with q | q
    · exact .inl (.inl q)
    · rcases hg k q with q | q
      · exact .inl (.inr q)
      · exact .inr q
theorem dpush (h : Duo HP w0 w v gr m L M T) {k p E : Int} (hk : i64 k) (hp : i64 p) (hE : pushE m L k = E) (hL : pushL m L k p = L') :
    Calls Try.prog 13 #[v, .int .i64 k, .int .i64 p] w fun e w' => ∃ T', e = .returned (.int .i64 E) ∧ Hid (Duo HP w0 w' v gr m L' M T') ∧ Hid (St T T' w w') := by
  rw [← hE, ← hL]; exact duo_land H h fun S hs => H.push k p h.rel.self hs hk hp
theorem dpushR (h : Duo HP w0 w v gr m L M T) {k p E : Int} (hk : i64 k) (hp : i64 p) (hE : pushE m M k = E) (hM : pushL m M k p = M') :
    Calls Try.prog 14 #[.pointer (some ⟨gr, 0, none⟩), .int .i64 k, .int .i64 p] w fun e w' => ∃ T', e = .returned (.int .i64 E) ∧ Hid (Duo HP w0 w' v gr m L M' T') ∧ Hid (St T T' w w') := by
  rw [← hE, ← hM]
  have hm : m ≤ 1000 := by obtain ⟨S, S2, _, h1, _⟩ := h.ex; exact (H.len h1).2
  exact duo_ref H h fun S hs => rpush16 k p h.rel.self hs hm hk hp
theorem dpop (h : Duo HP w0 w v gr m L M T) {x y : Int} {b : Bool} (ht : itH (topH L) = (x, y)) (hb : (topH L).isSome = b) (hL : popH L = L') :
    Calls Try.prog 15 #[v] w fun e w' => ∃ T', e = .returned (.tuple #[.agg #[.int .i64 x, .int .i64 y], .bool b]) ∧ Hid (Duo HP w0 w' v gr m L' M T') ∧ Hid (St T T' w w') := by
  rw [← hb, ← hL]
  refine duo_land H h fun S hs => ?_
  have := H.pop h.rel.self hs
  rw [ht] at this
  exact this
theorem dpopR (h : Duo HP w0 w v gr m L M T) {x y : Int} {b : Bool} (ht : itH (topH M) = (x, y)) (hb : (topH M).isSome = b) (hM : popH M = M') :
    Calls Try.prog 16 #[.pointer (some ⟨gr, 0, none⟩)] w fun e w' => ∃ T', e = .returned (.tuple #[.agg #[.int .i64 x, .int .i64 y], .bool b]) ∧ Hid (Duo HP w0 w' v gr m L M' T') ∧ Hid (St T T' w w') := by
  rw [← hb, ← hM]
  refine duo_ref H h fun S hs => ?_
  have := rpop16 h.rel.self hs
  rw [ht] at this
  exact this
theorem dchg (h : Duo HP w0 w v gr m L M T) {k p : Int} {b : Bool} (hk : i64 k) (hp : i64 p) (hb : hasH L k = b) (hL : chgH L k p = L') :
    Calls Try.prog 17 #[v, .int .i64 k, .int .i64 p] w fun e w' => ∃ T', e = .returned (.bool b) ∧ Hid (Duo HP w0 w' v gr m L' M T') ∧ Hid (St T T' w w') := by
  rw [← hb, ← hL]; exact duo_land H h fun S hs => H.change k p h.rel.self hs hk hp
theorem dchgR (h : Duo HP w0 w v gr m L M T) {k p : Int} {b : Bool} (hk : i64 k) (hp : i64 p) (hb : hasH M k = b) (hM : chgH M k p = M') :
    Calls Try.prog 18 #[.pointer (some ⟨gr, 0, none⟩), .int .i64 k, .int .i64 p] w fun e w' => ∃ T', e = .returned (.bool b) ∧ Hid (Duo HP w0 w' v gr m L M' T') ∧ Hid (St T T' w w') := by
  rw [← hb, ← hM]; exact duo_ref H h fun S hs => rchange16 k p h.rel.self hs hk hp
theorem drem (h : Duo HP w0 w v gr m L M T) {k : Int} {b : Bool} (hk : i64 k) (hb : hasH L k = b) (hL : remH L k = L') :
    Calls Try.prog 19 #[v, .int .i64 k] w fun e w' => ∃ T', e = .returned (.bool b) ∧ Hid (Duo HP w0 w' v gr m L' M T') ∧ Hid (St T T' w w') := by
  rw [← hb, ← hL]; exact duo_land H h fun S hs => H.remove k h.rel.self hs hk
theorem dremR (h : Duo HP w0 w v gr m L M T) {k : Int} {b : Bool} (hb : hasH M k = b) (hM : remH M k = M') :
    Calls Try.prog 20 #[.pointer (some ⟨gr, 0, none⟩), .int .i64 k] w fun e w' => ∃ T', e = .returned (.bool b) ∧ Hid (Duo HP w0 w' v gr m L M' T') ∧ Hid (St T T' w w') := by
  rw [← hb, ← hM]; exact duo_ref H h fun S hs => rremove16 k h.rel.self hs
theorem dprio (h : Duo HP w0 w v gr m L M T) {k n : Int} {b : Bool} (hk : i64 k) (hn : (prioH L k).getD 0 = n) (hb : hasH L k = b) :
    Calls Try.prog 21 #[v, .int .i64 k] w fun e w' => e = .returned (.tuple #[.int .i64 n, .bool b]) ∧ Hid (Rel w w') := by
  obtain ⟨S, S2, _, h1, h2, _⟩ := h.ex
  rw [← hn, ← hb]
  exact (H.prio k h.rel.self h1 hk).mono fun e w' q => ⟨q.1, Lib.hid q.2⟩
omit H in
theorem dprioR (h : Duo HP w0 w v gr m L M T) {k n : Int} {b : Bool} (hn : (prioH M k).getD 0 = n) (hb : hasH M k = b) :
    Calls Try.prog 22 #[.pointer (some ⟨gr, 0, none⟩), .int .i64 k] w fun e w' => e = .returned (.tuple #[.int .i64 n, .bool b]) ∧ Hid (Rel w w') := by
  obtain ⟨S, S2, _, h1, h2, _⟩ := h.ex
  rw [← hn, ← hb]
  exact (rprio16 k h.rel.self h2).mono fun e w' q => ⟨q.1, Lib.hid q.2⟩
theorem dtop (h : Duo HP w0 w v gr m L M T) {x y : Int} {b : Bool} (ht : itH (topH L) = (x, y)) (hb : (topH L).isSome = b) :
    Calls Try.prog 23 #[v] w fun e w' => e = .returned (.tuple #[.agg #[.int .i64 x, .int .i64 y], .bool b]) ∧ Hid (Rel w w') := by
  obtain ⟨S, S2, _, h1, h2, _⟩ := h.ex
  rw [← hb]
  have := H.top h.rel.self h1
  rw [ht] at this
  exact this.mono fun e w' q => ⟨q.1, Lib.hid q.2⟩
omit H in
theorem dtopR (h : Duo HP w0 w v gr m L M T) {x y : Int} {b : Bool} (ht : itH (topH M) = (x, y)) (hb : (topH M).isSome = b) :
    Calls Try.prog 24 #[.pointer (some ⟨gr, 0, none⟩)] w fun e w' => e = .returned (.tuple #[.agg #[.int .i64 x, .int .i64 y], .bool b]) ∧ Hid (Rel w w') := by
  obtain ⟨S, S2, _, h1, h2, _⟩ := h.ex
  rw [← hb]
  have := rtop16 h.rel.self h2
  rw [ht] at this
  exact this.mono fun e w' q => ⟨q.1, Lib.hid q.2⟩
theorem dlen (h : Duo HP w0 w v gr m L M T) {n : Nat} (hn : L.length = n) :
    Calls Try.prog 25 #[v] w fun e w' => e = .returned (.int .i64 (n : Int)) ∧ Hid (Rel w w') := by
  obtain ⟨S, S2, _, h1, h2, _⟩ := h.ex
  rw [← hn]
  exact (H.count h.rel.self h1).mono fun e w' q => ⟨q.1, Lib.hid q.2⟩
theorem dall (h : Duo HP w0 w v gr m L M T) {n : Nat} (hn : L.length = n) :
    Calls Try.prog 27 #[v] w fun e w' => ∃ (A : Option Addr) (c : Nat), e = .returned (.slice A n c) ∧ Hid (RowAt clH 2 w' A L ∧ n ≤ c ∧ c ≤ maxLen) ∧ Hid (Rel w w') := by
  obtain ⟨S, S2, _, h1, h2, _⟩ := h.ex
  rw [← hn]
  refine (H.all h.rel.self h1).mono ?_
  rintro e w' ⟨A, c, he, q1, _, q3, q4, q5⟩
  exact ⟨A, c, he, Lib.hid ⟨q1, q3, q4⟩, Lib.hid q5⟩
omit H in
/-- The document's own heap in its box. -/
theorem Duo.box (h : Duo HP w0 w v gr m L M T) {n : Nat} (hn : M.length = n) : ∃ A c, Bk w gr 30 #[.slice A n c, .int .i64 m] ∧ RowAt clH 2 w A M ∧ n ≤ c ∧ c ≤ maxLen := by
  obtain ⟨S, S2, _, h1, ⟨g, u, e, _, hb⟩, _⟩ := h.ex
  injection e with e
  injection e with e
  injection e with e
  subst e
  obtain ⟨A, c, rfl, ha⟩ := hb.at
  rw [← hn]
  exact ⟨A, c, hb.box, ha.2.2.1, ha.2.2.2⟩
theorem Bx.duo (h : Duo HP w0 w v gr m L M T) (t : TypeId) (cs : Array Value) : Bx T (w.alloc (.cells cs t)) w.heap.size t cs :=
  ⟨Bk.new _ _ _, fun e => Nat.lt_irrefl _ (h.lt H _ e)⟩
theorem Duo.put (h : Duo HP w0 w v gr m L M T) {p : Addr} (hp : ¬ T p.block) (hn : w0.heap.size ≤ p.block) (u : Value) : Duo HP w0 (w.setCell p u) v gr m L M T := by
  obtain ⟨S, S2, rfl, h1, h2, h3⟩ := h.ex
  exact ⟨⟨S, S2, rfl, H.keep h1 (by simp) (fun k hk => Below.heap_setCell w p u k (fun e => hp (by rw [← e]; exact .inl hk))), h2.keep (fun k hk => Below.heap_setCell w p u k (fun e => hp (by rw [← e]; exact .inr hk))), h3⟩, h.rel.setCell hn u, h.new⟩
end
theorem Bx.put {S : Nat → Prop} {w : World} {g : Nat} {t : TypeId} {x y : Value} (h : Bx S w g t #[x, y]) (a b : Value) : Bx S ((w.setCell ⟨g, 0, none⟩ a).setCell ⟨g, 1, none⟩ b) g t #[a, b] := ⟨h.1.put a b, h.2⟩
theorem Bx.put1 {S : Nat → Prop} {w : World} {g : Nat} {t : TypeId} {x y : Value} (h : Bx S w g t #[x, y]) (b : Value) : Bx S (w.setCell ⟨g, 1, none⟩ b) g t #[x, b] := ⟨h.1.set_ 1 b, h.2⟩
theorem Bx.far {S : Nat → Prop} {w : World} {g : Nat} {t : TypeId} {cs : Array Value} (h : Bx S w g t cs) {p : Addr} (hp : g ≠ p.block) (u : Value) : Bx S (w.setCell p u) g t cs := ⟨h.1.far hp u, h.2⟩
/-- Both begun. -/
theorem duo_new {HP : HpT} (H : HeapOk HP) {w0 w1 : World} {v : Value} {S : Nat → Prop} {m : Int} (hr : Rel w0 w1) (h : HP w1 v S m []) (hS : ∀ k, S k → w0.heap.size ≤ k) :
    Duo HP w0 (w1.alloc (.cells #[.slice none 0 0, .int .i64 m] 30)) v w1.heap.size m [] [] (fun k => S k ∨ SoR w1.heap.size (.slice none 0 0) k) := by
  have ha := hr.self.alloc (.cells #[.slice none 0 0, .int .i64 m] 30)
  refine ⟨⟨S, SoR w1.heap.size (.slice none 0 0), rfl, H.keep h ha.size (fun k hk => ha.2.block k (H.lt h k hk)), ⟨w1.heap.size, .slice none 0 0, rfl, rfl, Bk.new _ _ _, RowOwn.nil _ _ _, srt_nil, (fun z hz => by cases hz), by simp⟩, fun k q => ?_⟩, hr.trans ha, fun k q => ?_⟩
  · rintro (e | e)
    · have := H.lt h k q; omega
    · cases e
  · rcases q with q | q | q
    · exact hS k q
    · rw [q]; exact hr.size
    · cases q
end Go.Proofs.Ytminmcledbfchaa
