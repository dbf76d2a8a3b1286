/- The document's own queue of layer 17 in memory: its heap, its age, who is dirty; mark upon it; The document's own answers of layer 17: Want, Drop. -/
import Derived.Test.YtndmnlgancnbkaaZL
import Derived.Test.YtndmnlgancnbkaaZ00
import Derived.Test.YtndmnlgancnbkaaZ01
import Derived.Test.YtndmnlgancnbkaaZ02
import Derived.Test.YtndmnlgancnbkaaZ03
import Derived.Test.YtndmnlgancnbkaaZ04
import Derived.Test.YtndmnlgancnbkaaZ05
import Derived.Test.YtndmnlgancnbkaaZ11
import Derived.Test.YtndmnlgancnbkaaZ14
import Derived.Test.YtndmnlgancnbkaaZ15
import Derived.Test.YtndmnlgancnbkaaZ16
import Derived.Test.YtndmnlgancnbkaaZ18
namespace Go.Proofs.Ytndmnlgancnbkaa
open Go.RowKit Go.Lib
set_option linter.unusedVariables false
set_option linter.unusedSimpArgs false
theorem ups_len {D : List Int} (h : Ups D) {lo hi : Int} (hb : ∀ d ∈ D, lo ≤ d ∧ d ≤ hi) (h0 : lo ≤ hi + 1) : (D.length : Int) ≤ hi - lo + 1 := by
  induction D generalizing lo with
  | nil => simp; omega
  | cons x t ih =>
    obtain ⟨h1, h2⟩ := ups_cons.1 h
    have hx := hb x (List.mem_cons_self ..)
    have := ih h2 (lo := x + 1) (fun d hd => ⟨by have := h1 d hd; omega, (hb d (List.mem_cons_of_mem _ hd)).2⟩) (by omega)
    rw [List.length_cons]
    omega
abbrev rsQ (g : Int) (A : Option Addr) (n c : Nat) : List Value := [.int .i64 g, .slice A n c]
/-- The document's own queue: its block p; u the row of its items, A the row of who is dirty. -/
structure Rq (w : World) (p : Nat) (u : Value) (m g : Int) (L : List It) (A : Option Addr) (c : Nat) (D : List Int) : Prop where
  hp : Rb 34 (rsQ g A D.length c) w p u m L
  nu : Nu (SoR p u) w A c D
  ups : Ups D
  low : ∀ d ∈ D, 0 ≤ d ∧ d ≤ 999
def SqR (p : Nat) (u : Value) (A : Option Addr) : Nat → Prop := fun k => SoR p u k ∨ ∃ a : Addr, A = some a ∧ a.block = k
section
variable {w w' : World} {p c c2 : Nat} {u u' : Value} {m g : Int} {L L' : List It} {A A2 : Option Addr} {D D' : List Int}
theorem Rq.dlen (h : Rq w p u m g L A c D) : D.length ≤ 1000 := by
  have := ups_len h.ups (lo := 0) (hi := 999) h.low (by omega); omega
theorem Rq.cell (h : Rq w p u m g L A c D) {wr : World} (hr : Rel w wr) : wr.cell? ⟨p, 2, none⟩ = some (.int .i64 g) ∧ wr.cell? ⟨p, 3, none⟩ = some (.slice A D.length c) :=
  ⟨(h.hp.box.rel hr).cell 2, (h.hp.box.rel hr).cell 3⟩
theorem Rq.rel (h : Rq w p u m g L A c D) (hr : Rel w w') : Rq w' p u m g L A c D := ⟨h.hp.rel hr, h.nu.rel hr, h.ups, h.low⟩
theorem Rq.lt (h : Rq w p u m g L A c D) : ∀ k, SqR p u A k → k < w.heap.size := by
  rintro k (q | ⟨a, ha, rfl⟩)
  · exact h.hp.lt k q
  · exact (h.nu.2 a ha).2
theorem Rq.keep (h : Rq w p u m g L A c D) (hz : w.heap.size ≤ w'.heap.size) (hb : ∀ k, SqR p u A k → w'.heap[k]? = w.heap[k]?) : Rq w' p u m g L A c D := by
  refine ⟨h.hp.keep fun k hk => hb k (.inl hk), ⟨⟨h.nu.1.1, h.nu.1.2.1, h.nu.1.2.2.1, fun i hi => ?_⟩, fun a ha => ⟨(h.nu.2 a ha).1, Nat.lt_of_lt_of_le (h.nu.2 a ha).2 hz⟩⟩, h.ups, h.low⟩
  obtain ⟨a, ha, hl, hc⟩ := h.nu.1.2.2.2 i hi
  refine ⟨a, ha, Nat.lt_of_lt_of_le hl hz, ?_⟩
  rw [World.cell?_of_block (w := w) (by rw [block_add]; exact hb _ (.inr ⟨a, ha, rfl⟩))]
  exact hc
/-- Behind a call on its heap. -/
theorem Rq.heap (h : Rq w p u m g L A c D) (hp : Rb 34 (rsQ g A D.length c) w' p u' m L') (hs : St (SoR p u) (SoR p u') w w') : Rq w' p u' m g L' A c D ∧ St (SqR p u A) (SqR p u' A) w w' := by
  have hn := h.nu.st hs
  refine ⟨⟨hp, hn, h.ups, h.low⟩, fun k hk => ?_, ⟨hs.2.os, hs.2.tape, hs.2.output, hs.2.size, fun k hk hn => hs.2.block k hk (fun q => hn (.inl q))⟩⟩
  rcases hk with q | q
  · exact (hs.1 k q).imp .inl id
  · exact .inl (.inr q)
theorem Rq.marked (h : Rq w p u m g L A c D) (hr : Rel w w') (hu : Ups D') (hl : ∀ d ∈ D', 0 ≤ d ∧ d ≤ 999) (ho : RowOwn 3 clI17 1 w' w.heap.size (.slice A2 D'.length c2) D') :
    Rq (w'.setCell ⟨p, 3, none⟩ (.slice A2 D'.length c2)) p u m g L A2 c2 D' ∧ St (SqR p u A) (SqR p u A2) w (w'.setCell ⟨p, 3, none⟩ (.slice A2 D'.length c2)) := by
  have hb := h.hp.rel hr
  obtain ⟨n1, n2⟩ := nums_of ho (fun z hz => by have := hl z hz; exact ⟨by omega, by omega⟩)
  have hlt := h.hp.lt
  have hn : Nu (SoR p u) w' A2 c2 D' := ⟨n1, fun a ha => ⟨fun q => Nat.not_le_of_lt (hlt _ q) (n2 a ha).1, (n2 a ha).2⟩⟩
  refine ⟨⟨⟨hb.box.set_ 3 _, own_set hb.row.row (p := ⟨p, 3, none⟩) hb.g_ne _, hb.tne, hb.srt, hb.fit, hb.cap⟩, hn.set (fun a ha e => (hn.2 a ha).1 (.inl e)) _, hu, hl⟩, fun k hk => ?_, (Ke.of_rel hr).on17 (Ke.set17 (p := ⟨p, 3, none⟩) (.inl (.inl rfl)) _)⟩
  rcases hk with q | ⟨a, ha, rfl⟩
  · exact .inl (.inl q)
  · exact .inr (n2 a ha).1
theorem rqmark (h : Rq w p u m g L A c D) (s : Int) (b : Bool) (hr : Rel w w) (hs : b = true → 0 ≤ s ∧ s ≤ 999) :
    Calls Try.prog 33 #[.pointer (some ⟨p, 0, none⟩), .int .i64 s, .bool b] w fun e w' => e = .returned (.bool (decide (s ∈ D))) ∧ ∃ A2 c2, Rq w' p u m g L A2 c2 (markD D s b) ∧ St (SqR p u A) (SqR p u A2) w w' := by
  refine (rmark_any s b w hr h.hp.box rfl h.nu.1 h.ups h.dlen).mono ?_
  rintro e w' ⟨A2, c2, w1, he, r1, ho, rfl⟩
  have hM : Ups (markD D s b) ∧ ∀ d ∈ markD D s b, 0 ≤ d ∧ d ≤ 999 := by
    unfold markD
    split
    · rename_i hb
      exact ⟨insD_ups h.ups s, fun d hd => (insD_mem.1 hd).elim (fun e => by rw [e]; exact hs hb) (h.low d)⟩
    · exact ⟨remD_ups h.ups s, fun d hd => h.low d (remD_mem.1 hd).1⟩
  exact ⟨he, A2, c2, h.marked r1 hM.1 hM.2 ho⟩
end
theorem RHp.un {t : TypeId} {rs : List Value} {w : World} {p : Nat} {S : Nat → Prop} {m : Int} {L : List It} (h : RHp t rs w (.pointer (some ⟨p, 0, none⟩)) S m L) : ∃ u, S = SoR p u ∧ Rb t rs w p u m L := by
  obtain ⟨g, u, e, rfl, hb⟩ := h
  injection e with e
  injection e with e
  injection e with e _ _
  subst e
  exact ⟨u, rfl, hb⟩
end Go.Proofs.Ytndmnlgancnbkaa

namespace Go.Proofs.Ytndmnlgancnbkaa
open Go.RowKit Go.Lib
set_option linter.unusedVariables false
set_option linter.unusedSimpArgs false
theorem St.on17 {S S' S'' : Nat → Prop} {w w' w'' : World} (h : St S S' w w') (h' : St S' S'' w' w'') : St S S'' w w'' := ⟨h.1.trans h.2.size h'.1, h.2.trans h.1 h'.2⟩
theorem St.self17 {S S' : Nat → Prop} {w w' : World} (h : St S S' w w') (hr : Rel w w) : Rel w' w' := ⟨hr.1, Below.refl _ _⟩
/-- The document's own queue, as a thing of its own. -/
def RqP (w : World) (v : Value) (S : Nat → Prop) (m g : Int) (L : List It) (D : List Int) : Prop :=
  ∃ (p : Nat) (u : Value) (A : Option Addr) (c : Nat), v = .pointer (some ⟨p, 0, none⟩) ∧ S = SqR p u A ∧ Rq w p u m g L A c D ∧ QInv m g L D
theorem RqP.lt {w : World} {v : Value} {S : Nat → Prop} {m g : Int} {L : List It} {D : List Int} (h : RqP w v S m g L D) : ∀ k, S k → k < w.heap.size := by
  obtain ⟨p, u, A, c, _, rfl, h, _⟩ := h
  exact h.lt
theorem RqP.keep {w w' : World} {v : Value} {S : Nat → Prop} {m g : Int} {L : List It} {D : List Int} (h : RqP w v S m g L D) (hz : w.heap.size ≤ w'.heap.size) (hb : ∀ k, S k → w'.heap[k]? = w.heap[k]?) : RqP w' v S m g L D := by
  obtain ⟨p, u, A, c, h1, rfl, h, hi⟩ := h
  exact ⟨p, u, A, c, h1, rfl, h.keep hz hb, hi⟩
set_option maxRecDepth 100000 in
set_option maxHeartbeats 8000000 in
theorem rdrop17 {w : World} {v : Value} {S : Nat → Prop} {m g : Int} {L : List It} {D : List Int} (s : Int) (hr : Rel w w) (h : RqP w v S m g L D) :
    Calls Try.prog 17 #[v, .int .i64 s] w fun e w' => e = .returned (.bool (dropB L D s)) ∧ ∃ S', RqP w' v S' m g (remH L s) (remD D s) ∧ St S S' w w' := by
  obtain ⟨p, u, A, c, rfl, rfl, hq, hi⟩ := h
  have HQ := Lib.hid hq
  have HR := Lib.hid hr
  have HI := Lib.hid (hi.drop s)
  obtain ⟨b1, hb1⟩ : ∃ b, hasH L s = b := ⟨_, rfl⟩
  obtain ⟨b2, hb2⟩ : ∃ b, decide (s ∈ D) = b := ⟨_, rfl⟩
  have HB := Lib.hid (show dropB L D s = (b1 || b2) by unfold dropB; rw [hb1, hb2])
  have K1 := Lib.hid (show Calls Try.prog 39 #[.pointer (some ⟨p, 0, none⟩), .int .i64 s] w fun e w' => ∃ u', e = .returned (.bool b1) ∧ Hid (Rq w' p u' m g (remH L s) A c D) ∧ Hid (St (SqR p u A) (SqR p u' A) w w') from by
    rw [← hb1]
    refine (rremove16 s hr ⟨p, u, rfl, rfl, hq.hp⟩).mono ?_
    rintro e w' ⟨he, S', h1, h2⟩
    obtain ⟨u', rfl, h3⟩ := h1.un
    obtain ⟨a, b⟩ := hq.heap h3 h2
    exact ⟨u', he, Lib.hid a, Lib.hid b⟩)
  have K2 := Lib.hid (fun (w1 : World) (u' : Value) (hr : Rel w1 w1) (h : Rq w1 p u' m g (remH L s) A c D) => show Calls Try.prog 33 #[.pointer (some ⟨p, 0, none⟩), .int .i64 s, .bool false] w1 fun e w' => ∃ A2 c2, e = .returned (.bool b2) ∧ Hid (Rq w' p u' m g (remH L s) A2 c2 (remD D s)) ∧ Hid (St (SqR p u' A) (SqR p u' A2) w1 w') from by
    rw [← hb2]
    refine (rqmark h s false hr (fun h => by cases h)).mono ?_
    rintro e w' ⟨he, A2, c2, a, b⟩
    exact ⟨A2, c2, he, Lib.hid a, Lib.hid b⟩)
  rw [HB.out]
  clear hq hr hi hb1 hb2
  go_enter Try.func17, Try.ntmps17
  go_upto_region 2 with (go_at_call 39; (with_reducible refine K1.out.mono ?_); rintro e w1 ⟨u1, rfl, q1, s1⟩)
  go_upto_region 3 with (go_at_call 33; (with_reducible refine (K2.out _ _ (s1.out.self17 HR.out) q1.out).mono ?_); rintro e w2 ⟨A2, c2, rfl, q2, s2⟩)
  cases b1
  all_goals
    go_wp2_with (fail)
    go_ret
    exact ⟨by first | rfl | simp, _, ⟨p, u1, A2, c2, rfl, rfl, q2.out, HI.out⟩, s1.out.on17 s2.out⟩
set_option maxRecDepth 100000 in
set_option maxHeartbeats 8000000 in
theorem rwant_bad {w : World} {v : Value} {S : Nat → Prop} {m g : Int} {L : List It} {D : List Int} (s p t : Int) (hr : Rel w w) (h : RqP w v S m g L D) (hv : wantV g s p t = false) :
    Calls Try.prog 13 #[v, .int .i64 s, .int .i64 p, .int .i64 t] w fun e w' => e = .returned (.int .i64 1) ∧ w = w' := by
  obtain ⟨q, u, A, c, rfl, rfl, hq, _⟩ := h
  have hw : g < 1 ∨ (¬ g < 1 ∧ s < 0) ∨ (¬ g < 1 ∧ ¬ s < 0 ∧ 999 < s) ∨ (¬ g < 1 ∧ ¬ s < 0 ∧ ¬ 999 < s ∧ p < 0) ∨ (¬ g < 1 ∧ ¬ s < 0 ∧ ¬ 999 < s ∧ ¬ p < 0 ∧ 1000 < p) ∨ (¬ g < 1 ∧ ¬ s < 0 ∧ ¬ 999 < s ∧ ¬ p < 0 ∧ ¬ 1000 < p ∧ t < 0) ∨ (¬ g < 1 ∧ ¬ s < 0 ∧ ¬ 999 < s ∧ ¬ p < 0 ∧ ¬ 1000 < p ∧ ¬ t < 0 ∧ 1099511627776 < t) := by
    have : ¬ wantV g s p t = true := by rw [hv]; simp
    rw [wantV_iff] at this
    omega
  have k0 := (hq.cell hr).1
  clear hv hq hr
  go_enter Try.func13, Try.ntmps13
  rcases hw with h1 | ⟨h1, h2⟩ | ⟨h1, h2, h3⟩ | ⟨h1, h2, h3, h4⟩ | ⟨h1, h2, h3, h4, h5⟩ | ⟨h1, h2, h3, h4, h5, h6⟩ | ⟨h1, h2, h3, h4, h5, h6, h7⟩
  all_goals
    go_wp2_with (fail)
    go_ret
    exact ⟨rfl, rfl⟩
end Go.Proofs.Ytndmnlgancnbkaa
