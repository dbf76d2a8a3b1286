/- Layer 16, the landed code: an item taken; What is asked of the program in layer 16 (HeapOk): a heap is its items, and blocks of its own; Layer 16, the landed code: what a heap is in memory; how many, the most urgent, how urgent one is; Layer 16, the landed code: New; how urgent one is; Change, Remove, Pop. -/
import Derived.Test.YtminmcledbfchaaZL
import Derived.Test.YtminmcledbfchaaZ00
import Derived.Test.YtminmcledbfchaaZ01
import Derived.Test.YtminmcledbfchaaZ03
import Derived.Test.YtminmcledbfchaaZ04
import Derived.Test.YtminmcledbfchaaZ05
namespace Go.Proofs.Ytminmcledbfchaa
open Go.RowKit Go.Lib
set_option linter.unusedVariables false
set_option linter.unusedSimpArgs false
theorem flat_take (l : List It) (k : Nat) : (l.take k).flatMap clH = (l.flatMap clH).take (k * 2) := by
  induction l generalizing k with
  | nil => simp
  | cons x t ih =>
    cases k with
    | zero => simp
    | succ k =>
      rw [List.take_succ_cons, List.flatMap_cons, List.flatMap_cons, ih, show (k + 1) * 2 = 2 + k * 2 by omega]
      exact (List.take_length_add_append (l₁ := clH x) (k * 2)).symm
theorem row_cut {w : World} {q n c k : Nat} {l : List It} (h : RowOwn 36 clH 2 w 0 (.slice (some ⟨q, 0, none⟩) n c) l) (hn : l.length = n) (hk : k ≤ n) :
    RowOwn 36 clH 2 w 0 (.slice (some ⟨q, 0, none⟩) k c) (l.take k) := by
  have hr := h.row
  have hlen : (l.take k).length = k := by rw [List.length_take]; omega
  unfold RowOwn
  rw [hlen, flat_take]
  rcases hr.2 with ⟨e, _⟩ | ⟨q', c', cur, e, _, hh, hx, hc, hs, ht⟩
  · injection e with e; cases e
  · injection e with e e2 e3
    injection e with e
    injection e with e
    subst e; subst e3
    refine ⟨by rw [List.length_take, hr.1]; omega, .inr ⟨q, c, cur, rfl, Nat.zero_le _, hh, by omega, hc, hs, ?_⟩⟩
    rw [← ht, List.take_take, hn, Nat.min_eq_left (by omega)]
theorem set_shorter {w : World} {g b q n c k : Nat} {m : Int} {l : List It} {f : Int → Option Int} {z : Nat} (h : Hm w g b m (.slice (some ⟨q, 0, none⟩) n c) l f z) (hn : l.length = n) (hk : k ≤ n) :
    Hm (w.setCell ⟨g, 1, none⟩ (.slice (some ⟨q, 0, none⟩) k c)) g b m (.slice (some ⟨q, 0, none⟩) k c) (l.take k) f z ∧ Ke (SoF g b (.slice (some ⟨q, 0, none⟩) n c)) w (w.setCell ⟨g, 1, none⟩ (.slice (some ⟨q, 0, none⟩) k c)) :=
  ⟨⟨h.box.set_ 1 _, own_set (row_cut h.row hn hk).row (p := ⟨g, 1, none⟩) h.g_ne _, h.pl.set (p := ⟨g, 1, none⟩) (h.pl.ne h.box) _⟩, Ke.set (p := ⟨g, 1, none⟩) (.inl rfl) _⟩
theorem SoF_eq {g b : Nat} {v v' : Value} (h : v'.ownBlock = v.ownBlock) : SoF g b v' = SoF g b v := by unfold SoF; rw [h]
set_option maxRecDepth 100000 in
set_option maxHeartbeats 4000000 in
theorem ltake16_any {w : World} {g b : Nat} {m : Int} {v : Value} {l L : List It} (h : Hb w g b m v l) (hr : Rel w w) (ho : Rowed l L) (hh : OrdH l) {i : Nat} (hi : i < l.length) :
    Calls Try.prog 33 #[.pointer (some ⟨g, 0, none⟩), .int .i64 (i : Int)] w fun e w' => e = .returned (.tuple #[]) ∧ ∃ v' l', Hb w' g b m v' l' ∧ Rowed l' (remH L (atI l i).1) ∧ OrdH l' ∧ v'.ownBlock = v.ownBlock ∧ Ke (SoF g b v) w w' := by
  rcases h.hm.form with ⟨_, e⟩ | ⟨q, c, rfl, hlc, hc, hq, hat, hf⟩
  · subst e; simp at hi
  obtain ⟨t, ht⟩ : ∃ t, l.length = t + 1 := ⟨l.length - 1, by omega⟩
  have hle : t + 1 ≤ 1000 := by rw [← ht]; exact h.cap
  have HI := Lib.hid hi
  have HT := Lib.hid (show t < l.length by omega)
  obtain ⟨n, hn⟩ : ∃ n, t + 1 = n := ⟨_, rfl⟩
  rw [hn] at ht hle
  rw [ht] at h hlc hi ⊢
  have HN := Lib.hid ht
  have HTN := Lib.hid hn
  have hi1 : (n : Int) - 1 = (t : Int) := by omega
  have htn : (t : Int) < (n : Int) := by omega
  have htc : (t : Int) ≤ (c : Int) := by omega
  have htc' : t ≤ c := by omega
  have hti : i ≤ t := by omega
  obtain ⟨⟨k0, k1, k2⟩, f0, f1, f2⟩ := h.box.three
  have HH := Lib.hid h
  have HR := Lib.hid hr
  have HO := Lib.hid ho
  have HD := Lib.hid hh
  have HSW := Lib.hid (swap_any h (i := i) (j := t) HI.out HT.out)
  have HL1 := Lib.hid (show (swpI l i t).length = n by rw [swp_len]; exact ht)
  have HF := Lib.hid (h.fit_at HI.out)
  obtain ⟨⟨xk, xp⟩, hx⟩ : ∃ x, atI l i = x := ⟨_, rfl⟩
  have HX := Lib.hid hx
  have HXT := Lib.hid (show atI (swpI l i t) t = (xk, xp) by rw [at_swp_j HI.out HT.out, hx])
  rw [hx] at HF ⊢
  clear h hr ho hh hat hf hq ht hx hn
  go_enter Try.func33, Try.ntmps33
  go_upto_region 2 with (go_at_call 40; (with_reducible refine HSW.out.mono ?_); rintro e w1 ⟨rfl, s1, s2⟩; have HS1 := Lib.hid s1; have HS2 := Lib.hid s2; clear s1 s2 k0 k1 k2 f0 f1 f2)
  obtain ⟨⟨k0, k1, k2⟩, f0, f1, f2⟩ := HS1.out.box.three
  obtain ⟨v0, v1, v2, v3⟩ := HS1.out.hm.at (by rw [HL1.out]; omega) HXT.out
  go_still_tail 12, (by kernel_rfl)
  have HP := Lib.hid (show PlAt w1.drew b (posf (swpI l i t)) n by have := HS1.out.pl; rw [HL1.out] at this; exact this)
  have HQ := Lib.hid (show (posf (swpI l i t) xk).isSome = true by rw [pos_some HS1.out.dst (i := t) (by rw [HL1.out]; omega) (by rw [HXT.out])]; rfl)
  refine wp_unplace _ rfl _ _ rfl b n (posf (swpI l i t)) rfl HP.out xk rfl HF.out.1 HQ.out ?_
  intro w2 p2 g2
  obtain ⟨HM2, HK2⟩ := HS1.out.hm.drew.mapped p2 g2
  have HM2 := Lib.hid HM2
  have HK2 := Lib.hid (HS2.out.drew.on HK2)
  clear p2 g2 HP HQ k0 k1 k2 f0 f1 f2 v0 v1 v2 v3
  obtain ⟨⟨k0, k1, k2⟩, f0, f1, f2⟩ := HM2.out.box.three
  go_upto_region 4 with (fail)
  obtain ⟨HM3, HK3⟩ := set_shorter HM2.out HL1.out (k := t) (by omega)
  obtain ⟨W, hW⟩ : ∃ W, w2.setCell ⟨g, 1, none⟩ (.slice (some ⟨q, 0, none⟩) t c) = W := ⟨_, rfl⟩
  rw [hW] at HM3 HK3
  try rw [hW]
  clear hW
  have HK3 := Lib.hid (HK2.out.on HK3)
  have HB := Lib.hid (HM3.done (by
      have := pos_take HS1.out.dst (n := t) (by rw [HL1.out]; exact HTN.out)
      rw [HXT.out] at this
      exact this) (by rw [List.length_take, HL1.out]; omega) (dst_take HS1.out.dst t) (fun x hx => HS1.out.fit x (List.mem_of_mem_take hx)) (by rw [List.length_take, HL1.out]; omega))
  have HRo := Lib.hid (show Rowed ((swpI l i t).take t) (remH L xk) by
    have := rowed_take (HO.out.swp HI.out HT.out) (n := t) (by rw [HL1.out]; exact HTN.out)
    rw [HXT.out] at this
    exact this)
  have HLt := Lib.hid (show ((swpI l i t).take t).length = t by rw [List.length_take, HL1.out]; omega)
  have HRW := Lib.hid (HK3.out.rel_to HR.out)
  clear HM3 k0 k1 k2 f0 f1 f2 HM2 HK2
  by_cases he : i = t
  · subst he
    have hlt : ¬ (i : Int) < (i : Int) := by omega
    have HE := Lib.hid (show OrdH ((swpI l i i).take i) by
      rw [take_last HD.out (by rw [HN.out]; exact HTN.out)]
      exact ord_take HD.out i)
    go_wp2_with (fail)
    go_end0
    exact ⟨rfl, _, _, HB.out, HRo.out, HE.out, rfl, HK3.out⟩
  · have hlt : (i : Int) < (t : Int) := by omega
    have HE := Lib.hid (settle_any HB.out HRW.out HRo.out (i := i) (by rw [HLt.out]; omega) (take_any HD.out (by rw [HN.out]; exact HTN.out) (by omega)))
    go_wp2_with (go_at_call 34; (with_reducible refine HE.out.mono ?_); rintro e w5 ⟨rfl, l5, c1, c2, c3, c4⟩; have C1 := Lib.hid c1; have C2 := Lib.hid c2; have C3 := Lib.hid c3; have C4 := Lib.hid c4; clear c1 c2 c3 c4)
    go_end0
    exact ⟨rfl, _, _, C1.out, C2.out, C3.out, rfl, HK3.out.on C4.out⟩
end Go.Proofs.Ytminmcledbfchaa

namespace Go.Proofs.Ytminmcledbfchaa
open Go.RowKit Go.Lib
set_option linter.unusedVariables false
set_option linter.unusedSimpArgs false
/-- What a call does to a heap's own blocks S, and to all others. -/
def St (S S' : Nat → Prop) (w w' : World) : Prop := Gr w S S' ∧ Ke S w w'
abbrev HpT := World → Value → (Nat → Prop) → Int → List It → Prop
abbrev ItV (x : It) : Value := .agg #[.int .i64 x.1, .int .i64 x.2]
/-- HP w v S m L: v points to a heap with room for m, these are its items, and S its blocks. -/
structure HeapOk (HP : HpT) : Prop where
  srt : ∀ {w v S m L}, HP w v S m L → Srt L
  fit : ∀ {w v S m L}, HP w v S m L → ∀ z ∈ L, i64 z.1 ∧ i64 z.2
  len : ∀ {w v S m L}, HP w v S m L → (L.length : Int) ≤ m ∧ m ≤ 1000
  lt : ∀ {w v S m L}, HP w v S m L → ∀ k, S k → k < w.heap.size
  keep : ∀ {w w' v S m L}, HP w v S m L → w.heap.size ≤ w'.heap.size → (∀ k, S k → w'.heap[k]? = w.heap[k]?) → HP w' v S m L
  nil : ∀ w, HP w (.pointer none) (fun _ => False) 0 []
  new : ∀ (most : Int) (w : World), Rel w w → i64 most → Calls Try.prog 11 #[.int .i64 most] w fun e w' => Rel w w' ∧ ((1 ≤ most ∧ most ≤ 1000 ∧ ∃ (g : Nat) (S : Nat → Prop), e = .returned (.pointer (some ⟨g, 0, none⟩)) ∧ HP w' (.pointer (some ⟨g, 0, none⟩)) S most [] ∧ ∀ k, S k → w.heap.size ≤ k) ∨ (¬ (1 ≤ most ∧ most ≤ 1000) ∧ e = .returned (.pointer none)))
  push : ∀ {w v S m L} (k p : Int), Rel w w → HP w v S m L → i64 k → i64 p → Calls Try.prog 13 #[v, .int .i64 k, .int .i64 p] w fun e w' => e = .returned (.int .i64 (pushE m L k)) ∧ ∃ S', HP w' v S' m (pushL m L k p) ∧ St S S' w w'
  pop : ∀ {w v S m L}, Rel w w → HP w v S m L → Calls Try.prog 15 #[v] w fun e w' => e = .returned (.tuple #[ItV (itH (topH L)), .bool (topH L).isSome]) ∧ ∃ S', HP w' v S' m (popH L) ∧ St S S' w w'
  top : ∀ {w v S m L}, Rel w w → HP w v S m L → Calls Try.prog 23 #[v] w fun e w' => e = .returned (.tuple #[ItV (itH (topH L)), .bool (topH L).isSome]) ∧ Rel w w'
  change : ∀ {w v S m L} (k p : Int), Rel w w → HP w v S m L → i64 k → i64 p → Calls Try.prog 17 #[v, .int .i64 k, .int .i64 p] w fun e w' => e = .returned (.bool (hasH L k)) ∧ ∃ S', HP w' v S' m (chgH L k p) ∧ St S S' w w'
  remove : ∀ {w v S m L} (k : Int), Rel w w → HP w v S m L → i64 k → Calls Try.prog 19 #[v, .int .i64 k] w fun e w' => e = .returned (.bool (hasH L k)) ∧ ∃ S', HP w' v S' m (remH L k) ∧ St S S' w w'
  prio : ∀ {w v S m L} (k : Int), Rel w w → HP w v S m L → i64 k → Calls Try.prog 21 #[v, .int .i64 k] w fun e w' => e = .returned (.tuple #[.int .i64 ((prioH L k).getD 0), .bool (hasH L k)]) ∧ Rel w w'
  count : ∀ {w v S m L}, Rel w w → HP w v S m L → Calls Try.prog 25 #[v] w fun e w' => e = .returned (.int .i64 (L.length : Int)) ∧ Rel w w'
  all : ∀ {w v S m L}, Rel w w → HP w v S m L → Calls Try.prog 27 #[v] w fun e w' => ∃ (A : Option Addr) (c : Nat), e = .returned (.slice A L.length c) ∧ RowAt clH 2 w' A L ∧ (∀ a, A = some a → w.heap.size ≤ a.block ∧ a.block < w'.heap.size) ∧ L.length ≤ c ∧ c ≤ maxLen ∧ Rel w w'
/-- A heap within a walk that began at w0: its blocks are newer. -/
structure Hq (HP : HpT) (w0 w : World) (v : Value) (S : Nat → Prop) (m : Int) (L : List It) : Prop where
  hp : HP w v S m L
  rel : Rel w0 w
  new : ∀ k, S k → w0.heap.size ≤ k
/-- A block that is none of S. -/
def Bx (S : Nat → Prop) (w : World) (g : Nat) (t : TypeId) (cs : Array Value) : Prop := Bk w g t cs ∧ ¬ S g
/-- A row of items that is none of S. -/
def Ro (S : Nat → Prop) (w : World) (A : Option Addr) (L : List It) : Prop := RowAt clH 2 w A L ∧ ∀ a, A = some a → ¬ S a.block ∧ a.block < w.heap.size
section
variable {HP : HpT} (H : HeapOk HP) {w0 w w' : World} {v : Value} {S S' : Nat → Prop} {m : Int} {L L' : List It}
include H
theorem Hq.to (h : Hq HP w0 w v S m L) (hr : Rel w w') : Hq HP w0 w' v S m L :=
  ⟨H.keep h.hp hr.size (fun k hk => hr.2.block k (H.lt h.hp k hk)), h.rel.trans hr, h.new⟩
omit H in
theorem Hq.step (h : Hq HP w0 w v S m L) (hp : HP w' v S' m L') (hs : St S S' w w') : Hq HP w0 w' v S' m L' :=
  ⟨hp, hs.2.rel h.rel h.new, fun k hk => (hs.1 k hk).elim (h.new k) (fun q => Nat.le_trans h.rel.size q)⟩
/-- Another heap, apart from it. -/
theorem Hq.apart {v2 : Value} {S2 : Nat → Prop} {m2 : Int} {L2 : List It} (h2 : Hq HP w0 w v2 S2 m2 L2) (h : Hq HP w0 w v S m L) (hs : St S S' w w') (hd : ∀ k, S k → ¬ S2 k) : Hq HP w0 w' v2 S2 m2 L2 ∧ ∀ k, S' k → ¬ S2 k :=
  ⟨⟨H.keep h2.hp hs.2.size (fun k hk => hs.2.block k (H.lt h2.hp k hk) (fun e => hd k e hk)), hs.2.rel h.rel h.new, h2.new⟩,
    fun k hk h2k => (hs.1 k hk).elim (fun q => hd k q h2k) (fun q => Nat.not_le_of_lt (H.lt h2.hp k h2k) q)⟩
theorem Bx.new (h : Hq HP w0 w v S m L) (t : TypeId) (cs : Array Value) : Bx S (w.alloc (.cells cs t)) w.heap.size t cs :=
  ⟨Bk.new _ _ _, fun e => Nat.lt_irrefl _ (H.lt h.hp _ e)⟩
/-- A store into a block that is none of the heap's. -/
theorem Hq.put (h : Hq HP w0 w v S m L) {p : Addr} (hp : ¬ S p.block) (hn : w0.heap.size ≤ p.block) (u : Value) : Hq HP w0 (w.setCell p u) v S m L :=
  ⟨H.keep h.hp (by simp) (fun k hk => Below.heap_setCell w p u k (fun e => hp (by rw [← e]; exact hk))), h.rel.setCell hn u, h.new⟩
omit H in
theorem Bx.rel {g : Nat} {t : TypeId} {cs : Array Value} (h : Bx S w g t cs) (hr : Rel w w') : Bx S w' g t cs := ⟨h.1.rel hr, h.2⟩
omit H in
theorem Bx.st {g : Nat} {t : TypeId} {cs : Array Value} (h : Bx S w g t cs) (hs : St S S' w w') : Bx S' w' g t cs :=
  ⟨hs.2.bk h.1 h.2, fun e => (hs.1 g e).elim h.2 (fun q => Nat.not_le_of_lt h.1.lt q)⟩
omit H in
theorem Ro.rel {A : Option Addr} {L : List It} (h : Ro S w A L) (hr : Rel w w') : Ro S w' A L := ⟨h.1.rel hr, fun a ha => ⟨(h.2 a ha).1, Nat.lt_of_lt_of_le (h.2 a ha).2 hr.size⟩⟩
omit H in
theorem Ro.st {A : Option Addr} {L : List It} (h : Ro S w A L) (hs : St S S' w w') : Ro S' w' A L :=
  ⟨hs.2.row h.1 (fun a ha => (h.2 a ha).1), fun a ha => ⟨fun e => (hs.1 _ e).elim (h.2 a ha).1 (fun q => Nat.not_le_of_lt (h.2 a ha).2 q), Nat.lt_of_lt_of_le (h.2 a ha).2 hs.2.size⟩⟩
/-- The calls, what they tell spelled. -/
theorem hpush16 (h : Hq HP w0 w v S m L) {k p E : Int} (hk : i64 k) (hp : i64 p) (hE : pushE m L k = E) (hL : pushL m L k p = L') :
    Calls Try.prog 13 #[v, .int .i64 k, .int .i64 p] w fun e w' => ∃ S', e = .returned (.int .i64 E) ∧ Hid (Hq HP w0 w' v S' m L') ∧ Hid (St S S' w w') := by
  rw [← hE, ← hL]
  refine (H.push k p h.rel.self h.hp hk hp).mono ?_
  rintro e w' ⟨he, S', h1, h2⟩
  exact ⟨S', he, Lib.hid (Hq.step h h1 h2), Lib.hid h2⟩
theorem hpop16 (h : Hq HP w0 w v S m L) {x y : Int} {b : Bool} (ht : itH (topH L) = (x, y)) (hb : (topH L).isSome = b) (hL : popH L = L') :
    Calls Try.prog 15 #[v] w fun e w' => ∃ S', e = .returned (.tuple #[.agg #[.int .i64 x, .int .i64 y], .bool b]) ∧ Hid (Hq HP w0 w' v S' m L') ∧ Hid (St S S' w w') := by
  rw [← hb, ← hL]
  refine (H.pop h.rel.self h.hp).mono ?_
  rintro e w' ⟨he, S', h1, h2⟩
  rw [ht] at he
  exact ⟨S', he, Lib.hid (Hq.step h h1 h2), Lib.hid h2⟩
theorem htop16 (h : Hq HP w0 w v S m L) {x y : Int} {b : Bool} (ht : itH (topH L) = (x, y)) (hb : (topH L).isSome = b) :
    Calls Try.prog 23 #[v] w fun e w' => e = .returned (.tuple #[.agg #[.int .i64 x, .int .i64 y], .bool b]) ∧ Hid (Rel w w') := by
  rw [← hb]
  refine (H.top h.rel.self h.hp).mono ?_
  rintro e w' ⟨he, h2⟩
  rw [ht] at he
  exact ⟨he, Lib.hid h2⟩
theorem hchg16 (h : Hq HP w0 w v S m L) {k p : Int} {b : Bool} (hk : i64 k) (hp : i64 p) (hb : hasH L k = b) (hL : chgH L k p = L') :
    Calls Try.prog 17 #[v, .int .i64 k, .int .i64 p] w fun e w' => ∃ S', e = .returned (.bool b) ∧ Hid (Hq HP w0 w' v S' m L') ∧ Hid (St S S' w w') := by
  rw [← hb, ← hL]
  refine (H.change k p h.rel.self h.hp hk hp).mono ?_
  rintro e w' ⟨he, S', h1, h2⟩
  exact ⟨S', he, Lib.hid (Hq.step h h1 h2), Lib.hid h2⟩
theorem hrem16 (h : Hq HP w0 w v S m L) {k : Int} {b : Bool} (hk : i64 k) (hb : hasH L k = b) (hL : remH L k = L') :
    Calls Try.prog 19 #[v, .int .i64 k] w fun e w' => ∃ S', e = .returned (.bool b) ∧ Hid (Hq HP w0 w' v S' m L') ∧ Hid (St S S' w w') := by
  rw [← hb, ← hL]
  refine (H.remove k h.rel.self h.hp hk).mono ?_
  rintro e w' ⟨he, S', h1, h2⟩
  exact ⟨S', he, Lib.hid (Hq.step h h1 h2), Lib.hid h2⟩
theorem hprio16 (h : Hq HP w0 w v S m L) {k n : Int} {b : Bool} (hk : i64 k) (hn : (prioH L k).getD 0 = n) (hb : hasH L k = b) :
    Calls Try.prog 21 #[v, .int .i64 k] w fun e w' => e = .returned (.tuple #[.int .i64 n, .bool b]) ∧ Hid (Rel w w') := by
  rw [← hb, ← hn]
  exact (H.prio k h.rel.self h.hp hk).mono fun e w' h => ⟨h.1, Lib.hid h.2⟩
theorem hlen16 (h : Hq HP w0 w v S m L) {n : Nat} (hn : L.length = n) :
    Calls Try.prog 25 #[v] w fun e w' => e = .returned (.int .i64 (n : Int)) ∧ Hid (Rel w w') := by
  rw [← hn]
  exact (H.count h.rel.self h.hp).mono fun e w' h => ⟨h.1, Lib.hid h.2⟩
theorem hall16 (h : Hq HP w0 w v S m L) {n : Nat} (hn : L.length = n) :
    Calls Try.prog 27 #[v] w fun e w' => ∃ (A : Option Addr) (c : Nat), e = .returned (.slice A n c) ∧ Hid (Ro S w' A L) ∧ Hid (n ≤ c ∧ c ≤ maxLen) ∧ Hid (Rel w w') := by
  rw [← hn]
  refine (H.all h.rel.self h.hp).mono ?_
  rintro e w' ⟨A, c, he, h1, h2, h3, h4, h5⟩
  refine ⟨A, c, he, Lib.hid ⟨h1, fun a ha => ⟨fun q => Nat.not_le_of_lt (H.lt h.hp _ q) (h2 a ha).1, (h2 a ha).2⟩⟩, Lib.hid ⟨h3, h4⟩, Lib.hid h5⟩
theorem hnew16 (w : World) (hr : Rel w0 w) {most : Int} (hm : i64 most) (h1 : 1 ≤ most) (h2 : most ≤ 1000) :
    Calls Try.prog 11 #[.int .i64 most] w fun e w' => ∃ (g : Nat) (S : Nat → Prop), e = .returned (.pointer (some ⟨g, 0, none⟩)) ∧ Hid (Hq HP w0 w' (.pointer (some ⟨g, 0, none⟩)) S most []) ∧ Hid (Rel w w') ∧ Hid (∀ k, S k → w.heap.size ≤ k) := by
  refine (H.new most w hr.self hm).mono ?_
  rintro e w' ⟨hr2, ⟨_, _, g, S, he, hh, hn⟩ | ⟨hn, _⟩⟩
  · exact ⟨g, S, he, Lib.hid ⟨hh, hr.trans hr2, fun k hk => Nat.le_trans hr.size (hn k hk)⟩, Lib.hid hr2, Lib.hid hn⟩
  · exact absurd ⟨h1, h2⟩ hn
theorem hnil16 (w : World) (hr : Rel w w) {most : Int} (hm : i64 most) (h1 : ¬ (1 ≤ most ∧ most ≤ 1000)) :
    Calls Try.prog 11 #[.int .i64 most] w fun e w' => e = .returned (.pointer none) ∧ Hid (Rel w w') := by
  refine (H.new most w hr hm).mono ?_
  rintro e w' ⟨hr2, ⟨a, b, _⟩ | ⟨_, he⟩⟩
  · exact absurd ⟨a, b⟩ h1
  · exact ⟨he, Lib.hid hr2⟩
end
end Go.Proofs.Ytminmcledbfchaa

namespace Go.Proofs.Ytminmcledbfchaa
open Go.RowKit Go.Lib
set_option linter.unusedVariables false
set_option linter.unusedSimpArgs false
/-- The landed heap: items L by their keys, room for m. -/
def LHp (w : World) (v : Value) (S : Nat → Prop) (m : Int) (L : List It) : Prop :=
  (v = .pointer none ∧ S = (fun _ => False) ∧ m = 0 ∧ L = []) ∨ ∃ (g b : Nat) (u : Value) (l : List It), v = .pointer (some ⟨g, 0, none⟩) ∧ S = SoF g b u ∧ Hb w g b m u l ∧ Rowed l L ∧ OrdH l ∧ 1 ≤ m ∧ m ≤ 1000 ∧ (L.length : Int) ≤ m
theorem LHp.srt {w : World} {v : Value} {S : Nat → Prop} {m : Int} {L : List It} (h : LHp w v S m L) : Srt L := by
  rcases h with ⟨_, _, _, rfl⟩ | ⟨g, b, u, l, _, _, _, hr, _⟩
  · exact srt_nil
  · exact hr.srt
theorem LHp.fit {w : World} {v : Value} {S : Nat → Prop} {m : Int} {L : List It} (h : LHp w v S m L) : ∀ z ∈ L, i64 z.1 ∧ i64 z.2 := by
  rcases h with ⟨_, _, _, rfl⟩ | ⟨g, b, u, l, _, _, hb, hr, _⟩
  · intro z hz; cases hz
  · exact fun z hz => hb.fit z ((hr.mem z).2 hz)
theorem LHp.len {w : World} {v : Value} {S : Nat → Prop} {m : Int} {L : List It} (h : LHp w v S m L) : (L.length : Int) ≤ m ∧ m ≤ 1000 := by
  rcases h with ⟨_, _, rfl, rfl⟩ | ⟨g, b, u, l, _, _, _, _, _, _, h2, h3⟩
  · exact ⟨by simp, by omega⟩
  · exact ⟨h3, h2⟩
theorem LHp.lt {w : World} {v : Value} {S : Nat → Prop} {m : Int} {L : List It} (h : LHp w v S m L) : ∀ k, S k → k < w.heap.size := by
  rcases h with ⟨_, rfl, _⟩ | ⟨g, b, u, l, _, rfl, hb, _⟩
  · exact fun k hk => hk.elim
  · exact hb.lt
theorem LHp.keep {w w' : World} {v : Value} {S : Nat → Prop} {m : Int} {L : List It} (h : LHp w v S m L) (hs : w.heap.size ≤ w'.heap.size) (hk : ∀ k, S k → w'.heap[k]? = w.heap[k]?) : LHp w' v S m L := by
  rcases h with h | ⟨g, b, u, l, h1, rfl, hb, h2⟩
  · exact .inl h
  · exact .inr ⟨g, b, u, l, h1, rfl, hb.keep hs hk, h2⟩
theorem Hb.slice_of {w : World} {g b : Nat} {m : Int} {v : Value} {l : List It} (h : Hb w g b m v l) : ∃ A c, v = .slice A l.length c := by
  obtain ⟨A, c, e, _⟩ := h.row.slice_of
  exact ⟨A, c, e⟩
set_option maxRecDepth 100000 in
set_option maxHeartbeats 4000000 in
theorem lcount16 {w : World} {v : Value} {S : Nat → Prop} {m : Int} {L : List It} (hr : Rel w w) (h : LHp w v S m L) :
    Calls Try.prog 25 #[v] w fun e w' => e = .returned (.int .i64 (L.length : Int)) ∧ Rel w w' := by
  have HR := Lib.hid hr
  rcases h with ⟨rfl, _, _, rfl⟩ | ⟨g, b, u, l, rfl, _, hb, ho, _⟩
  · clear hr
    go_enter Try.func25, Try.ntmps25
    go_wp2_with (fail)
    go_ret
    exact ⟨rfl, HR.out⟩
  · obtain ⟨A, c, rfl⟩ := hb.slice_of
    obtain ⟨⟨k0, k1, k2⟩, _⟩ := hb.box.three
    rw [ho.len] at k1
    clear hr hb ho
    go_enter Try.func25, Try.ntmps25
    go_wp2_with (fail)
    go_ret
    exact ⟨rfl, HR.out⟩
set_option maxRecDepth 100000 in
set_option maxHeartbeats 4000000 in
theorem ltop_none (w : World) (p : Option Addr) (hr : Rel w w) (HC : Hid (∀ w1, Rel w w1 → Calls Try.prog 25 #[.pointer p] w1 fun e w' => e = .returned (.int .i64 0) ∧ Rel w1 w')) :
    Calls Try.prog 23 #[.pointer p] w fun e w' => e = .returned (.tuple #[.agg #[.int .i64 0, .int .i64 0], .bool false]) ∧ Rel w w' := by
  have AL := Lib.hid (hr.alloc (.cells #[.int .i64 0, .int .i64 0] 36))
  have BX := Lib.hid (Bk.new w 36 #[.int .i64 0, .int .i64 0])
  clear hr
  go_enter Try.func23, Try.ntmps23
  go_upto_region 1 with (fail)
  obtain ⟨w1, hw1⟩ : ∃ W, w.alloc (.cells #[.int .i64 0, .int .i64 0] 36) = W := ⟨_, rfl⟩
  obtain ⟨gx, hgx⟩ : ∃ q, w.heap.size = q := ⟨_, rfl⟩
  rw [hw1] at AL BX
  rw [hgx] at BX
  try rw [hw1]
  try rw [hgx]
  have Hgx := Lib.hid (show w.heap.size ≤ gx by rw [hgx]; exact Nat.le_refl _)
  clear hw1 hgx
  obtain ⟨⟨b0, b1⟩, ⟨c0, c1⟩⟩ := BX.out.two
  go_wp2_with (go_at_call 25; (with_reducible refine (HC.out _ AL.out).mono ?_); rintro e w2 ⟨rfl, r2⟩; have R2 := Lib.hid (AL.out.trans r2); have BX2 := Lib.hid (BX.out.rel r2); clear b0 b1 c0 c1; obtain ⟨⟨b0, b1⟩, ⟨c0, c1⟩⟩ := BX2.out.two; clear r2)
  have RX := Lib.hid (BX2.out.put (.int .i64 0) (.int .i64 0))
  obtain ⟨r0, r1⟩ := RX.out.two.1
  exact bodyPost_ret (v := .tuple #[.agg #[.int .i64 0, .int .i64 0], .bool false]) (by simp [results, Try.results23, go_sem, r0, r1]) rfl ⟨rfl, (R2.out.setCell (p := ⟨gx, 0, none⟩) Hgx.out _).setCell (p := ⟨gx, 1, none⟩) Hgx.out _⟩
set_option maxRecDepth 100000 in
set_option maxHeartbeats 4000000 in
theorem ltop_some (w : World) (g b q n c : Nat) (m x y : Int) (l : List It) (hr : Rel w w) (HB : Hid (Hb w g b m (.slice (some ⟨q, 0, none⟩) n c) l)) (HN : Hid (l.length = n)) (h0 : 0 < n) (hlc : n ≤ c) (HX : Hid (atI l 0 = (x, y))) (HC : Hid (∀ w1, Rel w w1 → Calls Try.prog 25 #[.pointer (some ⟨g, 0, none⟩)] w1 fun e w' => e = .returned (.int .i64 (n : Int)) ∧ Rel w1 w')) :
    Calls Try.prog 23 #[.pointer (some ⟨g, 0, none⟩)] w fun e w' => e = .returned (.tuple #[.agg #[.int .i64 x, .int .i64 y], .bool true]) ∧ Rel w w' := by
  have hnb : ((n : Int) == 0) = false := by simpa using (show ¬ (n : Int) = 0 by omega)
  have hnp : (0 : Int) < (n : Int) := by omega
  have AL := Lib.hid (hr.alloc (.cells #[.int .i64 0, .int .i64 0] 36))
  have BX := Lib.hid (Bk.new w 36 #[.int .i64 0, .int .i64 0])
  clear hr
  go_enter Try.func23, Try.ntmps23
  go_upto_region 1 with (fail)
  obtain ⟨w1, hw1⟩ : ∃ W, w.alloc (.cells #[.int .i64 0, .int .i64 0] 36) = W := ⟨_, rfl⟩
  obtain ⟨gx, hgx⟩ : ∃ q, w.heap.size = q := ⟨_, rfl⟩
  rw [hw1] at AL BX
  rw [hgx] at BX
  try rw [hw1]
  try rw [hgx]
  have Hgx := Lib.hid (show w.heap.size ≤ gx by rw [hgx]; exact Nat.le_refl _)
  clear hw1 hgx
  obtain ⟨⟨b0, b1⟩, ⟨c0, c1⟩⟩ := BX.out.two
  go_wp2_with (go_at_call 25; (with_reducible refine (HC.out _ AL.out).mono ?_); rintro e w2 ⟨rfl, r2⟩; have R2 := Lib.hid (AL.out.trans r2); have BX2 := Lib.hid (BX.out.rel r2); clear b0 b1 c0 c1; obtain ⟨⟨b0, b1⟩, ⟨c0, c1⟩⟩ := BX2.out.two; have HM2 := Lib.hid (HB.out.hm.rel R2.out); obtain ⟨⟨k0, k1, k2⟩, _⟩ := HM2.out.box.three; obtain ⟨z0, z1, _, _⟩ := HM2.out.at (by rw [HN.out]; exact h0) HX.out; rw [Nat.zero_mul] at z0; rw [Nat.zero_mul, Nat.zero_add] at z1; clear r2)
  have RX := Lib.hid (BX2.out.put (.int .i64 x) (.int .i64 y))
  obtain ⟨r0, r1⟩ := RX.out.two.1
  exact bodyPost_ret (v := .tuple #[.agg #[.int .i64 x, .int .i64 y], .bool true]) (by simp [results, Try.results23, go_sem, r0, r1]) rfl ⟨rfl, (R2.out.setCell (p := ⟨gx, 0, none⟩) Hgx.out _).setCell (p := ⟨gx, 1, none⟩) Hgx.out _⟩
theorem LHp.rel {w w' : World} {v : Value} {S : Nat → Prop} {m : Int} {L : List It} (h : LHp w v S m L) (r : Rel w w') : LHp w' v S m L := h.keep r.size (fun k hk => r.2.block k (h.lt k hk))
theorem ltop16 {w : World} {v : Value} {S : Nat → Prop} {m : Int} {L : List It} (hr : Rel w w) (h : LHp w v S m L) :
    Calls Try.prog 23 #[v] w fun e w' => e = .returned (.tuple #[ItV (itH (topH L)), .bool (topH L).isSome]) ∧ Rel w w' := by
  have hcnt : ∀ w1, Rel w w1 → Calls Try.prog 25 #[v] w1 fun e w' => e = .returned (.int .i64 (L.length : Int)) ∧ Rel w1 w' := fun w1 r => lcount16 r.self (h.rel r)
  have hp : ∃ p, v = .pointer p := by
    rcases h with ⟨rfl, _⟩ | ⟨g, b, u, l, rfl, _⟩
    · exact ⟨_, rfl⟩
    · exact ⟨_, rfl⟩
  by_cases hL : L = []
  · subst hL
    obtain ⟨p, rfl⟩ := hp
    exact ltop_none w p hr (Lib.hid hcnt)
  · rcases h with ⟨_, _, _, e⟩ | ⟨g, b, u, l, rfl, _, hb, ho, hh, _⟩
    · exact absurd e hL
    · have hl0 : 0 < l.length := by
        rw [ho.len]
        exact List.length_pos_iff.2 hL
      rcases hb.hm.form with ⟨_, e⟩ | ⟨q, c, rfl, hlc, _⟩
      · subst e; simp at hl0
      · rw [row_top ho hh hl0]
        rw [← ho.len] at hcnt
        exact ltop_some w g b q l.length c m _ _ l hr (Lib.hid hb) (Lib.hid rfl) hl0 hlc (Lib.hid rfl) (Lib.hid hcnt)
end Go.Proofs.Ytminmcledbfchaa

namespace Go.Proofs.Ytminmcledbfchaa
open Go.RowKit Go.Lib
set_option linter.unusedVariables false
set_option linter.unusedSimpArgs false
theorem St.of_rel {S : Nat → Prop} {w w' : World} (hr : Rel w w') : St S S w w' := ⟨Gr.refl _ _, Ke.of_rel hr⟩
theorem St.of_ke {S S' : Nat → Prop} {w w' : World} (h : Ke S w w') (e : S' = S) : St S S' w w' := by subst e; exact ⟨Gr.refl _ _, h⟩
set_option maxRecDepth 100000 in
set_option maxHeartbeats 4000000 in
theorem lnew16 (most : Int) (w : World) (hr : Rel w w) (hm : i64 most) :
    Calls Try.prog 11 #[.int .i64 most] w fun e w' => Rel w w' ∧ ((1 ≤ most ∧ most ≤ 1000 ∧ ∃ (g : Nat) (S : Nat → Prop), e = .returned (.pointer (some ⟨g, 0, none⟩)) ∧ LHp w' (.pointer (some ⟨g, 0, none⟩)) S most [] ∧ ∀ k, S k → w.heap.size ≤ k) ∨ (¬ (1 ≤ most ∧ most ≤ 1000) ∧ e = .returned (.pointer none))) := by
  have hmm := @run_makeMap Try.prog
  have HR := Lib.hid hr
  have R1 := Lib.hid (hr.alloc (.map #[] 0))
  have M1 := Lib.hid (PlAt.made w)
  have R2 := Lib.hid (R1.out.alloc (.cells #[.int .i64 most, .slice none 0 0, .map (some w.heap.size)] 59))
  have M2 := Lib.hid (M1.out.alloc (.cells #[.int .i64 most, .slice none 0 0, .map (some w.heap.size)] 59))
  have B2 := Lib.hid (Bk.new (w.alloc (.map #[] 0)) 59 #[.int .i64 most, .slice none 0 0, .map (some w.heap.size)])
  have e1 : (w.alloc (.map #[] 0)).heap.size = w.heap.size + 1 := World.size_alloc ..
  rw [e1] at B2
  clear hr hm e1
  generalize hQ : (fun (e : Ending) (w' : World) => Rel w w' ∧ ((1 ≤ most ∧ most ≤ 1000 ∧ ∃ (g : Nat) (S : Nat → Prop), e = .returned (.pointer (some ⟨g, 0, none⟩)) ∧ LHp w' (.pointer (some ⟨g, 0, none⟩)) S most [] ∧ ∀ k, S k → w.heap.size ≤ k) ∨ (¬ (1 ≤ most ∧ most ≤ 1000) ∧ e = .returned (.pointer none)))) = Q
  have HQ := Lib.hid hQ
  clear hQ
  by_cases h1 : most < 1
  · have H1 := Lib.hid h1
    go_enter Try.func11, Try.ntmps11
    go_wp2_with (fail)
    rw [← HQ.out]
    exact ⟨HR.out, .inr ⟨by have := H1.out; omega, rfl⟩⟩
  · by_cases h2 : 1000 < most
    · have H1 := Lib.hid h1
      have H2 := Lib.hid h2
      go_enter Try.func11, Try.ntmps11
      go_wp2_with (fail)
      rw [← HQ.out]
      exact ⟨HR.out, .inr ⟨by have := H2.out; omega, rfl⟩⟩
    · have H1 := Lib.hid h1
      have H2 := Lib.hid h2
      go_enter Try.func11, Try.ntmps11
      go_wp2_with (fail)
      rw [← HQ.out]
      refine ⟨R2.out, .inl ⟨by have := H1.out; omega, by have := H2.out; omega, w.heap.size + 1, SoF (w.heap.size + 1) w.heap.size (.slice none 0 0), rfl, .inr ⟨_, _, _, [], rfl, rfl, ⟨B2.out, RowOwn.nil _ _ _, M2.out, fun i j hi => absurd hi (by simp), (fun z hz => by cases hz), by simp⟩, ⟨srt_nil, rfl, fun z => Iff.rfl, fun i j hi => absurd hi (by simp)⟩, fun j _ hj => absurd hj (by simp), by have := H1.out; omega, by have := H2.out; omega, by have := H1.out; simp; omega⟩, ?_⟩⟩
      rintro k (rfl | rfl | hk)
      · exact Nat.le_succ _
      · exact Nat.le_refl _
      · cases hk
theorem prio_at {l L : List It} (h : Rowed l L) {i : Nat} (hi : i < l.length) {k y : Int} (hx : atI l i = (k, y)) : (prioH L k).getD 0 = y ∧ hasH L k = true := by
  have hm : (k, y) ∈ L := by rw [← hx]; exact (h.mem _).1 (at_mem hi)
  have hh : hasH L k = true := has_iff.2 ⟨_, hm, rfl⟩
  refine ⟨?_, hh⟩
  unfold prioH
  cases hf : L.find? fun x => decide (x.1 = k) with
  | none =>
    have := List.find?_eq_none.1 hf _ hm
    simp at this
  | some z =>
    have h1 := List.find?_some hf
    rw [decide_eq_true_eq] at h1
    have h2 := srt_key h.srt (List.mem_of_find?_eq_some hf) hm h1
    rw [h2]; rfl
theorem prio_no {L : List It} {k : Int} (hh : hasH L k = false) : (prioH L k).getD 0 = 0 := by
  unfold prioH
  rw [List.find?_eq_none.2 (fun x hx => by
    rw [decide_eq_true_eq]
    intro e
    have : hasH L k = true := has_iff.2 ⟨x, hx, e⟩
    rw [hh] at this; cases this)]
  rfl
/-- A key that is there. -/
theorem has_place {l L : List It} (h : Rowed l L) {k : Int} (hh : hasH L k = true) : ∃ (i : Nat) (y : Int), i < l.length ∧ atI l i = (k, y) ∧ posf l k = some (i : Int) := by
  obtain ⟨x, hx, e⟩ := has_iff.1 hh
  obtain ⟨i, hi, e2⟩ := mem_at ((h.mem x).2 hx)
  refine ⟨i, x.2, hi, by rw [e2, ← e], pos_some h.one hi (by rw [e2, e])⟩
theorem no_place {l L : List It} (h : Rowed l L) {k : Int} (hh : hasH L k = false) : posf l k = none := by
  have := pos_has h k
  rw [hh] at this
  cases hp : posf l k with
  | none => rfl
  | some v => rw [hp] at this; cases this
set_option maxRecDepth 100000 in
set_option maxHeartbeats 4000000 in
theorem lprio16 {w : World} {v : Value} {S : Nat → Prop} {m : Int} {L : List It} (k : Int) (hr : Rel w w) (h : LHp w v S m L) (hk : i64 k) :
    Calls Try.prog 21 #[v, .int .i64 k] w fun e w' => e = .returned (.tuple #[.int .i64 ((prioH L k).getD 0), .bool (hasH L k)]) ∧ Rel w w' := by
  have hwf := i64_wf hk
  rcases h with ⟨rfl, _, _, rfl⟩ | ⟨g, b, u, l, rfl, _, hb, ho, _⟩
  · have HP := Lib.hid (place_nil w hr k)
    clear hr hk
    show Calls _ _ _ _ fun e w' => e = .returned (.tuple #[.int .i64 0, .bool false]) ∧ Rel w w'
    go_enter Try.func21, Try.ntmps21
    go_wp2_with (go_at_call 30; (with_reducible refine HP.out.mono ?_); rintro e w1 ⟨rfl, r1⟩; have R1 := Lib.hid r1; clear r1)
    go_ret2
    exact ⟨rfl, R1.out⟩
  · have HP := place_any hb hr k hwf
    cases hh : hasH L k with
    | false =>
      rw [no_place ho hh] at HP
      rw [prio_no hh]
      have HP := Lib.hid (show Calls Try.prog 30 #[.pointer (some ⟨g, 0, none⟩), .int .i64 k] w fun e w' => e = .returned (.tuple #[.int .i64 0, .bool false]) ∧ Rel w w' from HP)
      clear hr hk hb ho hh
      go_enter Try.func21, Try.ntmps21
      go_wp2_with (go_at_call 30; (with_reducible refine HP.out.mono ?_); rintro e w1 ⟨rfl, r1⟩; have R1 := Lib.hid r1; clear r1)
      go_ret2
      exact ⟨rfl, R1.out⟩
    | true =>
      obtain ⟨i, y, hi, hx, hp⟩ := has_place ho hh
      rw [hp] at HP
      rw [(prio_at ho hi hx).1]
      have HP := Lib.hid (show Calls Try.prog 30 #[.pointer (some ⟨g, 0, none⟩), .int .i64 k] w fun e w' => e = .returned (.tuple #[.int .i64 (i : Int), .bool true]) ∧ Rel w w' from HP)
      rcases hb.hm.form with ⟨_, e⟩ | ⟨q, c, rfl, hlc, hc, _⟩
      · subst e; simp at hi
      obtain ⟨n, hn⟩ : ∃ n, l.length = n := ⟨_, rfl⟩
      rw [hn] at hb hlc hi
      have HB := Lib.hid hb
      have HN := Lib.hid hn
      have HX := Lib.hid hx
      have hi' : (i : Int) < (n : Int) := by omega
      clear hr hk hb ho hh hx hp hn
      go_enter Try.func21, Try.ntmps21
      go_wp2_with (go_at_call 30; (with_reducible refine HP.out.mono ?_); rintro e w1 ⟨rfl, r1⟩; have R1 := Lib.hid r1; have HM := Lib.hid (HB.out.hm.rel r1); obtain ⟨⟨k0, k1, k2⟩, _⟩ := HM.out.box.three; obtain ⟨z0, z1, _, _⟩ := HM.out.at (by rw [HN.out]; exact hi) HX.out; clear r1)
      go_ret2
      exact ⟨rfl, R1.out⟩
set_option maxRecDepth 100000 in
set_option maxHeartbeats 4000000 in
theorem lremove16 {w : World} {v : Value} {S : Nat → Prop} {m : Int} {L : List It} (k : Int) (hr : Rel w w) (h : LHp w v S m L) (hk : i64 k) :
    Calls Try.prog 19 #[v, .int .i64 k] w fun e w' => e = .returned (.bool (hasH L k)) ∧ ∃ S', LHp w' v S' m (remH L k) ∧ St S S' w w' := by
  have hwf := i64_wf hk
  have HE := Lib.hid h
  rcases h with ⟨rfl, _, _, rfl⟩ | ⟨g, b, u, l, rfl, rfl, hb, ho, hh0, m1, m2, m3⟩
  · have HP := Lib.hid (place_nil w hr k)
    clear hr hk
    show Calls _ _ _ _ fun e w' => e = .returned (.bool false) ∧ _
    go_enter Try.func19, Try.ntmps19
    go_wp2_with (go_at_call 30; (with_reducible refine HP.out.mono ?_); rintro e w1 ⟨rfl, r1⟩; have R1 := Lib.hid r1; clear r1)
    go_ret
    exact ⟨rfl, S, HE.out.rel R1.out, St.of_rel R1.out⟩
  · have HP := place_any hb hr k hwf
    cases hh : hasH L k with
    | false =>
      rw [no_place ho hh] at HP
      have HP := Lib.hid (show Calls Try.prog 30 #[.pointer (some ⟨g, 0, none⟩), .int .i64 k] w fun e w' => e = .returned (.tuple #[.int .i64 0, .bool false]) ∧ Rel w w' from HP)
      have HL := Lib.hid (show remH L k = L by
        unfold remH
        rw [List.filter_eq_self]
        intro x hx
        rw [decide_eq_true_eq]
        intro e
        have : hasH L k = true := has_iff.2 ⟨x, hx, e⟩
        rw [hh] at this; cases this)
      clear hr hk hb ho hh hh0 m3
      go_enter Try.func19, Try.ntmps19
      go_wp2_with (go_at_call 30; (with_reducible refine HP.out.mono ?_); rintro e w1 ⟨rfl, r1⟩; have R1 := Lib.hid r1; clear r1)
      go_ret
      exact ⟨rfl, _, by rw [HL.out]; exact HE.out.rel R1.out, St.of_rel R1.out⟩
    | true =>
      obtain ⟨i, y, hi, hx, hp⟩ := has_place ho hh
      rw [hp] at HP
      have HP := Lib.hid (show Calls Try.prog 30 #[.pointer (some ⟨g, 0, none⟩), .int .i64 k] w fun e w' => e = .returned (.tuple #[.int .i64 (i : Int), .bool true]) ∧ Rel w w' from HP)
      have HB := Lib.hid hb
      have HR := Lib.hid hr
      have HO := Lib.hid ho
      have HD := Lib.hid hh0
      have HI := Lib.hid hi
      have HX := Lib.hid hx
      have HS := Lib.hid (show (remH L k).length + 1 = L.length by
        have := rem_len ho.srt ((ho.mem _).1 (at_mem hi))
        rw [hx] at this
        exact this)
      have M3 := Lib.hid m3
      clear hr hk hb ho hh hx hp hh0 m3 hi
      go_enter Try.func19, Try.ntmps19
      go_wp2_with (first | (go_at_call 30; (with_reducible refine HP.out.mono ?_); rintro e w1 ⟨rfl, r1⟩; have R1 := Lib.hid r1; clear r1) | (go_at_call 33; (with_reducible refine (ltake16_any (HB.out.rel R1.out) (R1.out.self) HO.out HD.out HI.out).mono ?_); rintro e w2 ⟨rfl, v2, l2, a1, a2, a3, a4, a5⟩; have A1 := Lib.hid a1; have A2 := Lib.hid a2; have A3 := Lib.hid a3; have A4 := Lib.hid a4; have A5 := Lib.hid a5; clear a1 a2 a3 a4 a5))
      go_ret
      refine ⟨rfl, SoF g b v2, .inr ⟨g, b, v2, l2, rfl, rfl, A1.out, ?_, A3.out, m1, m2, ?_⟩, St.of_ke ((Ke.of_rel R1.out).on A5.out) (SoF_eq A4.out)⟩
      · have := A2.out
        rw [HX.out] at this
        exact this
      · have h1 := HS.out
        have h2 := M3.out
        omega
end Go.Proofs.Ytminmcledbfchaa
