/- Layer 16: the law's pick, count and awake, over what is asked of the program; A drawn region walked by hand: what is taken first, under a condition that the region keeps; what alone may come up; Layer 16: what is popped, until there are none, is all that was there, the most urgent first; Layer 16: two rows compared; what is removed is gone, all others stay; Layer 16: a heap that is full takes none; with one taken out, it takes one (HeapFull); Layer 16: pushed in two orders, changed back, two heaps give out the same (HeapTurns); Raw pairs, raw triples and raw numbers as arguments, opened; the walks for the shell; The document's own answers of layer 16: its heap in memory; at, Prio; The document's own answers of layer 16: Top; The document's own answers of layer 16: New; The document's own answers of layer 16: a heap of its own, with its blocks; Push. -/
import Derived.Test.YtminmcledbfchaaZL
import Derived.Test.YtminmcledbfchaaZ00
import Derived.Test.YtminmcledbfchaaZ01
import Derived.Test.YtminmcledbfchaaZ06
namespace Go.Proofs.Ytminmcledbfchaa
open Go.RowKit Go.Lib
set_option linter.unusedVariables false
set_option linter.unusedSimpArgs false
set_option maxHeartbeats 400000 in
theorem pk16_as (c n y : Int) (h : Hid (pk c n = y)) (hc : i64 c) (hn : 0 < n) (hn' : n ≤ 9223372036854775807) (w : World) :
    Calls Try.prog 10 #[.int .i64 c, .int .i64 n] w fun e w' => e = .returned (.int .i64 y) ∧ w = w' := by
  obtain ⟨hc0, hc1⟩ := hc
  rw [← h.out]
  by_cases h : c < 0
  all_goals
    go_enter Try.func10, Try.ntmps10
    go_wp2
    all_goals
      go_ret
      exact ⟨ret_int (by unfold pk; split <;> first | rfl | omega), rfl⟩
theorem in16 {n : Int} (h : -1000 ≤ n) (h' : n ≤ 1000) : i64 n := ⟨by omega, by omega⟩
set_option maxRecDepth 100000 in
set_option maxHeartbeats 16000000 in
theorem awake16_any {HP : HpT} (H : HeapOk HP) (w : World) (hr : Rel w w) :
    Calls Try.prog 9 #[] w fun e w' => e = .returned (.bool true) ∧ Rel w w' := by
  have HR := Lib.hid hr
  have K0 := Lib.hid (fun (w1 : World) (hr : Rel w w1) => hnew16 H (w0 := w) w1 hr (most := 3) (in16 (by decide) (by decide)) (by decide) (by decide))
  have K1 := Lib.hid (fun (w1 : World) (v : Value) (S : Nat → Prop) (h : Hq HP w w1 v S 3 []) => hpush16 H h (k := 3) (p := 5) (E := 0) (L' := [(3, 5)]) (in16 (by decide) (by decide)) (in16 (by decide) (by decide)) (by decide) (by decide))
  have K2 := Lib.hid (fun (w1 : World) (v : Value) (S : Nat → Prop) (h : Hq HP w w1 v S 3 [(3, 5)]) => hpush16 H h (k := 1) (p := 7) (E := 0) (L' := [(1, 7), (3, 5)]) (in16 (by decide) (by decide)) (in16 (by decide) (by decide)) (by decide) (by decide))
  have K3 := Lib.hid (fun (w1 : World) (v : Value) (S : Nat → Prop) (h : Hq HP w w1 v S 3 [(1, 7), (3, 5)]) => hpush16 H h (k := 2) (p := 7) (E := 0) (L' := [(1, 7), (2, 7), (3, 5)]) (in16 (by decide) (by decide)) (in16 (by decide) (by decide)) (by decide) (by decide))
  have K4 := Lib.hid (fun (w1 : World) (v : Value) (S : Nat → Prop) (h : Hq HP w w1 v S 3 [(1, 7), (2, 7), (3, 5)]) => hpush16 H h (k := 2) (p := 9) (E := 1) (L' := [(1, 7), (2, 7), (3, 5)]) (in16 (by decide) (by decide)) (in16 (by decide) (by decide)) (by decide) (by decide))
  have K5 := Lib.hid (fun (w1 : World) (v : Value) (S : Nat → Prop) (h : Hq HP w w1 v S 3 [(1, 7), (2, 7), (3, 5)]) => hpush16 H h (k := 4) (p := 9) (E := 50) (L' := [(1, 7), (2, 7), (3, 5)]) (in16 (by decide) (by decide)) (in16 (by decide) (by decide)) (by decide) (by decide))
  have K6 := Lib.hid (fun (w1 : World) (v : Value) (S : Nat → Prop) (h : Hq HP w w1 v S 3 [(1, 7), (2, 7), (3, 5)]) => hpop16 H h (x := 1) (y := 7) (b := true) (L' := [(2, 7), (3, 5)]) (by decide) (by decide) (by decide))
  have K7 := Lib.hid (fun (w1 : World) (v : Value) (S : Nat → Prop) (h : Hq HP w w1 v S 3 [(2, 7), (3, 5)]) => htop16 H h (x := 2) (y := 7) (b := true) (by decide) (by decide))
  have K8 := Lib.hid (fun (w1 : World) (v : Value) (S : Nat → Prop) (h : Hq HP w w1 v S 3 [(2, 7), (3, 5)]) => hprio16 H h (k := 3) (n := 5) (b := true) (in16 (by decide) (by decide)) (by decide) (by decide))
  have K9 := Lib.hid (fun (w1 : World) (v : Value) (S : Nat → Prop) (h : Hq HP w w1 v S 3 [(2, 7), (3, 5)]) => hlen16 H h (n := 2) (by decide))
  have KA := Lib.hid (fun (w1 : World) (v : Value) (S : Nat → Prop) (h : Hq HP w w1 v S 3 [(2, 7), (3, 5)]) => hchg16 H h (k := 3) (p := 8) (b := true) (L' := [(2, 7), (3, 8)]) (in16 (by decide) (by decide)) (in16 (by decide) (by decide)) (by decide) (by decide))
  have KB := Lib.hid (fun (w1 : World) (v : Value) (S : Nat → Prop) (h : Hq HP w w1 v S 3 [(2, 7), (3, 8)]) => hrem16 H h (k := 2) (b := true) (L' := [(3, 8)]) (in16 (by decide) (by decide)) (by decide) (by decide))
  have KC := Lib.hid (fun (w1 : World) (v : Value) (S : Nat → Prop) (h : Hq HP w w1 v S 3 [(3, 8)]) => hrem16 H h (k := 2) (b := false) (L' := [(3, 8)]) (in16 (by decide) (by decide)) (by decide) (by decide))
  have KD := Lib.hid (fun (w1 : World) (hr : Rel w1 w1) => hnil16 H w1 hr (most := 0) (in16 (by decide) (by decide)) (by decide))
  have KE := Lib.hid (fun (w1 : World) (v : Value) (S : Nat → Prop) (h : Hq HP w w1 v S 3 [(3, 8)]) => hall16 H h (n := 1) (by decide))
  have HH := Lib.hid H
  clear H hr
  go_enter Try.func9, Try.ntmps9
  go_upto_region 2 with (go_at_call 11; (with_reducible refine (K0.out _ HR.out).mono ?_); rintro e w1 ⟨g, S0, rfl, h1, _, _⟩)
  obtain ⟨v, hv⟩ : ∃ v, Value.pointer (some ⟨g, 0, none⟩) = v := ⟨_, rfl⟩
  rw [hv] at h1
  try rw [hv]
  clear hv
  go_upto_region 3 with (go_at_call 13; (with_reducible refine (K1.out _ _ _ h1.out).mono ?_); rintro e w2 ⟨S1, rfl, h2, _⟩)
  go_upto_region 4 with (go_at_call 13; (with_reducible refine (K2.out _ _ _ h2.out).mono ?_); rintro e w3 ⟨S2, rfl, h3, _⟩)
  go_upto_region 5 with (go_at_call 13; (with_reducible refine (K3.out _ _ _ h3.out).mono ?_); rintro e w4 ⟨S3, rfl, h4, _⟩)
  go_upto_region 6 with (go_at_call 13; (with_reducible refine (K4.out _ _ _ h4.out).mono ?_); rintro e w5 ⟨S4, rfl, h5, _⟩)
  go_upto_region 7 with (go_at_call 13; (with_reducible refine (K5.out _ _ _ h5.out).mono ?_); rintro e w6 ⟨S5, rfl, h6, _⟩)
  clear h1 h2 h3 h4 h5 K0 K1 K2 K3 K4 K5 HR
  go_upto_region 8 with (go_at_call 15; (with_reducible refine (K6.out _ _ _ h6.out).mono ?_); rintro e w7 ⟨S6, rfl, h7, _⟩)
  have BX := Lib.hid (Bx.new HH.out h7.out 36 #[.int .i64 1, .int .i64 7])
  have h8 := Lib.hid (Hq.to HH.out h7.out (h7.out.rel.self.alloc (.cells #[.int .i64 1, .int .i64 7] 36)))
  obtain ⟨W8, hW8⟩ : ∃ W, w7.alloc (.cells #[.int .i64 1, .int .i64 7] 36) = W := ⟨_, rfl⟩
  obtain ⟨gx, hgx⟩ : ∃ g, w7.heap.size = g := ⟨_, rfl⟩
  rw [hW8] at BX h8
  rw [hgx] at BX
  try rw [hW8]
  try rw [hgx]
  clear hW8 hgx h7 h6 K6
  go_upto_region 9 with (go_at_call 23; (with_reducible refine (K7.out _ _ _ h8.out).mono ?_); rintro e w9 ⟨rfl, r9⟩)
  have h9 := Lib.hid (Hq.to HH.out h8.out r9.out)
  have BX9 := Lib.hid (BX.out.rel r9.out)
  have BY := Lib.hid (Bx.new HH.out h9.out 36 #[.int .i64 2, .int .i64 7])
  have hA := Lib.hid (Hq.to HH.out h9.out (h9.out.rel.self.alloc (.cells #[.int .i64 2, .int .i64 7] 36)))
  have BXA := Lib.hid (BX9.out.rel (h9.out.rel.self.alloc (.cells #[.int .i64 2, .int .i64 7] 36)))
  obtain ⟨WA, hWA⟩ : ∃ W, w9.alloc (.cells #[.int .i64 2, .int .i64 7] 36) = W := ⟨_, rfl⟩
  obtain ⟨gy, hgy⟩ : ∃ g, w9.heap.size = g := ⟨_, rfl⟩
  rw [hWA] at BY hA BXA
  rw [hgy] at BY
  try rw [hWA]
  try rw [hgy]
  clear hWA hgy h8 h9 r9 K7 BX BX9
  go_upto_region 10 with (go_at_call 21; (with_reducible refine (K8.out _ _ _ hA.out).mono ?_); rintro e wB ⟨rfl, rB⟩)
  have hB := Lib.hid (Hq.to HH.out hA.out rB.out)
  have BXB := Lib.hid (BXA.out.rel rB.out)
  have BYB := Lib.hid (BY.out.rel rB.out)
  clear hA BXA BY rB K8
  obtain ⟨⟨x0, x1⟩, _⟩ := BXB.out.1.two
  obtain ⟨⟨y0, y1⟩, _⟩ := BYB.out.1.two
  go_wp2_with (first
    | (go_at_call 25; (with_reducible refine (K9.out _ _ _ hB.out).mono ?_); rintro e wC ⟨rfl, rC⟩; have hC := Lib.hid (Hq.to HH.out hB.out rC.out))
    | (go_at_call 17; (with_reducible refine (KA.out _ _ _ hC.out).mono ?_); rintro e wD ⟨SD, rfl, hD, _⟩)
    | (go_at_call 19; (with_reducible refine (KB.out _ _ _ hD.out).mono ?_); rintro e wE ⟨SE, rfl, hE, _⟩)
    | (go_at_call 19; (with_reducible refine (KC.out _ _ _ hE.out).mono ?_); rintro e wF ⟨SF, rfl, hF, _⟩)
    | (go_at_call 11; (with_reducible refine (KD.out _ hF.out.rel.self).mono ?_); rintro e wG ⟨rfl, rG⟩; have hG := Lib.hid (Hq.to HH.out hF.out rG.out))
    | (go_at_call 27; (with_reducible refine (KE.out _ _ _ hG.out).mono ?_); rintro e wH ⟨A, c, rfl, _, _, rH⟩))
  go_ret
  exact ⟨rfl, hG.out.rel.trans rH.out⟩
end Go.Proofs.Ytminmcledbfchaa

namespace Go.Proofs.Ytminmcledbfchaa
open Go
set_option linter.unusedVariables false
set_option linter.unusedSimpArgs false
section
variable {P : Program} {ops : Array Oper} {Q : Exit → Act → World → Prop} {md : Region.Mode} {S : World → Prop}
theorem held_take {i : Nat} {oi : Oper} {v : Value} (d : Option Tmp) {fuel : Nat} {listed : Array Bool} {a : Act} {w : World} (hi : ops[i]? = some oi) (hd : oi.dst = d)
    (hs : Region.noSelect ops = true) (hf : Region.free md ops listed i = true) (hr : (Region.ready md ops listed).contains i = true)
    (hQ : ∀ c a w, Q (.panic c) (a.put d v) w → Q (.panic c) a w) (hy : YieldsIf P ops S oi v a) (hS : S w)
    (h : wpAnyH P md ops Q S fuel (listed.setIfInBounds i true) (a.put d v) w) : wpAnyH P md ops Q S (fuel + 1) listed a w := by
  subst hd
  exact wpAnyH_take hi hs hf hr hQ hy hS h
theorem held_one {j : Nat} {o : Oper} {fuel : Nat} {listed : Array Bool} {a : Act} {w : World} (hr : Region.ready md ops listed = [j]) (ho : ops[j]? = some o)
    (h : ∀ K' : Act → World → Prop, Shut (∀ a w, S w → (S w → wpAnyH P md ops Q S fuel (listed.setIfInBounds j true) a w) → K' a w) → if Region.wanted o (yielded ops a.tmps) = true then Oper.wp P o a w K' Q else K' (a.put o.dst undef) w) : wpAnyH P md ops Q S (fuel + 1) listed a w :=
  wpAnyH_ready hr (by simp) (AllReadyH.cons ho h AllReadyH.nil)
theorem held_two {j k : Nat} {o o' : Oper} {fuel : Nat} {listed : Array Bool} {a : Act} {w : World} (hr : Region.ready md ops listed = [j, k]) (ho : ops[j]? = some o) (ho' : ops[k]? = some o')
    (h : ∀ K' : Act → World → Prop, Shut (∀ a w, S w → (S w → wpAnyH P md ops Q S fuel (listed.setIfInBounds j true) a w) → K' a w) → if Region.wanted o (yielded ops a.tmps) = true then Oper.wp P o a w K' Q else K' (a.put o.dst undef) w)
    (h' : ∀ K' : Act → World → Prop, Shut (∀ a w, S w → (S w → wpAnyH P md ops Q S fuel (listed.setIfInBounds k true) a w) → K' a w) → if Region.wanted o' (yielded ops a.tmps) = true then Oper.wp P o' a w K' Q else K' (a.put o'.dst undef) w) : wpAnyH P md ops Q S (fuel + 1) listed a w :=
  wpAnyH_ready hr (by simp) (AllReadyH.cons ho h (AllReadyH.cons ho' h' AllReadyH.nil))
end
end Go.Proofs.Ytminmcledbfchaa

namespace Go.Proofs.Ytminmcledbfchaa
open Go.RowKit Go.Lib
set_option linter.unusedVariables false
set_option linter.unusedSimpArgs false
theorem Ro.far {S : Nat → Prop} {w : World} {A : Option Addr} {l : List It} (h : Ro S w A l) {p : Addr} (hp : ∀ a, A = some a → a.block ≠ p.block) (u : Value) : Ro S (w.setCell p u) A l := by
  refine ⟨fun i hi => ?_, fun a ha => ⟨(h.2 a ha).1, by simpa using (h.2 a ha).2⟩⟩
  obtain ⟨g, off, e, hl, hc⟩ := h.1 i hi
  have hb := Below.heap_setCell w p u g (hp _ e)
  refine ⟨g, off, e, by simpa using hl, fun j hj => ?_⟩
  rw [World.cell?_of_block (w := w) (a := ⟨g, off + i * 2 + j, none⟩) hb]
  exact hc j hj
end Go.Proofs.Ytminmcledbfchaa

namespace Go.Proofs.Ytminmcledbfchaa
open Go.RowKit Go.Lib
set_option linter.unusedVariables false
set_option linter.unusedSimpArgs false
theorem row16_at {w : World} {A : Option Addr} {l : List It} (h : RowAt clH 2 w A l) (h0 : 0 < l.length) : ∃ g off : Nat, A = some ⟨g, off, none⟩ ∧ ∀ i (hi : i < l.length), w.cell? ⟨g, off + i * 2, none⟩ = some (.int .i64 l[i].1) ∧ w.cell? ⟨g, off + i * 2 + 1, none⟩ = some (.int .i64 l[i].2) := by
  obtain ⟨g, off, rfl, _, _⟩ := h 0 h0
  refine ⟨g, off, rfl, fun i hi => ?_⟩
  obtain ⟨g', off', e, _, hc⟩ := h i hi
  injection e with e
  injection e with e1 e2
  subst e1; subst e2
  exact ⟨hc 0 (by decide), hc 1 (by decide)⟩
set_option maxRecDepth 100000 in
set_option maxHeartbeats 8000000 in
theorem rsame16_yes (L : List It) (A A' : Option Addr) (n c c' : Nat) (hn : L.length = n) (hc : n ≤ c) (hc1 : c ≤ maxLen) (hd : n ≤ c') (hd1 : c' ≤ maxLen) (w : World) (hr : Rel w w) (hi : RowAt clH 2 w A L) (hi' : RowAt clH 2 w A' L) :
    Calls Try.prog 26 #[.slice A n c, .slice A' n c'] w fun e w' => e = .returned (.bool true) ∧ Rel w w' := by
  have HR := Lib.hid hr
  have HI := Lib.hid hi
  have HJ := Lib.hid hi'
  have HN := Lib.hid hn
  unfold maxLen at hc1 hd1
  have k4 : ((n : Int) != (n : Int)) = false := by simp
  clear hr hi hi' hn
  go_enter Try.func26, Try.ntmps26
  go_upto_block 0 with (fail)
  go_wp2_with (fail)
  go_loopw [5] (fun i wr => ∃ j : Nat, i = .int .i64 (j : Int) ∧ j ≤ n ∧ Hid (Rel w wr)) (fun i _ => n - (RowKit.intOf i).toNat)
  case atStart => exact ⟨0, rfl, by omega, HR⟩
  case round =>
    obtain ⟨j, rfl, hj, HW⟩ := hrel
    by_cases hlt : j < n
    · have hjL : j < L.length := by rw [HN.out]; exact hlt
      obtain ⟨g, off, rfl, hc⟩ := row16_at (HI.out.rel HW.out) (by omega)
      obtain ⟨g', off', rfl, hc'⟩ := row16_at (HJ.out.rel HW.out) (by omega)
      obtain ⟨a0, a1⟩ := hc j hjL
      obtain ⟨b0, b1⟩ := hc' j hjL
      obtain ⟨⟨x, y⟩, hx⟩ : ∃ x, L[j] = x := ⟨_, rfl⟩
      rw [hx] at a0 a1 b0 b1
      replace a0 : wr.cell? ⟨g, off + j * 2, none⟩ = some (.int .i64 x) := a0
      replace a1 : wr.cell? ⟨g, off + j * 2 + 1, none⟩ = some (.int .i64 y) := a1
      replace b0 : wr.cell? ⟨g', off' + j * 2, none⟩ = some (.int .i64 x) := b0
      replace b1 : wr.cell? ⟨g', off' + j * 2 + 1, none⟩ = some (.int .i64 y) := b1
      have hij : (j : Int) < (n : Int) := by omega
      have hij0 : (0 : Int) ≤ (j : Int) := by omega
      clear hc hc' hx
      go_upto_region 6 with (fail)
      go_quiet (fail)
      all_goals
        go_wp2_with (fail)
        go_roundw
        case rel => exact ⟨j + 1, by go_num, by omega, Lib.hid (HW.out.drewN _)⟩
        case measure => simp [RowKit.intOf]; omega
    · obtain rfl : j = n := by omega
      go_wp2_with (fail)
      go_ret
      exact ⟨rfl, HW.out⟩
end Go.Proofs.Ytminmcledbfchaa

namespace Go.Proofs.Ytminmcledbfchaa
open Go.RowKit Go.Lib
set_option linter.unusedVariables false
set_option linter.unusedSimpArgs false
theorem not_has {L : List It} {k : Int} (h : ¬ hasH L k = true) : hasH L k = false := by
  cases e : hasH L k with
  | false => rfl
  | true => exact absurd e h
def Ints16 (w : World) (A : Option Addr) (c : Nat) (L : List Int) : Prop := L.length ≤ c ∧ c ≤ maxLen ∧ (∀ z ∈ L, i64 z) ∧ ∀ i (h : i < L.length), ∃ a : Addr, A = some a ∧ a.block < w.heap.size ∧ w.cell? (a.add i) = some (.int .i64 L[i])
theorem Ints16.rel {w w' : World} {A : Option Addr} {c : Nat} {L : List Int} (h : Ints16 w A c L) (hr : Rel w w') : Ints16 w' A c L :=
  ⟨h.1, h.2.1, h.2.2.1, fun i hi => by
    obtain ⟨a, e, hl, hc⟩ := h.2.2.2 i hi
    exact ⟨a, e, Nat.lt_of_lt_of_le hl hr.size, (hr.2.cell (p := a.add i) (by rw [block_add]; exact hl)).trans hc⟩⟩
end Go.Proofs.Ytminmcledbfchaa

namespace Go.Proofs.Ytminmcledbfchaa
open Go.RowKit Go.Lib
set_option linter.unusedVariables false
set_option linter.unusedSimpArgs false
/-- Two heaps apart. -/
def Twain (HP : HpT) (w0 w : World) (va vb : Value) (La Lb : List It) : Prop := ∃ Sa Sb : Nat → Prop, Hq HP w0 w va Sa 100 La ∧ Hq HP w0 w vb Sb 100 Lb ∧ ∀ k, Sa k → ¬ Sb k
section
variable {HP : HpT} (H : HeapOk HP) {w0 w w' : World} {va vb : Value} {La Lb L' : List It}
omit H in
theorem Twain.swap (h : Twain HP w0 w va vb La Lb) : Twain HP w0 w vb va Lb La := by
  obtain ⟨Sa, Sb, h1, h2, h3⟩ := h
  exact ⟨Sb, Sa, h2, h1, fun k hb ha => h3 k ha hb⟩
omit H in
theorem Twain.rel (h : Twain HP w0 w va vb La Lb) : Rel w0 w := by
  obtain ⟨_, _, h1, _⟩ := h
  exact h1.rel
include H
theorem Twain.to (h : Twain HP w0 w va vb La Lb) (hr : Rel w w') : Twain HP w0 w' va vb La Lb := by
  obtain ⟨Sa, Sb, h1, h2, h3⟩ := h
  exact ⟨Sa, Sb, h1.to H hr, h2.to H hr, h3⟩
theorem two_push (h : Twain HP w0 w va vb La Lb) {k p E : Int} (hk : i64 k) (hp : i64 p) (hE : pushE 100 La k = E) (hL : pushL 100 La k p = L') :
    Calls Try.prog 13 #[va, .int .i64 k, .int .i64 p] w fun e w' => e = .returned (.int .i64 E) ∧ Hid (Twain HP w0 w' va vb L' Lb) := by
  obtain ⟨Sa, Sb, h1, h2, h3⟩ := h
  refine (hpush16 H h1 hk hp hE hL).mono ?_
  rintro e w' ⟨S', rfl, h4, h5⟩
  obtain ⟨h6, h7⟩ := Hq.apart H h2 h1 h5.out h3
  exact ⟨rfl, Lib.hid ⟨S', Sb, h4.out, h6, h7⟩⟩
theorem two_chg (h : Twain HP w0 w va vb La Lb) {k p : Int} {b : Bool} (hk : i64 k) (hp : i64 p) (hb : hasH La k = b) (hL : chgH La k p = L') :
    Calls Try.prog 17 #[va, .int .i64 k, .int .i64 p] w fun e w' => e = .returned (.bool b) ∧ Hid (Twain HP w0 w' va vb L' Lb) := by
  obtain ⟨Sa, Sb, h1, h2, h3⟩ := h
  refine (hchg16 H h1 hk hp hb hL).mono ?_
  rintro e w' ⟨S', rfl, h4, h5⟩
  obtain ⟨h6, h7⟩ := Hq.apart H h2 h1 h5.out h3
  exact ⟨rfl, Lib.hid ⟨S', Sb, h4.out, h6, h7⟩⟩
end
end Go.Proofs.Ytminmcledbfchaa

namespace Go.Proofs.Ytminmcledbfchaa
open Go.RowKit Go.ChangeShapes Go.WideShapes
open Go.Lib
set_option linter.unusedVariables false
set_option linter.unusedSimpArgs false
section
variable {H : Type} {enc : TypeId × Value → H} {w : World} {base : Nat} {held : Bool}
theorem wf64K {a : Int} (h : (Lit.int .i64 a).wf = true) : -9223372036854775808 ≤ a ∧ a ≤ 9223372036854775807 := by
  have := bounds_i64 h; omega
set_option maxRecDepth 100000 in
theorem pair_open {fuel : Nat} {cs : List Value} {x : DataW H × List MemPlace} (h : DataW.trod enc Try.prog w base (fun _ => true) held fuel 65 cs = some x) : ∃ a b : Int, cs = [.int .i64 a, .int .i64 b] ∧ (Lit.int .i64 a).wf = true ∧ (Lit.int .i64 b).wf = true := by
  obtain ⟨xs, m, rfl, _, hl, hxl, hi⟩ := DataW.trod_array Try.underlying65 h
  have c2 : Try.prog.cellsOf 65 = 2 := by kernel_rfl
  have c1 : Try.prog.cellsOf 3 = 1 := by kernel_rfl
  rw [c2] at hl
  match cs, hl with
  | [u, v], _ =>
    have h0 := hi 0 (by omega)
    have h1 := hi 1 (by omega)
    rw [c1] at h0 h1
    rw [List.getElem?_eq_getElem (by omega)] at h0 h1
    obtain ⟨a, ha, _, wa⟩ := DataW.trod_int Try.underlying3 h0
    obtain ⟨b, hb, _, wb⟩ := DataW.trod_int Try.underlying3 h1
    simp at ha hb
    exact ⟨a, b, by rw [ha, hb], wa, wb⟩
set_option maxRecDepth 100000 in
theorem pairs_open {fuel : Nat} {A : Option Addr} {len cap : Nat} {x : DataW H × List MemPlace} (h : DataW.trod enc Try.prog w base (fun _ => true) held fuel 49 [.slice A len cap] = some x) : ∃ zs, PairsIn w A len zs := by
  rcases Go.Deep.open_slice Try.underlying49 h with ⟨hcs, _⟩ | ⟨a, l, c, m, n, D, Pl, hcs, _, hl, hm, hmm, _, hx⟩
  · simp only [List.cons.injEq, Value.slice.injEq, and_true] at hcs
    obtain ⟨rfl, rfl, rfl⟩ := hcs
    exact ⟨[], rfl, Nat.zero_le _, fun z hz => (by cases hz), fun i hi => absurd hi (by simp)⟩
  · simp only [List.cons.injEq, Value.slice.injEq, and_true] at hcs
    obtain ⟨rfl, rfl, rfl⟩ := hcs
    simp only [if_true] at hmm
    have c2 : Try.prog.cellsOf 65 = 2 := by kernel_rfl
    rw [c2] at hx
    obtain ⟨f, hf⟩ := Go.Deep.choose_lt (α := Int × Int) (n := len) (p := fun i q => w.cell? (a.add (i * 2)) = some (.int .i64 q.1) ∧ w.cell? (a.add (i * 2 + 1)) = some (.int .i64 q.2) ∧ (Lit.int .i64 q.1).wf = true ∧ (Lit.int .i64 q.2).wf = true) (fun i hi => by
      obtain ⟨cs', h1, h2⟩ := hx i (by omega)
      obtain ⟨u, v, rfl, wu, wv⟩ := pair_open h2
      obtain ⟨_, _, hcell⟩ := World.cells?_some h1
      have e0 := hcell 0 (by omega)
      have e1 := hcell 1 (by omega)
      rw [Go.Deep.add_add] at e0 e1
      exact ⟨(u, v), by simpa using e0, by simpa using e1, wu, wv⟩)
    have hlen : ((List.range len).map f).length = len := by rw [List.length_map, List.length_range]
    refine ⟨(List.range len).map f, hlen, by unfold maxLen at hm; omega, fun z hz => ?_, fun i hi => ?_⟩
    · obtain ⟨r, hr, rfl⟩ := List.mem_map.1 hz
      have := hf r (List.mem_range.1 hr)
      exact ⟨wf64K this.2.2.1, wf64K this.2.2.2⟩
    · rw [hlen] at hi
      obtain ⟨e0, e1, _, _⟩ := hf i hi
      have eg : ((List.range len).map f)[i]'(by rw [hlen]; exact hi) = f i := by rw [List.getElem_map, List.getElem_range]
      refine ⟨a, rfl, by have := blk_of_cell e0; rwa [block_add] at this, ?_, ?_⟩
      · rw [eg]; exact e0
      · rw [eg]; exact e1
end
end Go.Proofs.Ytminmcledbfchaa

namespace Go.Proofs.Ytminmcledbfchaa
open Go.RowKit Go.Lib
set_option linter.unusedVariables false
set_option linter.unusedSimpArgs false
/-- The document's own heap in block g: its items lie in A. -/
def RhAt (w : World) (g : Nat) (m : Int) (L : List It) (A : Option Addr) (n c : Nat) : Prop := L.length = n ∧ Bk w g 30 #[.slice A n c, .int .i64 m] ∧ RowAt clH 2 w A L ∧ n ≤ c ∧ c ≤ maxLen
theorem RhAt.rel {w w' : World} {g : Nat} {m : Int} {L : List It} {A : Option Addr} {n c : Nat} (h : RhAt w g m L A n c) (hr : Rel w w') : RhAt w' g m L A n c :=
  ⟨h.1, h.2.1.rel hr, h.2.2.1.rel hr, h.2.2.2⟩
set_option maxRecDepth 100000 in
set_option maxHeartbeats 8000000 in
theorem rat16_any (g : Nat) (m : Int) (L : List It) (A : Option Addr) (n c : Nat) (k : Int) (w : World) (hr : Rel w w) (h : RhAt w g m L A n c) :
    Calls Try.prog 32 #[.pointer (some ⟨g, 0, none⟩), .int .i64 k] w fun e w' => ∃ r : Int, e = .returned (.int .i64 r) ∧ Hid (Rel w w') ∧ Hid ((∃ (i : Nat) (hi : i < L.length), r = (i : Int) ∧ L[i].1 = k) ∨ (r = -1 ∧ hasH L k = false)) := by
  have HR := Lib.hid hr
  have HI := Lib.hid h
  have hc0 := h.2.2.2.1
  have hc1 := h.2.2.2.2
  unfold maxLen at hc1
  clear hr h
  go_enter Try.func32, Try.ntmps32
  go_upto_block 0 with (fail)
  go_wp2_with (fail)
  go_loopw [5] (fun i wr => ∃ j : Nat, i = .int .i64 (j : Int) ∧ j ≤ n ∧ Hid (Rel w wr) ∧ Hid (∀ i (hi : i < L.length), i < j → L[i].1 ≠ k)) (fun i _ => n - (RowKit.intOf i).toNat)
  case atStart => exact ⟨0, rfl, by omega, HR, Lib.hid (fun i hi h0 => absurd h0 (by omega))⟩
  case round =>
    obtain ⟨j, rfl, hj, HW, HNo⟩ := hrel
    have HI2 := Lib.hid (HI.out.rel HW.out)
    obtain ⟨x0, x1⟩ := HI2.out.2.1.two.1
    by_cases hlt : j < n
    · have hjL : j < L.length := by rw [HI.out.1]; exact hlt
      obtain ⟨g1, off, rfl, hc⟩ := row16_at HI2.out.2.2.1 (by omega)
      obtain ⟨a0, _⟩ := hc j hjL
      obtain ⟨⟨x, y⟩, hx⟩ : ∃ x, L[j] = x := ⟨_, rfl⟩
      have HX := Lib.hid hx
      rw [hx] at a0
      replace a0 : wr.cell? ⟨g1, off + j * 2, none⟩ = some (.int .i64 x) := a0
      have hij : (j : Int) < (n : Int) := by omega
      have hij0 : (0 : Int) ≤ (j : Int) := by omega
      clear hc hx
      by_cases hk : x = k
      · have hk1 : (x == k) = true := by rw [hk]; simp
        have HK := Lib.hid hk
        clear hk
        go_wp2_with (fail)
        go_ret
        exact ⟨_, rfl, HW, Lib.hid (.inl ⟨j, hjL, rfl, by rw [HX.out]; exact HK.out⟩)⟩
      · have hk1 : (x == k) = false := by simpa using hk
        have HK := Lib.hid hk
        clear hk
        go_wp2_with (fail)
        go_roundw
        case rel =>
          refine ⟨j + 1, by go_num, by omega, HW, Lib.hid (fun i hi hi1 => ?_)⟩
          by_cases e : i = j
          · subst e; rw [HX.out]; exact HK.out
          · exact HNo.out i hi (by omega)
        case measure => simp [RowKit.intOf]; omega
    · obtain rfl : j = n := by omega
      go_wp2_with (fail)
      go_ret
      refine ⟨_, rfl, HW, Lib.hid (.inr ⟨rfl, not_has fun e => ?_⟩)⟩
      obtain ⟨z, hz, e⟩ := has_iff.1 e
      obtain ⟨i, hi, e2⟩ := List.getElem_of_mem hz
      exact HNo.out i hi (by rw [← HI.out.1]; exact hi) (by rw [e2]; exact e)
set_option maxRecDepth 100000 in
set_option maxHeartbeats 8000000 in
theorem rprio16_any (g : Nat) (m : Int) (L : List It) (hs : Srt L) (A : Option Addr) (n c : Nat) (k : Int) (w : World) (hr : Rel w w) (h : RhAt w g m L A n c) :
    Calls Try.prog 22 #[.pointer (some ⟨g, 0, none⟩), .int .i64 k] w fun e w' => e = .returned (.tuple #[.int .i64 ((prioH L k).getD 0), .bool (hasH L k)]) ∧ Hid (Rel w w') := by
  have HR := Lib.hid hr
  have HI := Lib.hid h
  have HS := Lib.hid hs
  have hc0 := h.2.2.2.1
  have hc1 := h.2.2.2.2
  unfold maxLen at hc1
  clear hr h hs
  go_enter Try.func22, Try.ntmps22
  go_upto_region 2 with (go_at_call 32; (with_reducible refine (rat16_any g m L A n c k w HR.out HI.out).mono ?_); rintro e w1 ⟨r, rfl, R1, HC⟩)
  rcases HC.out with ⟨i, hi, rfl, hk⟩ | ⟨rfl, hk⟩
  · have HI2 := Lib.hid (HI.out.rel R1.out)
    obtain ⟨x0, x1⟩ := HI2.out.2.1.two.1
    obtain ⟨g1, off, rfl, hc⟩ := row16_at HI2.out.2.2.1 (by omega)
    obtain ⟨_, a1⟩ := hc i hi
    have hmem : L[i] ∈ L := List.getElem_mem _
    obtain ⟨⟨x, y⟩, hx⟩ : ∃ x, L[i] = x := ⟨_, rfl⟩
    rw [hx] at a1 hmem hk
    have hk : x = k := hk
    subst hk
    replace a1 : w1.cell? ⟨g1, off + i * 2 + 1, none⟩ = some (.int .i64 y) := a1
    have e1 : (prioH L x).getD 0 = y := by rw [(prio_some HS.out).2 hmem]; rfl
    have e2 : hasH L x = true := has_iff.2 ⟨_, hmem, rfl⟩
    have hin : i < n := by rw [← HI.out.1]; exact hi
    have hij : (i : Int) < (n : Int) := by omega
    have hij0 : (0 : Int) ≤ (i : Int) := by omega
    clear hc hx hmem
    go_wp2_with (fail)
    go_ret2
    exact ⟨by first | rfl | (rw [e1, e2]; rfl) | (rw [e1, e2]), R1⟩
  · have e1 : (prioH L k).getD 0 = 0 := by rw [prio_none.2 hk]; rfl
    go_wp2_with (fail)
    go_ret2
    exact ⟨by first | rfl | (rw [e1, hk]; rfl) | (rw [e1, hk]), R1⟩
end Go.Proofs.Ytminmcledbfchaa

namespace Go.Proofs.Ytminmcledbfchaa
open Go.RowKit Go.Lib
set_option linter.unusedVariables false
set_option linter.unusedSimpArgs false
/-- The best of the first j + 1. -/
theorem best_take {x : It} {t : List It} {j : Nat} (hj : j < t.length) : bestH x (t.take (j + 1)) = (if (bestH x (t.take j)).2 < t[j].2 then t[j] else bestH x (t.take j)) := by
  induction t generalizing x j with
  | nil => exact absurd hj (by simp)
  | cons y t ih =>
    cases j with
    | zero => show bestH (if x.2 < y.2 then y else x) (t.take 0) = _; rfl
    | succ j =>
      have := ih (x := if x.2 < y.2 then y else x) (j := j) (by simpa using hj)
      exact this
set_option maxRecDepth 100000 in
set_option maxHeartbeats 8000000 in
theorem rtop16_any (g : Nat) (m : Int) (L : List It) (A : Option Addr) (n c : Nat) (w : World) (hr : Rel w w) (h : RhAt w g m L A n c) :
    Calls Try.prog 24 #[.pointer (some ⟨g, 0, none⟩)] w fun e w' => e = .returned (.tuple #[ItV (itH (topH L)), .bool (topH L).isSome]) ∧ Hid (Rel w w') := by
  have HR := Lib.hid hr
  have HI := Lib.hid h
  have hc0 := h.2.2.2.1
  have hc1 := h.2.2.2.2
  have hl := h.1
  unfold maxLen at hc1
  clear hr h
  go_enter Try.func24, Try.ntmps24
  go_upto_region 1 with (fail)
  have AL := Lib.hid (HR.out.alloc (.cells #[.int .i64 0, .int .i64 0] 36))
  have HI1 := Lib.hid (HI.out.rel AL.out)
  have BX := Lib.hid (Bk.new w 36 #[.int .i64 0, .int .i64 0])
  obtain ⟨w1, hw1⟩ : ∃ W, w.alloc (.cells #[.int .i64 0, .int .i64 0] 36) = W := ⟨_, rfl⟩
  obtain ⟨gx, hgx⟩ : ∃ q, w.heap.size = q := ⟨_, rfl⟩
  rw [hw1] at AL HI1 BX
  rw [hgx] at BX
  try rw [hw1]
  try rw [hgx]
  have Hgx := Lib.hid (show w.heap.size ≤ gx by rw [hgx]; exact Nat.le_refl _)
  clear hw1 hgx
  obtain ⟨x0, x1⟩ := HI1.out.2.1.two.1
  cases L with
  | nil =>
    obtain rfl : n = 0 := by simpa using hl.symm
    obtain ⟨⟨b0, b1⟩, ⟨c0, c1⟩⟩ := BX.out.two
    have HE := Lib.hid ((AL.out.setCell (p := ⟨gx, 0, none⟩) Hgx.out (.int .i64 0)).setCell (p := ⟨gx, 1, none⟩) Hgx.out (.int .i64 0))
    have RX := Lib.hid (show Bk ((w1.setCell ⟨gx, 0, none⟩ (.int .i64 0)).setCell ⟨gx, 1, none⟩ (.int .i64 0)) gx 36 #[.int .i64 0, .int .i64 0] from (BX.out.set_ 0 (.int .i64 0)).set_ 1 (.int .i64 0))
    go_wp2_with (fail)
    obtain ⟨r0, r1⟩ := RX.out.two.1
    exact bodyPost_ret (v := .tuple #[.agg #[.int .i64 0, .int .i64 0], .bool false]) (by simp [results, Try.results24, go_sem, r0, r1]) rfl ⟨rfl, HE⟩
  | cons z t =>
    have hn1 : 1 ≤ n := by rw [← hl]; simp
    have hn2 : ((n : Int) == 0) = false := by simpa using (show ¬ (n : Int) = 0 by omega)
    have hn3 : (0 : Int) < (n : Int) := by omega
    obtain ⟨zx, zy⟩ := z
    have ht : t.length + 1 = n := by rw [← hl]; simp
    have HLt := Lib.hid ht
    obtain ⟨g1, off, rfl, hc⟩ := row16_at HI1.out.2.2.1 (by simp)
    obtain ⟨a0, a1⟩ := hc 0 (by simp)
    rw [Nat.zero_mul, Nat.add_zero] at a0 a1
    replace a0 : w1.cell? ⟨g1, off, none⟩ = some (.int .i64 zx) := a0
    replace a1 : w1.cell? ⟨g1, off + 1, none⟩ = some (.int .i64 zy) := a1
    clear hc hl ht
    go_upto_region 4 with (fail)
    have AL2 := Lib.hid (AL.out.self.alloc (.cells #[.int .i64 zx, .int .i64 zy] 36))
    have BY := Lib.hid (Bk.new w1 36 #[.int .i64 zx, .int .i64 zy])
    have R2 := Lib.hid (AL.out.trans AL2.out)
    have BX2 := Lib.hid (BX.out.rel AL2.out)
    have Hgy := Lib.hid (show w.heap.size ≤ w1.heap.size from AL.out.size)
    have Hne := Lib.hid (Nat.ne_of_lt BX.out.lt)
    obtain ⟨w2, hw2⟩ : ∃ W, w1.alloc (.cells #[.int .i64 zx, .int .i64 zy] 36) = W := ⟨_, rfl⟩
    obtain ⟨gy, hgy⟩ : ∃ q, w1.heap.size = q := ⟨_, rfl⟩
    rw [hw2] at BY R2 BX2
    rw [hgy] at BY Hgy Hne
    try rw [hw2]
    try rw [hgy]
    clear hw2 hgy x0 x1 a0 a1 AL2 BX
    go_upto_block 0 with (fail)
    go_wp2_with (fail)
    go_loopw [5] (fun i wr => ∃ (j : Nat) (bx bY : Int), i = .int .i64 (j : Int) ∧ 1 ≤ j ∧ j ≤ n ∧ Hid (bestH (zx, zy) (t.take (j - 1)) = (bx, bY)) ∧ Hid (Rel w wr) ∧ Hid (Bk wr gy 36 #[.int .i64 bx, .int .i64 bY]) ∧ Hid (Bk wr gx 36 #[.int .i64 0, .int .i64 0])) (fun i _ => n - (RowKit.intOf i).toNat)
    case atStart => exact ⟨1, zx, zy, rfl, by omega, by omega, Lib.hid rfl, R2, BY, BX2⟩
    case round =>
      obtain ⟨j, bx, bY, rfl, hj1, hj, HBe, HW, HBy, HBx⟩ := hrel
      have HI2 := Lib.hid (HI.out.rel HW.out)
      obtain ⟨x0, x1⟩ := HI2.out.2.1.two.1
      obtain ⟨⟨y0, y1⟩, ⟨f0, f1⟩⟩ := HBy.out.two
      by_cases hlt : j < n
      · have hij : (j : Int) < (n : Int) := by omega
        have hij0 : (0 : Int) ≤ (j : Int) := by omega
        have hjt : j - 1 < t.length := by have := HLt.out; omega
        obtain ⟨g2, off2, e, hc⟩ := row16_at HI2.out.2.2.1 (by simp)
        injection e with e
        injection e with e1 e2
        subst e1; subst e2
        obtain ⟨a0, a1⟩ := hc j (by simp; omega)
        have hbt := best_take (x := (zx, zy)) hjt
        rw [HBe.out] at hbt
        rw [show j - 1 + 1 = j by omega] at hbt
        obtain ⟨⟨ex, ey⟩, hx⟩ : ∃ x, t[j - 1] = x := ⟨_, rfl⟩
        have hx' : ((zx, zy) :: t)[j]'(by simp; omega) = (ex, ey) := by
          rw [← hx]
          obtain ⟨i, rfl⟩ : ∃ i, j = i + 1 := ⟨j - 1, by omega⟩
          rfl
        rw [hx'] at a0 a1
        rw [hx] at hbt
        replace a0 : wr.cell? ⟨g1, off + j * 2, none⟩ = some (.int .i64 ex) := a0
        replace a1 : wr.cell? ⟨g1, off + j * 2 + 1, none⟩ = some (.int .i64 ey) := a1
        clear hc hx hx' hjt
        by_cases hgt : bY < ey
        · have HBn := Lib.hid (show bestH (zx, zy) (t.take (j + 1 - 1)) = (ex, ey) by rw [show j + 1 - 1 = j by omega, hbt]; exact if_pos hgt)
          have hd : decide (bY < ey) = true := decide_eq_true hgt
          clear hbt hgt
          go_upto_region 7 with (fail)
          go_quiet (fail)
          all_goals
            go_wp2_with (fail)
            go_roundw
            case rel => exact ⟨j + 1, ex, ey, by go_num, by omega, by omega, HBn, Lib.hid (((HW.out.drewN _).setCell (p := ⟨gy, 0, none⟩) Hgy.out (.int .i64 ex)).setCell (p := ⟨gy, 1, none⟩) Hgy.out (.int .i64 ey)), Lib.hid (((HBy.out.rel (HW.out.self.drewN _)).set_ 0 (.int .i64 ex)).set_ 1 (.int .i64 ey)), Lib.hid (((HBx.out.rel (HW.out.self.drewN _)).far (p := ⟨gy, 0, none⟩) Hne.out (.int .i64 ex)).far (p := ⟨gy, 1, none⟩) Hne.out (.int .i64 ey))⟩
            case measure => simp [RowKit.intOf]; omega
        · have HBn := Lib.hid (show bestH (zx, zy) (t.take (j + 1 - 1)) = (bx, bY) by rw [show j + 1 - 1 = j by omega, hbt]; exact if_neg hgt)
          have hd : decide (bY < ey) = false := decide_eq_false hgt
          clear hbt hgt
          go_upto_region 7 with (fail)
          go_quiet (fail)
          all_goals
            go_wp2_with (fail)
            go_roundw
            case rel => exact ⟨j + 1, bx, bY, by go_num, by omega, by omega, HBn, Lib.hid (HW.out.drewN _), Lib.hid (HBy.out.rel (HW.out.self.drewN _)), Lib.hid (HBx.out.rel (HW.out.self.drewN _))⟩
            case measure => simp [RowKit.intOf]; omega
      · obtain rfl : j = n := by omega
        have HBn := Lib.hid (show itH (topH ((zx, zy) :: t)) = (bx, bY) by
          have := HBe.out
          rw [List.take_of_length_le (by have := HLt.out; omega)] at this
          exact this)
        have HE := Lib.hid ((HW.out.setCell (p := ⟨gx, 0, none⟩) Hgx.out (.int .i64 bx)).setCell (p := ⟨gx, 1, none⟩) Hgx.out (.int .i64 bY))
        have RX := Lib.hid (show Bk ((wr.setCell ⟨gx, 0, none⟩ (.int .i64 bx)).setCell ⟨gx, 1, none⟩ (.int .i64 bY)) gx 36 #[.int .i64 bx, .int .i64 bY] from (HBx.out.set_ 0 (.int .i64 bx)).set_ 1 (.int .i64 bY))
        obtain ⟨⟨u0, u1⟩, ⟨h0, h1⟩⟩ := HBx.out.two
        go_wp2_with (fail)
        obtain ⟨r0, r1⟩ := RX.out.two.1
        exact bodyPost_ret (v := .tuple #[.agg #[.int .i64 bx, .int .i64 bY], .bool true]) (by simp [results, Try.results24, go_sem, r0, r1]) rfl ⟨by rw [HBn.out]; rfl, HE⟩
end Go.Proofs.Ytminmcledbfchaa

namespace Go.Proofs.Ytminmcledbfchaa
open Go.RowKit Go.Lib
set_option linter.unusedVariables false
set_option linter.unusedSimpArgs false
set_option maxRecDepth 100000 in
set_option maxHeartbeats 8000000 in
theorem rnew16_any (most : Int) (w : World) (hr : Rel w w) :
    Calls Try.prog 12 #[.int .i64 most] w fun e w' => Hid (Rel w w') ∧ Hid ((1 ≤ most ∧ most ≤ 1000 ∧ e = .returned (.tuple #[.agg #[.slice none 0 0, .int .i64 most], .bool true])) ∨ (¬ (1 ≤ most ∧ most ≤ 1000) ∧ e = .returned (.tuple #[.agg #[.slice none 0 0, .int .i64 0], .bool false]))) := by
  have HR := Lib.hid hr
  clear hr
  go_enter Try.func12, Try.ntmps12
  go_upto_region 1 with (fail)
  have AL := Lib.hid (HR.out.alloc (.cells #[.slice none 0 0, .int .i64 0] 30))
  have BX := Lib.hid (Bk.new w 30 #[.slice none 0 0, .int .i64 0])
  obtain ⟨w1, hw1⟩ : ∃ W, w.alloc (.cells #[.slice none 0 0, .int .i64 0] 30) = W := ⟨_, rfl⟩
  obtain ⟨gx, hgx⟩ : ∃ q, w.heap.size = q := ⟨_, rfl⟩
  rw [hw1] at AL BX
  rw [hgx] at BX
  try rw [hw1]
  try rw [hgx]
  have Hgx := Lib.hid (show w.heap.size ≤ gx by rw [hgx]; exact Nat.le_refl _)
  clear hw1 hgx
  obtain ⟨⟨b0, b1⟩, ⟨c0, c1⟩⟩ := BX.out.two
  have RZ := Lib.hid (show Bk ((w1.setCell ⟨gx, 0, none⟩ (.slice none 0 0)).setCell ⟨gx, 1, none⟩ (.int .i64 0)) gx 30 #[.slice none 0 0, .int .i64 0] from (BX.out.set_ 0 (.slice none 0 0)).set_ 1 (.int .i64 0))
  have RM := Lib.hid (show Bk ((w1.setCell ⟨gx, 0, none⟩ (.slice none 0 0)).setCell ⟨gx, 1, none⟩ (.int .i64 most)) gx 30 #[.slice none 0 0, .int .i64 most] from (BX.out.set_ 0 (.slice none 0 0)).set_ 1 (.int .i64 most))
  have HZ := Lib.hid ((AL.out.setCell (p := ⟨gx, 0, none⟩) Hgx.out (.slice none 0 0)).setCell (p := ⟨gx, 1, none⟩) Hgx.out (.int .i64 0))
  have HM := Lib.hid ((AL.out.setCell (p := ⟨gx, 0, none⟩) Hgx.out (.slice none 0 0)).setCell (p := ⟨gx, 1, none⟩) Hgx.out (.int .i64 most))
  by_cases h1 : most < 1
  · have d1 : decide (most < 1) = true := decide_eq_true h1
    have H1 := Lib.hid h1
    clear h1
    go_wp2_with (fail)
    obtain ⟨r0, r1⟩ := RZ.out.two.1
    exact bodyPost_ret (v := .tuple #[.agg #[.slice none 0 0, .int .i64 0], .bool false]) (by simp [results, Try.results12, go_sem, r0, r1]) rfl ⟨HZ, Lib.hid (.inr ⟨by have := H1.out; omega, rfl⟩)⟩
  · have d1 : decide (most < 1) = false := decide_eq_false h1
    by_cases h2 : 1000 < most
    · have d2 : decide (1000 < most) = true := decide_eq_true h2
      have H1 := Lib.hid h1
      have H2 := Lib.hid h2
      clear h1 h2
      go_wp2_with (fail)
      obtain ⟨r0, r1⟩ := RZ.out.two.1
      exact bodyPost_ret (v := .tuple #[.agg #[.slice none 0 0, .int .i64 0], .bool false]) (by simp [results, Try.results12, go_sem, r0, r1]) rfl ⟨HZ, Lib.hid (.inr ⟨by have := H2.out; omega, rfl⟩)⟩
    · have d2 : decide (1000 < most) = false := decide_eq_false h2
      have H1 := Lib.hid h1
      have H2 := Lib.hid h2
      clear h1 h2
      go_wp2_with (fail)
      obtain ⟨r0, r1⟩ := RM.out.two.1
      exact bodyPost_ret (v := .tuple #[.agg #[.slice none 0 0, .int .i64 most], .bool true]) (by simp [results, Try.results12, go_sem, r0, r1]) rfl ⟨HM, Lib.hid (.inl ⟨by have := H1.out; omega, by have := H2.out; omega, rfl⟩)⟩
end Go.Proofs.Ytminmcledbfchaa

namespace Go.Proofs.Ytminmcledbfchaa
open Go.RowKit Go.Lib
set_option linter.unusedVariables false
set_option linter.unusedSimpArgs false
def SoR (g : Nat) (u : Value) : Nat → Prop := fun k => k = g ∨ some k = u.ownBlock
/-- The document's own heap: its items by their keys, its blocks S. -/
structure Rb (w : World) (g : Nat) (u : Value) (m : Int) (L : List It) : Prop where
  box : Bk w g 30 #[u, .int .i64 m]
  row : RowOwn 36 clH 2 w 0 u L
  srt : Srt L
  fit : ∀ z ∈ L, i64 z.1 ∧ i64 z.2
  cap : L.length ≤ 1000
def RHp (w : World) (v : Value) (S : Nat → Prop) (m : Int) (L : List It) : Prop := ∃ (g : Nat) (u : Value), v = .pointer (some ⟨g, 0, none⟩) ∧ S = SoR g u ∧ Rb w g u m L
section
variable {w w' : World} {g : Nat} {u : Value} {m : Int} {L : List It}
theorem Rb.at (h : Rb w g u m L) : ∃ A c, u = .slice A L.length c ∧ RhAt w g m L A L.length c := by
  obtain ⟨A, c, e, hc⟩ := h.row.slice_of
  have hb := h.box
  have ho := h.row
  rw [e] at hb ho
  refine ⟨A, c, e, rfl, hb, ho.at clH_len rfl, ?_, hc⟩
  rcases ho.row.2 with ⟨e, h0⟩ | ⟨q, cap, cur, e, _, _, hl, _⟩
  · omega
  · injection e with _ _ e; omega
theorem Rb.g_ne (h : Rb w g u m L) : some g ≠ u.ownBlock := own_ne h.row h.box (by decide)
theorem Rb.lt (h : Rb w g u m L) : ∀ k, SoR g u k → k < w.heap.size := by
  rintro k (rfl | hk)
  · exact h.box.lt
  · exact (World.ownsRow.lt h.row.row k hk.symm).2
theorem Rb.keep (h : Rb w g u m L) (hb : ∀ k, SoR g u k → w'.heap[k]? = w.heap[k]?) : Rb w' g u m L :=
  ⟨(hb g (.inl rfl)).trans h.box, by
    have hr := h.row
    unfold RowOwn World.ownsRow at hr ⊢
    refine ⟨hr.1, hr.2.imp id ?_⟩
    rintro ⟨q, cap, cur, hv, hq, hh, hx⟩
    exact ⟨q, cap, cur, hv, hq, (hb q (.inr (by rw [hv]; rfl))).trans hh, hx⟩, h.srt, h.fit, h.cap⟩
theorem Rb.rel (h : Rb w g u m L) (hr : Rel w w') : Rb w' g u m L := h.keep fun k hk => hr.2.block k (h.lt k hk)
/-- A row of the call's own, put in. -/
theorem Rb.put {w0 wr : World} {u' : Value} {L' : List It} (h : Rb w0 g u m L) (hr : Rel w0 wr) (ho : RowOwn 36 clH 2 wr w0.heap.size u' L') (hs : Srt L') (hf : ∀ z ∈ L', i64 z.1 ∧ i64 z.2) (hc : L'.length ≤ 1000) :
    Rb (wr.setCell ⟨g, 0, none⟩ u') g u' m L' ∧ St (SoR g u) (SoR g u') w0 (wr.setCell ⟨g, 0, none⟩ u') := by
  have hb := h.box.rel hr
  have hne : some g ≠ u'.ownBlock := own_ne ho.row hb (by decide)
  have ho0 : RowOwn 36 clH 2 wr 0 u' L' := own_zero ho.row
  refine ⟨⟨hb.set_ 0 u', own_set ho0.row (p := ⟨g, 0, none⟩) hne _, hs, hf, hc⟩, ?_, (Ke.of_rel hr).on (Ke.set (p := ⟨g, 0, none⟩) (.inl rfl) _)⟩
  rintro k (rfl | hk)
  · exact .inl (.inl rfl)
  · exact .inr (World.ownsRow.lt ho.row k hk.symm).1
end
/-- Where an item goes in. -/
theorem ins_left {A B : List It} {x : It} (h : ∃ a ∈ A, x.1 < a.1) : insH (A ++ B) x = insH A x ++ B := by
  induction A with
  | nil => obtain ⟨a, ha, _⟩ := h; cases ha
  | cons y t ih =>
    show insH (y :: (t ++ B)) x = insH (y :: t) x ++ B
    unfold insH
    by_cases e : x.1 < y.1
    · rw [if_pos e, if_pos e]; rfl
    · rw [if_neg e, if_neg e]
      obtain ⟨a, ha, hx⟩ := h
      rcases List.mem_cons.1 ha with rfl | ha
      · exact absurd hx e
      · rw [ih ⟨a, ha, hx⟩]; rfl
theorem ins_right {A B : List It} {x : It} (h : ∀ a ∈ A, ¬ x.1 < a.1) : insH (A ++ B) x = A ++ insH B x := by
  induction A with
  | nil => rfl
  | cons y t ih =>
    show insH (y :: (t ++ B)) x = y :: (t ++ insH B x)
    rw [insH, if_neg (h y (List.mem_cons_self ..)), ih fun a ha => h a (List.mem_cons_of_mem _ ha)]
theorem take_snoc {L : List It} {j : Nat} (hj : j < L.length) : L.take (j + 1) = L.take j ++ [L[j]] := List.take_succ_eq_append_getElem hj
/-- What has been laid of L and x behind j items. -/
def LaidR (L : List It) (x : It) (j : Nat) (d : Bool) (out : List It) : Prop :=
  (d = true ∧ out = insH (L.take j) x ∧ ∃ a ∈ L.take j, x.1 < a.1) ∨ (d = false ∧ out = L.take j ∧ ∀ a ∈ L.take j, ¬ x.1 < a.1)
theorem laid_end {L : List It} {x : It} {d : Bool} {out : List It} (h : LaidR L x L.length d out) : (d = true → out = insH L x) ∧ (d = false → out ++ [x] = insH L x) := by
  rcases h with ⟨rfl, h1, _⟩ | ⟨rfl, h1, h2⟩
  · rw [List.take_length] at h1
    exact ⟨fun _ => h1, (fun e => by cases e)⟩
  · rw [List.take_length] at h1 h2
    refine ⟨(fun e => by cases e), fun _ => ?_⟩
    have := ins_right (B := []) h2
    rw [List.append_nil] at this
    rw [this, h1]; rfl
theorem laid_len {L : List It} {x : It} {j : Nat} {d : Bool} {out : List It} (h : LaidR L x j d out) (hj : j ≤ L.length) : out.length ≤ j + 1 := by
  rcases h with ⟨_, h1, _⟩ | ⟨_, h1, _⟩
  · rw [h1, ins_len, List.length_take]; omega
  · rw [h1, List.length_take]; omega
theorem laid_go {L : List It} {x : It} {j : Nat} {d : Bool} {out : List It} (h : LaidR L x j d out) (hj : j < L.length) (hd : d = true ∨ ¬ x.1 < L[j].1) : LaidR L x (j + 1) d (out ++ [L[j]]) := by
  rcases h with ⟨rfl, h1, a, ha, hx⟩ | ⟨rfl, h1, h2⟩
  · refine .inl ⟨rfl, ?_, a, ?_, hx⟩
    · rw [take_snoc hj, ins_left ⟨a, ha, hx⟩, h1]
    · rw [take_snoc hj]; exact List.mem_append_left _ ha
  · rcases hd with e | hd
    · cases e
    · refine .inr ⟨rfl, by rw [take_snoc hj, h1], fun a ha => ?_⟩
      rw [take_snoc hj] at ha
      rcases List.mem_append.1 ha with ha | ha
      · exact h2 a ha
      · rw [List.mem_singleton] at ha; subst ha; exact hd
theorem laid_in {L : List It} {x : It} {j : Nat} {out : List It} (h : LaidR L x j false out) (hj : j < L.length) (hd : x.1 < L[j].1) : LaidR L x (j + 1) true (out ++ [x] ++ [L[j]]) := by
  rcases h with ⟨e, _⟩ | ⟨_, h1, h2⟩
  · cases e
  · refine .inl ⟨rfl, ?_, L[j], ?_, hd⟩
    · rw [take_snoc hj, ins_right h2, h1, List.append_assoc]
      congr 1
      unfold insH
      rw [if_pos hd]
      rfl
    · rw [take_snoc hj]; exact List.mem_append_right _ (by simp)
end Go.Proofs.Ytminmcledbfchaa
