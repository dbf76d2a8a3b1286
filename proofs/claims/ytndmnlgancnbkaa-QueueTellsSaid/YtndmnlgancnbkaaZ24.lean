/- The document's own answers of layer 17: New; Layer 17: the program's queue and the document's own, side by side (QueueTells). -/
import Derived.Test.YtndmnlgancnbkaaZL
import Derived.Test.YtndmnlgancnbkaaZ00
import Derived.Test.YtndmnlgancnbkaaZ01
import Derived.Test.YtndmnlgancnbkaaZ02
import Derived.Test.YtndmnlgancnbkaaZ03
import Derived.Test.YtndmnlgancnbkaaZ05
import Derived.Test.YtndmnlgancnbkaaZ11
import Derived.Test.YtndmnlgancnbkaaZ14
import Derived.Test.YtndmnlgancnbkaaZ16
import Derived.Test.YtndmnlgancnbkaaZ18
import Derived.Test.YtndmnlgancnbkaaZ20
import Derived.Test.YtndmnlgancnbkaaZ21
import Derived.Test.YtndmnlgancnbkaaZ22
import Derived.Test.YtndmnlgancnbkaaZ23
namespace Go.Proofs.Ytndmnlgancnbkaa
open Go.RowKit Go.Lib
set_option linter.unusedVariables false
set_option linter.unusedSimpArgs false
theorem four17 {w : World} {g : Nat} {t : TypeId} {a b c d : Value} (h : Bk w g t #[a, b, c, d]) : w.cell? ⟨g, 0, none⟩ = some a ∧ w.cell? ⟨g, 1, none⟩ = some b ∧ w.cell? ⟨g, 2, none⟩ = some c ∧ w.cell? ⟨g, 3, none⟩ = some d := ⟨h.cell 0, h.cell 1, h.cell 2, h.cell 3⟩
abbrev AgQ (m g : Int) : Value := .agg #[.slice none 0 0, .int .i64 m, .int .i64 g, .slice none 0 0]
set_option maxRecDepth 100000 in
set_option maxHeartbeats 8000000 in
theorem rnew17_any (room age : Int) (w : World) (hr : Rel w w) :
    Calls Try.prog 11 #[.int .i64 room, .int .i64 age] w fun e w' => Hid (Rel w w') ∧ Hid (((1 ≤ room ∧ room ≤ 1000) ∧ (1 ≤ age ∧ age ≤ 1000) ∧ e = .returned (.tuple #[AgQ room age, .bool true])) ∨ (¬ ((1 ≤ room ∧ room ≤ 1000) ∧ 1 ≤ age ∧ age ≤ 1000) ∧ e = .returned (.tuple #[AgQ 0 0, .bool false]))) := by
  have HR := Lib.hid hr
  obtain ⟨b, r, hb⟩ : ∃ (b : Bool) (r : Int), (b = true ∧ r = room ∧ 1 ≤ room ∧ room ≤ 1000) ∨ (b = false ∧ r = 0 ∧ ¬ (1 ≤ room ∧ room ≤ 1000)) := by
    by_cases h : 1 ≤ room ∧ room ≤ 1000
    · exact ⟨true, room, .inl ⟨rfl, rfl, h⟩⟩
    · exact ⟨false, 0, .inr ⟨rfl, rfl, h⟩⟩
  have K0 := Lib.hid (fun (w1 : World) (hr : Rel w1 w1) => show Calls Try.prog 24 #[.int .i64 room] w1 fun e w' => e = .returned (.tuple #[.agg #[.slice none 0 0, .int .i64 r], .bool b]) ∧ Hid (Rel w1 w') from by
    refine (rnew16_any room w1 hr).mono ?_
    rintro e w' ⟨h1, h2⟩
    refine ⟨?_, h1⟩
    rcases h2.out with ⟨a1, a2, e⟩ | ⟨a, e⟩ <;> rcases hb with ⟨rfl, rfl, h3⟩ | ⟨rfl, rfl, h3⟩
    · exact e
    · exact absurd ⟨a1, a2⟩ h3
    · exact absurd h3 a
    · exact e)
  clear hr
  go_enter Try.func11, Try.ntmps11
  go_upto_region 1 with (fail)
  have AL := Lib.hid (HR.out.alloc (.cells #[.slice none 0 0, .int .i64 0, .int .i64 0, .slice none 0 0] 34))
  have BX := Lib.hid (Bk.new w 34 #[.slice none 0 0, .int .i64 0, .int .i64 0, .slice none 0 0])
  obtain ⟨w1, hw1⟩ : ∃ W, w.alloc (.cells #[.slice none 0 0, .int .i64 0, .int .i64 0, .slice none 0 0] 34) = W := ⟨_, rfl⟩
  obtain ⟨gx, hgx⟩ : ∃ q, w.heap.size = q := ⟨_, rfl⟩
  rw [hw1] at AL BX
  rw [hgx] at BX
  try rw [hw1]
  try rw [hgx]
  have Hgx := Lib.hid (show w.heap.size ≤ gx by rw [hgx]; exact Nat.le_refl _)
  clear hw1 hgx
  go_upto_region 2 with (go_at_call 24; (with_reducible refine (K0.out _ AL.out.self).mono ?_); rintro e w2 ⟨rfl, r2⟩)
  have R2 := Lib.hid (AL.out.trans r2.out)
  have R3 := Lib.hid (R2.out.alloc (.cells #[.slice none 0 0, .int .i64 r] 31))
  have BX3 := Lib.hid ((BX.out.rel r2.out).alloc (.cells #[.slice none 0 0, .int .i64 r] 31))
  have BY := Lib.hid (Bk.new w2 31 #[.slice none 0 0, .int .i64 r])
  obtain ⟨gy, hgy⟩ : ∃ q, w2.heap.size = q := ⟨_, rfl⟩
  obtain ⟨W, hW⟩ : ∃ W, w2.alloc (.cells #[.slice none 0 0, .int .i64 r] 31) = W := ⟨_, rfl⟩
  rw [hW] at R3 BX3 BY
  rw [hgy] at BY
  try rw [hW]
  try rw [hgy]
  clear hW hgy r2 R2 BX AL K0
  obtain ⟨⟨y0, y1⟩, _⟩ := BY.out.two
  have c0 : W.cell? ⟨gx, 0, none⟩ = some (.slice none 0 0) := BX3.out.cell 0
  have c1 : W.cell? ⟨gx, 1, none⟩ = some (.int .i64 0) := BX3.out.cell 1
  have c2 : W.cell? ⟨gx, 2, none⟩ = some (.int .i64 0) := BX3.out.cell 2
  have c3 : W.cell? ⟨gx, 3, none⟩ = some (.slice none 0 0) := BX3.out.cell 3
  have f0 := BX3.out.frozen 0
  have f1 := BX3.out.frozen 1
  have f2 := BX3.out.frozen 2
  have f3 := BX3.out.frozen 3
  have RX := Lib.hid (fun (a b c d : Value) => show Bk ((((W.setCell ⟨gx, 0, none⟩ a).setCell ⟨gx, 1, none⟩ b).setCell ⟨gx, 2, none⟩ c).setCell ⟨gx, 3, none⟩ d) gx 34 #[a, b, c, d] from (((BX3.out.set_ 0 a).set_ 1 b).set_ 2 c).set_ 3 d)
  have RR := Lib.hid (fun (a b c d : Value) => (((R3.out.setCell (p := ⟨gx, 0, none⟩) Hgx.out a).setCell (p := ⟨gx, 1, none⟩) Hgx.out b).setCell (p := ⟨gx, 2, none⟩) Hgx.out c).setCell (p := ⟨gx, 3, none⟩) Hgx.out d)
  have hw : (b = false ∧ r = 0 ∧ ¬ (1 ≤ room ∧ room ≤ 1000)) ∨ (b = true ∧ age < 1) ∨ (b = true ∧ ¬ age < 1 ∧ 1000 < age) ∨ (b = true ∧ ¬ age < 1 ∧ ¬ 1000 < age ∧ r = room ∧ 1 ≤ room ∧ room ≤ 1000) := by
    rcases hb with ⟨a, b, c⟩ | ⟨a, b, c⟩
    · by_cases h1 : age < 1
      · exact .inr (.inl ⟨a, h1⟩)
      · by_cases h2 : 1000 < age
        · exact .inr (.inr (.inl ⟨a, h1, h2⟩))
        · exact .inr (.inr (.inr ⟨a, h1, h2, b, c⟩))
    · exact .inl ⟨a, b, c⟩
  clear hb
  rcases hw with ⟨rfl, rfl, h1⟩ | ⟨rfl, h1⟩ | ⟨rfl, h1, h2⟩ | ⟨rfl, h1, h2, rfl, h3⟩
  · have HB := Lib.hid h1
    clear h1
    go_wp2_with (fail)
    obtain ⟨z0, z1, z2, z3⟩ := four17 (RX.out (.slice none 0 0) (.int .i64 0) (.int .i64 0) (.slice none 0 0))
    exact bodyPost_ret (v := .tuple #[AgQ 0 0, .bool false]) (by simp [results, Try.results11, go_sem, z0, z1, z2, z3]) rfl ⟨Lib.hid (RR.out _ _ _ _), Lib.hid (.inr ⟨fun h => HB.out h.1, rfl⟩)⟩
  · have HB := Lib.hid h1
    go_wp2_with (fail)
    obtain ⟨z0, z1, z2, z3⟩ := four17 (RX.out (.slice none 0 0) (.int .i64 0) (.int .i64 0) (.slice none 0 0))
    exact bodyPost_ret (v := .tuple #[AgQ 0 0, .bool false]) (by simp [results, Try.results11, go_sem, z0, z1, z2, z3]) rfl ⟨Lib.hid (RR.out _ _ _ _), Lib.hid (.inr ⟨fun h => by have := HB.out; omega, rfl⟩)⟩
  · have HB := Lib.hid h2
    have d1 : decide (age < 1) = false := decide_eq_false h1
    have d2 : decide (1000 < age) = true := decide_eq_true h2
    clear h1 h2
    go_wp2_with (fail)
    obtain ⟨z0, z1, z2, z3⟩ := four17 (RX.out (.slice none 0 0) (.int .i64 0) (.int .i64 0) (.slice none 0 0))
    exact bodyPost_ret (v := .tuple #[AgQ 0 0, .bool false]) (by simp [results, Try.results11, go_sem, z0, z1, z2, z3]) rfl ⟨Lib.hid (RR.out _ _ _ _), Lib.hid (.inr ⟨fun h => by have := HB.out; omega, rfl⟩)⟩
  · have HB := Lib.hid (show 1 ≤ age ∧ age ≤ 1000 by omega)
    have H3 := Lib.hid h3
    have d1 : decide (age < 1) = false := decide_eq_false h1
    have d2 : decide (1000 < age) = false := decide_eq_false h2
    clear h1 h2 h3
    go_wp2_with (fail)
    obtain ⟨z0, z1, z2, z3⟩ := four17 (RX.out (.slice none 0 0) (.int .i64 r) (.int .i64 age) (.slice none 0 0))
    exact bodyPost_ret (v := .tuple #[AgQ r age, .bool true]) (by simp [results, Try.results11, go_sem, z0, z1, z2, z3]) rfl ⟨Lib.hid (RR.out _ _ _ _), Lib.hid (.inl ⟨H3.out, HB.out, rfl⟩)⟩
end Go.Proofs.Ytndmnlgancnbkaa

namespace Go.Proofs.Ytndmnlgancnbkaa
open Go.RowKit Go.Lib
set_option linter.unusedVariables false
set_option linter.unusedSimpArgs false
def Quo (QP : QpT) (v : Value) (p : Nat) (m g : Int) (L : List It) (D : List Int) (L2 : List It) (D2 : List Int) (w0 w : World) (T : Nat → Prop) : Prop :=
  Duo2 (fun w S => QP w v S m g L D) (fun w S => RqP w (.pointer (some ⟨p, 0, none⟩)) S m g L2 D2) w0 w T
section
variable {QP : QpT} (H : QueueOk QP) {w0 w w' : World} {v : Value} {p : Nat} {T : Nat → Prop} {m g : Int} {L L2 L' : List It} {D D2 D' : List Int}
theorem Quo.rel (h : Quo QP v p m g L D L2 D2 w0 w T) : Rel w0 w := Duo2.rel h
theorem keepyR (v : Value) (m g : Int) (L : List It) (D : List Int) : Keepy (fun w S => RqP w v S m g L D) := ⟨fun h => h.lt, fun h a b => h.keep a b⟩
theorem Quo.inv (h : Quo QP v p m g L D L2 D2 w0 w T) : QInv m g L2 D2 := by
  obtain ⟨S, S2, _, _, h2, _⟩ := Duo2.ex h
  obtain ⟨_, _, _, _, _, _, _, hi⟩ := h2
  exact hi
/-- Who is dirty, in the document's own. -/
theorem Quo.dirt (h : Quo QP v p m g L D L2 D2 w0 w T) : ∃ (A : Option Addr) (c : Nat), w.cell? ⟨p, 3, none⟩ = some (.slice A D2.length c) ∧ Nums w A c D2 := by
  obtain ⟨S, S2, _, _, h2, _⟩ := Duo2.ex h
  obtain ⟨q, u, A, c, e, _, hq, _⟩ := h2
  injection e with e
  injection e with e
  injection e with e _ _
  subst e
  exact ⟨A, c, (hq.cell h.rel.self).2, hq.nu.1⟩
include H
theorem keepyP (v : Value) (m g : Int) (L : List It) (D : List Int) : Keepy (fun w S => QP w v S m g L D) := ⟨fun h => H.lt h, fun h => H.keep h⟩
theorem Quo.to (h : Quo QP v p m g L D L2 D2 w0 w T) (hr : Rel w w') : Quo QP v p m g L D L2 D2 w0 w' T := Duo2.to h (keepyP H ..) (keepyR ..) hr
theorem Quo.put (h : Quo QP v p m g L D L2 D2 w0 w T) {a : Addr} (hp : ¬ T a.block) (hn : w0.heap.size ≤ a.block) (u : Value) : Quo QP v p m g L D L2 D2 w0 (w.setCell a u) T := Duo2.put h (keepyP H ..) (keepyR ..) hp hn u
theorem Quo.box (h : Quo QP v p m g L D L2 D2 w0 w T) (t : TypeId) (cs : Array Value) : Bx T (w.alloc (.cells cs t)) w.heap.size t cs := Bx.two h (keepyP H ..) (keepyR ..) t cs
theorem quo_wantP (h : Quo QP v p m g L D L2 D2 w0 w T) {s x t E : Int} (hs : i64 s) (hx : i64 x) (ht : i64 t) (hE : wantE m g L s x t = E) (hL : wantL m g L s x t = L') (hD : wantD m g L D s x t = D') :
    Calls Try.prog 12 #[v, .int .i64 s, .int .i64 x, .int .i64 t] w fun e w' => ∃ T', e = .returned (.int .i64 E) ∧ Hid (Quo QP v p m g L' D' L2 D2 w0 w' T') ∧ Hid (St T T' w w') := by
  refine two_fst h (keepyR ..) fun S hp => ?_
  refine (H.want s x t h.rel.self hp hs hx ht).mono ?_
  rw [hE, hL, hD]
  rintro e w' ⟨he, S', h1, h2⟩
  exact ⟨he, S', h1, h2⟩
theorem quo_wantR (h : Quo QP v p m g L D L2 D2 w0 w T) {s x t E : Int} (hE : wantE m g L2 s x t = E) (hL : wantL m g L2 s x t = L') (hD : wantD m g L2 D2 s x t = D') :
    Calls Try.prog 13 #[.pointer (some ⟨p, 0, none⟩), .int .i64 s, .int .i64 x, .int .i64 t] w fun e w' => ∃ T', e = .returned (.int .i64 E) ∧ Hid (Quo QP v p m g L D L' D' w0 w' T') ∧ Hid (St T T' w w') := by
  refine two_snd h (keepyP H ..) fun S hp => ?_
  refine (rwant17 s x t h.rel.self hp).mono ?_
  rw [hE, hL, hD]
  rintro e w' ⟨he, S', h1, h2⟩
  exact ⟨he, S', h1, h2⟩
theorem quo_nextP (h : Quo QP v p m g L D L2 D2 w0 w T) {t x : Int} {b : Bool} (ht : i64 t) (hx : (itH (topH L)).1 = x) (hb : (topH L).isSome = b) (hL : (nextQ m t L D).1 = L') (hD : (nextQ m t L D).2 = D') :
    Calls Try.prog 14 #[v, .int .i64 t] w fun e w' => ∃ T', e = .returned (.tuple #[.int .i64 x, .bool b]) ∧ Hid (Quo QP v p m g L' D' L2 D2 w0 w' T') ∧ Hid (St T T' w w') := by
  refine two_fst h (keepyR ..) fun S hp => ?_
  refine (H.next t h.rel.self hp ht).mono ?_
  rw [hx, hb, hL, hD]
  rintro e w' ⟨he, S', h1, h2⟩
  exact ⟨he, S', h1, h2⟩
theorem quo_nextR (h : Quo QP v p m g L D L2 D2 w0 w T) {t x : Int} {b : Bool} (ht : i64 t) (hx : (itH (topH L2)).1 = x) (hb : (topH L2).isSome = b) (hL : (nextQ m t L2 D2).1 = L') (hD : (nextQ m t L2 D2).2 = D') :
    Calls Try.prog 15 #[.pointer (some ⟨p, 0, none⟩), .int .i64 t] w fun e w' => ∃ T', e = .returned (.tuple #[.int .i64 x, .bool b]) ∧ Hid (Quo QP v p m g L D L' D' w0 w' T') ∧ Hid (St T T' w w') := by
  refine two_snd h (keepyP H ..) fun S hp => ?_
  refine (rnext17 t h.rel.self hp ht).mono ?_
  rw [hx, hb, hL, hD]
  rintro e w' ⟨he, S', h1, h2⟩
  exact ⟨he, S', h1, h2⟩
theorem quo_dropP (h : Quo QP v p m g L D L2 D2 w0 w T) {s : Int} {b : Bool} (hs : i64 s) (hb : dropB L D s = b) (hL : remH L s = L') (hD : remD D s = D') :
    Calls Try.prog 16 #[v, .int .i64 s] w fun e w' => ∃ T', e = .returned (.bool b) ∧ Hid (Quo QP v p m g L' D' L2 D2 w0 w' T') ∧ Hid (St T T' w w') := by
  refine two_fst h (keepyR ..) fun S hp => ?_
  refine (H.drop s h.rel.self hp hs).mono ?_
  rw [hb, hL, hD]
  rintro e w' ⟨he, S', h1, h2⟩
  exact ⟨he, S', h1, h2⟩
theorem quo_dropR (h : Quo QP v p m g L D L2 D2 w0 w T) {s : Int} {b : Bool} (hb : dropB L2 D2 s = b) (hL : remH L2 s = L') (hD : remD D2 s = D') :
    Calls Try.prog 17 #[.pointer (some ⟨p, 0, none⟩), .int .i64 s] w fun e w' => ∃ T', e = .returned (.bool b) ∧ Hid (Quo QP v p m g L D L' D' w0 w' T') ∧ Hid (St T T' w w') := by
  refine two_snd h (keepyP H ..) fun S hp => ?_
  refine (rdrop17 s h.rel.self hp).mono ?_
  rw [hb, hL, hD]
  rintro e w' ⟨he, S', h1, h2⟩
  exact ⟨he, S', h1, h2⟩
theorem quo_waitP (h : Quo QP v p m g L D L2 D2 w0 w T) {n : Nat} {W : List Int} (hn : L.length = n) (hW : keysQ L = W) :
    Calls Try.prog 19 #[v] w fun e w' => ∃ (A : Option Addr) (c : Nat), e = .returned (.slice A n c) ∧ Hid (Quo QP v p m g L D L2 D2 w0 w' T) ∧ Hid (Nums w' A c W) ∧ Hid (Rel w w') := by
  rw [← hn, ← hW]
  obtain ⟨S, S2, hT, h1, h2, h3⟩ := Duo2.ex h
  refine (H.waiting h.rel.self h1).mono ?_
  rintro e w' ⟨A, c, he, hN, _, hr⟩
  exact ⟨A, c, he, Lib.hid (Quo.to H h hr), Lib.hid hN, Lib.hid hr⟩
theorem quo_waitR (h : Quo QP v p m g L D L2 D2 w0 w T) {n : Nat} {W : List Int} (hn : L2.length = n) (hW : keysQ L2 = W) :
    Calls Try.prog 20 #[.pointer (some ⟨p, 0, none⟩)] w fun e w' => ∃ (A : Option Addr) (c : Nat), e = .returned (.slice A n c) ∧ Hid (Quo QP v p m g L D L2 D2 w0 w' T) ∧ Hid (Nums w' A c W) ∧ Hid (Rel w w') := by
  rw [← hn, ← hW]
  obtain ⟨S, S2, hT, h1, h2, h3⟩ := Duo2.ex h
  refine (rwaiting17 h.rel.self h2).mono ?_
  rintro e w' ⟨A, c, he, hN, hr⟩
  exact ⟨A, c, he, Lib.hid (Quo.to H h hr), Lib.hid hN, Lib.hid hr⟩
theorem quo_dirtyP (h : Quo QP v p m g L D L2 D2 w0 w T) {n : Nat} (hn : D.length = n) :
    Calls Try.prog 21 #[v] w fun e w' => ∃ (A : Option Addr) (c : Nat), e = .returned (.slice A n c) ∧ Hid (Quo QP v p m g L D L2 D2 w0 w' T) ∧ Hid (Nums w' A c D) ∧ Hid (Rel w w') := by
  rw [← hn]
  obtain ⟨S, S2, hT, h1, h2, h3⟩ := Duo2.ex h
  refine (H.dirty h.rel.self h1).mono ?_
  rintro e w' ⟨A, c, he, hN, _, hr⟩
  exact ⟨A, c, he, Lib.hid (Quo.to H h hr), Lib.hid hN, Lib.hid hr⟩
end
/-- A new one of the document's own, in a block of the law's. -/
theorem rq_new {w : World} {gx : Nat} {m g : Int} (hb : Bk w gx 34 #[.slice none 0 0, .int .i64 m, .int .i64 g, .slice none 0 0]) (hm : 0 ≤ m) (hm' : m ≤ 1000) (hg : g ≤ 1000) :
    RqP w (.pointer (some ⟨gx, 0, none⟩)) (fun k => k = gx) m g [] [] := by
  refine ⟨gx, .slice none 0 0, none, 0, rfl, ?_, ⟨⟨hb, RowOwn.nil _ _ _, by decide, srt_nil, (fun z hz => absurd hz List.not_mem_nil), Nat.zero_le _⟩, ⟨⟨Nat.le_refl _, Nat.zero_le _, (fun z hz => absurd hz List.not_mem_nil), fun i hi => absurd hi (Nat.not_lt_zero i)⟩, fun a ha => by cases ha⟩, ups_nil, (fun d hd => absurd hd List.not_mem_nil)⟩, QInv.nil hm hm' hg⟩
  funext k
  refine propext ⟨fun e => .inl (.inl e), fun e => ?_⟩
  rcases e with (e | e) | ⟨a, ha, _⟩
  · exact e
  · cases e
  · cases ha
end Go.Proofs.Ytndmnlgancnbkaa
