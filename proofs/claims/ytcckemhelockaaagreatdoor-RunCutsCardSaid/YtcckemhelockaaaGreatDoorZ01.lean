/- Expressions in memory, and the law's source of raw numbers; Names as the law of layer 6 makes them; What the law makes of raw numbers: its expressions, in memory; A load that may be taken first, although the region writes the cell behind it: what is held of the world is asked behind those operations alone that do not wait for the load; The law's Strategy; Plain mathematics of layer 10: strategies as instructions. No program in this text; Plain mathematics of layer 10: which code may be; what is compiled may; where it leads. No program in this text; Plain mathematics of layer 10: code as lines; unlike code that may be has unlike lines. No program in this text; Instructions in memory: to be read, and of the call's own; appending them; Plain mathematics of layer 9: offers, and prices in rising order. No program in this text. -/
import Derived.Test.YtcckemhelockaaaGreatDoorZL
import Derived.Test.YtcckemhelockaaaGreatDoorZ00
namespace Go.Proofs.YtcckemhelockaaaGreatDoor
open Go.RowKit Go.Lib
set_option linter.unusedVariables false
set_option linter.unusedSimpArgs false
/-- An expression as its row holds it: kind, number, name, and the slice of its arguments. -/
abbrev El := Int × Int × List UInt8 × Option Addr × Nat × Nat
abbrev EV (e : El) : Value := .agg #[.int .i64 e.1, .int .i64 e.2.1, .string (B e.2.2.1), .slice e.2.2.2.1 e.2.2.2.2.1 e.2.2.2.2.2]
def cellsE (e : El) : List Value := [.int .i64 e.1, .int .i64 e.2.1, .string (B e.2.2.1), .slice e.2.2.2.1 e.2.2.2.2.1 e.2.2.2.2.2]
def cellsEs (es : List El) : List Value := es.flatMap cellsE
theorem cellsEs_snoc (es : List El) (e : El) : cellsEs (es ++ [e]) = cellsEs es ++ cellsE e := by simp [cellsEs]
theorem cellsEs_at (es : List El) (i : Nat) (h : i < es.length) :
    (cellsEs es)[i * 4]? = some (.int .i64 es[i].1) ∧ (cellsEs es)[i * 4 + 1]? = some (.int .i64 es[i].2.1) ∧ (cellsEs es)[i * 4 + 2]? = some (.string (B es[i].2.2.1)) ∧ (cellsEs es)[i * 4 + 3]? = some (.slice es[i].2.2.2.1 es[i].2.2.2.2.1 es[i].2.2.2.2.2) := by
  induction es generalizing i with
  | nil => simp at h
  | cons e t ih =>
    have hc : cellsEs (e :: t) = cellsE e ++ cellsEs t := rfl
    cases i with
    | zero => rw [hc]; exact ⟨rfl, rfl, rfl, rfl⟩
    | succ i =>
      obtain ⟨h1, h2, h3, h4⟩ := ih i (by simpa using h)
      have l4 : (cellsE e).length = 4 := rfl
      refine ⟨?_, ?_, ?_, ?_⟩
      · rw [hc, List.getElem?_append_right (by omega), show (i + 1) * 4 - (cellsE e).length = i * 4 by omega]; exact h1
      · rw [hc, List.getElem?_append_right (by omega), show (i + 1) * 4 + 1 - (cellsE e).length = i * 4 + 1 by omega]; exact h2
      · rw [hc, List.getElem?_append_right (by omega), show (i + 1) * 4 + 2 - (cellsE e).length = i * 4 + 2 by omega]; exact h3
      · rw [hc, List.getElem?_append_right (by omega), show (i + 1) * 4 + 3 - (cellsE e).length = i * 4 + 3 by omega]; exact h4
/-- The cells from A on are these; their block is one of S. -/
def RowE (S : Nat → Prop) (w : World) (A : Option Addr) (es : List El) : Prop :=
  ∀ i (h : i < es.length), ∃ (g off : Nat), A = some ⟨g, off, none⟩ ∧ g < w.heap.size ∧ S g ∧ w.cell? ⟨g, off + i * 4, none⟩ = some (.int .i64 es[i].1) ∧ w.cell? ⟨g, off + i * 4 + 1, none⟩ = some (.int .i64 es[i].2.1) ∧
    w.cell? ⟨g, off + i * 4 + 2, none⟩ = some (.string (B es[i].2.2.1)) ∧ w.cell? ⟨g, off + i * 4 + 3, none⟩ = some (.slice es[i].2.2.2.1 es[i].2.2.2.2.1 es[i].2.2.2.2.2)
theorem RowE.mono {S S' : Nat → Prop} {w w' : World} {A : Option Addr} {es : List El} (h : RowE S w A es) (hs : w.heap.size ≤ w'.heap.size) (hm : ∀ g, S g → g < w.heap.size → S' g ∧ w'.heap[g]? = w.heap[g]?) : RowE S' w' A es := by
  intro i hi
  obtain ⟨g, off, e, hl, hS, h0, h1, h2, h3⟩ := h i hi
  obtain ⟨hS', hb⟩ := hm g hS hl
  have hk : ∀ j, w'.cell? ⟨g, j, none⟩ = w.cell? ⟨g, j, none⟩ := fun j => World.cell?_of_block (a := ⟨g, j, none⟩) hb
  exact ⟨g, off, e, by omega, hS', by rw [hk]; exact h0, by rw [hk]; exact h1, by rw [hk]; exact h2, by rw [hk]; exact h3⟩
def i64 (n : Int) : Prop := -9223372036854775808 ≤ n ∧ n ≤ 9223372036854775807
/-- In this world an element is this expression. -/
inductive ExAt (S : Nat → Prop) (w : World) : El → Ex → Prop where
  | mk (k n : Int) (nm : List UInt8) (A : Option Addr) (c : Nat) (l : List Ex) (es : List El) (hk : i64 k) (hn : i64 n) (hm : nm.length ≤ 100) (hl : es.length = l.length) (hrow : RowE S w A es)
      (hsub : ∀ i (h : i < es.length) (h' : i < l.length), ExAt S w es[i] l[i]) : ExAt S w (k, n, nm, A, l.length, c) (.mk k n nm l)
theorem ExAt.mono {S S' : Nat → Prop} {w w' : World} (hs : w.heap.size ≤ w'.heap.size) (hm : ∀ g, S g → g < w.heap.size → S' g ∧ w'.heap[g]? = w.heap[g]?) {e : El} {x : Ex} (h : ExAt S w e x) : ExAt S' w' e x := by
  induction h with
  | mk k n nm A c l es hk hn hm' hl hrow hsub ih => exact .mk k n nm A c l es hk hn hm' hl (hrow.mono hs hm) ih
theorem ExAt.rel {S : Nat → Prop} {w w' : World} {e : El} {x : Ex} (h : ExAt S w e x) (hr : Rel w w') : ExAt S w' e x := h.mono hr.size fun g hS hl => ⟨hS, hr.2.block g hl⟩
/-- What an element is, opened. -/
theorem ExAt.open {S : Nat → Prop} {w : World} {k n : Int} {nm : List UInt8} {l : List Ex} {e : El} (h : ExAt S w e (.mk k n nm l)) : ∃ A c es, e = (k, n, nm, A, l.length, c) ∧ i64 k ∧ i64 n ∧ nm.length ≤ 100 ∧ es.length = l.length ∧ RowE S w A es ∧ ∀ i (h : i < es.length) (h' : i < l.length), ExAt S w es[i] l[i] := by
  cases h with
  | mk k n nm A c l es hk hn hm hl hrow hsub => exact ⟨A, c, es, rfl, hk, hn, hm, hl, hrow, hsub⟩
theorem RowE.nil (S : Nat → Prop) (w : World) (A : Option Addr) : RowE S w A [] := fun i h => absurd h (by simp)
theorem ExAt.leaf (S : Nat → Prop) (w : World) (k n : Int) (nm : List UInt8) (A : Option Addr) (c : Nat) (hk : i64 k) (hn : i64 n) (hm : nm.length ≤ 100) : ExAt S w (k, n, nm, A, 0, c) (.mk k n nm []) :=
  .mk k n nm A c [] [] hk hn hm rfl (RowE.nil _ _ _) fun i h => absurd h (by simp)
theorem ExAt.grown {S S' : Nat → Prop} {w w' : World} {b : Option Nat} {e : El} {x : Ex} (h : ExAt S w e x) (hg : w.grownBy w' b) (hS : ∀ k, S k → S' k ∧ some k ≠ b) : ExAt S' w' e x := h.mono hg.size fun k hk hl => ⟨(hS k hk).1, hg.block k hl (hS k hk).2⟩
theorem RowE.of_bk {S : Nat → Prop} {w : World} {g : Nat} {es : List El} (h : Bk w g 38 (cellsEs es).toArray) (hS : S g) : RowE S w (some ⟨g, 0, none⟩) es := by
  intro i hi
  obtain ⟨c0, c1, c2, c3⟩ := cellsEs_at es i hi
  refine ⟨g, 0, rfl, h.lt, hS, ?_, ?_, ?_, ?_⟩
  · rw [Nat.zero_add, h.cell, List.getElem?_toArray]; exact c0
  · rw [Nat.zero_add, h.cell, List.getElem?_toArray]; exact c1
  · rw [Nat.zero_add, h.cell, List.getElem?_toArray]; exact c2
  · rw [Nat.zero_add, h.cell, List.getElem?_toArray]; exact c3
theorem ExAt.two {S : Nat → Prop} {w : World} {k n : Int} {nm : List UInt8} {g c : Nat} {a b : El} {x y : Ex} (hk : i64 k) (hn : i64 n) (hm : nm.length ≤ 100) (h : Bk w g 38 (cellsEs [a, b]).toArray) (hS : S g) (hx : ExAt S w a x) (hy : ExAt S w b y) :
    ExAt S w (k, n, nm, some ⟨g, 0, none⟩, 2, c) (.mk k n nm [x, y]) :=
  .mk k n nm _ c [x, y] [a, b] hk hn hm rfl (RowE.of_bk h hS) fun i h h' => by
    match i, h, h' with
    | 0, _, _ => exact hx
    | 1, _, _ => exact hy
/-- A slice of expressions of the call's own. -/
def ElsOwn (w : World) (base : Nat) (v : Value) (es : List El) : Prop := w.ownsRow base 38 4 v es.length (cellsEs es)
theorem ElsOwn.row {w : World} {base : Nat} {v : Value} {es : List El} (h : ElsOwn w base v es) : w.ownsRow base 38 4 v es.length (cellsEs es) := h
theorem ElsOwn.nil (w : World) (base : Nat) : ElsOwn w base (.slice none 0 0) [] := World.ownsRow_nil _ _ _ _
theorem ElsOwn.more {w1 : World} {base g cap : Nat} {es : List El} {e : El}
    (hown1 : w1.ownsRow base 38 4 (.slice (some ⟨g, 0, none⟩) (es.length + 1) cap) (es.length + 1) (cellsEs es ++ cellsE e)) : ElsOwn w1 base (.slice (some ⟨g, 0, none⟩) (es.length + 1) cap) (es ++ [e]) := by
  unfold ElsOwn
  rw [cellsEs_snoc, show (es ++ [e]).length = es.length + 1 by simp]; exact hown1
/-- The source at g has these raw numbers left. -/
def SrcAt (w : World) (g : Nat) (L : List Int) : Prop :=
  ∃ (A : Option Addr) (c : Nat), Bk w g 71 #[.slice A L.length c] ∧ L.length ≤ c ∧ c ≤ maxLen ∧ (∀ z ∈ L, i64 z) ∧ ∀ i (h : i < L.length), ∃ a : Addr, A = some a ∧ a.block < g ∧ w.cell? (a.add i) = some (.int .i64 L[i])
theorem SrcAt.grown {w w' : World} {g : Nat} {L : List Int} (h : SrcAt w g L) {b : Option Nat} (hg : w.grownBy w' b) (hb : ∀ k, b = some k → g < k) : SrcAt w' g L := by
  obtain ⟨A, c, hbk, h1, h2, h3, h4⟩ := h
  have hgl := hbk.lt
  refine ⟨A, c, hbk.grown hg (fun e => by have := hb g e.symm; omega), h1, h2, h3, fun i hi => ?_⟩
  obtain ⟨a, e, hl, hc⟩ := h4 i hi
  refine ⟨a, e, hl, ?_⟩
  have hk : w'.heap[(a.add i).block]? = w.heap[(a.add i).block]? := by rw [block_add]; exact hg.block _ (by omega) (fun e => by have := hb _ e.symm; omega)
  exact (World.cell?_of_block hk).trans hc
theorem grown_rel {w w' : World} (r : Option Nat) (h : Rel w w') : w.grownBy w' r := ⟨h.2.os, h.2.tape, h.2.output, h.2.size, fun k hk _ => h.2.block k hk⟩
theorem SrcAt.rel {w w' : World} {g : Nat} {L : List Int} (h : SrcAt w g L) (hr : Rel w w') : SrcAt w' g L := h.grown (grown_rel none hr) (fun k e => by cases e)
theorem SrcAt.lt {w : World} {g : Nat} {L : List Int} (h : SrcAt w g L) : g < w.heap.size := by
  obtain ⟨_, _, hb, _⟩ := h; exact hb.lt
end Go.Proofs.YtcckemhelockaaaGreatDoor

namespace Go.Proofs.YtcckemhelockaaaGreatDoor
open Go.RowKit Go.Lib
set_option linter.unusedVariables false
set_option linter.unusedSimpArgs false
theorem pick_as (c n y : Int) (h : Hid (pk c n = y)) (hc : -9223372036854775808 ≤ c) (hc' : c ≤ 9223372036854775807) (hn : 0 < n) (hn' : n ≤ 9223372036854775807) (w : World) :
    Calls Tryz.prog 39 #[.int .i64 c, .int .i64 n] w fun e w' => e = .returned (.int .i64 y) ∧ w = w' := by
  rw [← h.out]; exact pick_any c n hc hc' hn hn' w
theorem decimal_as (n : Int) (S : ByteArray) (h : Hid (B (decDigits n.toNat) = S)) (h0 : 0 ≤ n) (h1 : n ≤ 9223372036854775807) (w0 w : World) (hr : Rel w0 w) :
    Calls Tryz.prog 40 #[.int .i64 n] w fun e w' => e = .returned (.string S) ∧ Rel w0 w' := by
  rw [← h.out]; exact decimal_any n h0 h1 w0 w hr
def strCells (ls : List (List UInt8)) : Array Value := (ls.map fun l => Value.string (B l)).toArray
theorem str_cell {w : World} {g : Nat} {ls : List (List UInt8)} (h : Bk w g 9 (strCells ls)) (j : Nat) (hj : j < ls.length) : w.cell? ⟨g, j, none⟩ = some (.string (B (ls.getD j []))) := by
  rw [h.cell]
  unfold strCells
  rw [List.getElem?_toArray, List.getElem?_map, List.getElem?_eq_getElem hj, List.getD_eq_getElem?_getD, List.getElem?_eq_getElem hj]
  rfl
theorem nam_cell (w : World) (j : Nat) (hj : j < 6) : (w.alloc (.cells #[.string ⟨#[97]⟩, .string ⟨#[98, 111, 98]⟩, .string ⟨#[108, 111, 119, 101, 115]⟩, .string ⟨#[97, 99, 109, 101, 57]⟩, .string ⟨#[120, 49]⟩, .string ⟨#[101, 108, 115, 101, 101]⟩] 9)).cell? ⟨w.heap.size, j, none⟩ = some (.string (B (theNames.getD j []))) :=
  str_cell (ls := theNames) (Bk.new w 9 (strCells theNames)) j hj
theorem nam_after {w w' : World} (hr : Rel (w.alloc (.cells #[.string ⟨#[97]⟩, .string ⟨#[98, 111, 98]⟩, .string ⟨#[108, 111, 119, 101, 115]⟩, .string ⟨#[97, 99, 109, 101, 57]⟩, .string ⟨#[120, 49]⟩, .string ⟨#[101, 108, 115, 101, 101]⟩] 9)).drew w') (j : Nat) (hj : j < 6) (X : ByteArray) (hX : B (theNames.getD j []) = X) : w'.cell? ⟨w.heap.size, j, none⟩ = some (.string X) := by
  rw [← hX]
  exact str_cell (ls := theNames) (Bk.rel (w := (w.alloc (.cells (strCells theNames) 9)).drew) (Bk.new w 9 (strCells theNames)) hr) j hj
set_option maxHeartbeats 1000000 in
theorem seller_any (n : Int) (h0 : -9223372036854775808 ≤ n) (h1 : n ≤ 9223372036854775807) (w0 w : World) (hr : Rel w0 w) :
    Calls Tryz.prog 23 #[.int .i64 n] w fun e w' => e = .returned (.string (B (sellerL (pk n 60)))) ∧ Rel w0 w' := by
  have hb := pk_bd n 60 (by omega)
  obtain ⟨u, hu⟩ : ∃ u, pk n 60 = u := ⟨_, rfl⟩
  rw [hu] at hb ⊢
  have HU := Lib.hid hu
  obtain ⟨u0, u1⟩ := hb
  have t6 := tdt u 6 (by omega)
  obtain ⟨a, ha⟩ : ∃ a : Nat, u.tmod 6 = (a : Int) := ⟨(u.tmod 6).toNat, by omega⟩
  obtain ⟨b, hq'⟩ : ∃ b : Nat, u.tdiv 6 = (b : Int) := ⟨(u.tdiv 6).toNat, by omega⟩
  have hq : IntKind.i64.wrap (u.tdiv 6) = (b : Int) := by rw [hq']; exact IntWalk.i64_in _ (by omega)
  have a6 : a < 6 := by omega
  have a6' : (a : Int) < 6 := by omega
  have b9 : (b : Int) ≤ 10 := by omega
  obtain ⟨X, hX⟩ : ∃ X, B (theNames.getD a []) = X := ⟨_, rfl⟩
  have hc := fun w => nam_cell w a a6
  obtain ⟨D, hD⟩ : ∃ D, B (decDigits ((b : Int)).toNat) = D := ⟨_, rfl⟩
  have HD := Lib.hid hD
  have z1 : X.size ≤ 5 := by rw [← hX, B_size]; exact names_len ⟨a, a6⟩
  have z2 : D.size ≤ 19 := by rw [← hD]; exact dd_size _ (by omega)
  have z3 : ¬ 9223372036854775807 < X.size + D.size := by omega
  have HF := Lib.hid (show X ++ D = B (sellerL u) by
    unfold sellerL
    rw [← hX, ← hD, B_append, show u % 6 = (a : Int) by omega, show u / 6 = (b : Int) by omega]; rfl)
  have HX := Lib.hid hX
  rw [hX] at hc
  have HR := Lib.hid hr
  clear hu hX hD t6 hq'
  go_enter Tryz.func23, Tryz.ntmps23
  go_wp2_with (go_at_call 39; (with_reducible refine (pick_as n 60 u HU h0 h1 (by omega) (by omega) _).mono ?_); rintro e w' ⟨rfl, rfl⟩)
  have HS := Lib.hid hr.self
  go_region_law (rw [if_pos (by rfl)]; go_simp; go_at_call 40; (with_reducible refine (decimal_as (b : Int) D HD (by omega) (by omega) _ _ (by first | exact HS.out.drew.self | exact (HS.out.drew.alloc _).self | exact ((HS.out.alloc _).drew).self)).mono ?_); rintro e w' ⟨rfl, hr'⟩; try (have cx := nam_after hr' a a6 X HX.out))
  all_goals
    go_wp2_with (fail)
    go_ret
    refine ⟨ret_str HF.out, ?_⟩
    first
      | exact (HR.out.alloc _).drew.trans hr'
      | exact (HR.out.drew.trans hr').alloc _
end Go.Proofs.YtcckemhelockaaaGreatDoor

namespace Go.Proofs.YtcckemhelockaaaGreatDoor
open Go.RowKit Go.Lib
set_option linter.unusedVariables false
set_option linter.unusedSimpArgs false
theorem kinds (k : Int) : (k = 1 ∨ k = 2 ∨ k = 3 ∨ k = 4 ∨ k = 5 ∨ k = 6 ∨ k = 7 ∨ k = 8 ∨ k = 9 ∨ k = 10 ∨ k = 11 ∨ k = 12) ∨
    ((k == 1) = false ∧ (k == 2) = false ∧ (k == 3) = false ∧ (k == 4) = false ∧ (k == 5) = false ∧ (k == 6) = false ∧ (k == 7) = false ∧ (k == 8) = false ∧ (k == 9) = false ∧ (k == 10) = false ∧ (k == 11) = false ∧ (k == 12) = false ∧ argsN k = -1 ∧ mostN k = 0 ∧ isCond k = false) := by
  by_cases h : k = 1 ∨ k = 2 ∨ k = 3 ∨ k = 4 ∨ k = 5 ∨ k = 6 ∨ k = 7 ∨ k = 8 ∨ k = 9 ∨ k = 10 ∨ k = 11 ∨ k = 12
  · exact .inl h
  · refine .inr ⟨?_, ?_, ?_, ?_, ?_, ?_, ?_, ?_, ?_, ?_, ?_, ?_, ?_, ?_, ?_⟩
    iterate 12 (· simp; omega)
    · unfold argsN; rw [if_neg (by omega), if_neg (by omega), if_neg (by omega), if_neg (by omega)]
    · unfold mostN; rw [if_neg (by omega), if_neg (by omega), if_neg (by omega)]
    · unfold isCond; simp; omega
end Go.Proofs.YtcckemhelockaaaGreatDoor

namespace Go.Proofs.YtcckemhelockaaaGreatDoor
open Go
set_option linter.unusedVariables false
set_option linter.unusedSimpArgs false
section
variable {P : Program} {ops : Array Oper} {Q : Exit → Act → World → Prop} {md : Region.Mode} {S : World → Prop}
/-- Does operation j wait for i itself? -/
def waitsB (md : Region.Mode) (ops : Array Oper) (j i : Nat) : Bool := ((ops[j]?).map fun o => o.after.any fun e => Region.binds md e && (e.on == i)).getD false
/-- Whatever order is picked from here on; behind what does not wait for i, S holds. -/
def wpTill (P : Program) (md : Region.Mode) (ops : Array Oper) (Q : Exit → Act → World → Prop) (S : World → Prop) (i : Nat) : Nat → Array Bool → Act → World → Prop
  | 0, listed, a, w => Region.ready md ops listed = [] ∧ Q .normal a w
  | fuel + 1, listed, a, w =>
    (Region.ready md ops listed = [] → Q .normal a w) ∧
    ∀ j ∈ Region.ready md ops listed, wpOp P ops Q j (fun a' w' => (waitsB md ops j i = false → S w') ∧ wpTill P md ops Q S i fuel (listed.setIfInBounds j true) a' w') a w
theorem any_of_till {i : Nat} : ∀ (fuel : Nat) (listed : Array Bool) (a : Act) (w : World), wpTill P md ops Q S i fuel listed a w → wpAny P md ops Q fuel listed a w
  | 0, _, _, _, h => h
  | fuel + 1, _, _, _, h => ⟨h.1, fun j hj => wpOp_mono (fun a' w' h' => any_of_till fuel _ a' w' h'.2) (h.2 j hj)⟩
theorem ready_iff {listed : Array Bool} {j : Nat} : j ∈ Region.ready md ops listed ↔ j < ops.size ∧ listed.getD j true = false ∧ ∃ o, ops[j]? = some o ∧ ∀ e ∈ o.after, Region.binds md e = true → listed.getD e.on false = true := by
  unfold Region.ready
  rw [List.mem_filter, List.mem_range]
  constructor
  · rintro ⟨h1, h2⟩
    rw [Array.getElem?_eq_getElem h1] at h2 ⊢
    simp only [Option.map_some, Option.getD_some, Bool.and_eq_true, Bool.not_eq_true', Array.all_eq_true_iff_forall_mem, Bool.or_eq_true] at h2
    refine ⟨h1, h2.1, _, rfl, fun e he hb => ?_⟩
    rcases h2.2 e he with h | h
    · rw [hb] at h; cases h
    · exact h
  · rintro ⟨h1, h2, o, ho, h3⟩
    refine ⟨h1, ?_⟩
    rw [ho]
    simp only [Option.map_some, Option.getD_some, Bool.and_eq_true, Bool.not_eq_true', Array.all_eq_true_iff_forall_mem, Bool.or_eq_true]
    refine ⟨h2, fun e he => ?_⟩
    cases hb : Region.binds md e
    · exact .inl rfl
    · exact .inr (h3 e he hb)
theorem set_get {listed : Array Bool} {i j : Nat} {d : Bool} (h : j ≠ i) : (listed.setIfInBounds i true).getD j d = listed.getD j d := by
  simp [Array.getD_eq_getD_getElem?, Array.getElem?_setIfInBounds, Ne.symm h]
theorem set_mono {listed : Array Bool} {i j : Nat} (h : listed.getD j false = true) : (listed.setIfInBounds i true).getD j false = true := by
  by_cases e : j = i
  · subst e
    have hl : j < listed.size := by
      rcases Nat.lt_or_ge j listed.size with h' | h'
      · exact h'
      · simp [Array.getD_eq_getD_getElem?, Array.getElem?_eq_none h'] at h
    simp [Array.getD_eq_getD_getElem?, Array.getElem?_setIfInBounds, hl]
  · rw [set_get e]; exact h
theorem ready_set {listed : Array Bool} {i j : Nat} (hj : j ∈ Region.ready md ops listed) (h : j ≠ i) : j ∈ Region.ready md ops (listed.setIfInBounds i true) := by
  obtain ⟨h1, h2, o, ho, h3⟩ := ready_iff.1 hj
  exact ready_iff.2 ⟨h1, by rw [set_get h]; exact h2, o, ho, fun e he hb => set_mono (h3 e he hb)⟩
theorem ready_waits {listed : Array Bool} {i j : Nat} (hi : i ∈ Region.ready md ops listed) (hj : j ∈ Region.ready md ops listed) : waitsB md ops j i = false := by
  obtain ⟨_, h2, _⟩ := ready_iff.1 hi
  obtain ⟨_, _, o, ho, h3⟩ := ready_iff.1 hj
  unfold waitsB
  rw [ho]
  simp only [Option.map_some, Option.getD_some]
  rw [Array.any_eq_false']
  intro e he hc
  simp only [Bool.and_eq_true, beq_iff_eq] at hc
  have := h3 e he hc.1
  rw [hc.2] at this
  rcases Nat.lt_or_ge i listed.size with h' | h'
  · simp [Array.getD_eq_getD_getElem?, Array.getElem?_eq_getElem h'] at this h2
    rw [this] at h2; cases h2
  · simp [Array.getD_eq_getD_getElem?, Array.getElem?_eq_none h'] at this
/-- Taken first, with S held till it comes up. -/
theorem till_first {i : Nat} {oi : Oper} {v : Value} (hi : ops[i]? = some oi) (hsel : ∀ (j : Nat) (o : Oper) cs b, ops[j]? = some o → o.op ≠ .select cs b)
    (hQ : ∀ c a w, Q (.panic c) (a.put oi.dst v) w → Q (.panic c) a w) :
    ∀ (fuel : Nat) (listed : Array Bool) (a : Act) (w : World),
      (∀ j oj, ops[j]? = some oj → j ≠ i → listed.getD j true = false → (∀ e ∈ oj.after, Region.binds md e = true → e.on ≠ i) → oi.apart ops oj = true) →
      i ∈ Region.ready md ops listed → YieldsIf P ops S oi v a → S w →
      wpTill P md ops Q S i fuel (listed.setIfInBounds i true) (a.put oi.dst v) w → wpAny P md ops Q (fuel + 1) listed a w := by
  intro fuel
  induction fuel with
  | zero =>
    intro listed a w hap hir hy hS h
    refine ⟨(fun e => by rw [e] at hir; cases hir), fun j hj => ?_⟩
    by_cases hji : j = i
    · subst hji; exact hy.wpOp hi hS (any_of_till 0 _ _ _ h)
    · have := ready_set hj hji
      rw [h.1] at this; cases this
  | succ f ih =>
    intro listed a w hap hir hy hS h
    refine ⟨(fun e => by rw [e] at hir; cases hir), fun j hj => ?_⟩
    by_cases hji : j = i
    · subst hji; exact hy.wpOp hi hS (any_of_till (f + 1) _ _ _ h)
    · have hw := ready_waits hir hj
      obtain ⟨_, hjl, oj, hoj, hjw⟩ := ready_iff.1 hj
      have hnot : ∀ e ∈ oj.after, Region.binds md e = true → e.on ≠ i := by
        intro e he hb hc
        unfold waitsB at hw
        rw [hoj] at hw
        simp only [Option.map_some, Option.getD_some] at hw
        rw [Array.any_eq_false'] at hw
        exact hw e he (by simp [hb, hc])
      have h1 := wpOp_putIf hoj (hap j oj hoj hji hjl hnot) (fun cs b => hsel i oi cs b hi) (fun cs b => hsel j oj cs b hoj) hQ hy (h.2 j (ready_set hj hji))
      refine wpOp_mono (fun a' w' h' => ?_) h1
      obtain ⟨hy', hS', ht⟩ := h'
      refine ih (listed.setIfInBounds j true) a' w' (fun q oq hq hqi hql hqe => hap q oq hq hqi ?_ hqe) (ready_set hir (Ne.symm hji)) hy' (hS' hw) ?_
      · by_cases e : q = j
        · subst e; exact hjl
        · rw [set_get e] at hql; exact hql
      · rw [Array.setIfInBounds_comm _ _ (Ne.symm hji)] at ht
        exact ht
theorem till_take {i : Nat} {oi : Oper} {v : Value} (d : Option Tmp) {fuel : Nat} {listed : Array Bool} {a : Act} {w : World} (hi : ops[i]? = some oi) (hd : oi.dst = d)
    (hs : Region.noSelect ops = true) (hf : Region.free md ops listed i = true) (hr : (Region.ready md ops listed).contains i = true)
    (hQ : ∀ c a w, Q (.panic c) (a.put d v) w → Q (.panic c) a w) (hy : YieldsIf P ops S oi v a) (hS : S w)
    (h : wpTill P md ops Q S i fuel (listed.setIfInBounds i true) (a.put d v) w) : wpAny P md ops Q (fuel + 1) listed a w := by
  subst hd
  exact till_first hi (Region.noSelect_spec hs) hQ fuel listed a w (Region.free_spec hi hf) (by simpa using hr) hy hS h
/-- What asks nothing of the world is taken first. -/
theorem any_take {i : Nat} {oi : Oper} {v : Value} (d : Option Tmp) {fuel : Nat} {listed : Array Bool} {a : Act} {w : World} (hi : ops[i]? = some oi) (hd : oi.dst = d)
    (hs : Region.noSelect ops = true) (hf : Region.free md ops listed i = true) (hr : (Region.ready md ops listed).contains i = true)
    (hQ : ∀ c a w, Q (.panic c) (a.put d v) w → Q (.panic c) a w) (hy : Yields P ops oi v a)
    (h : wpAny P md ops Q fuel (listed.setIfInBounds i true) (a.put d v) w) : wpAny P md ops Q (fuel + 1) listed a w := by
  subst hd
  exact wpAny_take hi hs hf hr hQ hy h
/-- One operation alone may come up: it does not wait for i, so S is shown behind it. -/
theorem till_one {i j : Nat} {o : Oper} {fuel : Nat} {listed : Array Bool} {a : Act} {w : World} (hr : Region.ready md ops listed = [j]) (ho : ops[j]? = some o)
    (h : ∀ K' : Act → World → Prop, Shut (∀ a w, S w → wpTill P md ops Q S i fuel (listed.setIfInBounds j true) a w → K' a w) → if Region.wanted o (yielded ops a.tmps) = true then Oper.wp P o a w K' Q else K' (a.put o.dst undef) w) : wpTill P md ops Q S i (fuel + 1) listed a w :=
  ⟨(fun h0 => by rw [hr] at h0; cases h0), fun q hq => by rw [hr, List.mem_singleton] at hq; subst hq; exact wpOp_step ho (fun K' hK => h K' (fun a w hS hW => hK a w ⟨fun _ => hS, hW⟩))⟩
/-- One operation alone may come up: it waits for i. -/
theorem till_late {i j : Nat} {o : Oper} {fuel : Nat} {listed : Array Bool} {a : Act} {w : World} (hr : Region.ready md ops listed = [j]) (ho : ops[j]? = some o) (hw : waitsB md ops j i = true)
    (h : ∀ K' : Act → World → Prop, Shut (∀ a w, wpTill P md ops Q S i fuel (listed.setIfInBounds j true) a w → K' a w) → if Region.wanted o (yielded ops a.tmps) = true then Oper.wp P o a w K' Q else K' (a.put o.dst undef) w) : wpTill P md ops Q S i (fuel + 1) listed a w :=
  ⟨(fun h0 => by rw [hr] at h0; cases h0), fun q hq => by rw [hr, List.mem_singleton] at hq; subst hq; exact wpOp_step ho (fun K' hK => h K' (fun a w hW => hK a w ⟨(fun e => by rw [hw] at e; cases e), hW⟩))⟩
theorem till_done {i : Nat} {listed : Array Bool} {a : Act} {w : World} (hr : Region.ready md ops listed = []) (h : Q .normal a w) : ∀ fuel, wpTill P md ops Q S i fuel listed a w
  | 0 => ⟨hr, h⟩
  | _ + 1 => ⟨fun _ => h, by rw [hr]; simp⟩
end
end Go.Proofs.YtcckemhelockaaaGreatDoor

namespace Go.Proofs.YtcckemhelockaaaGreatDoor
open Go.RowKit Go.Lib
set_option linter.unusedVariables false
set_option linter.unusedSimpArgs false
/-- Raw numbers as an argument. -/
def IntsIn (w : World) (A : Option Addr) (c : Nat) (L : List Int) : Prop := L.length ≤ c ∧ c ≤ maxLen ∧ (∀ z ∈ L, i64 z) ∧ ∀ i (h : i < L.length), ∃ a : Addr, A = some a ∧ a.block < w.heap.size ∧ w.cell? (a.add i) = some (.int .i64 L[i])
theorem IntsIn.rel {w w' : World} {A : Option Addr} {c : Nat} {L : List Int} (h : IntsIn w A c L) (hr : Rel w w') : IntsIn w' A c L := by
  obtain ⟨h1, h2, h3, h4⟩ := h
  refine ⟨h1, h2, h3, fun i hi => ?_⟩
  obtain ⟨a, e, hl, hc⟩ := h4 i hi
  have := hr.size
  exact ⟨a, e, by omega, (hr.2.cell (p := a.add i) (by rw [block_add]; exact hl)).trans hc⟩
end Go.Proofs.YtcckemhelockaaaGreatDoor

namespace Go.Proofs.YtcckemhelockaaaGreatDoor
open Go.Lib
set_option linter.unusedVariables false
set_option linter.unusedSimpArgs false
/-- An instruction: what to do, a number, a name. -/
abbrev In := Int × Int × List UInt8
/-- Leads an instruction somewhere? -/
def isTo (o : Int) : Bool := o == 9 || o == 12 || o == 13
end Go.Proofs.YtcckemhelockaaaGreatDoor

namespace Go.Proofs.YtcckemhelockaaaGreatDoor
open Go.Lib
set_option linter.unusedVariables false
set_option linter.unusedSimpArgs false
def leastO (i : Nat) (o : Int) : Int := if isTo o then (i : Int) + 1 else 0
def mostO (len : Nat) (o : Int) : Int := if isTo o then (len : Int) else if o = 1 ∨ o = 5 then 1000000000000 else if o = 6 then 100000 else if o = 10 then 1000 else 0
/-- May an instruction stand at a place of so many? -/
def inOk (len i : Nat) (t : In) : Bool := decide (1 ≤ t.1 ∧ t.1 ≤ 13) && decide (leastO i t.1 ≤ t.2.1 ∧ t.2.1 ≤ mostO len t.1) && (if t.1 = 4 then isName t.2.2 else decide (t.2.2 = []))
def okTo (l : List In) : Nat → Bool
  | 0 => true
  | i + 1 => okTo l i && (match l[i]? with | some t => inOk l.length i t | none => true)
def codeOk (l : List In) : Bool := decide (l.length ≤ 5000) && okTo l l.length
theorem okTo_iff {l : List In} : ∀ {n : Nat}, n ≤ l.length → (okTo l n = true ↔ ∀ i (h : i < l.length), i < n → inOk l.length i l[i] = true) := by
  intro n
  induction n with
  | zero => intro _; exact ⟨fun _ i _ h => absurd h (by omega), fun _ => rfl⟩
  | succ n ih =>
    intro hn
    have hl : n < l.length := by omega
    rw [okTo, List.getElem?_eq_getElem hl, Bool.and_eq_true, ih (by omega)]
    constructor
    · rintro ⟨h1, h2⟩ i hi hin
      by_cases e : i = n
      · subst e; exact h2
      · exact h1 i hi (by omega)
    · intro h
      exact ⟨fun i hi hin => h i hi (by omega), h n hl (by omega)⟩
theorem codeOk_iff {l : List In} : codeOk l = true ↔ l.length ≤ 5000 ∧ ∀ i (h : i < l.length), inOk l.length i l[i] = true := by
  unfold codeOk
  rw [Bool.and_eq_true, decide_eq_true_eq, okTo_iff (Nat.le_refl _)]
  exact ⟨fun h => ⟨h.1, fun i hi => h.2 i hi hi⟩, fun h => ⟨h.1, fun i hi _ => h.2 i hi⟩⟩
/-- All may stand where they stand, from a place on. -/
def GoodC (len at_ : Nat) (l : List In) : Prop := ∀ i (h : i < l.length), inOk len (at_ + i) l[i] = true
theorem GoodC.nil (len at_ : Nat) : GoodC len at_ [] := fun i h => absurd h (by simp)
theorem GoodC.append {len at_ : Nat} {a b : List In} (ha : GoodC len at_ a) (hb : GoodC len (at_ + a.length) b) : GoodC len at_ (a ++ b) := by
  intro i h
  by_cases hi : i < a.length
  · rw [List.getElem_append_left hi]; exact ha i hi
  · rw [List.getElem_append_right (by omega)]
    have := hb (i - a.length) (by rw [List.length_append] at h; omega)
    rwa [show at_ + a.length + (i - a.length) = at_ + i by omega] at this
theorem GoodC.cons {len at_ : Nat} {t : In} {b : List In} (ht : inOk len at_ t = true) (hb : GoodC len (at_ + 1) b) : GoodC len at_ (t :: b) := by
  intro i h
  cases i with
  | zero => exact ht
  | succ i =>
    have := hb i (by simpa using h)
    rwa [show at_ + 1 + i = at_ + (i + 1) by omega] at this
end Go.Proofs.YtcckemhelockaaaGreatDoor

namespace Go.Proofs.YtcckemhelockaaaGreatDoor
open Go.Lib
set_option linter.unusedVariables false
set_option linter.unusedSimpArgs false
def numO (o : Int) : Bool := o == 1 || o == 5 || o == 6 || o == 9 || o == 10 || o == 12 || o == 13
theorem inOk_parts {len i : Nat} {t : In} (h : inOk len i t = true) : (1 ≤ t.1 ∧ t.1 ≤ 13) ∧ 0 ≤ t.2.1 ∧ (t.1 = 4 → isName t.2.2 = true) ∧ (t.1 ≠ 4 → t.2.2 = []) ∧ (numO t.1 = false → t.2.1 = 0) := by
  unfold inOk at h
  simp only [Bool.and_eq_true, decide_eq_true_eq] at h
  obtain ⟨⟨h1, h2, h3⟩, h4⟩ := h
  refine ⟨h1, ?_, fun e => by rw [if_pos e] at h4; exact h4, fun e => by rw [if_neg e] at h4; simpa using h4, fun e => ?_⟩
  · have : 0 ≤ leastO i t.1 := by unfold leastO; split <;> omega
    omega
  · have ho : t.1 = 2 ∨ t.1 = 3 ∨ t.1 = 4 ∨ t.1 = 7 ∨ t.1 = 8 ∨ t.1 = 11 := by
      unfold numO at e
      simp only [Bool.or_eq_false_iff, beq_eq_false_iff_ne] at e
      omega
    unfold leastO mostO at *
    rcases ho with e | e | e | e | e | e <;> (rw [e] at h2 h3; simp [isTo] at h2 h3; omega)
end Go.Proofs.YtcckemhelockaaaGreatDoor

namespace Go.Proofs.YtcckemhelockaaaGreatDoor
open Go.RowKit Go.Lib
set_option linter.unusedVariables false
set_option linter.unusedSimpArgs false
def cellsN (t : In) : List Value := [.int .i64 t.1, .int .i64 t.2.1, .string (B t.2.2)]
def cellsI (l : List In) : List Value := l.flatMap cellsN
theorem cellsI_cons (o : In) (t : List In) : cellsI (o :: t) = cellsN o ++ cellsI t := rfl
theorem cellsI_append (a b : List In) : cellsI (a ++ b) = cellsI a ++ cellsI b := by simp [cellsI]
theorem cellsI_snoc (l : List In) (o : In) : cellsI (l ++ [o]) = cellsI l ++ cellsN o := by simp [cellsI]
theorem cellsI_len (l : List In) : (cellsI l).length = l.length * 3 := by
  induction l with
  | nil => rfl
  | cons e t ih => rw [cellsI_cons, List.length_append, ih]; simp [cellsN]; omega
theorem cellsI_at (l : List In) (i : Nat) (h : i < l.length) : (cellsI l)[i * 3]? = some (.int .i64 l[i].1) ∧ (cellsI l)[i * 3 + 1]? = some (.int .i64 l[i].2.1) ∧ (cellsI l)[i * 3 + 2]? = some (.string (B l[i].2.2)) := by
  induction l generalizing i with
  | nil => simp at h
  | cons e t ih =>
    rw [cellsI_cons]
    cases i with
    | zero => exact ⟨rfl, rfl, rfl⟩
    | succ i =>
      obtain ⟨h1, h2, h3⟩ := ih i (by simpa using h)
      have l2 : (cellsN e).length = 3 := rfl
      refine ⟨?_, ?_, ?_⟩
      · rw [List.getElem?_append_right (by omega), show (i + 1) * 3 - (cellsN e).length = i * 3 by omega]; exact h1
      · rw [List.getElem?_append_right (by omega), show (i + 1) * 3 + 1 - (cellsN e).length = i * 3 + 1 by omega]; exact h2
      · rw [List.getElem?_append_right (by omega), show (i + 1) * 3 + 2 - (cellsN e).length = i * 3 + 2 by omega]; exact h3
/-- The cells from A on are these instructions. -/
def InsAt (w : World) (A : Option Addr) (l : List In) : Prop :=
  ∀ i (h : i < l.length), ∃ (g off : Nat), A = some ⟨g, off, none⟩ ∧ g < w.heap.size ∧ w.cell? ⟨g, off + i * 3, none⟩ = some (.int .i64 l[i].1) ∧ w.cell? ⟨g, off + i * 3 + 1, none⟩ = some (.int .i64 l[i].2.1) ∧ w.cell? ⟨g, off + i * 3 + 2, none⟩ = some (.string (B l[i].2.2))
theorem InsAt.nil (w : World) (A : Option Addr) : InsAt w A [] := fun i h => absurd h (by simp)
theorem InsAt.below {w w' : World} {A : Option Addr} {l : List In} (h : InsAt w A l) (hb : Below w.heap.size w w') : InsAt w' A l := by
  intro i hi
  obtain ⟨g, off, e, hl, h0, h1, h2⟩ := h i hi
  have hk : ∀ j, w'.cell? ⟨g, j, none⟩ = w.cell? ⟨g, j, none⟩ := fun j => hb.cell (p := ⟨g, j, none⟩) hl
  exact ⟨g, off, e, by have := hb.size; omega, by rw [hk]; exact h0, by rw [hk]; exact h1, by rw [hk]; exact h2⟩
theorem InsAt.rel {w w' : World} {A : Option Addr} {l : List In} (h : InsAt w A l) (hr : Rel w w') : InsAt w' A l := h.below hr.2
theorem InsAt.take {w : World} {A : Option Addr} {l : List In} (h : InsAt w A l) (k : Nat) : InsAt w A (l.take k) := by
  intro i hi
  rw [List.length_take] at hi
  obtain ⟨g, off, e, hl, h0, h1, h2⟩ := h i (by omega)
  refine ⟨g, off, e, hl, ?_, ?_, ?_⟩
  · rw [List.getElem_take]; exact h0
  · rw [List.getElem_take]; exact h1
  · rw [List.getElem_take]; exact h2
theorem InsAt.of_bk {w : World} {g : Nat} {l : List In} (h : Bk w g 45 (cellsI l).toArray) : InsAt w (some ⟨g, 0, none⟩) l := by
  intro i hi
  obtain ⟨c0, c1, c2⟩ := cellsI_at l i hi
  refine ⟨g, 0, rfl, h.lt, ?_, ?_, ?_⟩
  · rw [Nat.zero_add, h.cell, List.getElem?_toArray]; exact c0
  · rw [Nat.zero_add, h.cell, List.getElem?_toArray]; exact c1
  · rw [Nat.zero_add, h.cell, List.getElem?_toArray]; exact c2
/-- Instructions whose fields fit a machine. -/
def InsFit (l : List In) : Prop := ∀ o ∈ l, i64 o.1 ∧ i64 o.2.1 ∧ o.2.2.length ≤ 9223372036854775807
/-- Instructions as an argument. -/
def InsArg (w : World) (A : Option Addr) (c : Nat) (l : List In) : Prop := l.length ≤ c ∧ c ≤ maxLen ∧ InsFit l ∧ InsAt w A l
theorem InsArg.rel {w w' : World} {A : Option Addr} {c : Nat} {l : List In} (h : InsArg w A c l) (hr : Rel w w') : InsArg w' A c l := ⟨h.1, h.2.1, h.2.2.1, h.2.2.2.rel hr⟩
theorem ins_fit {l : List In} (h : codeOk l = true) : InsFit l := fun o ho => by
  obtain ⟨i, hi, rfl⟩ := List.mem_iff_getElem.1 ho
  have hl := (codeOk_iff.1 h).1
  have := (codeOk_iff.1 h).2 i hi
  obtain ⟨p1, p2, p3, p4, _⟩ := inOk_parts this
  unfold inOk mostO at this
  simp only [Bool.and_eq_true, decide_eq_true_eq] at this
  have hm := this.1.2.2
  refine ⟨⟨by omega, by omega⟩, ⟨by omega, ?_⟩, ?_⟩
  · split at hm
    · omega
    · split at hm
      · omega
      · split at hm
        · omega
        · split at hm <;> omega
  · by_cases e : l[i].1 = 4
    · have := (name_parts (p3 e)).2.2.1; omega
    · rw [p4 e]; simp
/-- A slice of instructions of the call's own. -/
def InsOwn (w : World) (base : Nat) (v : Value) (l : List In) : Prop := w.ownsRow base 45 3 v l.length (cellsI l)
theorem InsOwn.row {w : World} {base : Nat} {v : Value} {l : List In} (h : InsOwn w base v l) : w.ownsRow base 45 3 v l.length (cellsI l) := h
theorem InsOwn.nil (w : World) (base : Nat) : InsOwn w base (.slice none 0 0) [] := World.ownsRow_nil _ _ _ _
theorem InsOwn.rel {w w' : World} {base : Nat} {v : Value} {l : List In} (h : InsOwn w base v l) (hr : Rel w w') : InsOwn w' base v l := own_rel h hr
theorem InsOwn.at {w : World} {base : Nat} {A : Option Addr} {n c : Nat} {l : List In} (h : InsOwn w base (.slice A n c) l) (hn : n = l.length) : InsAt w A l := by
  intro i hi
  have h : w.ownsRow base 45 3 (.slice A n c) l.length (cellsI l) := h
  rcases h.2 with ⟨h0, h1⟩ | ⟨g, cap, cur, hv, hb, hh, _⟩
  · omega
  · have hA : A = some ⟨g, 0, none⟩ := by injection hv
    obtain ⟨c0, c1, c2⟩ := cellsI_at l i hi
    have hc := h.cells (g := g) (by rw [hA]; rfl)
    have q0 := hc _ _ c0
    have q1 := hc _ _ c1
    have q2 := hc _ _ c2
    rw [addr_at] at q0 q1 q2
    refine ⟨g, 0, hA, Bk.lt (t := 45) hh, ?_, ?_, ?_⟩
    · exact q0
    · rw [Nat.add_assoc]; exact q1
    · rw [Nat.add_assoc]; exact q2
theorem InsOwn.more {w1 : World} {base g cap : Nat} {l : List In} {o : In}
    (hown1 : w1.ownsRow base 45 3 (.slice (some ⟨g, 0, none⟩) (l.length + 1) cap) (l.length + 1) (cellsI l ++ cellsN o)) : InsOwn w1 base (.slice (some ⟨g, 0, none⟩) (l.length + 1) cap) (l ++ [o]) := by
  unfold InsOwn
  rw [cellsI_snoc, show (l ++ [o]).length = l.length + 1 by simp]; exact hown1
theorem ins_info : (Tryz.prog.info? 45).map (fun i => (i.zero, i.size, i.bytes)) = some (some (.agg #[.int .i64 0, .int .i64 0, .string ⟨#[]⟩]), 3, 32) := by kernel_rfl
theorem cellsN_one (o : In) : ∀ u ∈ cellsN o, u.oneCell' = true := by
  intro u hu
  simp only [cellsN, List.mem_cons, List.not_mem_nil, or_false] at hu
  rcases hu with rfl | rfl | rfl <;> rfl
theorem cellsI_one (l : List In) : ∀ u ∈ cellsI l, u.oneCell' = true := by
  intro u hu
  obtain ⟨o, _, h⟩ := List.mem_flatMap.1 hu
  exact cellsN_one o u h
theorem InsOwn.slice_of {w : World} {base : Nat} {v : Value} {l : List In} (h : InsOwn w base v l) : ∃ A c, v = .slice A l.length c := by
  obtain ⟨A, c, e, _⟩ := own_slice h.row
  exact ⟨A, c, e⟩
theorem InsOwn.cap {w : World} {base : Nat} {A : Option Addr} {c : Nat} {l : List In} (h : InsOwn w base (.slice A l.length c) l) : l.length ≤ c ∧ c ≤ maxLen := by
  rcases h.2 with ⟨h0, h1⟩ | ⟨g, cap, cur, hv, hb, hh, h3, h4, _⟩
  · injection h0 with e1 e2 e3
    omega
  · injection hv with e1 e2 e3
    subst e3
    exact ⟨h3, h4⟩
theorem InsOwn.arg {w : World} {base : Nat} {A : Option Addr} {c : Nat} {l : List In} (h : InsOwn w base (.slice A l.length c) l) (hf : InsFit l) : InsArg w A c l := ⟨h.cap.1, h.cap.2, hf, h.at rfl⟩
/-- Two rows in unlike blocks. -/
def Apt (v u : Value) : Prop := ∀ k, u.ownBlock = some k → v.ownBlock ≠ some k
theorem Apt.of {w1 w2 : World} {b1 : Nat} {v u : Value} {l1 l2 : List In} (h1 : InsOwn w1 b1 v l1) (h2 : InsOwn w2 w1.heap.size u l2) : Apt v u := fun k hk e => by
  have a := (h2.row.lt k hk).1
  have b := (h1.row.lt k e).2
  omega
theorem Apt.grow {w : World} {base : Nat} {v v' u : Value} {l : List In} (h : Apt v u) (hu : InsOwn w base u l) (hb : v'.ownBlock = v.ownBlock ∨ v'.ownBlock = some w.heap.size) : Apt v' u := fun k hk e => by
  rcases hb with hb | hb
  · exact h k hk (hb.symm.trans e)
  · have a := (hu.row.lt k hk).2
    rw [hb] at e
    injection e with e
    omega
/-- Own instructions stay where another row grows. -/
theorem InsOwn.kept {w w' : World} {base : Nat} {v u : Value} {l : List In} (h : InsOwn w base u l) (ha : Apt v u) (hg : w.grownBy w' v.ownBlock) : InsOwn w' base u l :=
  World.ownsRow.kept h.row hg (by
    cases e : u.ownBlock with
    | none => exact .inl rfl
    | some k => exact .inr fun e2 => ha k e e2.symm)
theorem InsOwn.base {w : World} {b b' : Nat} {v : Value} {l : List In} (h : InsOwn w b v l) (hb : b' ≤ b) : InsOwn w b' v l := by
  refine ⟨h.1, ?_⟩
  rcases h.2 with h | ⟨g, cap, cur, h1, h2, h3⟩
  · exact .inl h
  · exact .inr ⟨g, cap, cur, h1, by omega, h3⟩
theorem ins_news {w : World} {g off : Nat} {l : List In} (h : InsAt w (some ⟨g, off, none⟩) l) : ∀ j u, (cellsI l)[j]? = some u → w.cell? ((⟨g, off, none⟩ : Addr).add j) = some u := by
  intro j u hu
  have hj : j < (cellsI l).length := (List.getElem?_eq_some_iff.1 hu).1
  rw [cellsI_len] at hj
  have hi : j / 3 < l.length := by omega
  obtain ⟨g', off', e, _, h0, h1, h2⟩ := h (j / 3) hi
  injection e with e; injection e with e1 e2; subst e1; subst e2
  obtain ⟨c0, c1, c2⟩ := cellsI_at l (j / 3) hi
  rw [addr_at]
  have hm : j % 3 = 0 ∨ j % 3 = 1 ∨ j % 3 = 2 := by omega
  rcases hm with e | e | e
  · have ej : j = j / 3 * 3 := by omega
    rw [ej] at hu ⊢
    rw [c0] at hu
    rw [← hu]; exact h0
  · have ej : j = j / 3 * 3 + 1 := by omega
    rw [ej] at hu ⊢
    rw [c1] at hu
    rw [← hu, ← Nat.add_assoc]; exact h1
  · have ej : j = j / 3 * 3 + 2 := by omega
    rw [ej] at hu ⊢
    rw [c2] at hu
    rw [← hu, ← Nat.add_assoc]; exact h2
set_option maxRecDepth 100000 in
theorem iapp_run {w : World} {base : Nat} {v : Value} {os : List In} (hown : InsOwn w base v os) {A : Option Addr} {c : Nat} {l : List In} (hA : A = none → c = 0) (h : InsAt w A l) (h1 : l.length ≤ 100000) (h2 : os.length ≤ 100000) (hb : base ≤ w.heap.size) (ty : TypeId) :
    ∃ v' w', (Builtin.append_ #[23, 23] ty #[v, .slice A l.length c]).run Tryz.prog w = .ok v' w' ∧ InsOwn w' base v' (os ++ l) ∧ w.grownBy w' v.ownBlock ∧ (v'.ownBlock = v.ownBlock ∨ v'.ownBlock = some w.heap.size) := by
  obtain ⟨i0, hi0, hz0, hz1, hz2⟩ := info_parts ins_info
  cases A with
  | none =>
    obtain rfl := hA rfl
    have hl : l = [] := by
      cases l with
      | nil => rfl
      | cons o t => obtain ⟨_, _, e, _⟩ := h 0 (by simp); cases e
    subst hl
    refine ⟨v, w, run_append_owned_none (P := Tryz.prog) w base _ ty 45 i0 3 Tryz.underlying23 hi0 v os.length (cellsI os) hown, ?_, ⟨rfl, rfl, rfl, Nat.le_refl _, fun _ _ _ => rfl⟩, .inl rfl⟩
    rw [List.append_nil]; exact hown
  | some a =>
    have hnews : ∀ j u, (cellsI l)[j]? = some u → w.cell? (a.add j) = some u := by
      cases l with
      | nil => intro j u hu; simp [cellsI] at hu
      | cons o t =>
        obtain ⟨g, off, e, _⟩ := h 0 (by simp)
        injection e with e; subst e
        exact ins_news h
    obtain ⟨v', w', hr, g1, g2, _, g4⟩ := run_append_own_at (P := Tryz.prog) w base 23 ty 45 i0 (.agg #[.int .i64 0, .int .i64 0, .string ⟨#[]⟩]) 3 32 Tryz.underlying23 hi0 hz0 hz1 hz2 rfl (by decide) v os.length (cellsI os) hown a l.length c (cellsI l) (cellsI_len l) hnews (cellsI_one l) (by unfold maxLen; omega) (by omega) hb
    refine ⟨v', w', hr, ?_, g2, g4⟩
    unfold InsOwn
    rw [cellsI_append, List.length_append]; exact g1
/-- At the operation. -/
theorem wp_iapp {w : World} {o : Oper} {a : Act} {K : Act → World → Prop} {Q : Exit → Act → World → Prop} (s x : Operand) (ho : o.op = .call { callee := .builtin .append, args := #[s, x], argTypes := #[23, 23] })
    {base : Nat} {v : Value} {os : List In} (hs : a.eval s = v) (hown : InsOwn w base v os) {A : Option Addr} {c n : Nat} {l : List In} (hx : a.eval x = .slice A n c) (hn : l.length = n) (hA : A = none → c = 0) (h : InsAt w A l) (h1 : l.length ≤ 100000) (h2 : os.length ≤ 100000) (hb : base ≤ w.heap.size)
    (hk : ∀ v' w', InsOwn w' base v' (os ++ l) → w.grownBy w' v.ownBlock → (v'.ownBlock = v.ownBlock ∨ v'.ownBlock = some w.heap.size) → K (a.put o.dst v') w') : Oper.wp Tryz.prog o a w K Q := by
  subst hn
  obtain ⟨v', w', hr, g1, g2, g3⟩ := iapp_run hown hA h h1 h2 hb o.type
  unfold Oper.wp execOp
  simp only [ho, resolve, invoke, builtin, Sem.run_bind, Sem.run_pure, Result.andThen_ok, List.map_toArray, List.map_cons, List.map_nil, hs, hx, hr]
  exact hk v' w' g1 g2 g3
end Go.Proofs.YtcckemhelockaaaGreatDoor

namespace Go.Proofs.YtcckemhelockaaaGreatDoor
open Go.Lib
set_option linter.unusedVariables false
set_option linter.unusedSimpArgs false
/-- A number put among others in rising order; all of them in rising order. -/
def ins (a : Int) : List Int → List Int
  | [] => [a]
  | b :: t => if a ≤ b then a :: b :: t else b :: ins a t
def srt : List Int → List Int
  | [] => []
  | a :: t => ins a (srt t)
/-- How many are at most u; below u. -/
def le (u : Int) : List Int → Nat
  | [] => 0
  | a :: t => (if a ≤ u then 1 else 0) + le u t
theorem ins_len (a : Int) (l : List Int) : (ins a l).length = l.length + 1 := by
  induction l with
  | nil => rfl
  | cons b t ih => unfold ins; split <;> simp [ih]
theorem srt_len (l : List Int) : (srt l).length = l.length := by
  induction l with
  | nil => rfl
  | cons a t ih => rw [srt, ins_len, ih]; rfl
theorem ins_ins (a b : Int) (l : List Int) : ins a (ins b l) = ins b (ins a l) := by
  induction l with
  | nil =>
    by_cases h : a ≤ b
    · by_cases h' : b ≤ a
      · obtain rfl : a = b := by omega
        rfl
      · simp [ins, h, h']
    · have h' : b ≤ a := by omega
      simp [ins, h, h']
  | cons c t ih =>
    simp only [ins]
    by_cases h1 : b ≤ c <;> by_cases h2 : a ≤ c <;> simp only [h1, h2, if_true, if_false, ins]
    · by_cases h : a ≤ b
      · by_cases h' : b ≤ a
        · obtain rfl : a = b := by omega
          rfl
        · simp only [h, h', if_true, if_false, h1]
      · have h' : b ≤ a := by omega
        simp only [h, h', if_true, if_false, h2]
    · rw [if_neg (show ¬ a ≤ b by omega)]
    · rw [if_neg (show ¬ b ≤ a by omega)]
    · rw [ih]
theorem srt_perm {a b : List Int} (h : a.Perm b) : srt a = srt b := by
  induction h with
  | nil => rfl
  | cons x _ ih => rw [srt, srt, ih]
  | swap x y l => simp only [srt]; rw [ins_ins]
  | trans _ _ h1 h2 => rw [h1, h2]
def Up : List Int → Prop
  | [] => True
  | a :: t => (∀ b ∈ t, a ≤ b) ∧ Up t
end Go.Proofs.YtcckemhelockaaaGreatDoor
