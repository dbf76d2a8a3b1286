/- The record that a body spells. -/
import Derived.Test.YtjbbfcomgglhiaaDoorSplitLoop
import Derived.Deep.RegionWith
namespace Go.Proofs.YtjbbfcomgglhiaaDoor
open Go.RowKit
open Go.Lib hiding intOf
set_option linter.unusedVariables false
set_option linter.unusedSimpArgs false
attribute [local go_sem] Oper.semAt_some

theorem seq1_any (s : ByteArray) (w : World) : Calls Tryd.prog 49 #[.string s, .string ⟨#[32]⟩, .int .i64 0] w fun e w' =>
    e = .returned (.func (.func 58) #[] #[.pointer (some ⟨w.heap.size + 1, 0, none⟩), .pointer (some ⟨w.heap.size, 0, none⟩), .pointer (some ⟨w.heap.size + 1 + 1, 0, none⟩)]) ∧
    w' = ((w.alloc (.cells #[.string s] 9)).alloc (.cells #[.string ⟨#[32]⟩] 9)).alloc (.cells #[.int .i64 0] 3) := by
  go_enter Tryd.func49, Tryd.ntmps49
  go_wp2
  go_ret
  exact ⟨rfl, rfl⟩
theorem seq_any (s : ByteArray) (w : World) : Calls Tryd.prog 44 #[.string s, .string ⟨#[32]⟩] w fun e w' =>
    e = .returned (.func (.func 58) #[] #[.pointer (some ⟨w.heap.size + 1, 0, none⟩), .pointer (some ⟨w.heap.size, 0, none⟩), .pointer (some ⟨w.heap.size + 1 + 1, 0, none⟩)]) ∧
    w' = ((w.alloc (.cells #[.string s] 9)).alloc (.cells #[.string ⟨#[32]⟩] 9)).alloc (.cells #[.int .i64 0] 3) := by
  go_enter Tryd.func44, Tryd.ntmps44
  go_wp2_with (go_at_call 49; refine (seq1_any s _).mono ?_; rintro e w' ⟨rfl, rfl⟩)
  go_ret
  exact ⟨rfl, rfl⟩
theorem atoi_yes (l : List UInt8) (hl : l.length ≤ 1000000000) (v : Int) (hv : atoiAll l = .ok v) (w0 w : World) (hr : Rel w0 w) : Calls Tryd.prog 45 #[.string (B l)] w fun e w' => e = .returned (.tuple #[.int .i64 v, .nilIface]) ∧ Rel w0 w' := by
  refine (atoi_any l hl w0 w hr).mono ?_
  rintro e w' ⟨(⟨u, hu, rfl⟩ | ⟨hn, _⟩), hr'⟩
  · rw [hv] at hu; injection hu with hu; rw [hu]; exact ⟨rfl, hr'⟩
  · exact absurd hv (hn v)
theorem atoi_no (l : List UInt8) (hl : l.length ≤ 1000000000) (hv : ∀ v, atoiAll l ≠ .ok v) (w0 w : World) (hr : Rel w0 w) : Calls Tryd.prog 45 #[.string (B l)] w fun e w' => ∃ (v : Int) (t : TypeId) (p : Value), e = .returned (.tuple #[.int .i64 v, .iface t p]) ∧ Rel w0 w' := by
  refine (atoi_any l hl w0 w hr).mono ?_
  rintro e w' ⟨(⟨u, hu, rfl⟩ | ⟨_, v, t, p, rfl⟩), hr'⟩
  · exact absurd hu (hv u)
  · exact ⟨v, t, p, rfl, hr'⟩
/-- What is told of a body. -/
def SpellPost (l : List UInt8) (w0 : World) (e : Ending) (w' : World) : Prop :=
  ∃ (K : Int) (A : Option Addr) (c : Nat) (xs : List Int) (tx : ByteArray) (ok : Bool), e = .returned (.tuple #[.agg #[.int .i64 K, .slice A xs.length c, .string tx], .bool ok]) ∧ Rel w0 w' ∧ NumsOwn w' A xs ∧ xs.length ≤ l.length + 1 ∧ tx.size ≤ l.length ∧
    ∀ r, frRight r → frBody r = l → ok = true ∧ (K, xs, tx.data.toList) = r
/-- What a round keeps. -/
def SpellI (w : World) (D rb nb bs : Nat) (pre : List (List UInt8)) (W : World) : Prop :=
  Rel w W ∧ Bk W rb 24 #[.int .i64 0, .slice none 0 0, .string ⟨#[]⟩] ∧ Boxed W (rb + 1) 4 (.bool false) ∧ ∃ v ns, Red pre ns ∧ Boxed W nb 22 v ∧ W.ownsRow (D + 2) 3 1 v ns.length (ns.map (Value.int .i64))
def SpellX (w : World) (rb : Nat) (h : List UInt8) (W : World) : Prop :=
  Rel w W ∧ Bk W rb 24 #[.int .i64 0, .slice none 0 0, .string ⟨#[]⟩] ∧ Boxed W (rb + 1) 4 (.bool false) ∧ ∃ x ∈ flds h, ∀ v, atoiAll x ≠ .ok v
theorem row_put {W : World} {b k n : Nat} {v : Value} {xs : List Value} (h : W.ownsRow b 3 1 v n xs) (hk : k < b) (o : Obj) : (W.putObj k o).ownsRow b 3 1 v n xs :=
  h.kept (grownBy_putObj' W k o) (by
    cases hv : v.ownBlock with
    | none => exact .inl rfl
    | some j => exact .inr (fun e => by have := (h.lt j hv).1; injection e with e; omega))
theorem row_set {W : World} {b k n : Nat} {v : Value} {xs : List Value} (h : W.ownsRow b 3 1 v n xs) (hk : k < b) (u : Value) : (W.setCell ⟨k, 0, none⟩ u).ownsRow b 3 1 v n xs :=
  own_set h (fun e => by have := (h.lt _ e.symm).1; simp only at this; omega) u
theorem rel_put {w W : World} (h : Rel w W) {k : Nat} (hk : w.heap.size ≤ k) (o : Obj) : Rel w (W.putObj k o) := h.grown (grownBy_putObj' W k o) (fun j e => by cases e; exact hk)
theorem put_ne (W : World) (k j : Nat) (o : Obj) (h : j ≠ k) : (W.putObj k o).heap[j]? = W.heap[j]? := World.putObj_heap_other h
theorem SpellI.put {w : World} {D rb nb bs : Nat} {pre : List (List UInt8)} {W : World} (h : SpellI w D rb nb bs pre W) (h1 : w.heap.size ≤ rb) (h2 : rb + 1 < D) (h3 : nb < D) (o : Obj) : SpellI w D rb nb bs pre (W.putObj (D + 1) o) := by
  obtain ⟨a, b, c, v, ns, d, e, f⟩ := h
  exact ⟨rel_put a (by omega) o, (put_ne W _ _ o (by omega)).trans b, (put_ne W _ _ o (by omega)).trans c, v, ns, d, (put_ne W _ _ o (by omega)).trans e, row_put f (by omega) o⟩
theorem SpellI.set {w : World} {D rb nb bs : Nat} {pre : List (List UInt8)} {W : World} (h : SpellI w D rb nb bs pre W) (h1 : w.heap.size ≤ bs) (h2 : rb ≠ bs) (h4 : rb + 1 ≠ bs) (h3 : nb ≠ bs) (h5 : bs < D) (u : Value) : SpellI w D rb nb bs pre (W.setCell ⟨bs, 0, none⟩ u) := by
  obtain ⟨a, b, c, v, ns, d, e, f⟩ := h
  exact ⟨a.setCell (p := ⟨bs, 0, none⟩) h1 u, (heap_set_ne W _ _ u h2).trans b, (heap_set_ne W _ _ u h4).trans c, v, ns, d, (heap_set_ne W _ _ u h3).trans e, row_set f (by omega) u⟩
theorem SpellX.put {w : World} {D rb : Nat} {h : List UInt8} {W : World} (hx : SpellX w rb h W) (h1 : w.heap.size ≤ rb) (h2 : rb + 1 < D) (o : Obj) : SpellX w rb h (W.putObj (D + 1) o) := by
  obtain ⟨a, b, c, d⟩ := hx
  exact ⟨rel_put a (by omega) o, (put_ne W _ _ o (by omega)).trans b, (put_ne W _ _ o (by omega)).trans c, d⟩
end Go.Proofs.YtjbbfcomgglhiaaDoor
