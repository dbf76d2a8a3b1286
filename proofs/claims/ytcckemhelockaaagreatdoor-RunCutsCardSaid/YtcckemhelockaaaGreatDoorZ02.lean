/- Plain mathematics of layer 9: what strategies tell. No program in this text; Offers in memory: to be read, and of the call's own; Plain mathematics of layer 9: order makes no difference; what is reckoned within more is reckoned the same; offers of raw numbers. No program in this text; Plain mathematics of layer 9: what simple expressions tell; offers of raw numbers; lowest and second. No program in this text; Plain mathematics of layer 11: what code tells. No program in this text; Plain mathematics of layer 9: what the laws ask. No program in this text; Plain mathematics of layer 11: what is compiled tells what the strategy tells. No program in this text; What Eval, and Cond, tell, as values; What the laws of layer 11 lean on: what the program is asked, and the law's awake; Plain mathematics of layer 9: cuts, and what is told of one offer. No program in this text; The document's own readings of numbers and amounts (layer 2's), at this seat; The document's own Word, Name and token; The document's own answers of layer 9: the price at a place (rank); which offers may be (Right). -/
import Derived.Test.YtcckemhelockaaaGreatDoorZL
import Derived.Test.YtcckemhelockaaaGreatDoorZ00
import Derived.Test.YtcckemhelockaaaGreatDoorZ01
namespace Go.Proofs.YtcckemhelockaaaGreatDoor
open Go.Lib
set_option linter.unusedVariables false
set_option linter.unusedSimpArgs false
/-- An offer: who, and at what. -/
abbrev Of := List UInt8 × Int
def offOk (o : Of) : Bool := isName o.1 && decide (1 ≤ o.2 ∧ o.2 ≤ 1000000000000)
/-- Unlike from all ahead of it. -/
def fresh (l : List Of) (i : Nat) (s : List UInt8) : Bool := (l.take i).all fun o => decide (o.1 ≠ s)
def offsTo (l : List Of) : Nat → Bool
  | 0 => true
  | i + 1 => offsTo l i && (match l[i]? with | some o => offOk o && fresh l i o.1 | none => true)
/-- May offers be? -/
def offsOk (l : List Of) : Bool := decide (l.length ≤ 8) && offsTo l l.length
theorem offsTo_iff {l : List Of} : ∀ {n : Nat}, n ≤ l.length → (offsTo l n = true ↔ ∀ i (h : i < l.length), i < n → offOk l[i] = true ∧ ∀ k (hk : k < l.length), k < i → l[k].1 ≠ l[i].1) := by
  intro n
  induction n with
  | zero => intro _; exact ⟨fun _ i _ h => absurd h (by omega), fun _ => rfl⟩
  | succ n ih =>
    intro hn
    have hl : n < l.length := by omega
    rw [offsTo, List.getElem?_eq_getElem hl, Bool.and_eq_true, ih (by omega)]
    simp only [Bool.and_eq_true, fresh, List.all_eq_true, decide_eq_true_eq]
    constructor
    · rintro ⟨h1, h2, h3⟩ i hi hin
      by_cases e : i = n
      · subst e
        refine ⟨h2, fun k hk hki => h3 l[k] ?_⟩
        rw [List.mem_iff_getElem]
        exact ⟨k, by rw [List.length_take]; omega, by rw [List.getElem_take]⟩
      · exact h1 i hi (by omega)
    · intro h
      refine ⟨fun i hi hin => h i hi (by omega), (h n hl (by omega)).1, fun o ho => ?_⟩
      obtain ⟨k, hk, rfl⟩ := List.mem_iff_getElem.1 ho
      rw [List.length_take] at hk
      rw [List.getElem_take]
      exact (h n hl (by omega)).2 k (by omega) (by omega)
theorem offs_iff {l : List Of} : offsOk l = true ↔ l.length ≤ 8 ∧ ∀ i (h : i < l.length), offOk l[i] = true ∧ ∀ k (hk : k < l.length), k < i → l[k].1 ≠ l[i].1 := by
  unfold offsOk
  rw [Bool.and_eq_true, decide_eq_true_eq, offsTo_iff (Nat.le_refl _)]
  exact ⟨fun h => ⟨h.1, fun i hi => h.2 i hi hi⟩, fun h => ⟨h.1, fun i hi _ => h.2 i hi⟩⟩
def prices (l : List Of) : List Int := l.map (·.2)
/-- The price at place n in rising order. -/
def rk (l : List Of) (n : Nat) : Option Int := (srt (prices l))[n]?
def fromO (l : List Of) (s : List UInt8) : Option Int := (l.find? fun o => decide (o.1 = s)).map (·.2)
def wtM (a l h : Int) : Bool := decide (l ≤ a ∧ a ≤ h)
def told1 (n : Int) : Int := if rt n then n else 0
def told2 (n : Int) : Int := if rt n then 0 else 10
def two1 (a b n : Int) : Int := if rt a && rt b then told1 n else 0
def two2 (a b n : Int) : Int := if rt a && rt b then told2 n else 10
def fl (p : Int) : Int := if p.tmod 10000 < 0 then p.tdiv 10000 - 1 else p.tdiv 10000
def prt (a bp : Int) (up : Bool) : Int := if up then -(fl (-(a * bp))) else fl (a * bp)
def part1 (a bp : Int) (up : Bool) : Int := if rt a && wtM bp (-100000) 100000 then told1 (prt a bp up) else 0
def part2 (a bp : Int) (up : Bool) : Int := if rt a && wtM bp (-100000) 100000 then told2 (prt a bp up) else 10
/-- What is told: an amount, nothing, or an error. -/
abbrev Rs := Except Int (Option Int)
def subR (a n : Int) : Rs := if two2 a n (a - n) = 0 then .ok (some (two1 a n (a - n))) else .error (two2 a n (a - n))
def cutR (a n : Int) : Rs := if part2 a n false = 0 then subR a (part1 a n false) else .error (part2 a n false)
def exNone : Ex := .mk 0 0 [] []
def arg (x : Ex) (i : Nat) : Ex := (x.l[i]?).getD exNone
def condF (f : Ex → Rs) (l : List Of) (x : Ex) : Except Int Bool :=
  if x.k = 11 then .ok (decide (x.n < (l.length : Int)))
  else match f (arg x 0) with
    | .error e => .error e
    | .ok a => match f (arg x 1) with
      | .error e => .error e
      | .ok b => .ok (match a, b with | some a, some b => decide (b < a) | _, _ => false)
def bothF (k : Int) (a b : Option Int) : Option Int := match a, b with | some a, some b => some (if k = 7 then min a b else max a b) | _, _ => none
def toldG (f : Ex → Rs) (c : Except Int Bool) (r0 r1 fr : Option Int) (x : Ex) : Rs :=
  if x.k = 1 then .ok r0 else if x.k = 2 then .ok r1 else if x.k = 3 then .ok fr else if x.k = 4 then .ok (some x.n)
  else if x.k = 10 then match c with
    | .error e => .error e
    | .ok true => f (arg x 1)
    | .ok false => f (arg x 2)
  else match f (arg x 0) with
    | .error e => .error e
    | .ok a =>
      if x.k = 9 then match a with | some v => .ok (some v) | none => f (arg x 1)
      else if x.k = 5 then match a with | none => .ok none | some v => subR v x.n
      else if x.k = 6 then match a with | none => .ok none | some v => cutR v x.n
      else match f (arg x 1) with
        | .error e => .error e
        | .ok b => .ok (bothF x.k a b)
def toldF (f : Ex → Rs) (l : List Of) (x : Ex) : Rs := toldG f (condF f l (arg x 0)) (rk l 0) (rk l 1) (fromO l x.nm) x
def toldN (l : List Of) : Nat → Ex → Rs
  | 0, _ => .ok none
  | d + 1, x => toldF (toldN l d) l x
theorem told_succ (l : List Of) (d : Nat) (x : Ex) : toldN l (d + 1) x = toldF (toldN l d) l x := rfl
def condN (l : List Of) (d : Nat) (x : Ex) : Except Int Bool := condF (toldN l d) l x
/-- What a strategy tells; whether a condition is so. -/
def evalS (l : List Of) (x : Ex) : Rs := if offsOk l && rightX x then toldN l 32 x else .error 1
def rsV : Rs → Int
  | .ok (some v) => v
  | _ => 0
def rsB : Rs → Bool
  | .ok (some _) => true
  | _ => false
def rsE : Rs → Int
  | .error e => e
  | _ => 0
theorem sub_err (a n e : Int) (h : subR a n = .error e) : e = 10 := by
  unfold subR at h
  split at h
  · cases h
  · rename_i hn
    injection h with h
    unfold two2 told2 at *
    split at h
    · split at h
      · exact absurd (by rename_i h1 h2; rw [if_pos h1, if_pos h2]) hn
      · exact h.symm
    · exact h.symm
theorem cut_err (a n e : Int) (h : cutR a n = .error e) : e = 10 := by
  unfold cutR at h
  split at h
  · exact sub_err _ _ _ h
  · rename_i hn
    injection h with h
    unfold part2 told2 at *
    split at h
    · split at h
      · exact absurd (by rename_i h1 h2; rw [if_pos h1, if_pos h2]) hn
      · exact h.symm
    · exact h.symm
/-- An error of a reckoning is the range. -/
theorem told_err (l : List Of) : ∀ (d : Nat) (x : Ex) (e : Int), toldN l d x = .error e → e = 10 := by
  intro d
  induction d with
  | zero => intro x e h; cases h
  | succ d ih =>
    have hc : ∀ (x : Ex) (e : Int), condF (toldN l d) l x = .error e → e = 10 := by
      intro x e h
      unfold condF at h
      split at h
      · cases h
      · split at h
        · rename_i e' he; injection h with h; subst h; exact ih _ _ he
        · split at h
          · rename_i e' he; injection h with h; subst h; exact ih _ _ he
          · cases h
    intro x e h
    rw [told_succ] at h
    unfold toldF toldG at h
    split at h
    · cases h
    split at h
    · cases h
    split at h
    · cases h
    split at h
    · cases h
    split at h
    · split at h
      · rename_i e' he; injection h with h; subst h; exact hc _ _ he
      · exact ih _ _ h
      · exact ih _ _ h
    split at h
    · rename_i e' he; injection h with h; subst h; exact ih _ _ he
    split at h
    · split at h
      · cases h
      · exact ih _ _ h
    split at h
    · split at h
      · cases h
      · exact sub_err _ _ _ h
    split at h
    · split at h
      · cases h
      · exact cut_err _ _ _ h
    split at h
    · rename_i e' he; injection h with h; subst h; exact ih _ _ he
    · cases h
end Go.Proofs.YtcckemhelockaaaGreatDoor

namespace Go.Proofs.YtcckemhelockaaaGreatDoor
open Go.RowKit Go.Lib
set_option linter.unusedVariables false
set_option linter.unusedSimpArgs false
def cells2 (o : Of) : List Value := [.string (B o.1), .int .i64 o.2]
def cellsO (os : List Of) : List Value := os.flatMap cells2
theorem cellsO_cons (o : Of) (t : List Of) : cellsO (o :: t) = cells2 o ++ cellsO t := rfl
theorem cellsO_snoc (os : List Of) (o : Of) : cellsO (os ++ [o]) = cellsO os ++ cells2 o := by simp [cellsO]
theorem cellsO_at (os : List Of) (i : Nat) (h : i < os.length) : (cellsO os)[i * 2]? = some (.string (B os[i].1)) ∧ (cellsO os)[i * 2 + 1]? = some (.int .i64 os[i].2) := by
  induction os generalizing i with
  | nil => simp at h
  | cons e t ih =>
    rw [cellsO_cons]
    cases i with
    | zero => exact ⟨rfl, rfl⟩
    | succ i =>
      obtain ⟨h1, h2⟩ := ih i (by simpa using h)
      have l2 : (cells2 e).length = 2 := rfl
      refine ⟨?_, ?_⟩
      · rw [List.getElem?_append_right (by omega), show (i + 1) * 2 - (cells2 e).length = i * 2 by omega]; exact h1
      · rw [List.getElem?_append_right (by omega), show (i + 1) * 2 + 1 - (cells2 e).length = i * 2 + 1 by omega]; exact h2
/-- The cells from A on are these offers. -/
def OffsAt (w : World) (A : Option Addr) (os : List Of) : Prop :=
  ∀ i (h : i < os.length), ∃ (g off : Nat), A = some ⟨g, off, none⟩ ∧ g < w.heap.size ∧ w.cell? ⟨g, off + i * 2, none⟩ = some (.string (B os[i].1)) ∧ w.cell? ⟨g, off + i * 2 + 1, none⟩ = some (.int .i64 os[i].2)
theorem OffsAt.nil (w : World) (A : Option Addr) : OffsAt w A [] := fun i h => absurd h (by simp)
theorem OffsAt.below {w w' : World} {A : Option Addr} {os : List Of} (h : OffsAt w A os) (hb : Below w.heap.size w w') : OffsAt w' A os := by
  intro i hi
  obtain ⟨g, off, e, hl, h0, h1⟩ := h i hi
  have hk : ∀ j, w'.cell? ⟨g, j, none⟩ = w.cell? ⟨g, j, none⟩ := fun j => hb.cell (p := ⟨g, j, none⟩) hl
  exact ⟨g, off, e, by have := hb.size; omega, by rw [hk]; exact h0, by rw [hk]; exact h1⟩
theorem OffsAt.rel {w w' : World} {A : Option Addr} {os : List Of} (h : OffsAt w A os) (hr : Rel w w') : OffsAt w' A os := h.below hr.2
/-- Part of a slice. -/
theorem OffsAt.from {w : World} {g off : Nat} {os : List Of} (h : OffsAt w (some ⟨g, off, none⟩) os) (k : Nat) : OffsAt w (some ⟨g, off + k * 2, none⟩) (os.drop k) := by
  intro i hi
  rw [List.length_drop] at hi
  obtain ⟨g', off', e, hl, h0, h1⟩ := h (k + i) (by omega)
  injection e with e
  injection e with e1 e2
  subst e1; subst e2
  refine ⟨g, off + k * 2, rfl, hl, ?_, ?_⟩
  · rw [List.getElem_drop, show off + k * 2 + i * 2 = off + (k + i) * 2 by omega]; exact h0
  · rw [List.getElem_drop, show off + k * 2 + i * 2 + 1 = off + (k + i) * 2 + 1 by omega]; exact h1
theorem OffsAt.take {w : World} {A : Option Addr} {os : List Of} (h : OffsAt w A os) (k : Nat) : OffsAt w A (os.take k) := by
  intro i hi
  rw [List.length_take] at hi
  obtain ⟨g, off, e, hl, h0, h1⟩ := h i (by omega)
  refine ⟨g, off, e, hl, ?_, ?_⟩
  · rw [List.getElem_take]; exact h0
  · rw [List.getElem_take]; exact h1
theorem OffsAt.of_bk {w : World} {g : Nat} {os : List Of} (h : Bk w g 53 (cellsO os).toArray) : OffsAt w (some ⟨g, 0, none⟩) os := by
  intro i hi
  obtain ⟨c0, c1⟩ := cellsO_at os i hi
  refine ⟨g, 0, rfl, h.lt, ?_, ?_⟩
  · rw [Nat.zero_add, h.cell, List.getElem?_toArray]; exact c0
  · rw [Nat.zero_add, h.cell, List.getElem?_toArray]; exact c1
/-- Offers whose fields fit a machine. -/
def OffsFit (os : List Of) : Prop := ∀ o ∈ os, o.1.length ≤ 9223372036854775807 ∧ i64 o.2
/-- Offers as an argument. -/
def OffArg (w : World) (A : Option Addr) (c : Nat) (os : List Of) : Prop := os.length ≤ c ∧ c ≤ maxLen ∧ OffsFit os ∧ OffsAt w A os
theorem OffArg.rel {w w' : World} {A : Option Addr} {c : Nat} {os : List Of} (h : OffArg w A c os) (hr : Rel w w') : OffArg w' A c os := ⟨h.1, h.2.1, h.2.2.1, h.2.2.2.rel hr⟩
theorem offs_fit {l : List Of} (h : offsOk l = true) : OffsFit l := fun o ho => by
  obtain ⟨i, hi, rfl⟩ := List.mem_iff_getElem.1 ho
  have := ((offs_iff.1 h).2 i hi).1
  unfold offOk at this
  simp only [Bool.and_eq_true, decide_eq_true_eq] at this
  have hn := (name_parts this.1).2.2.1
  exact ⟨by omega, by omega, by omega⟩
/-- A slice of offers of the call's own. -/
def OffOwn (w : World) (base : Nat) (v : Value) (os : List Of) : Prop := w.ownsRow base 53 2 v os.length (cellsO os)
theorem OffOwn.nil (w : World) (base : Nat) : OffOwn w base (.slice none 0 0) [] := World.ownsRow_nil _ _ _ _
theorem OffOwn.rel {w w' : World} {base : Nat} {v : Value} {os : List Of} (h : OffOwn w base v os) (hr : Rel w w') : OffOwn w' base v os := own_rel h hr
theorem OffOwn.offs {w : World} {base : Nat} {A : Option Addr} {n c : Nat} {os : List Of} (h : OffOwn w base (.slice A n c) os) (hn : n = os.length) : OffsAt w A os := by
  intro i hi
  have h : w.ownsRow base 53 2 (.slice A n c) os.length (cellsO os) := h
  rcases h.2 with ⟨h0, h1⟩ | ⟨g, cap, cur, hv, hb, hh, _⟩
  · omega
  · have hA : A = some ⟨g, 0, none⟩ := by injection hv
    obtain ⟨c0, c1⟩ := cellsO_at os i hi
    have hc := h.cells (g := g) (by rw [hA]; rfl)
    have q0 := hc _ _ c0
    have q1 := hc _ _ c1
    rw [addr_at] at q0 q1
    refine ⟨g, 0, hA, Bk.lt (t := 53) hh, ?_, ?_⟩
    · exact q0
    · rw [Nat.add_assoc]; exact q1
theorem OffOwn.more {w1 : World} {base g cap : Nat} {os : List Of} {o : Of}
    (hown1 : w1.ownsRow base 53 2 (.slice (some ⟨g, 0, none⟩) (os.length + 1) cap) (os.length + 1) (cellsO os ++ cells2 o)) : OffOwn w1 base (.slice (some ⟨g, 0, none⟩) (os.length + 1) cap) (os ++ [o]) := by
  unfold OffOwn
  rw [cellsO_snoc, show (os ++ [o]).length = os.length + 1 by simp]; exact hown1
theorem off_info : (Tryz.prog.info? 53).map (fun i => (i.zero, i.size, i.bytes)) = some (some (.agg #[.string ⟨#[]⟩, .int .i64 0]), 2, 24) := by kernel_rfl
theorem cells2_one (o : Of) : ∀ u ∈ cells2 o, u.oneCell' = true := by
  intro u hu
  simp only [cells2, List.mem_cons, List.not_mem_nil, or_false] at hu
  rcases hu with rfl | rfl <;> rfl
end Go.Proofs.YtcckemhelockaaaGreatDoor

namespace Go.Proofs.YtcckemhelockaaaGreatDoor
open Go.Lib
set_option linter.unusedVariables false
set_option linter.unusedSimpArgs false
theorem offs_nodup {l : List Of} : offsOk l = true ↔ l.length ≤ 8 ∧ (∀ o ∈ l, offOk o = true) ∧ (l.map (·.1)).Nodup := by
  rw [offs_iff]
  refine and_congr_right fun _ => ?_
  constructor
  · intro h
    refine ⟨fun o ho => ?_, ?_⟩
    · obtain ⟨i, hi, rfl⟩ := List.mem_iff_getElem.1 ho
      exact (h i hi).1
    · unfold List.Nodup
      rw [List.pairwise_iff_getElem]
      intro i j hi hj hij
      rw [List.getElem_map, List.getElem_map]
      rw [List.length_map] at hi hj
      exact (h j hj).2 i hi hij
  · rintro ⟨h1, h2⟩ i hi
    refine ⟨h1 _ (List.getElem_mem hi), fun k hk hki => ?_⟩
    unfold List.Nodup at h2
    rw [List.pairwise_iff_getElem] at h2
    have := h2 k i (by simpa using hk) (by simpa using hi) hki
    simpa using this
theorem arg_at {k n : Int} {nm : List UInt8} {l : List Ex} {i : Nat} (h : i < l.length) : arg (.mk k n nm l) i = l[i] := by
  unfold arg
  rw [show (Ex.mk k n nm l).l = l from rfl, List.getElem?_eq_getElem h]; rfl
theorem arg_fine {d : Nat} {k n : Int} {nm : List UInt8} {l : List Ex} (h : fine (d + 1) (.mk k n nm l) = true) {i : Nat} (hi : (i : Int) < argsN k) :
    ∃ hi : i < l.length, arg (.mk k n nm l) i = l[i] ∧ fine d l[i] = true ∧ isCond l[i].k = (decide (k = 10) && decide (i = 0)) := by
  obtain ⟨h1, _, _, _, h5⟩ := fine_parts h
  have hl : i < l.length := by omega
  exact ⟨hl, arg_at hl, (h5 i hl).2, (h5 i hl).1⟩
theorem kind_list {k : Int} (h : 0 ≤ argsN k) : k = 1 ∨ k = 2 ∨ k = 3 ∨ k = 4 ∨ k = 5 ∨ k = 6 ∨ k = 7 ∨ k = 8 ∨ k = 9 ∨ k = 10 ∨ k = 11 ∨ k = 12 := by
  unfold argsN at h
  repeat' split at h
  all_goals omega
/-- What may be within d is told the same within more. -/
theorem told_less (l : List Of) : ∀ (d e : Nat), d ≤ e → ∀ (x : Ex), fine d x = true → (isCond x.k = false → toldN l e x = toldN l d x) ∧ (isCond x.k = true → condN l e x = condN l d x) := by
  intro d
  induction d with
  | zero => intro e _ x h; cases h
  | succ d ih =>
    intro e he x hx
    cases e with
    | zero => omega
    | succ e =>
      have he : d ≤ e := by omega
      cases x with
      | mk k n nm xs =>
        have hk := kind_list (k := k) (by obtain ⟨h1, _⟩ := fine_parts hx; omega)
        have hT : ∀ (i : Nat), (i : Int) < argsN k → isCond (arg (.mk k n nm xs) i).k = (decide (k = 10) && decide (i = 0)) ∧ (isCond (arg (.mk k n nm xs) i).k = false → toldN l e (arg (.mk k n nm xs) i) = toldN l d (arg (.mk k n nm xs) i)) ∧ (isCond (arg (.mk k n nm xs) i).k = true → condN l e (arg (.mk k n nm xs) i) = condN l d (arg (.mk k n nm xs) i)) := fun i hi => by
          obtain ⟨_, e1, f, c⟩ := arg_fine hx hi
          rw [e1]; exact ⟨c, ih e he _ f⟩
        have hN : ∀ (i : Nat), (i : Int) < argsN k → (k = 10 → i ≠ 0) → toldN l e (arg (.mk k n nm xs) i) = toldN l d (arg (.mk k n nm xs) i) := fun i hi h => (hT i hi).2.1 (by
          rw [(hT i hi).1]
          by_cases h10 : k = 10
          · simp [h h10]
          · simp [h10])
        generalize hX : Ex.mk k n nm xs = X at *
        have hXk : X.k = k := by rw [← hX]; rfl
        constructor
        · intro hc
          rw [told_succ, told_succ]
          unfold toldF toldG
          rw [hXk]
          rcases hk with rfl | rfl | rfl | rfl | rfl | rfl | rfl | rfl | rfl | rfl | rfl | rfl
          · rfl
          · rfl
          · rfl
          · rfl
          · rw [hN 0 (by decide) (by omega)]; rfl
          · rw [hN 0 (by decide) (by omega)]; rfl
          · rw [hN 0 (by decide) (by omega), hN 1 (by decide) (by omega)]; rfl
          · rw [hN 0 (by decide) (by omega), hN 1 (by decide) (by omega)]; rfl
          · rw [hN 0 (by decide) (by omega), hN 1 (by decide) (by omega)]; rfl
          · have c := (hT 0 (by decide)).2.2 (by rw [(hT 0 (by decide)).1]; rfl)
            unfold condN at c
            rw [c, hN 1 (by decide) (by omega), hN 2 (by decide) (by omega)]; rfl
          · rw [hXk] at hc; cases hc
          · rw [hXk] at hc; cases hc
        · intro hc
          unfold condN condF
          rw [hXk]
          have hk' : k = 11 ∨ k = 12 := by
            rw [hXk] at hc
            simpa [isCond] using hc
          rcases hk' with rfl | rfl
          · rfl
          · have hh : ∀ (i : Nat), (i : Int) < 2 → toldN l (e + 1) (arg X i) = toldN l (d + 1) (arg X i) := fun i hi => by
              obtain ⟨_, e1, f, c⟩ := arg_fine (k := 12) (hX ▸ hx) (i := i) hi
              rw [← hX, e1, (ih (e + 1) (by omega) _ f).1 (by rw [c]; rfl), (ih (d + 1) (by omega) _ f).1 (by rw [c]; rfl)]
            rw [hh 0 (by decide), hh 1 (by decide)]
end Go.Proofs.YtcckemhelockaaaGreatDoor

namespace Go.Proofs.YtcckemhelockaaaGreatDoor
open Go.Lib
set_option linter.unusedVariables false
set_option linter.unusedSimpArgs false
/-- Offers of raw numbers, as the law makes them. -/
def ofL (z : Int × Int) : Of := (sellerL (pk z.1 60), 1 + pk z.2 3000)
def hasS (out : List Of) (s : List UInt8) : Bool := out.any fun o => decide (o.1 = s)
def offersL : List (Int × Int) → List Of → List Of
  | [], out => out
  | z :: t, out => if out.length < 8 then (if hasS out (ofL z).1 then offersL t out else offersL t (out ++ [ofL z])) else out
theorem of_ok (z : Int × Int) : offOk (ofL z) = true := by
  have h1 := pk_bd z.1 60 (by omega)
  have h2 := pk_bd z.2 3000 (by omega)
  unfold offOk ofL
  simp only [Bool.and_eq_true, decide_eq_true_eq]
  exact ⟨seller_name _ h1.1 h1.2, by omega, by omega⟩
theorem offers_ok : ∀ (zs : List (Int × Int)) (out : List Of), offsOk out = true → offsOk (offersL zs out) = true := by
  intro zs
  induction zs with
  | nil => intro out h; exact h
  | cons z t ih =>
    intro out h
    rw [offersL]
    split
    · rename_i hl
      split
      · exact ih _ h
      · rename_i hs
        refine ih _ ?_
        rw [offs_nodup] at h ⊢
        obtain ⟨h1, h2, h3⟩ := h
        refine ⟨by simp; omega, fun o ho => ?_, ?_⟩
        · rcases List.mem_append.1 ho with ho | ho
          · exact h2 o ho
          · obtain rfl : o = ofL z := by simpa using ho
            exact of_ok z
        · rw [List.map_append, List.nodup_append]
          refine ⟨h3, by simp, fun a ha b hb => ?_⟩
          obtain rfl : b = (ofL z).1 := by simpa using hb
          obtain ⟨o, ho, rfl⟩ := List.mem_map.1 ha
          intro e
          apply hs
          unfold hasS
          rw [List.any_eq_true]
          exact ⟨o, ho, by simpa using e⟩
    · exact h
theorem offsOk_nil : offsOk [] = true := by decide
/-- The law's offers. -/
def offS (zs : List (Int × Int)) : List Of := offersL zs []
theorem offS_ok (zs : List (Int × Int)) : offsOk (offS zs) = true := offers_ok _ _ offsOk_nil
theorem offs_len {l : List Of} (h : offsOk l = true) : l.length ≤ 8 := (offs_nodup.1 h).1
/-- What has a text of its own may be a strategy. -/
theorem right_leaf {k n : Int} {nm : List UInt8} (hk : k = 1 ∨ k = 2 ∨ k = 3 ∨ k = 4) (hn : 0 ≤ n ∧ n ≤ mostN k) (h3 : nm ≠ [] ↔ k = 3) (hm : k = 3 → isName nm = true) : rightX (.mk k n nm []) = true := by
  have hf : fine 32 (.mk k n nm []) = true := fine_mk (by rcases hk with rfl | rfl | rfl | rfl <;> rfl) hn h3 hm fun i hi => absurd hi (by simp)
  have hc : isCond (Ex.mk k n nm []).k = false := by rcases hk with rfl | rfl | rfl | rfl <;> rfl
  have hs : size (.mk k n nm []) = 1 := by rw [size_mk, sizes_nil]
  have ht := text_len _ _ hf
  unfold rightX
  rw [hf, hc, hs]
  rw [hs] at ht
  simp; omega
theorem told_one (l : List Of) (d : Nat) (x : Ex) (h : x.k = 1) : toldN l (d + 1) x = .ok (rk l 0) := by rw [told_succ]; unfold toldF toldG; rw [if_pos h]
theorem told_two (l : List Of) (d : Nat) (x : Ex) (h : x.k = 2) : toldN l (d + 1) x = .ok (rk l 1) := by rw [told_succ]; unfold toldF toldG; rw [h]; rfl
theorem told_from (l : List Of) (d : Nat) (x : Ex) (h : x.k = 3) : toldN l (d + 1) x = .ok (fromO l x.nm) := by rw [told_succ]; unfold toldF toldG; rw [h]; rfl
theorem told_fix (l : List Of) (d : Nat) (x : Ex) (h : x.k = 4) : toldN l (d + 1) x = .ok (some x.n) := by rw [told_succ]; unfold toldF toldG; rw [h]; rfl
theorem told_less5 (l : List Of) (d : Nat) (n : Int) (nm : List UInt8) (y : Ex) : toldN l (d + 1) (.mk 5 n nm [y]) = match toldN l d y with | .error e => .error e | .ok none => .ok none | .ok (some v) => subR v n := by
  rw [told_succ]; unfold toldF toldG
  rw [show arg (.mk 5 n nm [y]) 0 = y from rfl]
  cases toldN l d y with
  | error e => rfl
  | ok o => cases o <;> rfl
theorem told_cut6 (l : List Of) (d : Nat) (n : Int) (nm : List UInt8) (y : Ex) : toldN l (d + 1) (.mk 6 n nm [y]) = match toldN l d y with | .error e => .error e | .ok none => .ok none | .ok (some v) => cutR v n := by
  rw [told_succ]; unfold toldF toldG
  rw [show arg (.mk 6 n nm [y]) 0 = y from rfl]
  cases toldN l d y with
  | error e => rfl
  | ok o => cases o <;> rfl
theorem told_both (l : List Of) (d : Nat) (k n : Int) (nm : List UInt8) (x y : Ex) (hk : k = 7 ∨ k = 8) : toldN l (d + 1) (.mk k n nm [x, y]) = match toldN l d x with | .error e => .error e | .ok a => match toldN l d y with | .error e => .error e | .ok b => .ok (bothF k a b) := by
  rw [told_succ]; unfold toldF toldG
  rw [show arg (.mk k n nm [x, y]) 0 = x from rfl, show arg (.mk k n nm [x, y]) 1 = y from rfl]
  rcases hk with rfl | rfl <;> rfl
theorem told_else (l : List Of) (d : Nat) (n : Int) (nm : List UInt8) (x y : Ex) : toldN l (d + 1) (.mk 9 n nm [x, y]) = match toldN l d x with | .error e => .error e | .ok (some v) => .ok (some v) | .ok none => toldN l d y := by
  rw [told_succ]; unfold toldF toldG
  rw [show arg (.mk 9 n nm [x, y]) 0 = x from rfl, show arg (.mk 9 n nm [x, y]) 1 = y from rfl]
  cases toldN l d x with
  | error e => rfl
  | ok o => cases o <;> rfl
theorem told_if (l : List Of) (d : Nat) (n : Int) (nm : List UInt8) (c x y : Ex) : toldN l (d + 1) (.mk 10 n nm [c, x, y]) = match condN l d c with | .error e => .error e | .ok true => toldN l d x | .ok false => toldN l d y := by
  rw [told_succ]; unfold toldF toldG
  rw [show arg (.mk 10 n nm [c, x, y]) 0 = c from rfl, show arg (.mk 10 n nm [c, x, y]) 1 = x from rfl, show arg (.mk 10 n nm [c, x, y]) 2 = y from rfl]
  rfl
theorem cond_above (l : List Of) (d : Nat) (n : Int) (nm : List UInt8) (x y : Ex) : condN l d (.mk 12 n nm [x, y]) = match toldN l d x with | .error e => .error e | .ok a => match toldN l d y with | .error e => .error e | .ok b => .ok (match a, b with | some a, some b => decide (b < a) | _, _ => false) := rfl
theorem eval_yes {l : List Of} {x : Ex} (h : offsOk l = true) (h' : rightX x = true) : evalS l x = toldN l 32 x := by unfold evalS; rw [h, h']; rfl
end Go.Proofs.YtcckemhelockaaaGreatDoor

namespace Go.Proofs.YtcckemhelockaaaGreatDoor
open Go.Lib
set_option linter.unusedVariables false
set_option linter.unusedSimpArgs false
/-- What lies on a stack: an amount, or nothing. -/
abbrev Ce := Option Int
/-- A stack, and what is wrong. -/
abbrev Ms := List Ce × Int
def takeM (s : Ms) : Ce × Ms := if s.2 = 0 then (match s.1.getLast? with | none => (none, (s.1, 100)) | some a => (a, (s.1.dropLast, 0))) else (none, s)
def putM (s : Ms) (c : Ce) : Ms := if s.2 = 0 then (if 100 ≤ s.1.length then (s.1, 100) else (s.1 ++ [c], 0)) else s
def minusM (s : Ms) (c : Ce) (f : Int → Rs) : Ms := match c with
  | none => putM s none
  | some v => if s.2 = 0 then (match f v with | .error e => (s.1, e) | .ok c => putM s c) else s
def twoC (op : Int) (a b : Ce) : Ce := if op = 11 then some (match a, b with | some a, some b => if b < a then 1 else 0 | _, _ => 0) else bothF op a b
def twoM (op : Int) (s : Ms) : Ms := putM (takeM (takeM s).2).2 (twoC op (takeM (takeM s).2).1 (takeM s).1)
/-- An instruction: the next place, and the stack behind it. -/
def stepM (l : List Of) (x : In) (at_ : Nat) (s : Ms) : Nat × Ms :=
  if x.1 = 1 then (at_ + 1, putM s (some x.2.1))
  else if x.1 = 2 then (at_ + 1, putM s (rk l 0))
  else if x.1 = 3 then (at_ + 1, putM s (rk l 1))
  else if x.1 = 4 then (at_ + 1, putM s (fromO l x.2.2))
  else if x.1 = 5 then (at_ + 1, minusM (takeM s).2 (takeM s).1 (fun v => subR v x.2.1))
  else if x.1 = 6 then (at_ + 1, minusM (takeM s).2 (takeM s).1 (fun v => cutR v x.2.1))
  else if x.1 = 9 then (match (takeM s).1 with | some v => (x.2.1.toNat, putM (takeM s).2 (some v)) | none => (at_ + 1, (takeM s).2))
  else if x.1 = 10 then (at_ + 1, putM s (some (if x.2.1 < (l.length : Int) then 1 else 0)))
  else if x.1 = 12 then (match (takeM s).1 with | some v => if v = 0 then (x.2.1.toNat, (takeM s).2) else (at_ + 1, (takeM s).2) | none => (x.2.1.toNat, (takeM s).2))
  else if x.1 = 13 then (x.2.1.toNat, s)
  else (at_ + 1, twoM x.1 s)
/-- What is done of code, from a place on. -/
def playM (l : List Of) (c : List In) : Nat → Nat → Ms → Nat → Ms × Nat
  | 0, _, s, n => (s, n)
  | f + 1, at_, s, n => match c[at_]? with
    | none => (s, n)
    | some x => if s.2 = 0 then playM l c f (stepM l x at_ s).1 (stepM l x at_ s).2 (n + 1) else (s, n)
/-- All leads are forward. -/
def Fwd (c : List In) : Prop := ∀ i (h : i < c.length), isTo c[i].1 = true → (i : Int) < c[i].2.1 ∧ c[i].2.1 ≤ (c.length : Int)
theorem fwd_of {c : List In} (h : codeOk c = true) : Fwd c := fun i hi ht => by
  have h1 := (codeOk_iff.1 h).2 i hi
  unfold inOk leastO mostO at h1
  rw [ht] at h1
  simp only [Bool.and_eq_true, decide_eq_true_eq, if_true] at h1
  omega
theorem step_next {l : List Of} {c : List In} (hf : Fwd c) {i : Nat} (hi : i < c.length) (s : Ms) : i < (stepM l c[i] i s).1 ∧ (stepM l c[i] i s).1 ≤ c.length := by
  have h := hf i hi
  unfold stepM
  by_cases h9 : c[i].1 = 9
  · have := h (by rw [h9]; rfl)
    rw [if_neg (by omega), if_neg (by omega), if_neg (by omega), if_neg (by omega), if_neg (by omega), if_neg (by omega), if_pos h9]
    cases (takeM s).1 <;> simp only <;> omega
  by_cases h12 : c[i].1 = 12
  · have := h (by rw [h12]; rfl)
    rw [if_neg (by omega), if_neg (by omega), if_neg (by omega), if_neg (by omega), if_neg (by omega), if_neg (by omega), if_neg (by omega), if_neg (by omega), if_pos h12]
    cases (takeM s).1 with
    | none => simp only; omega
    | some v => simp only; split <;> simp only <;> omega
  by_cases h13 : c[i].1 = 13
  · have := h (by rw [h13]; rfl)
    rw [if_neg (by omega), if_neg (by omega), if_neg (by omega), if_neg (by omega), if_neg (by omega), if_neg (by omega), if_neg (by omega), if_neg (by omega), if_neg (by omega), if_pos h13]
    simp only; omega
  rw [if_neg h9, if_neg h12, if_neg h13]
  repeat' split
  all_goals (simp only; omega)
theorem play_err (l : List Of) (c : List In) (f at_ : Nat) (s : Ms) (n : Nat) (h : s.2 ≠ 0) : playM l c f at_ s n = (s, n) := by
  cases f with
  | zero => rfl
  | succ f =>
    rw [playM]
    cases c[at_]? with
    | none => rfl
    | some x => simp only; rw [if_neg h]
theorem play_end (l : List Of) (c : List In) (f at_ : Nat) (s : Ms) (n : Nat) (h : c.length ≤ at_) : playM l c f at_ s n = (s, n) := by
  cases f with
  | zero => rfl
  | succ f => rw [playM, List.getElem?_eq_none h]
/-- More than enough is enough. -/
theorem play_more {l : List Of} {c : List In} (hf : Fwd c) : ∀ (f g at_ : Nat) (s : Ms) (n : Nat), c.length - at_ ≤ f → c.length - at_ ≤ g → playM l c f at_ s n = playM l c g at_ s n := by
  intro f
  induction f with
  | zero =>
    intro g at_ s n h1 h2
    rw [play_end l c 0 at_ s n (by omega), play_end l c g at_ s n (by omega)]
  | succ f ih =>
    intro g at_ s n h1 h2
    by_cases hl : at_ < c.length
    · cases g with
      | zero => omega
      | succ g =>
        rw [playM, playM, List.getElem?_eq_getElem hl]
        simp only
        by_cases he : s.2 = 0
        · rw [if_pos he, if_pos he]
          have := (step_next (l := l) hf hl s).1
          exact ih g _ _ _ (by omega) (by omega)
        · rw [if_neg he, if_neg he]
    · rw [play_end l c _ at_ s n (by omega), play_end l c _ at_ s n (by omega)]
/-- From a place on, all of it. -/
def goM (l : List Of) (c : List In) (at_ : Nat) (s : Ms) (n : Nat) : Ms × Nat := playM l c (c.length - at_) at_ s n
theorem go_err (l : List Of) (c : List In) (at_ : Nat) (s : Ms) (n : Nat) (h : s.2 ≠ 0) : goM l c at_ s n = (s, n) := play_err l c _ at_ s n h
theorem go_end (l : List Of) (c : List In) (at_ : Nat) (s : Ms) (n : Nat) (h : c.length ≤ at_) : goM l c at_ s n = (s, n) := play_end l c _ at_ s n h
theorem go_step {l : List Of} {c : List In} (hf : Fwd c) {at_ : Nat} {x : In} (hx : c[at_]? = some x) (S : List Ce) (n : Nat) : goM l c at_ (S, 0) n = goM l c (stepM l x at_ (S, 0)).1 (stepM l x at_ (S, 0)).2 (n + 1) := by
  obtain ⟨hl, rfl⟩ := List.getElem?_eq_some_iff.1 hx
  have := (step_next (l := l) hf hl (S, 0)).1
  unfold goM
  obtain ⟨f, hfu⟩ : ∃ f, c.length - at_ = f + 1 := ⟨c.length - at_ - 1, by omega⟩
  rw [hfu, playM, hx]
  simp only [if_true]
  exact play_more hf _ _ _ _ _ (by omega) (by omega)
/-- What code tells, of offers; and in how many steps. -/
def endR (s : Ms) : Rs := if s.2 = 0 then (match s.1 with | [c] => .ok c | _ => .error 100) else .error s.2
def runS (l : List Of) (c : List In) : Rs := if offsOk l then (if codeOk c then endR (goM l c 0 ([], 0) 0).1 else .error 100) else .error 1
def stepsS (l : List Of) (c : List In) : Nat := if offsOk l && codeOk c then (goM l c 0 ([], 0) 0).2 else 0
theorem run_yes {l : List Of} {c : List In} (h : offsOk l = true) (h' : codeOk c = true) : runS l c = endR (goM l c 0 ([], 0) 0).1 ∧ stepsS l c = (goM l c 0 ([], 0) 0).2 := by
  unfold runS stepsS; rw [h, h']; exact ⟨rfl, rfl⟩
theorem take_last (S : List Ce) (a : Ce) : takeM (S ++ [a], 0) = (a, (S, 0)) := by
  unfold takeM; simp
theorem take_none : takeM ([], 0) = (none, ([], 100)) := rfl
theorem put_room {S : List Ce} (h : S.length < 100) (c : Ce) : putM (S, 0) c = (S ++ [c], 0) := by
  unfold putM; rw [if_pos rfl, if_neg (by simp only; omega)]
theorem put_full {S : List Ce} (h : 100 ≤ S.length) (c : Ce) : putM (S, 0) c = (S, 100) := by
  unfold putM; rw [if_pos rfl, if_pos h]
theorem put_err {s : Ms} (h : s.2 ≠ 0) (c : Ce) : putM s c = s := by unfold putM; rw [if_neg h]
theorem minus_ok {S : List Ce} {v : Int} {f : Int → Rs} {r : Ce} (h : f v = .ok r) : minusM (S, 0) (some v) f = putM (S, 0) r := by
  unfold minusM; simp only [if_true, h]
theorem minus_bad {S : List Ce} {v : Int} {f : Int → Rs} {e : Int} (h : f v = .error e) : minusM (S, 0) (some v) f = (S, e) := by
  unfold minusM; simp only [if_true, h]
end Go.Proofs.YtcckemhelockaaaGreatDoor

namespace Go.Proofs.YtcckemhelockaaaGreatDoor
open Go.Lib
set_option linter.unusedVariables false
set_option linter.unusedSimpArgs false
theorem prices_len (l : List Of) : (prices l).length = l.length := List.length_map ..
def more (n : Int) : Ex := .mk 11 n [] []
end Go.Proofs.YtcckemhelockaaaGreatDoor

namespace Go.Proofs.YtcckemhelockaaaGreatDoor
open Go.Lib
set_option linter.unusedVariables false
set_option linter.unusedSimpArgs false
/-- These instructions stand in the code from a place on. -/
def Lies (c : List In) (p : Nat) (s : List In) : Prop := ∀ i (h : i < s.length), c[p + i]? = some s[i]
theorem Lies.tail {c : List In} {p : Nat} {x : In} {b : List In} (h : Lies c p (x :: b)) : Lies c (p + 1) b := fun i hi => by
  have := h (i + 1) (by simpa using hi)
  rw [Nat.add_assoc, Nat.add_comm 1 i, this]; rfl
end Go.Proofs.YtcckemhelockaaaGreatDoor

namespace Go.Proofs.YtcckemhelockaaaGreatDoor
open Go.RowKit Go.Lib
set_option linter.unusedVariables false
set_option linter.unusedSimpArgs false
abbrev RV (r : Rs) : Value := .tuple #[.int .i64 (rsV r), .bool (rsB r), .int .i64 (rsE r)]
end Go.Proofs.YtcckemhelockaaaGreatDoor

namespace Go.Proofs.YtcckemhelockaaaGreatDoor
open Go.RowKit Go.Lib
set_option linter.unusedVariables false
set_option linter.unusedSimpArgs false
def RunOk : Prop := ∀ (A A' : Option Addr) (c c' : Nat) (l : List In) (os : List Of) (w0 w : World), Rel w0 w → InsArg w A c l → OffArg w A' c' os →
    Calls Tryz.prog 13 #[.slice A l.length c, .slice A' os.length c'] w fun r w' => r = .returned (RV (runS os l)) ∧ Rel w0 w'
def RStepsOk : Prop := ∀ (A A' : Option Addr) (c c' : Nat) (l : List In) (os : List Of) (w0 w : World), Rel w0 w → InsArg w A c l → OffArg w A' c' os →
    Calls Tryz.prog 15 #[.slice A l.length c, .slice A' os.length c'] w fun r w' => r = .returned (.int .i64 (stepsS os l : Int)) ∧ Rel w0 w'
/-- What the program is shown to tell. -/
def RunsOk : Prop := RunOk ∧ RStepsOk
/-- A call of Run, what it tells spelled. -/
theorem run_as (H : RunsOk) (l : List In) (os : List Of) (n m : Nat) (v e : Int) (b : Bool) (hv : Hid (RV (runS os l) = .tuple #[.int .i64 v, .bool b, .int .i64 e] ∧ l.length = n ∧ os.length = m)) (A A' : Option Addr) (c c' : Nat) (w0 w : World) (hr : Rel w0 w) (h : InsArg w A c l) (ho : OffArg w A' c' os) :
    Calls Tryz.prog 13 #[.slice A n c, .slice A' m c'] w fun r w' => r = .returned (.tuple #[.int .i64 v, .bool b, .int .i64 e]) ∧ Rel w0 w' := by
  obtain ⟨h1, h2, h3⟩ := hv.out
  subst h2 h3
  rw [← h1]; exact H.1 A A' c c' l os w0 w hr h ho
theorem steps_as (H : RunsOk) (l : List In) (os : List Of) (n m k : Nat) (hv : Hid (stepsS os l = k ∧ l.length = n ∧ os.length = m)) (A A' : Option Addr) (c c' : Nat) (w0 w : World) (hr : Rel w0 w) (h : InsArg w A c l) (ho : OffArg w A' c' os) :
    Calls Tryz.prog 15 #[.slice A n c, .slice A' m c'] w fun r w' => r = .returned (.int .i64 (k : Int)) ∧ Rel w0 w' := by
  obtain ⟨h1, h2, h3⟩ := hv.out
  subst h1 h2 h3
  exact H.2 A A' c c' l os w0 w hr h ho
/-- Instructions in a block that was just made. -/
theorem ins_newl (w : World) (l : List In) (cs : Array Value) (hcs : (cellsI l).toArray = cs) (c : Nat) (hc : l.length ≤ c) (hm : c ≤ maxLen) (hf : InsFit l) : InsArg (w.alloc (.cells cs 45)) (some ⟨w.heap.size, 0, none⟩) c l := by
  subst hcs
  exact ⟨hc, hm, hf, InsAt.of_bk (Bk.new w _ _)⟩
theorem off_new (w : World) (os : List Of) (c : Nat) (hc : os.length ≤ c) (hm : c ≤ maxLen) (hf : OffsFit os) (cs : Array Value) (hcs : (cellsO os).toArray = cs) : OffArg (w.alloc (.cells cs 53)) (some ⟨w.heap.size, 0, none⟩) c os := by
  subst hcs
  exact ⟨hc, hm, hf, OffsAt.of_bk (Bk.new w _ _)⟩
theorem in_small {l : List In} (h : ∀ o ∈ l, (-1000 ≤ o.1 ∧ o.1 ≤ 1000) ∧ (-1000 ≤ o.2.1 ∧ o.2.1 ≤ 1000) ∧ o.2.2.length ≤ 100) : InsFit l := fun o ho => by
  obtain ⟨⟨a, b⟩, ⟨c, d⟩, e⟩ := h o ho
  exact ⟨⟨by omega, by omega⟩, ⟨by omega, by omega⟩, by omega⟩
theorem of_small {os : List Of} (h : ∀ o ∈ os, o.1.length ≤ 100 ∧ 0 ≤ o.2 ∧ o.2 ≤ 1000) : OffsFit os := fun o ho => by
  have := h o ho
  exact ⟨by omega, by omega, by omega⟩
def ofA5 : List Of := [([97], 500), ([98], 700)]
def cA : List In := [(2, 0, []), (7, 0, [])]
def cB : List In := [(10, 1, []), (12, 4, []), (3, 0, []), (13, 5, []), (1, 3, []), (5, 1, [])]
def cC : List In := [(4, 0, [99])]
theorem a5_ok : offsOk ofA5 = true := by decide
theorem cA_run : runS ofA5 cA = .error 100 ∧ stepsS ofA5 cA = 2 := by
  obtain ⟨h1, h2⟩ := run_yes a5_ok (show codeOk cA = true by decide)
  rw [h1, h2]
  exact ⟨rfl, rfl⟩
theorem cB_run : runS ofA5 cB = .ok (some 699) := by
  rw [(run_yes a5_ok (show codeOk cB = true by decide)).1]
  rfl
theorem cC_run : runS ofA5 cC = .ok none := by
  rw [(run_yes a5_ok (show codeOk cC = true by decide)).1]
  rfl
set_option maxRecDepth 100000 in
set_option maxHeartbeats 8000000 in
theorem awake11_any (H : RunsOk) (w0 w : World) (hr : Rel w0 w) :
    Calls Tryz.prog 10 #[] w fun e w' => e = .returned (.bool true) ∧ Rel w0 w' := by
  have H := Lib.hid H
  have HR := Lib.hid hr
  have HA := Lib.hid (hr.self.alloc (.cells #[.string ⟨#[97]⟩, .int .i64 500, .string ⟨#[98]⟩, .int .i64 700] 53))
  have HO := Lib.hid (off_new w ofA5 2 (by decide) (by decide) (of_small (by decide)) #[.string ⟨#[97]⟩, .int .i64 500, .string ⟨#[98]⟩, .int .i64 700] rfl)
  have IA := Lib.hid (fun w1 : World => ins_newl w1 cA #[.int .i64 2, .int .i64 0, .string ⟨#[]⟩, .int .i64 7, .int .i64 0, .string ⟨#[]⟩] rfl 2 (by decide) (by decide) (in_small (by decide)))
  have IB := Lib.hid (fun w1 : World => ins_newl w1 cB #[.int .i64 10, .int .i64 1, .string ⟨#[]⟩, .int .i64 12, .int .i64 4, .string ⟨#[]⟩, .int .i64 3, .int .i64 0, .string ⟨#[]⟩, .int .i64 13, .int .i64 5, .string ⟨#[]⟩, .int .i64 1, .int .i64 3, .string ⟨#[]⟩, .int .i64 5, .int .i64 1, .string ⟨#[]⟩] rfl 6 (by decide) (by decide) (in_small (by decide)))
  have IC := Lib.hid (fun w1 : World => ins_newl w1 cC #[.int .i64 4, .int .i64 0, .string ⟨#[99]⟩] rfl 1 (by decide) (by decide) (in_small (by decide)))
  have Q1 := Lib.hid (show RV (runS ofA5 cA) = .tuple #[.int .i64 0, .bool false, .int .i64 100] ∧ cA.length = 2 ∧ ofA5.length = 2 from ⟨by rw [cA_run.1]; rfl, rfl, rfl⟩)
  have Q2 := Lib.hid (show RV (runS ofA5 cB) = .tuple #[.int .i64 699, .bool true, .int .i64 0] ∧ cB.length = 6 ∧ ofA5.length = 2 from ⟨by rw [cB_run]; rfl, rfl, rfl⟩)
  have Q3 := Lib.hid (show RV (runS ofA5 cC) = .tuple #[.int .i64 0, .bool false, .int .i64 0] ∧ cC.length = 1 ∧ ofA5.length = 2 from ⟨by rw [cC_run]; rfl, rfl, rfl⟩)
  have Q4 := Lib.hid (show stepsS ofA5 cA = 2 ∧ cA.length = 2 ∧ ofA5.length = 2 from ⟨cA_run.2, rfl, rfl⟩)
  obtain ⟨W, hW⟩ : ∃ W, w.alloc (.cells #[.string ⟨#[97]⟩, .int .i64 500, .string ⟨#[98]⟩, .int .i64 700] 53) = W := ⟨_, rfl⟩
  rw [hW] at HA HO
  clear hr
  go_enter Tryz.func10, Tryz.ntmps10
  go_upto_region 2 with (fail)
  try simp only [hW]
  go_wp2_with (first
    | (go_at_call 13; (with_reducible refine (run_as H.out cA ofA5 2 2 0 100 false Q1 (some ⟨W.heap.size, 0, none⟩) (some ⟨w.heap.size, 0, none⟩) 2 2 _ _ (HA.out.self.alloc _).self (IA.out _) (HO.out.rel (HA.out.self.alloc _))).mono ?_); rintro e w1 ⟨rfl, h1⟩; have R1 := Lib.hid ((HA.out.self.alloc _).trans h1); have O1 := Lib.hid (HO.out.rel R1.out))
    | (go_at_call 13; (with_reducible refine (run_as H.out cB ofA5 6 2 699 0 true Q2 (some ⟨w1.heap.size, 0, none⟩) (some ⟨w.heap.size, 0, none⟩) 6 2 _ _ (R1.out.self.alloc _).self (IB.out _) (O1.out.rel (R1.out.self.alloc _))).mono ?_); rintro e w2 ⟨rfl, h2⟩; have R2 := Lib.hid ((R1.out.alloc _).trans h2); have O2 := Lib.hid (HO.out.rel R2.out))
    | (go_at_call 13; (with_reducible refine (run_as H.out cC ofA5 1 2 0 0 false Q3 (some ⟨w2.heap.size, 0, none⟩) (some ⟨w.heap.size, 0, none⟩) 1 2 _ _ (R2.out.self.alloc _).self (IC.out _) (O2.out.rel (R2.out.self.alloc _))).mono ?_); rintro e w3 ⟨rfl, h3⟩; have R3 := Lib.hid ((R2.out.alloc _).trans h3); have O3 := Lib.hid (HO.out.rel R3.out))
    | (go_at_call 15; (with_reducible refine (steps_as H.out cA ofA5 2 2 2 Q4 (some ⟨w3.heap.size, 0, none⟩) (some ⟨w.heap.size, 0, none⟩) 2 2 _ _ (R3.out.self.alloc _).self (IA.out _) (O3.out.rel (R3.out.self.alloc _))).mono ?_); rintro e w4 ⟨rfl, h4⟩; have R4 := Lib.hid ((R3.out.alloc _).trans h4)))
  go_ret
  exact ⟨rfl, HR.out.trans (HA.out.trans R4.out)⟩
end Go.Proofs.YtcckemhelockaaaGreatDoor

namespace Go.Proofs.YtcckemhelockaaaGreatDoor
open Go.Lib
set_option linter.unusedVariables false
set_option linter.unusedSimpArgs false
theorem from_none {l : List Of} {s : List UInt8} (h : ∀ i (hi : i < l.length), l[i].1 ≠ s) : fromO l s = none := by
  unfold fromO
  rw [Option.map_eq_none_iff, List.find?_eq_none]
  intro o ho
  obtain ⟨i, hi, rfl⟩ := List.mem_iff_getElem.1 ho
  simpa using h i hi
end Go.Proofs.YtcckemhelockaaaGreatDoor

namespace Go.Proofs.YtcckemhelockaaaGreatDoor
open Go.RowKit Go.Lib
set_option linter.unusedVariables false
set_option linter.unusedSimpArgs false
def num (n : Int) : ByteArray := B (itoa n)
def tx (a : Int) : ByteArray := B (txt a)
theorem num_pos (n : Int) (h : 0 ≤ n) : num n = B (decDigits n.toNat) := by unfold num itoa; rw [if_neg (by omega)]
theorem num_size (n : Int) (h : 0 ≤ n) (h' : n ≤ 9223372036854775807) : (num n).size ≤ 19 := by rw [num_pos n h]; exact dd_size n h'
theorem tx_parts (a : Int) (h : 0 ≤ a) (h' : a ≤ 1000000000000) : B (decDigits (a / 100).toNat) ++ (⟨#[46]⟩ : ByteArray) ++ B (decDigits (a / 10 % 10).toNat) ++ B (decDigits (a % 10).toNat) = tx a := by
  have e : (⟨#[46]⟩ : ByteArray) = B [46] := rfl
  rw [e, B_append, B_append, B_append]
  unfold tx txt
  rw [rt_yes (by omega) h', if_pos rfl, if_neg (by omega)]
  unfold pos
  rw [show (a / 100).toNat = a.natAbs / 100 by omega, show (a / 10 % 10).toNat = a.natAbs / 10 % 10 by omega, show (a % 10).toNat = a.natAbs % 10 by omega]
  simp
theorem B_zero (c : UInt8) (t : List UInt8) (h : 0 < (B (c :: t)).size) : (B (c :: t))[0]'h = c := rfl
end Go.Proofs.YtcckemhelockaaaGreatDoor

namespace Go.Proofs.YtcckemhelockaaaGreatDoor
open Go.RowKit Go.Lib
set_option linter.unusedVariables false
set_option linter.unusedSimpArgs false
theorem list_of {a b : ByteArray} : (a.toList == b.toList) = true ↔ a = b := by
  rw [beq_iff_eq]
  have e1 := B_toList a.data.toList
  have e2 := B_toList b.data.toList
  rw [B_of] at e1 e2
  rw [e1, e2]
  constructor
  · intro h; rw [← B_of a, h, B_of]
  · intro h; rw [h]
theorem list_ne {a b : ByteArray} (h : a ≠ b) : (a.toList == b.toList) = false := by
  cases e : (a.toList == b.toList)
  · rfl
  · exact absurd (list_of.1 e) h
theorem word_yes {s : ByteArray} {j : Nat} (hj : j < 11) (h : B (theWords.getD j []) = s) : isWord s.data.toList = true := by
  unfold isWord
  rw [List.any_eq_true]
  have hl : theWords.length = 11 := rfl
  refine ⟨theWords.getD j [], ?_, ?_⟩
  · rw [List.getD_eq_getElem?_getD, List.getElem?_eq_getElem (by omega)]; exact List.getElem_mem _
  · rw [← h, B_list]; simp
theorem word_no {s : ByteArray} (h : ∀ j < 11, B (theWords.getD j []) ≠ s) : isWord s.data.toList = false := by
  unfold isWord
  rw [List.any_eq_false]
  intro x hx
  obtain ⟨j, hj, rfl⟩ := List.getElem_of_mem hx
  have hl : theWords.length = 11 := rfl
  intro he
  refine h j (by omega) ?_
  rw [List.getD_eq_getElem?_getD, List.getElem?_eq_getElem hj]
  have he' : theWords[j] = s.data.toList := by simpa using he
  show B theWords[j] = s
  rw [he', B_of]
theorem B_cons_size (c : UInt8) (t : List UInt8) : (B (c :: t)).size = t.length + 1 := by rw [B_size]; rfl
def LD (c : UInt8) : Bool := isL c || isD c
theorem name_eq (c : UInt8) (t : List UInt8) : isName (c :: t) = (decide (t.length + 1 ≤ 12) && isL c && !isWord (c :: t) && (c :: t).all LD) := by
  unfold isName LD; simp
theorem all_bad {l : List UInt8} (j : Nat) (h : j < l.length) (hx : LD l[j] = false) : l.all LD = false := by
  rw [List.all_eq_false]
  exact ⟨l[j], List.getElem_mem h, by simp [hx]⟩
theorem all_more {l : List UInt8} (j : Nat) (h : j < l.length) (ha : (l.take j).all LD = true) (hx : LD l[j] = true) : (l.take (j + 1)).all LD = true := by
  rw [List.take_succ_eq_append_getElem h, List.all_append, ha]; simp [hx]
/-- What a run of parts is told as, at p. -/
def TokPost (l : List UInt8) (p : Int) (e : Ending) : Prop :=
  (∃ k n, tokOf l = some (k, n) ∧ e = .returned (.tuple #[TK (k, l, n, p), .bool true])) ∨ (tokOf l = none ∧ ∃ t, e = .returned (.tuple #[TK t, .bool false]))
end Go.Proofs.YtcckemhelockaaaGreatDoor

namespace Go.Proofs.YtcckemhelockaaaGreatDoor
open Go.RowKit Go.Lib
set_option linter.unusedVariables false
set_option linter.unusedSimpArgs false
theorem offs_at {w wr : World} {A : Option Addr} {os : List Of} (h : OffsAt w A os) (hr : Rel w wr) (j : Nat) (hj : j < os.length) :
    ∃ (g off : Nat) (s : List UInt8) (p : Int), A = some ⟨g, off, none⟩ ∧ wr.cell? ⟨g, off + j * 2, none⟩ = some (.string (B s)) ∧ wr.cell? ⟨g, off + j * 2 + 1, none⟩ = some (.int .i64 p) ∧ os[j] = (s, p) := by
  obtain ⟨g, off, e, _, h0, h1⟩ := (h.rel hr) j hj
  exact ⟨g, off, os[j].1, os[j].2, e, h0, h1, rfl⟩
end Go.Proofs.YtcckemhelockaaaGreatDoor
