/- Plain mathematics of layer 2: decimal numerals and amounts as lists of bytes. No program in this text; Plain mathematics of layer 2, second part: amounts' texts, and what of a text is an amount. No program in this text; Plain mathematics of layer 6: words, names, tokens, and what of a text is scanned. No program in this text; Plain mathematics of layer 16: items by their keys, rising; the most urgent one. No program in this text; Plain mathematics of layer 17: who waits, by their keys, with weights; who is dirty, rising. No program in this text; Plain mathematics of layer 16: a row in which each item is no more urgent than the one half as far on. No program in this text. -/
import Derived.Test.YtndmnlgancnbkaaZL

namespace Go.Proofs.Ytndmnlgancnbkaa
open Go.Lib
set_option linter.unusedVariables false
set_option linter.unusedSimpArgs false
def isD (c : UInt8) : Bool := decide (48 ≤ c.toNat ∧ c.toNat ≤ 57)
def val : List UInt8 → Int → Int
  | [], n => n
  | c :: t, n => val t (n * 10 + ((c.toNat : Int) - 48))
def allD (l : List UInt8) : Bool := l.all isD
def cano (l : List UInt8) : Bool := !l.isEmpty && allD l && (l.length == 1 || l.head? != some 48)
def cnt (l : List UInt8) (most : Int) : Int := if cano l && decide (val l 0 ≤ min most 1000000000000) then val l 0 else -1
end Go.Proofs.Ytndmnlgancnbkaa

namespace Go.Proofs.Ytndmnlgancnbkaa
open Go.Lib
set_option linter.unusedVariables false
set_option linter.unusedSimpArgs false
def negL (l : List UInt8) : Bool := l.head? == some 45
def body (l : List UInt8) : List UInt8 := if negL l then l.tail else l
def fin (neg : Bool) (m : Int) : Option Int := if 1000000000000 < m ∨ (neg = true ∧ m = 0) then none else some (if neg then -m else m)
def last3 (t : List UInt8) : Option (List UInt8 × UInt8 × UInt8) := match t.reverse with
  | d :: c :: e :: r => if e == 46 then some (r.reverse, c, d) else none
  | _ => none
def two (c d : UInt8) : Int := ((c.toNat : Int) - 48) * 10 + ((d.toNat : Int) - 48)
def prs (l : List UInt8) : Option Int := match last3 (body l) with
  | some (x, c, d) => if decide (0 ≤ cnt x 10000000000) && (isD c && isD d) then fin (negL l) (cnt x 10000000000 * 100 + two c d) else none
  | none => none
end Go.Proofs.Ytndmnlgancnbkaa

namespace Go.Proofs.Ytndmnlgancnbkaa
open Go.Lib
set_option linter.unusedVariables false
set_option linter.unusedSimpArgs false
def isL (c : UInt8) : Bool := decide (97 ≤ c.toNat ∧ c.toNat ≤ 122)
def isPt (c : UInt8) : Bool := isL c || isD c || c == 46
def isBl (c : UInt8) : Bool := c == 32 || c == 10
def isSg (c : UInt8) : Bool := c == 40 || c == 41 || c == 44
def theWords : List (List UInt8) := [[108,111,119,101,115,116], [115,101,99,111,110,100], [102,114,111,109], [108,101,115,115], [99,117,116], [109,105,110], [109,97,120], [101,108,115,101], [105,102], [109,111,114,101], [97,98,111,118,101]]
def isWord (l : List UInt8) : Bool := theWords.any (· == l)
def isName (l : List UInt8) : Bool := decide (l ≠ [] ∧ l.length ≤ 12) && (l.head?.any isL) && !isWord l && l.all (fun c => isL c || isD c)
/-- A token: its kind, its text, its number, its place. -/
abbrev Tok := Int × List UInt8 × Int × Int
/-- What a run of parts is: a kind and a number. -/
def tokOf (x : List UInt8) : Option (Int × Int) :=
  if isWord x || isName x then some (1, 0)
  else if 0 ≤ cnt x 100000 then some (2, cnt x 100000)
  else match prs x with
    | some a => some (3, a)
    | none => none
/-- What is scanned: tokens, or the place of what is none. -/
abbrev Scan := Except Nat (List Tok)
def pre (ts : List Tok) : Scan → Scan
  | .ok l => .ok (ts ++ l)
  | .error k => .error k
theorem pre_nil (r : Scan) : pre [] r = r := by cases r <;> rfl
theorem pre_pre (a b : List Tok) (r : Scan) : pre a (pre b r) = pre (a ++ b) r := by cases r <;> simp [pre]
theorem run_len (l : List UInt8) : (l.dropWhile isPt).length = l.length - (l.takeWhile isPt).length := by
  have := congrArg List.length (List.takeWhile_append_dropWhile (p := isPt) (l := l))
  simp only [List.length_append] at this
  omega
theorem tokOf_nil : tokOf [] = none := by decide
theorem tokOf_ne {x : List UInt8} {k n : Int} (h : tokOf x = some (k, n)) : x ≠ [] := by
  rintro rfl; rw [tokOf_nil] at h; cases h
def lx (p : Nat) (l : List UInt8) : Scan :=
  match l with
  | [] => .ok [(5, [], 0, (p : Int))]
  | c :: t =>
    if isBl c then lx (p + 1) t
    else if isSg c then pre [(4, [c], 0, (p : Int))] (lx (p + 1) t)
    else
      match h : tokOf ((c :: t).takeWhile isPt) with
      | none => .error p
      | some kn => pre [(kn.1, (c :: t).takeWhile isPt, kn.2, (p : Int))] (lx (p + ((c :: t).takeWhile isPt).length) ((c :: t).dropWhile isPt))
  termination_by l.length
  decreasing_by
    all_goals simp_wf
    have h1 := tokOf_ne (k := kn.1) (n := kn.2) h
    have h2 := run_len (c :: t)
    have h3 : 1 ≤ ((c :: t).takeWhile isPt).length := by
      rcases hx : (c :: t).takeWhile isPt with _ | ⟨a, b⟩
      · exact absurd hx h1
      · simp
    simp at h2 h3 ⊢
    omega
/-- No part stands at the beginning. -/
def stops (r : List UInt8) : Bool := r.head?.all fun c => !isPt c
/-- Each token stands at q or behind, and behind the one ahead of it. -/
def Ord : Int → List Tok → Prop
  | _, [] => True
  | q, t :: ts => q ≤ t.2.2.2 ∧ Ord (t.2.2.2 + (t.2.1.length : Int)) ts
theorem Ord.mono {q q' : Int} {ts : List Tok} (h : Ord q ts) (hq : q' ≤ q) : Ord q' ts := by
  cases ts with
  | nil => trivial
  | cons t ts => exact ⟨by have := h.1; omega, h.2⟩
theorem Ord.at {ts : List Tok} {q : Int} (h : Ord q ts) (i : Nat) (hi : i + 1 < ts.length) : ts[i].2.2.2 + (ts[i].2.1.length : Int) ≤ ts[i + 1].2.2.2 := by
  induction ts generalizing i q with
  | nil => simp at hi
  | cons t ts ih =>
    cases i with
    | zero =>
      cases ts with
      | nil => simp at hi
      | cons u us => exact h.2.1
    | succ i => exact ih h.2 i (by simpa using hi)
end Go.Proofs.Ytndmnlgancnbkaa

namespace Go.Proofs.Ytndmnlgancnbkaa
open Go.Lib
set_option linter.unusedVariables false
set_option linter.unusedSimpArgs false
/-- Key, prio. -/
abbrev It := Int × Int
def Srt (L : List It) : Prop := L.Pairwise fun a b => a.1 < b.1
def hasH (L : List It) (k : Int) : Bool := L.any fun x => decide (x.1 = k)
def insH : List It → It → List It
  | [], y => [y]
  | x :: t, y => if y.1 < x.1 then y :: x :: t else x :: insH t y
def pushE (m : Int) (L : List It) (k : Int) : Int := if hasH L k then 1 else if m ≤ (L.length : Int) then 50 else 0
def pushL (m : Int) (L : List It) (k p : Int) : List It := if pushE m L k = 0 then insH L (k, p) else L
/-- Is x more urgent than y? -/
def urgH (x y : It) : Prop := y.2 < x.2 ∨ y.2 = x.2 ∧ x.1 < y.1
def bestH : It → List It → It
  | b, [] => b
  | b, x :: t => bestH (if b.2 < x.2 then x else b) t
def topH : List It → Option It
  | [] => none
  | x :: t => some (bestH x t)
def remH (L : List It) (k : Int) : List It := L.filter fun x => decide (x.1 ≠ k)
def popH (L : List It) : List It := match topH L with | none => L | some x => remH L x.1
def chgH (L : List It) (k p : Int) : List It := L.map fun x => if x.1 = k then (k, p) else x
def prioH (L : List It) (k : Int) : Option Int := (L.find? fun x => decide (x.1 = k)).map (·.2)
theorem has_iff {L : List It} {k : Int} : hasH L k = true ↔ ∃ x ∈ L, x.1 = k := by
  unfold hasH; rw [List.any_eq_true]; simp only [decide_eq_true_eq]
theorem srt_nil : Srt [] := List.Pairwise.nil
theorem srt_cons {x : It} {t : List It} : Srt (x :: t) ↔ (∀ y ∈ t, x.1 < y.1) ∧ Srt t := List.pairwise_cons
theorem ins_mem {L : List It} {y z : It} : z ∈ insH L y ↔ z = y ∨ z ∈ L := by
  induction L with
  | nil => simp [insH]
  | cons x t ih =>
    unfold insH
    split
    · simp
    · rw [List.mem_cons, ih, List.mem_cons]
      constructor
      · rintro (h | h | h) <;> simp [h]
      · rintro (h | h | h) <;> simp [h]
theorem ins_srt {L : List It} {y : It} (h : Srt L) (hn : hasH L y.1 = false) : Srt (insH L y) := by
  induction L with
  | nil => exact srt_cons.2 ⟨fun z hz => absurd hz List.not_mem_nil, srt_nil⟩
  | cons x t ih =>
    obtain ⟨h1, h2⟩ := srt_cons.1 h
    have hne : x.1 ≠ y.1 ∧ hasH t y.1 = false := by
      have : (decide (x.1 = y.1) || hasH t y.1) = false := hn
      rw [Bool.or_eq_false_iff, decide_eq_false_iff_not] at this
      exact this
    unfold insH
    split
    · rename_i hlt
      refine srt_cons.2 ⟨fun z hz => ?_, h⟩
      rcases List.mem_cons.1 hz with rfl | hz
      · exact hlt
      · have := h1 z hz; omega
    · rename_i hge
      refine srt_cons.2 ⟨fun z hz => ?_, ih h2 hne.2⟩
      rcases ins_mem.1 hz with rfl | hz
      · have := hne.1; omega
      · exact h1 z hz
theorem ins_len (L : List It) (y : It) : (insH L y).length = L.length + 1 := by
  induction L with
  | nil => rfl
  | cons x t ih =>
    unfold insH
    split
    · rfl
    · rw [List.length_cons, ih, List.length_cons]
/-- A sorted list is told by what is in it. -/
theorem srt_ext {L M : List It} (h : Srt L) (h' : Srt M) (e : ∀ z, z ∈ L ↔ z ∈ M) : L = M := by
  induction L generalizing M with
  | nil =>
    cases M with
    | nil => rfl
    | cons y t => exact absurd ((e y).2 (List.mem_cons_self ..)) (by simp)
  | cons x s ih =>
    cases M with
    | nil => exact absurd ((e x).1 (List.mem_cons_self ..)) (by simp)
    | cons y t =>
      obtain ⟨a1, a2⟩ := srt_cons.1 h
      obtain ⟨b1, b2⟩ := srt_cons.1 h'
      have hxy : x = y := by
        rcases List.mem_cons.1 ((e x).1 (List.mem_cons_self ..)) with hx | hx
        · exact hx
        · rcases List.mem_cons.1 ((e y).2 (List.mem_cons_self ..)) with hy | hy
          · exact hy.symm
          · have := a1 y hy; have := b1 x hx; omega
      subst hxy
      congr 1
      refine ih a2 b2 fun z => ?_
      have hz := e z
      simp only [List.mem_cons] at hz
      constructor
      · intro hm
        rcases hz.1 (Or.inr hm) with hq | hq
        · subst hq; have := a1 z hm; omega
        · exact hq
      · intro hm
        rcases hz.2 (Or.inr hm) with hq | hq
        · subst hq; have := b1 z hm; omega
        · exact hq
theorem srt_key {L : List It} (h : Srt L) {x y : It} (hx : x ∈ L) (hy : y ∈ L) (e : x.1 = y.1) : x = y := by
  induction L with
  | nil => cases hx
  | cons z t ih =>
    obtain ⟨a1, a2⟩ := srt_cons.1 h
    rcases List.mem_cons.1 hx with e1 | e1 <;> rcases List.mem_cons.1 hy with e2 | e2
    · rw [e1, e2]
    · have := a1 y e2; rw [e1] at e; omega
    · have := a1 x e1; rw [e2] at e; omega
    · exact ih a2 e1 e2
theorem rem_mem {L : List It} {k : Int} {z : It} : z ∈ remH L k ↔ z ∈ L ∧ z.1 ≠ k := by
  unfold remH; rw [List.mem_filter, decide_eq_true_eq]
theorem rem_srt {L : List It} (h : Srt L) (k : Int) : Srt (remH L k) := List.Pairwise.filter _ h
theorem chg_srt {L : List It} (h : Srt L) (k p : Int) : Srt (chgH L k p) := by
  unfold chgH Srt
  rw [List.pairwise_map]
  refine h.imp fun {a b} hab => ?_
  have e : ∀ x : It, (if x.1 = k then (k, p) else x).1 = x.1 := fun x => by split <;> simp_all
  rw [e, e]; exact hab
theorem chg_mem {L : List It} (h : Srt L) {k p : Int} {z : It} : z ∈ chgH L k p ↔ (z = (k, p) ∧ hasH L k = true) ∨ (z ∈ L ∧ z.1 ≠ k) := by
  unfold chgH
  rw [List.mem_map]
  constructor
  · rintro ⟨x, hx, e⟩
    split at e
    · rename_i hk; exact .inl ⟨e.symm, has_iff.2 ⟨x, hx, hk⟩⟩
    · rename_i hk; subst e; exact .inr ⟨hx, hk⟩
  · rintro (⟨rfl, hh⟩ | ⟨hz, hk⟩)
    · obtain ⟨x, hx, e⟩ := has_iff.1 hh
      exact ⟨x, hx, if_pos e⟩
    · exact ⟨z, hz, if_neg hk⟩
theorem chg_len (L : List It) (k p : Int) : (chgH L k p).length = L.length := List.length_map ..
theorem has_chg (L : List It) (k p j : Int) : hasH (chgH L k p) j = hasH L j := by
  rw [Bool.eq_iff_iff, has_iff, has_iff]
  unfold chgH
  constructor
  · rintro ⟨x, hx, e⟩
    obtain ⟨y, hy, hxy⟩ := List.mem_map.1 hx
    split at hxy
    · rename_i hk; subst hxy; exact ⟨y, hy, by simpa [hk] using e⟩
    · subst hxy; exact ⟨y, hy, e⟩
  · rintro ⟨x, hx, e⟩
    refine ⟨_, List.mem_map.2 ⟨x, hx, rfl⟩, ?_⟩
    split
    · rename_i hk; rw [← hk]; exact e
    · exact e
theorem prio_some {L : List It} (h : Srt L) {k p : Int} : prioH L k = some p ↔ (k, p) ∈ L := by
  unfold prioH
  constructor
  · intro e
    obtain ⟨x, hx, rfl⟩ := Option.map_eq_some_iff.1 e
    have h1 := List.find?_some hx
    have h2 := List.mem_of_find?_eq_some hx
    have h3 : x.1 = k := of_decide_eq_true h1
    rw [← h3]; exact h2
  · intro e
    cases hf : L.find? fun x => decide (x.1 = k) with
    | none =>
      have := List.find?_eq_none.1 hf (k, p) e
      simp at this
    | some x =>
      have h0 := List.find?_some hf
      have h1 : x.1 = k := of_decide_eq_true h0
      have h2 := srt_key h (List.mem_of_find?_eq_some hf) e h1
      rw [h2]; rfl
theorem prio_none {L : List It} {k : Int} : prioH L k = none ↔ hasH L k = false := by
  unfold prioH
  rw [Option.map_eq_none_iff, List.find?_eq_none]
  constructor
  · intro h
    cases hh : hasH L k with
    | false => rfl
    | true => obtain ⟨x, hx, e⟩ := has_iff.1 hh; exact absurd (decide_eq_true e) (h x hx)
  · intro h x hx e
    have : hasH L k = true := has_iff.2 ⟨x, hx, of_decide_eq_true e⟩
    rw [h] at this; cases this
theorem best_mem (b : It) (t : List It) : bestH b t = b ∨ bestH b t ∈ t := by
  induction t generalizing b with
  | nil => exact .inl rfl
  | cons x t ih =>
    show bestH (if b.2 < x.2 then x else b) t = b ∨ _
    rcases ih (if b.2 < x.2 then x else b) with h | h
    · rw [show bestH b (x :: t) = bestH (if b.2 < x.2 then x else b) t from rfl, h]
      split
      · exact .inr (List.mem_cons_self ..)
      · exact .inl rfl
    · exact .inr (List.mem_cons_of_mem _ h)
/-- The best is as urgent as what it began with, and as all others, where keys rise. -/
theorem best_urg (b : It) (t : List It) (h : Srt (b :: t)) : ∀ y ∈ b :: t, y = bestH b t ∨ urgH (bestH b t) y := by
  induction t generalizing b with
  | nil => intro y hy; rw [List.mem_singleton] at hy; exact .inl hy
  | cons x t ih =>
    obtain ⟨h1, h2⟩ := srt_cons.1 h
    obtain ⟨h3, h4⟩ := srt_cons.1 h2
    have hs : Srt ((if b.2 < x.2 then x else b) :: t) := by
      split
      · exact h2
      · exact srt_cons.2 ⟨fun y hy => h1 y (List.mem_cons_of_mem _ hy), h4⟩
    have hi := ih (if b.2 < x.2 then x else b) hs
    have e : bestH b (x :: t) = bestH (if b.2 < x.2 then x else b) t := rfl
    obtain ⟨c, hc⟩ : ∃ c, bestH (if b.2 < x.2 then x else b) t = c := ⟨_, rfl⟩
    rw [e]
    rw [hc] at hi ⊢
    have hx1 : b.1 < x.1 := h1 x (List.mem_cons_self ..)
    intro y hy
    rcases List.mem_cons.1 hy with rfl | hy
    · by_cases hlt : y.2 < x.2
      · have h0 := hi x (by rw [if_pos hlt]; exact List.mem_cons_self ..)
        right
        rcases h0 with rfl | h0
        · exact .inl hlt
        · unfold urgH at h0 ⊢; omega
      · exact hi y (by rw [if_neg hlt]; exact List.mem_cons_self ..)
    · rcases List.mem_cons.1 hy with rfl | hy
      · by_cases hlt : b.2 < y.2
        · exact hi y (by rw [if_pos hlt]; exact List.mem_cons_self ..)
        · have h0 := hi b (by rw [if_neg hlt]; exact List.mem_cons_self ..)
          right
          rcases h0 with rfl | h0
          · unfold urgH; omega
          · unfold urgH at h0 ⊢; omega
      · exact hi y (List.mem_cons_of_mem _ hy)
theorem top_none {L : List It} : topH L = none ↔ L = [] := by cases L <;> simp [topH]
theorem top_mem {L : List It} {x : It} (h : topH L = some x) : x ∈ L := by
  cases L with
  | nil => cases h
  | cons b t =>
    injection h with h; subst h
    rcases best_mem b t with e | e
    · rw [e]; exact List.mem_cons_self ..
    · exact List.mem_cons_of_mem _ e
theorem top_urg {L : List It} (hs : Srt L) {x : It} (h : topH L = some x) : ∀ y ∈ L, y = x ∨ urgH x y := by
  cases L with
  | nil => cases h
  | cons b t => injection h with h; subst h; exact best_urg b t hs
/-- It is the one that is there, and as urgent as all. -/
theorem top_is {L : List It} (hs : Srt L) {x : It} (hx : x ∈ L) (h : ∀ y ∈ L, y = x ∨ urgH x y) : topH L = some x := by
  cases ht : topH L with
  | none => rw [top_none.1 ht] at hx; cases hx
  | some z =>
    rcases h z (top_mem ht) with e | e
    · rw [e]
    · rcases top_urg hs ht x hx with q | q
      · rw [q]
      · unfold urgH at e q; omega
theorem rem_len {L : List It} (h : Srt L) {x : It} (hx : x ∈ L) : (remH L x.1).length + 1 = L.length := by
  induction L with
  | nil => cases hx
  | cons y t ih =>
    obtain ⟨h1, h2⟩ := srt_cons.1 h
    rcases List.mem_cons.1 hx with rfl | hx
    · have e : remH (x :: t) x.1 = t := by
        unfold remH
        rw [List.filter_cons_of_neg (by simp), List.filter_eq_self]
        intro z hz
        have := h1 z hz
        exact decide_eq_true (by omega)
      rw [e]; rfl
    · have hne : y.1 ≠ x.1 := by have := h1 x hx; omega
      have e : remH (y :: t) x.1 = y :: remH t x.1 := by
        unfold remH
        rw [List.filter_cons_of_pos (by simpa using hne)]
      rw [e, List.length_cons, List.length_cons, ih h2 hx]
end Go.Proofs.Ytndmnlgancnbkaa

namespace Go.Proofs.Ytndmnlgancnbkaa
open Go.Lib
set_option linter.unusedVariables false
set_option linter.unusedSimpArgs false
def Ups (D : List Int) : Prop := D.Pairwise fun a b => a < b
def insD : List Int → Int → List Int
  | [], s => [s]
  | x :: t, s => if s < x then s :: x :: t else if s = x then x :: t else x :: insD t s
def remD (D : List Int) (s : Int) : List Int := D.filter fun x => decide (x ≠ s)
theorem ups_nil : Ups [] := List.Pairwise.nil
theorem ups_cons {x : Int} {t : List Int} : Ups (x :: t) ↔ (∀ y ∈ t, x < y) ∧ Ups t := List.pairwise_cons
theorem insD_mem {D : List Int} {s x : Int} : x ∈ insD D s ↔ x = s ∨ x ∈ D := by
  induction D with
  | nil => simp [insD]
  | cons y t ih =>
    unfold insD
    split
    · simp
    · split
      · rename_i h; subst h; simp
      · rw [List.mem_cons, ih, List.mem_cons]
        constructor
        · rintro (h | h | h) <;> simp [h]
        · rintro (h | h | h) <;> simp [h]
theorem insD_ups {D : List Int} (h : Ups D) (s : Int) : Ups (insD D s) := by
  induction D with
  | nil => exact ups_cons.2 ⟨fun z hz => absurd hz List.not_mem_nil, ups_nil⟩
  | cons y t ih =>
    obtain ⟨h1, h2⟩ := ups_cons.1 h
    unfold insD
    split
    · rename_i hlt
      refine ups_cons.2 ⟨fun z hz => ?_, h⟩
      rcases List.mem_cons.1 hz with rfl | hz
      · exact hlt
      · have := h1 z hz; omega
    · split
      · exact h
      · rename_i a b
        refine ups_cons.2 ⟨fun z hz => ?_, ih h2⟩
        rcases insD_mem.1 hz with rfl | hz
        · omega
        · exact h1 z hz
theorem remD_mem {D : List Int} {s x : Int} : x ∈ remD D s ↔ x ∈ D ∧ x ≠ s := by
  unfold remD; rw [List.mem_filter, decide_eq_true_eq]
theorem remD_ups {D : List Int} (h : Ups D) (s : Int) : Ups (remD D s) := List.Pairwise.filter _ h
/-- A rising list is told by what is in it. -/
theorem ups_ext {L M : List Int} (h : Ups L) (h' : Ups M) (e : ∀ z, z ∈ L ↔ z ∈ M) : L = M := by
  induction L generalizing M with
  | nil =>
    cases M with
    | nil => rfl
    | cons y t => exact absurd ((e y).2 (List.mem_cons_self ..)) (by simp)
  | cons x s ih =>
    cases M with
    | nil => exact absurd ((e x).1 (List.mem_cons_self ..)) (by simp)
    | cons y t =>
      obtain ⟨a1, a2⟩ := ups_cons.1 h
      obtain ⟨b1, b2⟩ := ups_cons.1 h'
      have hxy : x = y := by
        rcases List.mem_cons.1 ((e x).1 (List.mem_cons_self ..)) with hx | hx
        · exact hx
        · rcases List.mem_cons.1 ((e y).2 (List.mem_cons_self ..)) with hy | hy
          · exact hy.symm
          · have := a1 y hy; have := b1 x hx; omega
      subst hxy
      congr 1
      refine ih a2 b2 fun z => ?_
      have hz := e z
      simp only [List.mem_cons] at hz
      constructor
      · intro hm
        rcases hz.1 (Or.inr hm) with hq | hq
        · subst hq; have := a1 z hm; omega
        · exact hq
      · intro hm
        rcases hz.2 (Or.inr hm) with hq | hq
        · subst hq; have := b1 z hm; omega
        · exact hq
/-- What may be wanted. -/
def wantV (g s p t : Int) : Bool := decide (1 ≤ g ∧ (0 ≤ s ∧ s ≤ 999) ∧ (0 ≤ p ∧ p ≤ 1000) ∧ 0 ≤ t ∧ t ≤ 1099511627776)
def wgt (g p t : Int) : Int := p * g - t
def wantE (m g : Int) (L : List It) (s p t : Int) : Int := if wantV g s p t then (if hasH L s then 0 else if (L.length : Int) < m then 0 else 50) else 1
def wantL (m g : Int) (L : List It) (s p t : Int) : List It :=
  if wantV g s p t then (if hasH L s then chgH L s (max ((prioH L s).getD 0) (wgt g p t)) else if (L.length : Int) < m then insH L (s, wgt g p t) else L) else L
def wantD (m g : Int) (L : List It) (D : List Int) (s p t : Int) : List Int :=
  if wantV g s p t then (if hasH L s then D else if (L.length : Int) < m then remD D s else insD D s) else D
def clampT (t : Int) : Int := max 0 (min t 1099511627776)
/-- As long as there is room, the least dirty one waits. -/
def fillQ (m u : Int) : List It → List Int → List It × List Int
  | L, [] => (L, [])
  | L, d :: D => if (L.length : Int) < m then fillQ m u (insH L (d, u)) D else (L, d :: D)
def nextQ (m t : Int) (L : List It) (D : List Int) : List It × List Int := fillQ m (-(clampT t)) (popH L) D
def dropB (L : List It) (D : List Int) (s : Int) : Bool := hasH L s || decide (s ∈ D)
/-- What holds of a queue at all times. -/
structure QInv (m g : Int) (L : List It) (D : List Int) : Prop where
  srt : Srt L
  ups : Ups D
  out : ∀ d ∈ D, hasH L d = false
  low : ∀ d ∈ D, 0 ≤ d ∧ d ≤ 999
  key : ∀ z ∈ L, 0 ≤ z.1 ∧ z.1 ≤ 999
  wt : ∀ z ∈ L, -1099511627776 ≤ z.2 ∧ z.2 ≤ 1000000
  len : (L.length : Int) ≤ m
  room : m ≤ 1000
  age : g ≤ 1000
theorem wantV_iff {g s p t : Int} : wantV g s p t = true ↔ 1 ≤ g ∧ (0 ≤ s ∧ s ≤ 999) ∧ (0 ≤ p ∧ p ≤ 1000) ∧ 0 ≤ t ∧ t ≤ 1099511627776 := by unfold wantV; rw [decide_eq_true_eq]
theorem wgt_bd {g p t : Int} (h : 0 ≤ g) (hg : g ≤ 1000) (hp : 0 ≤ p) (hp' : p ≤ 1000) (ht : 0 ≤ t) (ht' : t ≤ 1099511627776) : -1099511627776 ≤ wgt g p t ∧ wgt g p t ≤ 1000000 := by
  unfold wgt
  have h1 : 0 ≤ p * g := Int.mul_nonneg hp h
  have h2 : p * g ≤ 1000 * 1000 := Int.mul_le_mul hp' hg h (by omega)
  omega
theorem has_ins {L : List It} {x : It} {k : Int} : hasH (insH L x) k = true ↔ k = x.1 ∨ hasH L k = true := by
  rw [has_iff, has_iff]
  constructor
  · rintro ⟨z, hz, e⟩
    rcases ins_mem.1 hz with rfl | hz
    · exact .inl e.symm
    · exact .inr ⟨z, hz, e⟩
  · rintro (rfl | ⟨z, hz, e⟩)
    · exact ⟨x, ins_mem.2 (.inl rfl), rfl⟩
    · exact ⟨z, ins_mem.2 (.inr hz), e⟩
theorem has_rem {L : List It} {s k : Int} : hasH (remH L s) k = true ↔ hasH L k = true ∧ k ≠ s := by
  rw [has_iff, has_iff]
  constructor
  · rintro ⟨z, hz, e⟩
    obtain ⟨h1, h2⟩ := rem_mem.1 hz
    exact ⟨⟨z, h1, e⟩, by rw [← e]; exact h2⟩
  · rintro ⟨⟨z, hz, e⟩, hk⟩
    exact ⟨z, rem_mem.2 ⟨hz, by rw [e]; exact hk⟩, e⟩
theorem QInv.nil {m g : Int} (h : 0 ≤ m) (h' : m ≤ 1000) (hg : g ≤ 1000) : QInv m g [] [] :=
  ⟨srt_nil, ups_nil, (fun d hd => by cases hd), (fun d hd => by cases hd), (fun d hd => by cases hd), (fun d hd => by cases hd), by simpa using h, h', hg⟩
theorem prio_mem {L : List It} {k : Int} (hh : hasH L k = true) : ∃ y, (prioH L k).getD 0 = y ∧ (k, y) ∈ L := by
  unfold prioH
  cases hf : L.find? fun x => decide (x.1 = k) with
  | none =>
    obtain ⟨x, hx, e⟩ := has_iff.1 hh
    have := List.find?_eq_none.1 hf x hx
    rw [decide_eq_true_eq] at this
    exact absurd e this
  | some z =>
    have h1 := List.find?_some hf
    rw [decide_eq_true_eq] at h1
    have h2 := List.mem_of_find?_eq_some hf
    exact ⟨z.2, rfl, by rw [← h1]; exact h2⟩
theorem QInv.want {m g : Int} {L : List It} {D : List Int} (h : QInv m g L D) (s p t : Int) : QInv m g (wantL m g L s p t) (wantD m g L D s p t) := by
  unfold wantL wantD
  by_cases hv : wantV g s p t = true
  · rw [if_pos hv, if_pos hv]
    obtain ⟨v1, v2, v3, v4, v5⟩ := wantV_iff.1 hv
    have hw := wgt_bd (g := g) (p := p) (t := t) (by omega) h.age v3.1 v3.2 v4 v5
    by_cases hh : hasH L s = true
    · rw [if_pos hh, if_pos hh]
      obtain ⟨y, hy, hm⟩ := prio_mem hh
      have hyb := h.wt _ hm
      rw [hy]
      refine ⟨chg_srt h.srt _ _, h.ups, fun d hd => by rw [has_chg]; exact h.out d hd, h.low, fun z hz => ?_, fun z hz => ?_, by rw [chg_len]; exact h.len, h.room, h.age⟩
      · rcases (chg_mem h.srt).1 hz with ⟨rfl, _⟩ | ⟨hz, _⟩
        · exact v2
        · exact h.key z hz
      · rcases (chg_mem h.srt).1 hz with ⟨rfl, _⟩ | ⟨hz, _⟩
        · show _ ≤ max y _ ∧ max y _ ≤ _
          have hyb : -1099511627776 ≤ y ∧ y ≤ 1000000 := hyb
          omega
        · exact h.wt z hz
    · have hh' : hasH L s = false := by simpa using hh
      rw [if_neg hh, if_neg hh]
      by_cases hr : (L.length : Int) < m
      · rw [if_pos hr, if_pos hr]
        refine ⟨ins_srt h.srt hh', remD_ups h.ups s, fun d hd => ?_, fun d hd => h.low d (remD_mem.1 hd).1, fun z hz => ?_, fun z hz => ?_, by rw [ins_len]; omega, h.room, h.age⟩
        · obtain ⟨h1, h2⟩ := remD_mem.1 hd
          cases hx : hasH (insH L (s, wgt g p t)) d with
          | false => rfl
          | true =>
            rcases has_ins.1 hx with e | e
            · exact absurd e h2
            · rw [h.out d h1] at e; cases e
        · rcases ins_mem.1 hz with rfl | hz
          · exact v2
          · exact h.key z hz
        · rcases ins_mem.1 hz with rfl | hz
          · exact hw
          · exact h.wt z hz
      · rw [if_neg hr, if_neg hr]
        refine ⟨h.srt, insD_ups h.ups s, fun d hd => ?_, fun d hd => ?_, h.key, h.wt, h.len, h.room, h.age⟩
        · rcases insD_mem.1 hd with rfl | hd
          · exact hh'
          · exact h.out d hd
        · rcases insD_mem.1 hd with rfl | hd
          · exact v2
          · exact h.low d hd
  · rw [if_neg hv, if_neg hv]; exact h
theorem clampT_bd (t : Int) : 0 ≤ clampT t ∧ clampT t ≤ 1099511627776 := by unfold clampT; omega
theorem QInv.fill {m g u : Int} (hu : -1099511627776 ≤ u ∧ u ≤ 1000000) {L : List It} {D : List Int} (h : QInv m g L D) : QInv m g (fillQ m u L D).1 (fillQ m u L D).2 := by
  induction D generalizing L with
  | nil => exact h
  | cons d D ih =>
    unfold fillQ
    split
    · rename_i hr
      obtain ⟨u1, u2⟩ := ups_cons.1 h.ups
      have hd : hasH L d = false := h.out d (List.mem_cons_self ..)
      refine ih ⟨ins_srt h.srt hd, u2, fun e he => ?_, fun e he => h.low e (List.mem_cons_of_mem _ he), fun z hz => ?_, fun z hz => ?_, by rw [ins_len]; omega, h.room, h.age⟩
      · cases hx : hasH (insH L (d, u)) e with
        | false => rfl
        | true =>
          rcases has_ins.1 hx with q | q
          · have := u1 e he; have q : e = d := q; omega
          · rw [h.out e (List.mem_cons_of_mem _ he)] at q; cases q
      · rcases ins_mem.1 hz with rfl | hz
        · exact h.low _ (List.mem_cons_self ..)
        · exact h.key z hz
      · rcases ins_mem.1 hz with rfl | hz
        · exact hu
        · exact h.wt z hz
    · exact h
theorem pop_cases (L : List It) : (topH L = none ∧ L = [] ∧ popH L = []) ∨ ∃ x ∈ L, topH L = some x ∧ popH L = remH L x.1 := by
  cases ht : topH L with
  | none =>
    left
    cases L with
    | nil => exact ⟨rfl, rfl, rfl⟩
    | cons y t => cases ht
  | some x =>
    right
    exact ⟨x, top_mem ht, rfl, by unfold popH; rw [ht]⟩
theorem QInv.pop {m g : Int} {L : List It} {D : List Int} (h : QInv m g L D) : QInv m g (popH L) D := by
  rcases pop_cases L with ⟨_, e, e2⟩ | ⟨x, hx, _, e⟩
  · rw [e2]; rw [e] at h; exact h
  · rw [e]
    refine ⟨rem_srt h.srt _, h.ups, fun d hd => ?_, h.low, fun z hz => h.key z (rem_mem.1 hz).1, fun z hz => h.wt z (rem_mem.1 hz).1, ?_, h.room, h.age⟩
    · cases hq : hasH (remH L x.1) d with
      | false => rfl
      | true =>
        have := (has_rem.1 hq).1
        rw [h.out d hd] at this; cases this
    · have := rem_len h.srt hx
      have := h.len
      omega
theorem QInv.next {m g : Int} {L : List It} {D : List Int} (h : QInv m g L D) (t : Int) : QInv m g (nextQ m t L D).1 (nextQ m t L D).2 := by
  have := clampT_bd t
  exact QInv.fill (by omega) h.pop
theorem QInv.drop {m g : Int} {L : List It} {D : List Int} (h : QInv m g L D) (s : Int) : QInv m g (remH L s) (remD D s) := by
  refine ⟨rem_srt h.srt _, remD_ups h.ups s, fun d hd => ?_, fun d hd => h.low d (remD_mem.1 hd).1, fun z hz => h.key z (rem_mem.1 hz).1, fun z hz => h.wt z (rem_mem.1 hz).1, ?_, h.room, h.age⟩
  · cases hq : hasH (remH L s) d with
    | false => rfl
    | true =>
      have := (has_rem.1 hq).1
      rw [h.out d (remD_mem.1 hd).1] at this; cases this
  · have h1 : (remH L s).length ≤ L.length := List.length_filter_le _ _
    have := h.len
    omega
end Go.Proofs.Ytndmnlgancnbkaa

namespace Go.Proofs.Ytndmnlgancnbkaa
open Go.Lib
set_option linter.unusedVariables false
set_option linter.unusedSimpArgs false
/-- y is not more urgent than x. -/
def noU (x y : It) : Prop := ¬ urgH y x
theorem noU_refl (x : It) : noU x x := by unfold noU urgH; omega
theorem noU_trans {x y z : It} (h : noU x y) (h' : noU y z) : noU x z := by unfold noU urgH at *; omega
theorem urg_no {x y : It} (h : urgH x y) : noU x y := by unfold noU urgH at *; omega
def parN (i : Nat) : Nat := (i - 1) / 2
def atI (l : List It) (i : Nat) : It := l.getD i (0, 0)
def swpI (l : List It) (i j : Nat) : List It := (l.set i (atI l j)).set j (atI l i)
theorem at_get {l : List It} {i : Nat} (h : i < l.length) : atI l i = l[i] := by
  unfold atI; rw [List.getD_eq_getElem?_getD, List.getElem?_eq_getElem h]; rfl
theorem at_set {l : List It} {i : Nat} (h : i < l.length) (x : It) (j : Nat) : atI (l.set i x) j = if j = i then x else atI l j := by
  unfold atI
  rw [List.getD_eq_getElem?_getD, List.getD_eq_getElem?_getD, List.getElem?_set]
  by_cases e : i = j
  · subst e; rw [if_pos rfl, if_pos h, if_pos rfl]; rfl
  · rw [if_neg e, if_neg (fun q => e q.symm)]
theorem swp_len (l : List It) (i j : Nat) : (swpI l i j).length = l.length := by unfold swpI; rw [List.length_set, List.length_set]
theorem at_swp {l : List It} {i j : Nat} (hi : i < l.length) (hj : j < l.length) (k : Nat) : atI (swpI l i j) k = if k = j then atI l i else if k = i then atI l j else atI l k := by
  unfold swpI
  rw [at_set (by rw [List.length_set]; exact hj), at_set hi]
def OrdH (l : List It) : Prop := ∀ j, 0 < j → j < l.length → noU (atI l (parN j)) (atI l j)
/-- Ordered, but that the one at i may be more urgent than its parent. -/
def OrdUp (l : List It) (i : Nat) : Prop := (∀ j, 0 < j → j < l.length → j ≠ i → noU (atI l (parN j)) (atI l j)) ∧ (0 < i → ∀ j, 0 < j → j < l.length → parN j = i → noU (atI l (parN i)) (atI l j))
/-- Ordered, but that the one at i may be less urgent than its children. -/
def OrdDn (l : List It) (i : Nat) : Prop := (∀ j, 0 < j → j < l.length → parN j ≠ i → noU (atI l (parN j)) (atI l j)) ∧ (0 < i → ∀ j, 0 < j → j < l.length → parN j = i → noU (atI l (parN i)) (atI l j))
theorem par_lt {j : Nat} (h : 0 < j) : parN j < j := by unfold parN; omega
theorem up_done {l : List It} {i : Nat} (h : OrdUp l i) (hi : i = 0 ∨ noU (atI l (parN i)) (atI l i)) : OrdH l := by
  intro j h0 hj
  by_cases e : j = i
  · subst e
    rcases hi with hi | hi
    · omega
    · exact hi
  · exact h.1 j h0 hj e
theorem up_step {l : List It} {i : Nat} (h : OrdUp l i) (h0 : 0 < i) (hi : i < l.length) (hu : urgH (atI l i) (atI l (parN i))) : OrdUp (swpI l i (parN i)) (parN i) := by
  have hp := par_lt h0
  have hpl : parN i < l.length := by omega
  have hun := urg_no hu
  refine ⟨fun j j0 hj hne => ?_, fun p0 j j0 hj hpj => ?_⟩
  · rw [swp_len] at hj
    rw [at_swp hi hpl, at_swp hi hpl, if_neg hne]
    by_cases e : j = i
    · subst e
      rw [if_pos rfl, if_pos rfl]
      exact hun
    · rw [if_neg e]
      by_cases e2 : parN j = parN i
      · rw [if_pos e2]
        have h1 := h.1 j j0 hj e
        rw [e2] at h1
        exact noU_trans hun h1
      · rw [if_neg e2]
        by_cases e3 : parN j = i
        · rw [if_pos e3]
          exact h.2 h0 j j0 hj e3
        · rw [if_neg e3]
          exact h.1 j j0 hj e
  · rw [swp_len] at hj
    have hpp := par_lt p0
    rw [at_swp hi hpl, at_swp hi hpl, if_neg (show ¬ parN (parN i) = parN i by omega), if_neg (show ¬ parN (parN i) = i by omega)]
    have hlast := h.1 (parN i) p0 hpl (by omega)
    by_cases e : j = i
    · subst e
      rw [if_neg (show ¬ j = parN j by omega), if_pos rfl]
      exact hlast
    · have hjp : parN j < j := par_lt j0
      rw [if_neg (show ¬ j = parN i by omega), if_neg e]
      have h1 := h.1 j j0 hj e
      rw [hpj] at h1
      exact noU_trans hlast h1
theorem dn_done {l : List It} {i : Nat} (h : OrdDn l i) (hc : ∀ j, 0 < j → j < l.length → parN j = i → noU (atI l i) (atI l j)) : OrdH l := by
  intro j h0 hj
  by_cases e : parN j = i
  · rw [e]; exact hc j h0 hj e
  · exact h.1 j h0 hj e
theorem dn_step {l : List It} {i c : Nat} (h : OrdDn l i) (hc0 : 0 < c) (hc : c < l.length) (hpc : parN c = i) (hb : ∀ j, 0 < j → j < l.length → parN j = i → noU (atI l c) (atI l j)) (hu : urgH (atI l c) (atI l i)) : OrdDn (swpI l i c) c := by
  have hp := par_lt hc0
  have hil : i < l.length := by omega
  have hun := urg_no hu
  have hic : i ≠ c := by omega
  refine ⟨fun j j0 hj hne => ?_, fun p0 j j0 hj hpj => ?_⟩
  · rw [swp_len] at hj
    rw [at_swp hil hc, at_swp hil hc, if_neg hne]
    by_cases e : parN j = i
    · rw [if_pos e]
      by_cases e2 : j = c
      · rw [if_pos e2]; exact hun
      · rw [if_neg e2, if_neg (show ¬ j = i by have := par_lt j0; omega)]
        exact hb j j0 hj e
    · rw [if_neg e]
      by_cases e2 : j = c
      · subst e2; exact absurd hpc e
      · rw [if_neg e2]
        by_cases e3 : j = i
        · rw [if_pos e3]
          subst e3
          exact h.2 j0 c hc0 hc hpc
        · rw [if_neg e3]
          exact h.1 j j0 hj e
  · rw [swp_len] at hj
    have hj1 := par_lt j0
    rw [at_swp hil hc, at_swp hil hc, hpc, if_neg hic, if_pos rfl, if_neg (show ¬ j = c by omega), if_neg (show ¬ j = i by omega)]
    have h1 := h.1 j j0 hj (by omega)
    rw [hpj] at h1
    exact h1
theorem ord_up {l : List It} (h : OrdH l) (i : Nat) : OrdUp l i ∧ OrdDn l i := by
  refine ⟨⟨fun j j0 hj _ => h j j0 hj, fun i0 j j0 hj e => ?_⟩, ⟨fun j j0 hj _ => h j j0 hj, fun i0 j j0 hj e => ?_⟩⟩
  all_goals
    have h1 := h j j0 hj
    have hp := par_lt j0
    rw [e] at h1
    have h2 := h i i0 (by omega)
    exact noU_trans h2 h1
theorem ord_top {l : List It} (h : OrdH l) : ∀ j, j < l.length → noU (atI l 0) (atI l j) := by
  intro j
  induction j using Nat.strongRecOn with
  | ind j ih =>
    intro hj
    by_cases e : j = 0
    · subst e; exact noU_refl _
    · have hp := par_lt (show 0 < j by omega)
      exact noU_trans (ih (parN j) hp (by omega)) (h j (by omega) hj)
theorem at_append {l : List It} {x : It} (j : Nat) (hj : j < l.length) : atI (l ++ [x]) j = atI l j := by
  rw [at_get (by rw [List.length_append]; omega), at_get hj, List.getElem_append_left hj]
/-- One more, at the end: it may go up. -/
theorem push_up {l : List It} (h : OrdH l) (x : It) : OrdUp (l ++ [x]) l.length := by
  refine ⟨fun j j0 hj hne => ?_, fun i0 j j0 hj e => ?_⟩
  · rw [List.length_append, List.length_singleton] at hj
    have hp := par_lt j0
    rw [at_append _ (by omega), at_append _ (by omega)]
    exact h j j0 (by omega)
  · rw [List.length_append, List.length_singleton] at hj
    have hp := par_lt j0
    omega
theorem ord_take {l : List It} (h : OrdH l) (n : Nat) : OrdH (l.take n) := by
  intro j j0 hj
  rw [List.length_take] at hj
  have hp := par_lt j0
  have e : ∀ k, k < min n l.length → atI (l.take n) k = atI l k := fun k hk => by
    rw [at_get (by rw [List.length_take]; exact hk), at_get (by omega), List.getElem_take]
  rw [e _ (by omega), e _ hj]
  exact h j j0 (by omega)
/-- The items of a row, by their keys. -/
structure Rowed (l L : List It) : Prop where
  srt : Srt L
  len : l.length = L.length
  mem : ∀ z, z ∈ l ↔ z ∈ L
  one : ∀ i j, i < l.length → j < l.length → (atI l i).1 = (atI l j).1 → i = j
theorem at_mem {l : List It} {i : Nat} (h : i < l.length) : atI l i ∈ l := by rw [at_get h]; exact List.getElem_mem h
theorem mem_at {l : List It} {z : It} (h : z ∈ l) : ∃ i, i < l.length ∧ atI l i = z := by
  obtain ⟨i, hi, e⟩ := List.getElem_of_mem h
  exact ⟨i, hi, by rw [at_get hi]; exact e⟩
theorem swp_mem {l : List It} {i j : Nat} (hi : i < l.length) (hj : j < l.length) (z : It) : z ∈ swpI l i j ↔ z ∈ l := by
  constructor
  · intro h
    obtain ⟨k, hk, e⟩ := mem_at h
    rw [swp_len] at hk
    rw [at_swp hi hj] at e
    split at e
    · subst e; exact at_mem hi
    · split at e
      · subst e; exact at_mem hj
      · subst e; exact at_mem hk
  · intro h
    obtain ⟨k, hk, e⟩ := mem_at h
    have hm : ∀ q, q < l.length → atI (swpI l i j) q ∈ swpI l i j := fun q hq => at_mem (by rw [swp_len]; exact hq)
    by_cases e1 : k = i
    · have := hm j hj
      rw [at_swp hi hj, if_pos rfl] at this
      rw [← e, e1]; exact this
    · by_cases e2 : k = j
      · have := hm i hi
        rw [at_swp hi hj] at this
        rw [← e, e2]
        split at this
        · rename_i q; have e3 : atI l i = atI l j := by rw [q]
          rw [← e3]; exact this
        · rw [if_pos rfl] at this; exact this
      · have := hm k hk
        rw [at_swp hi hj, if_neg e2, if_neg e1] at this
        rw [← e]; exact this
theorem Rowed.swp {l L : List It} (h : Rowed l L) {i j : Nat} (hi : i < l.length) (hj : j < l.length) : Rowed (swpI l i j) L := by
  refine ⟨h.srt, by rw [swp_len]; exact h.len, fun z => (swp_mem hi hj z).trans (h.mem z), fun a b ha hb e => ?_⟩
  rw [swp_len] at ha hb
  rw [at_swp hi hj, at_swp hi hj] at e
  have q := h.one
  split at e <;> split at e <;> (try split at e) <;> (try split at e)
  all_goals
    first
    | omega
    | (have := q _ _ hi hi e; omega)
    | (have := q _ _ hi hj e; omega)
    | (have := q _ _ hj hi e; omega)
    | (have := q _ _ hj hj e; omega)
    | (have := q _ _ hi hb e; omega)
    | (have := q _ _ hj hb e; omega)
    | (have := q _ _ ha hi e; omega)
    | (have := q _ _ ha hj e; omega)
    | (have := q _ _ ha hb e; omega)
/-- The first of an ordered row is the most urgent. -/
theorem row_top {l L : List It} (h : Rowed l L) (ho : OrdH l) (h0 : 0 < l.length) : topH L = some (atI l 0) := by
  refine top_is h.srt ((h.mem _).1 (at_mem h0)) fun y hy => ?_
  obtain ⟨i, hi, e⟩ := mem_at ((h.mem y).2 hy)
  have h1 := ord_top ho i hi
  rw [e] at h1
  by_cases q : y = atI l 0
  · exact .inl q
  · right
    have hk : y.1 ≠ (atI l 0).1 := fun hk => q (srt_key h.srt hy ((h.mem _).1 (at_mem h0)) hk)
    unfold noU urgH at h1
    unfold urgH
    omega
end Go.Proofs.Ytndmnlgancnbkaa
