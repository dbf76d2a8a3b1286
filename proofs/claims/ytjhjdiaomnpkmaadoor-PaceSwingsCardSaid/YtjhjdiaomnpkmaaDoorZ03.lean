/- Plain mathematics of layer 8, fourth part: texts that are parsed; cut ones, longer ones, other blanks. No program in this text; Plain mathematics of layer 8, eleventh part: the document's own state, tokens and what is wrong, step by step. No program in this text; Plain mathematics of layer 8, twelfth part: calls taken piece by piece; tokens known by their texts. No program in this text; Plain mathematics of layer 8, thirteenth part: one token more; how large what is parsed is. No program in this text; Plain mathematics of layer 9: offers, and prices in rising order. No program in this text; Plain mathematics of layer 9: what strategies tell. No program in this text; Plain mathematics of layer 14: what may be asked for. No program in this text; The document's own readings of numbers and amounts (layer 2's), at this seat; The document's own Word, Name and token; The document's own readings of an expression: how many, how deep, which are the same; The document's own Word; A drawn region walked by hand: what is taken first, under a condition that the region keeps; what alone may come up; The document's own fine: its arguments, one by one; The document's own Right and Print; Plain mathematics of layer 14: a raw config. No program in this text; Plain mathematics of layer 15: how often a price may change. No program in this text; Plain mathematics of layer 15: raw targets, played. No program in this text. -/
import Derived.Test.YtjhjdiaomnpkmaaDoorZL
import Derived.Test.YtjhjdiaomnpkmaaDoorZ00
import Derived.Test.YtjhjdiaomnpkmaaDoorZ01
import Derived.Test.YtjhjdiaomnpkmaaDoorZ02
namespace Go.Proofs.YtjhjdiaomnpkmaaDoor
open Go.Lib
set_option linter.unusedVariables false
set_option linter.unusedSimpArgs false
theorem good_okT {x : List UInt8} {k n p : Int} (h : Good x k n) : okT (k, x, n, p) := by
  obtain ⟨_, _, _, h0, h2⟩ := good_kind h
  refine ⟨fun e => ⟨h0, ?_⟩, fun e => ⟨h0, h2 e⟩, fun e => ?_⟩
  · simp only at e
    subst e
    rcases h with ⟨c, rfl, hs, hk, _⟩ | ⟨hx, ha, ht⟩
    · omega
    · unfold tokOf at ht
      split at ht
      · cases ht
      · split at ht
        · cases ht
        · cases hp : prs x with
          | none => rw [hp] at ht; cases ht
          | some a =>
            rw [hp] at ht
            injection ht with ht
            injection ht with e1 e2
            subst e2
            have := rt_iff.1 (txt_of_prs hp).1
            exact this.2
  · rcases h with ⟨c, rfl, _⟩ | ⟨hx, _⟩
    · simp
    · exact hx
theorem lx_okT {p : Nat} {s : List UInt8} {l : List Tok} (h : lx p s = .ok l) : (∀ t ∈ l, okT t) ∧ (∀ t ∈ l, 0 ≤ t.2.2.2 ∧ t.2.2.2 ≤ ((p + s.length : Nat) : Int)) ∧ ∃ ts, l = ts ++ [(5, [], 0, ((p + s.length : Nat) : Int))] := by
  obtain ⟨ts, rfl, hts, _, _⟩ := lx_out _ s (Nat.le_refl _) p l h
  refine ⟨fun t ht => ?_, fun t ht => ?_, ts, rfl⟩
  · rcases List.mem_append.1 ht with h1 | h1
    · exact good_okT (hts t h1).1
    · obtain rfl := List.mem_singleton.1 h1
      refine ⟨?_, ?_, ?_⟩ <;> (intro e; simp at e)
  · rcases List.mem_append.1 ht with h1 | h1
    · have := hts t h1; omega
    · obtain rfl := List.mem_singleton.1 h1
      exact ⟨by simp only []; omega, Int.le_refl _⟩
theorem lx_err : ∀ (m : Nat) (s : List UInt8), s.length ≤ m → ∀ (p k : Nat), lx p s = .error k → k ≤ p + s.length := by
  intro m
  induction m with
  | zero =>
    intro s hs p k h
    obtain rfl : s = [] := List.length_eq_zero_iff.1 (by omega)
    rw [lx_nil] at h; cases h
  | succ m ih =>
    intro s hs p k h
    have pre_err : ∀ (ts : List Tok) (r : Scan), pre ts r = .error k → r = .error k := fun ts r h => by
      cases r with
      | ok m => cases h
      | error q => exact h
    cases s with
    | nil => rw [lx_nil] at h; cases h
    | cons c t =>
      simp only [List.length_cons] at hs ⊢
      cases hb : isBl c
      · cases hg : isSg c
        · cases hn : tokOf ((c :: t).takeWhile isPt) with
          | none => rw [lx_bad p c t hb hg hn] at h; injection h with h; omega
          | some kn =>
            obtain ⟨k', n⟩ := kn
            rw [lx_tok p c t k' n hb hg hn] at h
            have h' := pre_err _ _ h
            have hx := tokOf_ne hn
            have h2 := run_len (c :: t)
            have h3 : 1 ≤ ((c :: t).takeWhile isPt).length := by
              rcases hx' : (c :: t).takeWhile isPt with _ | ⟨a, b⟩
              · exact absurd hx' hx
              · simp
            have h4 : ((c :: t).takeWhile isPt).length ≤ (c :: t).length := (List.takeWhile_sublist _).length_le
            simp only [List.length_cons] at h2 h4
            have := ih _ (by omega) _ _ h'
            omega
        · rw [lx_sign p c t hb hg] at h
          have := ih t (by omega) _ _ (pre_err _ _ h)
          omega
      · rw [lx_blank p c t hb] at h
        have := ih t (by omega) _ _ h
        omega
/-- What a strategy's tokens tell. -/
theorem strat_spec (ts : List Tok) (ho : ∀ t ∈ ts, okT t) : (∀ x, stratT ts = .ok x → fine 32 x = true ∧ isCond x.k = false) ∧ (∀ e p, stratT ts = .error (e, p) → (e = 80 ∨ e = 81) ∧ (p = 0 ∨ ∃ t ∈ ts, p = t.2.2.2)) := by
  have h := expr_spec 32 false ts ho
  rcases hm : exprT 32 false ts with ⟨e, p⟩ | ⟨x, r⟩
  · rw [hm] at h
    have e1 : stratT ts = .error (e, p) := by unfold stratT; rw [hm]
    rw [e1]
    refine ⟨(fun x hx => by cases hx), fun e' p' he => ?_⟩
    injection he with he
    injection he with h1 h2
    subst h1; subst h2
    exact h
  · rw [hm] at h
    obtain ⟨hx, a, rfl⟩ := h
    by_cases h5 : (hdT r).1 = 5 ∧ (([] : List UInt8) = [] ∨ (hdT r).2.1 = [])
    · have e1 : stratT (a ++ r) = .ok x := by
        have tk : takeT 5 [] r = .ok (hdT r, r) := by unfold takeT; rw [if_pos h5]; rfl
        unfold stratT; rw [hm]; simp only; rw [tk]
      rw [e1]
      refine ⟨fun y hy => ?_, (fun e' p' he => by cases he)⟩
      injection hy with hy
      subst hy
      exact hx
    · have e1 : stratT (a ++ r) = .error (80, atT r) := by
        have tk : takeT 5 [] r = .error (80, atT r) := by unfold takeT; rw [if_neg h5]
        unfold stratT; rw [hm]; simp only; rw [tk]
      rw [e1]
      refine ⟨(fun x hx => by cases hx), fun e' p' he => ?_⟩
      injection he with he
      injection he with h1 h2
      subst h1; subst h2
      exact Spec.up (α := Ex) (P := fun _ => True) (a := a) (at_spec r (.inl rfl))
theorem parse_spec (s : List UInt8) : (∀ x, parseS s = .ok x → fine 32 x = true ∧ isCond x.k = false) ∧ (∀ e p, parseS s = .error (e, p) → (e = 60 ∨ e = 61 ∨ e = 80 ∨ e = 81) ∧ 0 ≤ p ∧ p ≤ (s.length : Int)) := by
  by_cases hl : 2000 < s.length
  · have e1 : parseS s = .error (60, 2000) := by unfold parseS; rw [if_pos hl]
    rw [e1]
    refine ⟨(fun x hx => by cases hx), fun e' p' he => ?_⟩
    injection he with he
    injection he with h1 h2
    subst h1; subst h2
    exact ⟨.inl rfl, by decide, by omega⟩
  · cases hx : lx 0 s with
    | error k =>
      have e1 : parseS s = .error (61, (k : Int)) := by unfold parseS; rw [if_neg hl, hx]
      rw [e1]
      have := lx_err _ s (Nat.le_refl _) 0 k hx
      refine ⟨(fun x hx => by cases hx), fun e' p' he => ?_⟩
      injection he with he
      injection he with h1 h2
      subst h1; subst h2
      exact ⟨.inr (.inl rfl), by omega, by omega⟩
    | ok ts =>
      have e1 : parseS s = stratT ts := by unfold parseS; rw [if_neg hl, hx]
      rw [e1]
      obtain ⟨h1, h2, _⟩ := lx_okT hx
      obtain ⟨ha, hb⟩ := strat_spec ts h1
      refine ⟨ha, fun e p he => ?_⟩
      obtain ⟨he, hp⟩ := hb e p he
      refine ⟨.inr (.inr he), ?_, ?_⟩
      · rcases hp with rfl | ⟨t, ht, rfl⟩
        · exact Int.le_refl _
        · exact (h2 t ht).1
      · rcases hp with rfl | ⟨t, ht, rfl⟩
        · omega
        · have := (h2 t ht).2; omega
end Go.Proofs.YtjhjdiaomnpkmaaDoor

namespace Go.Proofs.YtjhjdiaomnpkmaaDoor
open Go.Lib
set_option linter.unusedVariables false
set_option linter.unusedSimpArgs false
abbrev PS := List Tok × Int
def zT : Tok := (0, [], 0, 0)
end Go.Proofs.YtjhjdiaomnpkmaaDoor

namespace Go.Proofs.YtjhjdiaomnpkmaaDoor
open Go.Lib
set_option linter.unusedVariables false
set_option linter.unusedSimpArgs false
/-- A token as a scan tells it: its text tells its kind. -/
def okP (t : Tok) : Prop := okT t ∧ (isWord t.2.1 = true → t.1 = 1) ∧ (isName t.2.1 = true → t.1 = 1) ∧ (t.2.1 = [40] ∨ t.2.1 = [41] ∨ t.2.1 = [44] → t.1 = 4) ∧ (1 ≤ t.1 ∧ t.1 ≤ 5)
theorem good_okP {x : List UInt8} {k n p : Int} (h : Good x k n) : okP (k, x, n, p) := by
  refine ⟨good_okT h, ?_, ?_, ?_, ?_⟩
  · intro hw
    rcases h with ⟨c, rfl, hs, _⟩ | ⟨_, _, ht⟩
    · exfalso
      simp only at hw
      unfold isWord theWords at hw
      simp at hw
    · simp only at hw ⊢
      unfold tokOf at ht
      rw [hw] at ht
      simp at ht
      exact ht.1.symm
  · intro hw
    rcases h with ⟨c, rfl, hs, _⟩ | ⟨_, _, ht⟩
    · exfalso
      simp only at hw
      unfold isName at hw
      unfold isSg at hs
      unfold isL at hw
      simp only [Bool.or_eq_true, beq_iff_eq] at hs
      rcases hs with (rfl | rfl) | rfl <;> simp at hw
    · simp only at hw ⊢
      unfold tokOf at ht
      rw [hw] at ht
      simp at ht
      exact ht.1.symm
  · intro hw
    rcases h with ⟨c, rfl, hs, hk, _⟩ | ⟨_, ha, _⟩
    · exact hk
    · exfalso
      simp only at hw
      rcases hw with rfl | rfl | rfl <;> revert ha <;> decide
  · rcases h with ⟨c, rfl, hs, rfl, _⟩ | ⟨_, _, ht⟩
    · exact ⟨show (1 : Int) ≤ 4 by decide, show (4 : Int) ≤ 5 by decide⟩
    · unfold tokOf at ht
      split at ht
      · injection ht with ht; injection ht with a b; subst a; exact ⟨show (1 : Int) ≤ 1 by decide, show (1 : Int) ≤ 5 by decide⟩
      · split at ht
        · injection ht with ht; injection ht with a b; subst a; exact ⟨show (1 : Int) ≤ 2 by decide, show (2 : Int) ≤ 5 by decide⟩
        · cases hp : prs x with
          | none => rw [hp] at ht; cases ht
          | some v => rw [hp] at ht; injection ht with ht; injection ht with a b; subst a; exact ⟨show (1 : Int) ≤ 3 by decide, show (3 : Int) ≤ 5 by decide⟩
theorem end_okP (p : Int) : okP (5, [], 0, p) := by
  refine ⟨⟨?_, ?_, ?_⟩, ?_, ?_, ?_, ?_⟩
  · intro e; simp at e
  · intro e; simp at e
  · intro e; simp at e
  · intro e; exact absurd (show isWord [] = true from e) (by decide)
  · intro e; exact absurd (show isName [] = true from e) (by decide)
  · intro e; simp at e
  · exact ⟨show (1 : Int) ≤ 5 by decide, show (5 : Int) ≤ 5 by decide⟩
theorem lx_okP {p : Nat} {s : List UInt8} {l : List Tok} (h : lx p s = .ok l) : ∀ t ∈ l, okP t := by
  obtain ⟨ts, rfl, hts, _, _⟩ := lx_out _ s (Nat.le_refl _) p l h
  intro t ht
  rcases List.mem_append.1 ht with h1 | h1
  · exact good_okP (hts t h1).1
  · obtain rfl := List.mem_singleton.1 h1
    exact end_okP _
theorem hd_okP {ts : List Tok} (h : ∀ t ∈ ts, okP t) : okP (hdT ts) := by
  cases ts with
  | nil => exact end_okP 0
  | cons t r => exact h t (List.mem_cons_self ..)
theorem tail_okP {ts : List Tok} (h : ∀ t ∈ ts, okP t) : ∀ t ∈ ts.tail, okP t := fun t ht => h t (List.mem_of_mem_tail ht)
theorem suf_okP {a ts : List Tok} (h : ∀ t ∈ a ++ ts, okP t) : ∀ t ∈ ts, okP t := fun t ht => h t (List.mem_append_right _ ht)
/-- A sign is known by its text. -/
theorem sign_take {c : UInt8} (hc : c = 40 ∨ c = 41 ∨ c = 44) (ts : List Tok) (h : okP (hdT ts)) : takeT 4 [c] ts = if (hdT ts).2.1 = [c] then .ok (hdT ts, ts.tail) else .error (80, atT ts) := by
  unfold takeT
  by_cases e : (hdT ts).2.1 = [c]
  · have h4 : (hdT ts).1 = 4 := h.2.2.2.1 (by rw [e]; rcases hc with rfl | rfl | rfl <;> simp)
    rw [if_pos ⟨h4, .inr e⟩, if_pos e, if_neg (show ¬ ((4 : Int) = 5) by decide)]
  · rw [if_neg (fun hh => by rcases hh.2 with h' | h' <;> simp_all), if_neg e]
def numP (k m : Int) (ts : List Tok) : Told Int := if (hdT ts).1 = k ∧ (hdT ts).2.2.1 ≤ m then .ok ((hdT ts).2.2.1, ts.tail) else .error (80, atT ts)
def nameP (ts : List Tok) : Told (List UInt8) := if isName (hdT ts).2.1 = true then .ok ((hdT ts).2.1, ts.tail) else .error (80, atT ts)
inductive Pc where
  | ar | wh | na | am | pa | co
def Ex.push (x y : Ex) : Ex := .mk x.k x.n x.nm (x.l ++ [y])
def Ex.num (x : Ex) (n : Int) : Ex := .mk x.k n x.nm x.l
def Ex.name (x : Ex) (m : List UInt8) : Ex := .mk x.k x.n m x.l
/-- A piece, taken. -/
def stepP (f : Bool → List Tok → Told Ex) (p : Pc) (x : Ex) (ts : List Tok) : Told Ex :=
  match p with
  | .ar => (match f false ts with | .error e => .error e | .ok (y, r) => .ok (x.push y, r))
  | .wh => (match f true ts with | .error e => .error e | .ok (y, r) => .ok (x.push y, r))
  | .na => (match nameP ts with | .error e => .error e | .ok (m, r) => .ok (x.name m, r))
  | .am => (match numP 3 1000000000000 ts with | .error e => .error e | .ok (n, r) => .ok (x.num n, r))
  | .pa => (match numP 2 100000 ts with | .error e => .error e | .ok (n, r) => .ok (x.num n, r))
  | .co => (match numP 2 1000 ts with | .error e => .error e | .ok (n, r) => .ok (x.num n, r))
def piecesP (f : Bool → List Tok → Told Ex) : List Pc → UInt8 → Ex → List Tok → Told Ex
  | [], _, x, ts => (match takeT 4 [41] ts with | .error e => .error e | .ok (_, r) => .ok (x, r))
  | p :: ps, b, x, ts =>
    match takeT 4 [b] ts with
    | .error e => .error e
    | .ok (_, r) =>
      match stepP f p x r with
      | .error e => .error e
      | .ok (y, r) => piecesP f ps 44 y r
def pcsOf (k : Int) : List Pc := if k = 3 then [.na] else if k = 5 then [.ar, .am] else if k = 6 then [.ar, .pa] else if k = 10 then [.wh, .ar, .ar] else if k = 11 then [.co] else [.ar, .ar]
theorem num_take {k m : Int} {ts : List Tok} (h : okP (hdT ts)) (hk : k = 3 ∧ m = 1000000000000 ∨ k = 2 ∧ m = 100000) : numP k m ts = (match takeT k [] ts with | .error e => .error e | .ok (t, r) => .ok (t.2.2.1, r)) := by
  unfold numP takeT
  by_cases e : (hdT ts).1 = k
  · have hm : (hdT ts).2.2.1 ≤ m := by
      rcases hk with ⟨rfl, rfl⟩ | ⟨rfl, rfl⟩
      · exact (h.1.1 e).2
      · exact (h.1.2.1 e).2
    rw [if_pos ⟨e, hm⟩, if_pos ⟨e, .inl rfl⟩, if_neg (by omega)]
  · rw [if_neg (fun hh => e hh.1), if_neg (fun hh => e hh.1)]
theorem num_count (ts : List Tok) : numP 2 1000 ts = (if (hdT ts).2.2.1 ≤ 1000 then (match takeT 2 [] ts with | .error e => .error e | .ok (t, r) => .ok (t.2.2.1, r)) else .error (80, atT ts)) := by
  unfold numP takeT
  by_cases e : (hdT ts).1 = 2
  · by_cases h : (hdT ts).2.2.1 ≤ 1000
    · rw [if_pos ⟨e, h⟩, if_pos h, if_pos ⟨e, .inl rfl⟩, if_neg (by decide)]
    · rw [if_neg (fun hh => h hh.2), if_neg h]
  · rw [if_neg (fun hh => e hh.1)]
    split
    · rw [if_neg (fun hh => e hh.1)]
    · rfl
theorem name_take {ts : List Tok} (h : okP (hdT ts)) : nameP ts = (if isName (hdT ts).2.1 = true then (match takeT 1 [] ts with | .error e => .error e | .ok (t, r) => .ok (t.2.1, r)) else .error (80, atT ts)) := by
  unfold nameP takeT
  by_cases e : isName (hdT ts).2.1 = true
  · rw [if_pos e, if_pos e, if_pos ⟨h.2.2.1 e, .inl rfl⟩, if_neg (by decide)]
  · rw [if_neg e, if_neg e]
theorem take_rest {k : Int} {x : List UInt8} {ts r : List Tok} {t : Tok} (h : takeT k x ts = .ok (t, r)) (hk : k ≠ 5) : r = ts.tail := by
  unfold takeT at h
  split at h
  · injection h with h; injection h with a b; first | exact b.symm | (rw [if_neg hk] at b; exact b.symm)
  · cases h
theorem expr_rest {d : Nat} {c : Bool} {ts r : List Tok} {x : Ex} (ho : ∀ t ∈ ts, okP t) (h : exprT d c ts = .ok (x, r)) : ∀ t ∈ r, okP t := by
  have := expr_spec d c ts (fun t ht => (ho t ht).1)
  rw [h] at this
  obtain ⟨_, a, rfl⟩ := this
  exact suf_okP ho
/-- Piece by piece a call is what is told. -/
theorem call_pieces (d : Nat) (k : Int) (hk : k = 3 ∨ k = 5 ∨ k = 6 ∨ k = 7 ∨ k = 8 ∨ k = 9 ∨ k = 10 ∨ k = 11 ∨ k = 12) (ts : List Tok) (ho : ∀ t ∈ ts, okP t) : piecesP (exprT d) (pcsOf k) 40 (.mk k 0 [] []) ts = callT (exprT d) k ts := by
  have hab : k = 3 ∨ k = 11 ∨ (k = 5 ∨ k = 6) ∨ (k = 7 ∨ k = 8 ∨ k = 9 ∨ k = 12) ∨ k = 10 := by omega
  unfold callT
  cases h1 : takeT 4 [40] ts with
  | error e => rcases hk with rfl | rfl | rfl | rfl | rfl | rfl | rfl | rfl | rfl <;> (unfold pcsOf; simp only [Int.reduceEq, if_true, if_false, piecesP, h1])
  | ok p =>
    obtain ⟨t0, r1⟩ := p
    have o1 : ∀ t ∈ r1, okP t := by rw [take_rest h1 (by decide)]; exact tail_okP ho
    simp only
    rcases hab with rfl | rfl | hab | hab | rfl
    · unfold pcsOf restT
      simp only [Int.reduceEq, if_true, piecesP, h1, stepP, name_take (hd_okP o1), show (argsN 3).toNat = 0 from by decide, argsT]
      by_cases hh : isName (hdT r1).2.1 = true
      · simp only [hh, if_true]
        cases h2 : takeT 1 [] r1 with
        | error e => rfl
        | ok p2 =>
          simp only
          cases h3 : takeT 4 [41] p2.2 <;> rfl
      · simp only [hh, if_false, Bool.false_eq_true]
    · unfold pcsOf restT
      simp only [Int.reduceEq, if_true, if_false, piecesP, h1, stepP, num_count, show (argsN 11).toNat = 0 from by decide, argsT]
      by_cases hh : (hdT r1).2.2.1 ≤ 1000
      · simp only [hh, if_true]
        cases h2 : takeT 2 [] r1 with
        | error e => rfl
        | ok p2 =>
          simp only
          cases h3 : takeT 4 [41] p2.2 <;> rfl
      · simp only [hh, if_false, Bool.false_eq_true]
    · have e1 : (argsN k).toNat = 1 := by rcases hab with rfl | rfl <;> decide
      have e10 : decide (k = 10) = false := by rcases hab with rfl | rfl <;> decide
      rw [e1]
      simp only [argsT, if_true, e10, Bool.false_and]
      cases h2 : exprT d false r1 with
      | error e => rcases hab with rfl | rfl <;> (unfold pcsOf; simp only [Int.reduceEq, if_true, if_false, piecesP, h1, stepP, h2])
      | ok p2 =>
        obtain ⟨y, r2⟩ := p2
        have o2 := expr_rest o1 h2
        simp only
        cases h3 : takeT 4 [44] r2 with
        | error e => rcases hab with rfl | rfl <;> (unfold pcsOf restT; simp only [Int.reduceEq, if_true, if_false, piecesP, h1, stepP, h2, h3])
        | ok p3 =>
          obtain ⟨t3, r3⟩ := p3
          have o3 : ∀ t ∈ r3, okP t := by rw [take_rest h3 (by decide)]; exact tail_okP o2
          rcases hab with rfl | rfl
          · unfold pcsOf restT
            simp only [Int.reduceEq, if_true, if_false, piecesP, h1, stepP, h2, h3, num_take (hd_okP o3) (.inl ⟨rfl, rfl⟩)]
            cases h4 : takeT 3 [] r3 with
            | error e => rfl
            | ok p4 =>
              simp only
              cases h5 : takeT 4 [41] p4.2 <;> rfl
          · unfold pcsOf restT
            simp only [Int.reduceEq, if_true, if_false, piecesP, h1, stepP, h2, h3, num_take (hd_okP o3) (.inr ⟨rfl, rfl⟩)]
            cases h4 : takeT 2 [] r3 with
            | error e => rfl
            | ok p4 =>
              simp only
              cases h5 : takeT 4 [41] p4.2 <;> rfl
    · have e1 : (argsN k).toNat = 2 := by rcases hab with rfl | rfl | rfl | rfl <;> decide
      have e10 : decide (k = 10) = false := by rcases hab with rfl | rfl | rfl | rfl <;> decide
      have ep : pcsOf k = [.ar, .ar] := by rcases hab with rfl | rfl | rfl | rfl <;> rfl
      have er : ∀ ts, restT k ts = .ok ((0, []), ts) := by rcases hab with rfl | rfl | rfl | rfl <;> (intro ts; rfl)
      rw [e1, ep]
      simp only [argsT, if_true, e10, Bool.false_and, piecesP, h1, stepP, er, Nat.reduceAdd, if_neg (show ¬ ((0 : Nat) + 1 = 0) by decide), if_neg (show ¬ ((1 : Nat) = 0) by decide)]
      cases h2 : exprT d false r1 with
      | error e => rfl
      | ok p2 =>
        simp only
        cases h3 : takeT 4 [44] p2.2 with
        | error e => rfl
        | ok p3 =>
          simp only
          cases h4 : exprT d false p3.2 with
          | error e => rfl
          | ok p4 =>
            simp only
            cases h5 : takeT 4 [41] p4.2 <;> rfl
    · have e1 : (argsN 10).toNat = 3 := by decide
      have ep : pcsOf 10 = [.wh, .ar, .ar] := rfl
      have er : ∀ ts, restT 10 ts = .ok ((0, []), ts) := fun ts => rfl
      rw [e1, ep]
      simp only [argsT, if_true, piecesP, h1, stepP, er, Nat.reduceAdd, if_neg (show ¬ ((0 : Nat) + 1 = 0) by decide), if_neg (show ¬ ((1 : Nat) = 0) by decide), if_neg (show ¬ ((2 : Nat) = 0) by decide), decide_true, Bool.true_and, show decide ((1 : Nat) = 0) = false from rfl, show decide ((2 : Nat) = 0) = false from rfl]
      cases h2 : exprT d true r1 with
      | error e => rfl
      | ok p2 =>
        simp only
        cases h3 : takeT 4 [44] p2.2 with
        | error e => rfl
        | ok p3 =>
          simp only
          cases h4 : exprT d false p3.2 with
          | error e => rfl
          | ok p4 =>
            simp only
            cases h5 : takeT 4 [44] p4.2 with
            | error e => rfl
            | ok p5 =>
              simp only
              cases h6 : exprT d false p5.2 with
              | error e => rfl
              | ok p6 =>
                simp only
                cases h7 : takeT 4 [41] p6.2 <;> rfl
/-- The kind that begins with a token, by its text. -/
theorem kind_text {t : Tok} (h : okP t) (c : Bool) (h3 : t.1 = 3 → c = true) : kindT c t = kindW c t.2.1 ∨ (kindT c t = 0 ∧ isWord t.2.1 = false) := by
  unfold kindT
  rw [if_neg (fun hh => by rw [h3 hh.1] at hh; cases hh.2)]
  by_cases h1 : t.1 = 1
  · rw [if_pos h1]; exact .inl rfl
  · rw [if_neg h1]
    right
    refine ⟨rfl, ?_⟩
    cases hw : isWord t.2.1
    · rfl
    · exact absurd (h.2.1 hw) h1
theorem wordL_kind {k : Int} {c : Bool} {x : List UInt8} (h : kindW c x = k) (hk : k ≠ 0) : x = wordK k ∧ isCond k = c := by
  unfold kindW at h
  cases hf : (([1, 2, 3, 4, 5, 6, 7, 8, 9, 10, 11, 12] : List Int).find? fun k => wordK k == x && isCond k == c) with
  | none => rw [hf] at h; exact absurd h.symm hk
  | some q =>
    rw [hf] at h
    have hq : q = k := h
    have := List.find?_some hf
    simp only [Bool.and_eq_true, beq_iff_eq] at this
    rw [hq] at this
    exact ⟨this.1.symm, this.2⟩
theorem wordL_none {c : Bool} {x : List UInt8} (h : kindW c x = 0) (k : Int) (h1 : 1 ≤ k) (h2 : k ≤ 12) (hc : isCond k = c) : x ≠ wordK k := by
  rintro rfl
  unfold kindW at h
  cases hf : (([1, 2, 3, 4, 5, 6, 7, 8, 9, 10, 11, 12] : List Int).find? fun q => wordK q == wordK k && isCond q == c) with
  | none =>
    have := List.find?_eq_none.1 hf k (by simp only [List.mem_cons, List.not_mem_nil, or_false]; omega)
    simp [hc] at this
  | some q =>
    rw [hf] at h
    have hq : q = 0 := h
    have := List.mem_of_find?_eq_some hf
    rw [hq] at this
    simp at this
/-- No word begins one: none of these texts is its. -/
theorem kind_none {t : Tok} (h : okP t) (c : Bool) (h3 : t.1 = 3 → c = true) (h0 : kindT c t = 0) (k : Int) (h1 : 1 ≤ k) (h2 : k ≤ 12) (h4 : k ≠ 4) (hc : isCond k = c) : t.2.1 ≠ wordK k := by
  rcases kind_text h c h3 with e | ⟨_, e⟩
  · exact wordL_none (by rw [← e]; exact h0) k h1 h2 hc
  · rintro h'
    rw [h'] at e
    have : k = 1 ∨ k = 2 ∨ k = 3 ∨ k = 5 ∨ k = 6 ∨ k = 7 ∨ k = 8 ∨ k = 9 ∨ k = 10 ∨ k = 11 ∨ k = 12 := by omega
    revert e
    rcases this with rfl | rfl | rfl | rfl | rfl | rfl | rfl | rfl | rfl | rfl | rfl <;> decide
/-- A word begins one: its text is that word. -/
theorem kind_some {t : Tok} (h : okP t) (c : Bool) {k : Int} (hk : kindT c t = k) (h0 : k ≠ 0) (h3 : t.1 = 3 → c = true) : t.2.1 = wordK k ∧ isCond k = c := by
  rcases kind_text h c h3 with e | ⟨e, _⟩
  · exact wordL_kind (by rw [← e]; exact hk) h0
  · exact absurd (by rw [← hk, e]) h0
end Go.Proofs.YtjhjdiaomnpkmaaDoor

namespace Go.Proofs.YtjhjdiaomnpkmaaDoor
open Go.Lib
set_option linter.unusedVariables false
set_option linter.unusedSimpArgs false
/-- Each expression has a token of its own. -/
def Sized (ts : List Tok) (m : Told Ex) : Prop := match m with
  | .ok (x, r) => size x + r.length ≤ ts.length
  | .error _ => True
theorem take_len {k : Int} {x : List UInt8} {ts r : List Tok} {t : Tok} (h : takeT k x ts = .ok (t, r)) : r.length ≤ ts.length := by
  unfold takeT at h
  split at h
  · injection h with h
    injection h with _ h
    split at h <;> subst h
    · exact Nat.le_refl _
    · rw [List.length_tail]; omega
  · cases h
theorem args_sized (f : Bool → List Tok → Told Ex) (k : Int) (hf : ∀ c ts, Sized ts (f c ts)) : ∀ (m i : Nat) (ts : List Tok), (match argsT f k i m ts with | .ok (l, r) => sizes l + r.length ≤ ts.length | .error _ => True) := by
  intro m
  induction m with
  | zero => intro i ts; unfold argsT; simp only [sizes_nil]; omega
  | succ m ih =>
    intro i ts
    unfold argsT
    have hb : ∀ t1 ts1, (if i = 0 then (.ok ((5, [], 0, 0), ts) : Told Tok) else takeT 4 [44] ts) = .ok (t1, ts1) → ts1.length ≤ ts.length := by
      intro t1 ts1 h
      split at h
      · injection h with h; injection h with _ h; subst h; exact Nat.le_refl _
      · exact take_len h
    cases h1 : (if i = 0 then (.ok ((5, [], 0, 0), ts) : Told Tok) else takeT 4 [44] ts) with
    | error e => trivial
    | ok p =>
      obtain ⟨t1, ts1⟩ := p
      have := hb t1 ts1 h1
      simp only
      have h2 := hf (decide (k = 10) && decide (i = 0)) ts1
      cases h3 : f (decide (k = 10) && decide (i = 0)) ts1 with
      | error e => trivial
      | ok q =>
        obtain ⟨x, ts2⟩ := q
        rw [h3] at h2
        have h2 : size x + ts2.length ≤ ts1.length := h2
        simp only
        have h4 := ih (i + 1) ts2
        cases h5 : argsT f k (i + 1) m ts2 with
        | error e => trivial
        | ok u =>
          obtain ⟨l, ts3⟩ := u
          rw [h5] at h4
          simp only [sizes_cons] at h4 ⊢
          omega
theorem rest_len {k : Int} {ts r : List Tok} {q : Int × List UInt8} (h : restT k ts = .ok (q, r)) : r.length ≤ ts.length := by
  have two : ∀ (K : Int) (ts r : List Tok) (g : Tok → Int × List UInt8), (match takeT K [] ts with | .error e => (.error e : Told (Int × List UInt8)) | .ok (t, ts) => .ok (g t, ts)) = .ok (q, r) → r.length ≤ ts.length := by
    intro K ts r g h
    cases h1 : takeT K [] ts with
    | error e => rw [h1] at h; cases h
    | ok p =>
      obtain ⟨t, ts1⟩ := p
      rw [h1] at h
      injection h with h
      injection h with _ h
      subst h
      exact take_len h1
  have comma : ∀ (K : Int) (g : Tok → Int × List UInt8), (match takeT 4 [44] ts with | .error e => (.error e : Told (Int × List UInt8)) | .ok (_, ts) => (match takeT K [] ts with | .error e => .error e | .ok (t, ts) => .ok (g t, ts))) = .ok (q, r) → r.length ≤ ts.length := by
    intro K g h
    cases h1 : takeT 4 [44] ts with
    | error e => rw [h1] at h; cases h
    | ok p =>
      obtain ⟨t, ts1⟩ := p
      rw [h1] at h
      exact Nat.le_trans (two K ts1 r g h) (take_len h1)
  unfold restT at h
  split at h
  · split at h
    · exact two 1 ts r _ h
    · cases h
  · split at h
    · exact comma 3 _ h
    · split at h
      · exact comma 2 _ h
      · split at h
        · split at h
          · exact two 2 ts r _ h
          · cases h
        · injection h with h
          injection h with _ h
          subst h
          exact Nat.le_refl _
theorem kind_ne {c : Bool} {ts : List Tok} (h : kindT c (hdT ts) ≠ 0) : ts ≠ [] := by
  rintro rfl
  exact h rfl
theorem expr_sized : ∀ (d : Nat) (c : Bool) (ts : List Tok), Sized ts (exprT d c ts) := by
  intro d
  induction d with
  | zero => intro c ts; rw [exprT_deep]; trivial
  | succ d ih =>
    intro c ts
    by_cases h0 : kindT c (hdT ts) = 0
    · rw [exprT_none h0]; trivial
    · have hne := kind_ne h0
      have hl : ts.tail.length + 1 = ts.length := by
        cases ts with
        | nil => exact absurd rfl hne
        | cons t r => rfl
      by_cases h4 : kindT c (hdT ts) = 4
      · rw [exprT_money h4]; show size (.mk 4 _ [] []) + ts.tail.length ≤ ts.length; rw [size_mk, sizes_nil]; omega
      · by_cases h1 : kindT c (hdT ts) = 1 ∨ kindT c (hdT ts) = 2
        · rw [exprT_leaf rfl h1]; show size (.mk _ 0 [] []) + ts.tail.length ≤ ts.length; rw [size_mk, sizes_nil]; omega
        · rw [exprT_call rfl h0 h4 h1]
          unfold callT
          cases h2 : takeT 4 [40] ts.tail with
          | error e => trivial
          | ok p =>
            obtain ⟨t, ts1⟩ := p
            have l1 := take_len h2
            simp only
            have h3 := args_sized (exprT d) (kindT c (hdT ts)) ih (argsN (kindT c (hdT ts))).toNat 0 ts1
            cases h5 : argsT (exprT d) (kindT c (hdT ts)) 0 (argsN (kindT c (hdT ts))).toNat ts1 with
            | error e => trivial
            | ok q =>
              obtain ⟨l, ts2⟩ := q
              rw [h5] at h3
              simp only at h3 ⊢
              cases h6 : restT (kindT c (hdT ts)) ts2 with
              | error e => trivial
              | ok u =>
                obtain ⟨⟨n, nm⟩, ts3⟩ := u
                have l3 := rest_len h6
                simp only
                cases h7 : takeT 4 [41] ts3 with
                | error e => trivial
                | ok v =>
                  obtain ⟨t4, ts4⟩ := v
                  have l4 := take_len h7
                  show size (.mk _ n nm l) + ts4.length ≤ ts.length
                  rw [size_mk]
                  omega
theorem parse_size {s : List UInt8} {x : Ex} (h : parseS s = .ok x) : size x ≤ 2001 := by
  unfold parseS at h
  split at h
  · cases h
  · rename_i hl
    cases hx : lx 0 s with
    | error k => rw [hx] at h; cases h
    | ok ts =>
      rw [hx] at h
      obtain ⟨us, hu, _, _, hlen⟩ := lx_out _ s (Nat.le_refl _) 0 ts hx
      have hs := expr_sized 32 false ts
      have h : stratT ts = .ok x := h
      unfold stratT at h
      cases h1 : exprT 32 false ts with
      | error e => rw [h1] at h; cases h
      | ok p =>
        obtain ⟨y, r⟩ := p
        rw [h1] at h hs
        simp only at h
        have hs : size y + r.length ≤ ts.length := hs
        have : y = x := by
          cases h2 : takeT 5 [] r with
          | error e => rw [h2] at h; cases h
          | ok q => rw [h2] at h; injection h
        subst this
        rw [hu, List.length_append] at hs
        simp at hs
        omega
end Go.Proofs.YtjhjdiaomnpkmaaDoor

namespace Go.Proofs.YtjhjdiaomnpkmaaDoor
open Go.Lib
set_option linter.unusedVariables false
set_option linter.unusedSimpArgs false
/-- How many are at most u; below u. -/
def le (u : Int) : List Int → Nat
  | [] => 0
  | a :: t => (if a ≤ u then 1 else 0) + le u t
end Go.Proofs.YtjhjdiaomnpkmaaDoor

namespace Go.Proofs.YtjhjdiaomnpkmaaDoor
open Go.Lib
set_option linter.unusedVariables false
set_option linter.unusedSimpArgs false
/-- What is told: an amount, nothing, or an error. -/
abbrev Rs := Except Int (Option Int)
def rsV : Rs → Int
  | .ok (some v) => v
  | _ => 0
def rsB : Rs → Bool
  | .ok (some _) => true
  | _ => false
def rsE : Rs → Int
  | .error e => e
  | _ => 0
end Go.Proofs.YtjhjdiaomnpkmaaDoor

namespace Go.Proofs.YtjhjdiaomnpkmaaDoor
open Go.Lib
set_option linter.unusedVariables false
set_option linter.unusedSimpArgs false
/-- Floor, ceiling, map, cooldown, band, text. -/
abbrev Cf := Int × Int × Int × Int × Int × List UInt8
abbrev flC (c : Cf) : Int := c.1
abbrev ceC (c : Cf) : Int := c.2.1
abbrev mpC (c : Cf) : Int := c.2.2.1
abbrev coC (c : Cf) : Int := c.2.2.2.1
abbrev bdC (c : Cf) : Int := c.2.2.2.2.1
abbrev txC (c : Cf) : List UInt8 := c.2.2.2.2.2
def numsOk (c : Cf) : Bool := decide (1 ≤ flC c ∧ flC c ≤ ceC c ∧ ceC c ≤ 1000000000000 ∧ 0 ≤ mpC c ∧ mpC c ≤ ceC c ∧ 0 ≤ coC c ∧ coC c ≤ 1048576 ∧ 0 ≤ bdC c ∧ bdC c ≤ 1000000000000)
/-- What is wrong with a strategy's text; 0: nothing. -/
def textE (t : List UInt8) : Int := match parseS t with | .error p => p.1 | .ok x => if rightX x then 0 else 1
def checkC (c : Cf) : Int := if numsOk c then textE (txC c) else 10
def lowC (c : Cf) : Int := max (flC c) (mpC c)
def withinC (c : Cf) (p : Int) : Bool := decide (checkC c = 0 ∧ lowC c ≤ p ∧ p ≤ ceC c)
theorem nums_iff {c : Cf} : numsOk c = true ↔ 1 ≤ flC c ∧ flC c ≤ ceC c ∧ ceC c ≤ 1000000000000 ∧ 0 ≤ mpC c ∧ mpC c ≤ ceC c ∧ 0 ≤ coC c ∧ coC c ≤ 1048576 ∧ 0 ≤ bdC c ∧ bdC c ≤ 1000000000000 := by
  unfold numsOk; rw [decide_eq_true_eq]
theorem textE_error {t : List UInt8} {e p : Int} (h : parseS t = .error (e, p)) : textE t = e := by unfold textE; rw [h]
theorem textE_ok {t : List UInt8} {x : Ex} (h : parseS t = .ok x) : textE t = if rightX x then 0 else 1 := by unfold textE; rw [h]
theorem check_zero {c : Cf} : checkC c = 0 ↔ numsOk c = true ∧ textE (txC c) = 0 := by
  unfold checkC
  by_cases h : numsOk c = true
  · rw [if_pos h]; exact ⟨fun e => ⟨h, e⟩, fun e => e.2⟩
  · rw [if_neg h]; exact ⟨fun e => by omega, fun e => absurd e.1 h⟩
theorem text_right {x : Ex} (h : rightX x = true) : textE (text x) = 0 := by rw [textE_ok (parse_text h), if_pos h]
end Go.Proofs.YtjhjdiaomnpkmaaDoor

namespace Go.Proofs.YtjhjdiaomnpkmaaDoor
open Go.RowKit Go.Lib
set_option linter.unusedVariables false
set_option linter.unusedSimpArgs false
def num (n : Int) : ByteArray := B (itoa n)
def tx (a : Int) : ByteArray := B (txt a)
theorem num_pos (n : Int) (h : 0 ≤ n) : num n = B (decDigits n.toNat) := by unfold num itoa; rw [if_neg (by omega)]
theorem num_size (n : Int) (h : 0 ≤ n) (h' : n ≤ 9223372036854775807) : (num n).size ≤ 19 := by rw [num_pos n h]; exact dd_size n h'
theorem tx_parts (a : Int) (h : 0 ≤ a) (h' : a ≤ 1000000000000) : B (decDigits (a / 100).toNat) ++ (⟨#[46]⟩ : ByteArray) ++ B (decDigits (a / 10 % 10).toNat) ++ B (decDigits (a % 10).toNat) = tx a := by
  have e : (⟨#[46]⟩ : ByteArray) = B [46] := rfl
  rw [e, B_append, B_append, B_append]
  unfold tx txt
  rw [rt_yes (by omega) h', if_pos rfl, if_neg (by omega)]
  unfold pos
  rw [show (a / 100).toNat = a.natAbs / 100 by omega, show (a / 10 % 10).toNat = a.natAbs / 10 % 10 by omega, show (a % 10).toNat = a.natAbs % 10 by omega]
  simp
theorem drop_step (s : ByteArray) (pos : Nat) (h : pos < s.size) : s.data.toList.drop pos = (s[pos]'h) :: s.data.toList.drop (pos + 1) := by
  rw [List.drop_eq_getElem_cons (by simpa using h)]
  rfl
theorem drop_end (s : ByteArray) (pos : Nat) (h : ¬ pos < s.size) : s.data.toList.drop pos = [] := by
  apply List.drop_eq_nil_of_le
  have : s.data.toList.length = s.size := by simp
  omega
theorem B_zero (c : UInt8) (t : List UInt8) (h : 0 < (B (c :: t)).size) : (B (c :: t))[0]'h = c := rfl
end Go.Proofs.YtjhjdiaomnpkmaaDoor

namespace Go.Proofs.YtjhjdiaomnpkmaaDoor
open Go.RowKit Go.Lib
set_option linter.unusedVariables false
set_option linter.unusedSimpArgs false
theorem list_of {a b : ByteArray} : (a.toList == b.toList) = true ↔ a = b := by
  rw [beq_iff_eq]
  have e1 := B_toList a.data.toList
  have e2 := B_toList b.data.toList
  rw [B_of] at e1 e2
  rw [e1, e2]
  constructor
  · intro h; rw [← B_of a, h, B_of]
  · intro h; rw [h]
theorem list_ne {a b : ByteArray} (h : a ≠ b) : (a.toList == b.toList) = false := by
  cases e : (a.toList == b.toList)
  · rfl
  · exact absurd (list_of.1 e) h
theorem word_yes {s : ByteArray} {j : Nat} (hj : j < 11) (h : B (theWords.getD j []) = s) : isWord s.data.toList = true := by
  unfold isWord
  rw [List.any_eq_true]
  have hl : theWords.length = 11 := rfl
  refine ⟨theWords.getD j [], ?_, ?_⟩
  · rw [List.getD_eq_getElem?_getD, List.getElem?_eq_getElem (by omega)]; exact List.getElem_mem _
  · rw [← h, B_list]; simp
theorem word_no {s : ByteArray} (h : ∀ j < 11, B (theWords.getD j []) ≠ s) : isWord s.data.toList = false := by
  unfold isWord
  rw [List.any_eq_false]
  intro x hx
  obtain ⟨j, hj, rfl⟩ := List.getElem_of_mem hx
  have hl : theWords.length = 11 := rfl
  intro he
  refine h j (by omega) ?_
  rw [List.getD_eq_getElem?_getD, List.getElem?_eq_getElem hj]
  have he' : theWords[j] = s.data.toList := by simpa using he
  show B theWords[j] = s
  rw [he', B_of]
theorem B_cons_size (c : UInt8) (t : List UInt8) : (B (c :: t)).size = t.length + 1 := by rw [B_size]; rfl
def LD (c : UInt8) : Bool := isL c || isD c
theorem name_eq (c : UInt8) (t : List UInt8) : isName (c :: t) = (decide (t.length + 1 ≤ 12) && isL c && !isWord (c :: t) && (c :: t).all LD) := by
  unfold isName LD; simp
theorem all_bad {l : List UInt8} (j : Nat) (h : j < l.length) (hx : LD l[j] = false) : l.all LD = false := by
  rw [List.all_eq_false]
  exact ⟨l[j], List.getElem_mem h, by simp [hx]⟩
theorem all_more {l : List UInt8} (j : Nat) (h : j < l.length) (ha : (l.take j).all LD = true) (hx : LD l[j] = true) : (l.take (j + 1)).all LD = true := by
  rw [List.take_succ_eq_append_getElem h, List.all_append, ha]; simp [hx]
theorem tok_word {l : List UInt8} (h : isWord l = true ∨ isName l = true) : tokOf l = some (1, 0) := by
  unfold tokOf; rw [if_pos]; rcases h with h | h <;> simp [h]
theorem tok_count {l : List UInt8} (h : isWord l = false) (h' : isName l = false) (hc : 0 ≤ cnt l 100000) : tokOf l = some (2, cnt l 100000) := by
  unfold tokOf; rw [if_neg (by simp [h, h']), if_pos hc]
theorem tok_money {l : List UInt8} (h : isWord l = false) (h' : isName l = false) (hc : ¬ 0 ≤ cnt l 100000) : tokOf l = (prs l).map fun a => (3, a) := by
  unfold tokOf; rw [if_neg (by simp [h, h']), if_neg hc]; cases prs l <;> rfl
end Go.Proofs.YtjhjdiaomnpkmaaDoor

namespace Go.Proofs.YtjhjdiaomnpkmaaDoor
open Go.RowKit Go.Lib
set_option linter.unusedVariables false
set_option linter.unusedSimpArgs false
/-- An argument, in the world of a round. -/
theorem ExAt.arg {S : Nat → Prop} {w wr : World} {A : Option Addr} {es : List El} {l : List Ex} (hrow : RowE S w A es) (hsub : ∀ i (h : i < es.length) (h' : i < l.length), ExAt S w es[i] l[i]) (hl : es.length = l.length) (hr : Rel w wr) (j : Nat) (hj : j < l.length) :
    ∃ (g off : Nat) (k n : Int) (nm : List UInt8) (A' : Option Addr) (m c : Nat), A = some ⟨g, off, none⟩ ∧ wr.cell? ⟨g, off + j * 4, none⟩ = some (.int .i64 k) ∧ wr.cell? ⟨g, off + j * 4 + 1, none⟩ = some (.int .i64 n) ∧ wr.cell? ⟨g, off + j * 4 + 2, none⟩ = some (.string (B nm)) ∧ wr.cell? ⟨g, off + j * 4 + 3, none⟩ = some (.slice A' m c) ∧ ExAt S wr (k, n, nm, A', m, c) l[j] := by
  obtain ⟨g, off, e, hl2, _, h0, h1, h2, h3⟩ := hrow j (by omega)
  have hs := (hsub j (by omega) hj).rel hr
  generalize es[j] = e0 at *
  obtain ⟨k, n, nm, A', m, c⟩ := e0
  have hk : ∀ i, wr.cell? ⟨g, i, none⟩ = w.cell? ⟨g, i, none⟩ := fun i => hr.2.cell (p := ⟨g, i, none⟩) hl2
  exact ⟨g, off, k, n, nm, A', m, c, e, by rw [hk]; exact h0, by rw [hk]; exact h1, by rw [hk]; exact h2, by rw [hk]; exact h3, hs⟩
end Go.Proofs.YtjhjdiaomnpkmaaDoor

namespace Go.Proofs.YtjhjdiaomnpkmaaDoor
open Go.RowKit Go.Lib
set_option linter.unusedVariables false
set_option linter.unusedSimpArgs false
theorem wordK_other {k : Int} (h : (k == 1) = false ∧ (k == 2) = false ∧ (k == 3) = false ∧ (k == 5) = false ∧ (k == 6) = false ∧ (k == 7) = false ∧ (k == 8) = false ∧ (k == 9) = false ∧ (k == 10) = false ∧ (k == 11) = false ∧ (k == 12) = false) : wordK k = [] := by
  simp only [beq_eq_false_iff_ne] at h
  unfold wordK
  obtain ⟨h1, h2, h3, h5, h6, h7, h8, h9, h10, h11, h12⟩ := h
  rw [if_neg h1, if_neg h2, if_neg h3, if_neg h5, if_neg h6, if_neg h7, if_neg h8, if_neg h9, if_neg h10, if_neg h11, if_neg h12]
end Go.Proofs.YtjhjdiaomnpkmaaDoor

namespace Go.Proofs.YtjhjdiaomnpkmaaDoor
open Go
set_option linter.unusedVariables false
set_option linter.unusedSimpArgs false
section
variable {P : Program} {ops : Array Oper} {Q : Exit → Act → World → Prop} {md : Region.Mode} {S : World → Prop}
theorem held_take {i : Nat} {oi : Oper} {v : Value} (d : Option Tmp) {fuel : Nat} {listed : Array Bool} {a : Act} {w : World} (hi : ops[i]? = some oi) (hd : oi.dst = d)
    (hs : Region.noSelect ops = true) (hf : Region.free md ops listed i = true) (hr : (Region.ready md ops listed).contains i = true)
    (hQ : ∀ c a w, Q (.panic c) (a.put d v) w → Q (.panic c) a w) (hy : YieldsIf P ops S oi v a) (hS : S w)
    (h : wpAnyH P md ops Q S fuel (listed.setIfInBounds i true) (a.put d v) w) : wpAnyH P md ops Q S (fuel + 1) listed a w := by
  subst hd
  exact wpAnyH_take hi hs hf hr hQ hy hS h
theorem held_one {j : Nat} {o : Oper} {fuel : Nat} {listed : Array Bool} {a : Act} {w : World} (hr : Region.ready md ops listed = [j]) (ho : ops[j]? = some o)
    (h : ∀ K' : Act → World → Prop, Shut (∀ a w, S w → (S w → wpAnyH P md ops Q S fuel (listed.setIfInBounds j true) a w) → K' a w) → if Region.wanted o (yielded ops a.tmps) = true then Oper.wp P o a w K' Q else K' (a.put o.dst undef) w) : wpAnyH P md ops Q S (fuel + 1) listed a w :=
  wpAnyH_ready hr (by simp) (AllReadyH.cons ho h AllReadyH.nil)
theorem held_two {j k : Nat} {o o' : Oper} {fuel : Nat} {listed : Array Bool} {a : Act} {w : World} (hr : Region.ready md ops listed = [j, k]) (ho : ops[j]? = some o) (ho' : ops[k]? = some o')
    (h : ∀ K' : Act → World → Prop, Shut (∀ a w, S w → (S w → wpAnyH P md ops Q S fuel (listed.setIfInBounds j true) a w) → K' a w) → if Region.wanted o (yielded ops a.tmps) = true then Oper.wp P o a w K' Q else K' (a.put o.dst undef) w)
    (h' : ∀ K' : Act → World → Prop, Shut (∀ a w, S w → (S w → wpAnyH P md ops Q S fuel (listed.setIfInBounds k true) a w) → K' a w) → if Region.wanted o' (yielded ops a.tmps) = true then Oper.wp P o' a w K' Q else K' (a.put o'.dst undef) w) : wpAnyH P md ops Q S (fuel + 1) listed a w :=
  wpAnyH_ready hr (by simp) (AllReadyH.cons ho h (AllReadyH.cons ho' h' AllReadyH.nil))
end
end Go.Proofs.YtjhjdiaomnpkmaaDoor

namespace Go.Proofs.YtjhjdiaomnpkmaaDoor
open Go.RowKit Go.Lib
set_option linter.unusedVariables false
set_option linter.unusedSimpArgs false
theorem ExAt.kind {S : Nat → Prop} {w : World} {e : El} {x : Ex} (h : ExAt S w e x) : x.k = e.1 := by cases h; rfl
end Go.Proofs.YtjhjdiaomnpkmaaDoor

namespace Go.Proofs.YtjhjdiaomnpkmaaDoor
open Go.RowKit Go.Lib
set_option linter.unusedVariables false
set_option linter.unusedSimpArgs false
/-- What Print tells: its text, or none. -/
def prT (x : Ex) : List UInt8 := if rightX x then text x else []
def prE (x : Ex) : Int := if rightX x then 0 else 1
end Go.Proofs.YtjhjdiaomnpkmaaDoor

namespace Go.Proofs.YtjhjdiaomnpkmaaDoor
open Go.Lib
set_option linter.unusedVariables false
set_option linter.unusedSimpArgs false
def tA14 : List UInt8 := [108, 111, 119, 101, 115, 116]
def xA14 : Ex := .mk 1 0 [] []
theorem xA_text : text xA14 = tA14 := by
  unfold xA14
  simp only [text_mk, texts_cons, texts_nil, mores_cons, mores_nil, tailK]
  decide
theorem xA_right : rightX xA14 = true := by
  unfold rightX
  rw [xA_text, show size xA14 = 1 by unfold xA14; simp only [size_mk, sizes_cons, sizes_nil]]
  decide
end Go.Proofs.YtjhjdiaomnpkmaaDoor

namespace Go.Proofs.YtjhjdiaomnpkmaaDoor
open Go.Lib
set_option linter.unusedVariables false
set_option linter.unusedSimpArgs false
/-- Last, at, ring, swing. -/
abbrev Pa15 := Int × Int × List Int × Int
abbrev laP (p : Pa15) : Int := p.1
abbrev atP (p : Pa15) : Int := p.2.1
abbrev riP (p : Pa15) : List Int := p.2.2.1
abbrev swP (p : Pa15) : Int := p.2.2.2
def noP : Pa15 := (0, 0, [], 0)
def ringOk (r : List Int) : Bool := r.all fun x => decide (1 ≤ x ∧ x ≤ 1000000000000)
def rightP (p : Pa15) : Bool := if laP p = 0 then decide (atP p = 0 ∧ (riP p).length = 0 ∧ swP p = 0) else ringOk (riP p) && decide (0 ≤ atP p ∧ atP p ≤ 1099511627776 ∧ 1 ≤ (riP p).length ∧ (riP p).length ≤ 3 ∧ (riP p).getLast? = some (laP p) ∧ 0 ≤ swP p ∧ swP p ≤ 6)
def byP (cool : Int) : Nat → Int
  | 0 => laterF cool 0
  | k + 1 => laterF (byP cool k) (byP cool k)
def swK (s : Int) : Nat := (min s 6).toNat
def readyP (c : Cf) (p : Pa15) : Int := if laP p = 0 then 0 else laterF (atP p) (byP (coC c) (swK (swP p)))
def swingsP (r : List Int) (t : Int) : Bool := match r with | [a, b, d] => decide (b = t ∧ d = a) | _ => false
def nearP (c : Cf) (p : Pa15) (t : Int) : Bool := decide (t - laP p ≤ bdC c ∧ laP p - t ≤ bdC c)
def goP (c : Cf) (p : Pa15) (t now : Int) : Bool := withinC c t && rightP p && decide (0 ≤ now ∧ now ≤ 1099511627776 ∧ readyP c p ≤ now) && !(withinC c (laP p) && nearP c p t) && decide (t ≠ laP p)
def lastR (l : List Int) : List Int := l.drop (l.length - 3)
def nextP (p : Pa15) (t now : Int) : Pa15 := (t, now, lastR (riP p ++ [t]), if swingsP (riP p) t then min (swP p + 1) 6 else 0)
def decP (c : Cf) (p : Pa15) (t now : Int) : Pa15 := if goP c p t now then nextP p t now else p
theorem within_bd {c : Cf} {t : Int} (h : withinC c t = true) : 1 ≤ t ∧ t ≤ 1000000000000 ∧ checkC c = 0 ∧ lowC c ≤ t ∧ t ≤ ceC c := by
  unfold withinC at h
  have h := of_decide_eq_true h
  have hn := nums_iff.1 (check_zero.1 h.1).1
  have hl : flC c ≤ lowC c := by unfold lowC; omega
  refine ⟨by omega, by omega, h.1, h.2.1, h.2.2⟩
theorem ringOk_mem {r : List Int} : ringOk r = true ↔ ∀ x ∈ r, 1 ≤ x ∧ x ≤ 1000000000000 := by
  unfold ringOk; rw [List.all_eq_true]; simp only [decide_eq_true_eq]
theorem lastR_mem {l : List Int} {x : Int} (h : x ∈ lastR l) : x ∈ l := List.mem_of_mem_drop h
theorem lastR_len (l : List Int) : (lastR l).length = min l.length 3 := by unfold lastR; rw [List.length_drop]; omega
theorem lastR_snoc (l : List Int) (t : Int) : (lastR (l ++ [t])).getLast? = some t := by
  unfold lastR
  rw [List.drop_append_of_le_length (by simp only [List.length_append, List.length_singleton]; omega)]
  simp
theorem right_ring {p : Pa15} (h : rightP p = true) : ringOk (riP p) = true ∧ (riP p).length ≤ 3 := by
  unfold rightP at h
  by_cases e : laP p = 0
  · rw [if_pos e] at h
    have h := of_decide_eq_true h
    have hr : riP p = [] := List.length_eq_zero_iff.1 h.2.1
    rw [hr]; exact ⟨rfl, by simp⟩
  · rw [if_neg e, Bool.and_eq_true] at h
    exact ⟨h.1, (of_decide_eq_true h.2).2.2.2.1⟩
theorem right_swing {p : Pa15} (h : rightP p = true) : 0 ≤ swP p ∧ swP p ≤ 6 := by
  unfold rightP at h
  by_cases e : laP p = 0
  · rw [if_pos e] at h
    have h := of_decide_eq_true h
    omega
  · rw [if_neg e, Bool.and_eq_true] at h
    have := of_decide_eq_true h.2
    omega
theorem go_parts {c : Cf} {p : Pa15} {t now : Int} (h : goP c p t now = true) : withinC c t = true ∧ rightP p = true ∧ 0 ≤ now ∧ now ≤ 1099511627776 ∧ readyP c p ≤ now ∧ ¬ (withinC c (laP p) = true ∧ nearP c p t = true) ∧ t ≠ laP p := by
  unfold goP at h
  rw [Bool.and_eq_true, Bool.and_eq_true, Bool.and_eq_true, Bool.and_eq_true] at h
  obtain ⟨⟨⟨⟨h1, h2⟩, h3⟩, h4⟩, h5⟩ := h
  have h3 := of_decide_eq_true h3
  refine ⟨h1, h2, h3.1, h3.2.1, h3.2.2, ?_, of_decide_eq_true h5⟩
  rintro ⟨a, b⟩
  rw [a, b] at h4
  exact absurd h4 (by decide)
theorem next_right {c : Cf} {p : Pa15} {t now : Int} (h : goP c p t now = true) : rightP (nextP p t now) = true := by
  obtain ⟨h1, h2, h3, h4, _, _, _⟩ := go_parts h
  have hw := within_bd h1
  have hr := right_ring h2
  have hs := right_swing h2
  have hlen := lastR_len (riP p ++ [t])
  rw [List.length_append, List.length_singleton] at hlen
  have hsw : 0 ≤ (if swingsP (riP p) t then min (swP p + 1) 6 else 0) ∧ (if swingsP (riP p) t then min (swP p + 1) 6 else 0) ≤ 6 := by split <;> omega
  unfold rightP
  rw [if_neg (show ¬ laP (nextP p t now) = 0 by show ¬ t = 0; omega), Bool.and_eq_true]
  refine ⟨ringOk_mem.2 fun x hx => ?_, decide_eq_true ⟨h3, h4, ?_, ?_, lastR_snoc _ _, hsw.1, hsw.2⟩⟩
  · rcases List.mem_append.1 (lastR_mem hx) with hx | hx
    · exact ringOk_mem.1 hr.1 x hx
    · rw [List.mem_singleton] at hx; subst hx; omega
  · show 1 ≤ (lastR (riP p ++ [t])).length; omega
  · show (lastR (riP p ++ [t])).length ≤ 3; omega
theorem no_right : rightP noP = true := by decide
theorem later_bd (a b : Int) : 0 ≤ laterF a b ∧ laterF a b ≤ 1099511627776 := tick_bd _
theorem by_bd (cool : Int) (k : Nat) : 0 ≤ byP cool k ∧ byP cool k ≤ 1099511627776 := by
  cases k <;> exact later_bd _ _
end Go.Proofs.YtjhjdiaomnpkmaaDoor

namespace Go.Proofs.YtjhjdiaomnpkmaaDoor
open Go.Lib
set_option linter.unusedVariables false
set_option linter.unusedSimpArgs false
theorem swings_len {r : List Int} {t : Int} (h : swingsP r t = true) : r.length = 3 := by
  unfold swingsP at h
  split at h
  · rfl
  · cases h
/-- The first target that may be is decided. -/
theorem go_first {c : Cf} {t now : Int} (h : withinC c t = true) (h0 : 0 ≤ now) (h1 : now ≤ 1099511627776) : goP c noP t now = true := by
  have hb := within_bd h
  have hn := nums_iff.1 (check_zero.1 hb.2.2.1).1
  have hl : flC c ≤ lowC c := by unfold lowC; omega
  have hw : withinC c (laP noP) = false := by
    unfold withinC
    refine decide_eq_false fun e => ?_
    have h2 : lowC c ≤ (0 : Int) := e.2.1
    omega
  unfold goP
  rw [h, no_right, hw]
  simp only [Bool.true_and, Bool.false_and, Bool.not_false, Bool.and_true]
  rw [Bool.and_eq_true]
  refine ⟨decide_eq_true ⟨h0, h1, ?_⟩, decide_eq_true ?_⟩
  · show (0 : Int) ≤ now; exact h0
  · show t ≠ 0; omega
end Go.Proofs.YtjhjdiaomnpkmaaDoor
