/- Plain mathematics of layer 6, third part: what is told one token behind the other, up to an error. No program in this text. -/
import Derived.Test.YtlflfffjaodhpaaDoorLexMathB
namespace Go.Proofs.YtlflfffjaodhpaaDoor
open Go.Lib
set_option linter.unusedVariables false
set_option linter.unusedSimpArgs false

/-- The tokens ahead of an error, or all; the place of the error. -/
def lxP (p : Nat) (l : List UInt8) : List Tok × Option Nat :=
  match l with
  | [] => ([(5, [], 0, (p : Int))], none)
  | c :: t =>
    if isBl c then lxP (p + 1) t
    else if isSg c then ((4, [c], 0, (p : Int)) :: (lxP (p + 1) t).1, (lxP (p + 1) t).2)
    else
      match h : tokOf ((c :: t).takeWhile isPt) with
      | none => ([], some p)
      | some kn => ((kn.1, (c :: t).takeWhile isPt, kn.2, (p : Int)) :: (lxP (p + ((c :: t).takeWhile isPt).length) ((c :: t).dropWhile isPt)).1, (lxP (p + ((c :: t).takeWhile isPt).length) ((c :: t).dropWhile isPt)).2)
  termination_by l.length
  decreasing_by
    all_goals simp_wf
    all_goals
      have h1 := tokOf_ne (k := kn.1) (n := kn.2) h
      have h2 := run_len (c :: t)
      have h3 : 1 ≤ ((c :: t).takeWhile isPt).length := by
        rcases hx : (c :: t).takeWhile isPt with _ | ⟨a, b⟩
        · exact absurd hx h1
        · simp
      simp at h2 h3 ⊢
      omega
theorem lxP_nil (p : Nat) : lxP p [] = ([(5, [], 0, (p : Int))], none) := by rw [lxP]
theorem lxP_blank (p : Nat) (c : UInt8) (t : List UInt8) (h : isBl c = true) : lxP p (c :: t) = lxP (p + 1) t := by rw [lxP, if_pos h]
theorem lxP_sign (p : Nat) (c : UInt8) (t : List UInt8) (h : isBl c = false) (h' : isSg c = true) : lxP p (c :: t) = ((4, [c], 0, (p : Int)) :: (lxP (p + 1) t).1, (lxP (p + 1) t).2) := by
  rw [lxP, if_neg (by rw [h]; simp), if_pos h']
theorem lxP_bad (p : Nat) (c : UInt8) (t : List UInt8) (h : isBl c = false) (h' : isSg c = false) (hn : tokOf ((c :: t).takeWhile isPt) = none) : lxP p (c :: t) = ([], some p) := by
  rw [lxP, if_neg (by rw [h]; simp), if_neg (by rw [h']; simp)]
  split
  · rfl
  · rename_i h2; rw [hn] at h2; cases h2
theorem lxP_tok (p : Nat) (c : UInt8) (t : List UInt8) (k n : Int) (h : isBl c = false) (h' : isSg c = false) (hn : tokOf ((c :: t).takeWhile isPt) = some (k, n)) :
    lxP p (c :: t) = ((k, (c :: t).takeWhile isPt, n, (p : Int)) :: (lxP (p + ((c :: t).takeWhile isPt).length) ((c :: t).dropWhile isPt)).1, (lxP (p + ((c :: t).takeWhile isPt).length) ((c :: t).dropWhile isPt)).2) := by
  rw [lxP, if_neg (by rw [h]; simp), if_neg (by rw [h']; simp)]
  split
  · rename_i h2; rw [hn] at h2; cases h2
  · rename_i kn h2; rw [hn] at h2; cases h2; rfl
/-- What Lex tells, of what is told one behind the other. -/
def outP (r : List Tok × Option Nat) : Scan := match r.2 with
  | none => .ok r.1
  | some k => .error k
theorem lx_outP : ∀ (m : Nat) (s : List UInt8), s.length ≤ m → ∀ p : Nat, lx p s = outP (lxP p s) := by
  intro m
  induction m with
  | zero =>
    intro s hs p
    obtain rfl : s = [] := List.length_eq_zero_iff.1 (by omega)
    rw [lx_nil, lxP_nil]; rfl
  | succ m ih =>
    intro s hs p
    cases s with
    | nil => rw [lx_nil, lxP_nil]; rfl
    | cons c t =>
      simp only [List.length_cons] at hs
      have hp : ∀ (x : Tok) (r : List Tok × Option Nat), pre [x] (outP r) = outP (x :: r.1, r.2) := fun x r => by
        obtain ⟨a, b⟩ := r
        cases b <;> rfl
      cases hb : isBl c
      · cases hg : isSg c
        · cases hn : tokOf ((c :: t).takeWhile isPt) with
          | none => rw [lx_bad _ c t hb hg hn, lxP_bad _ c t hb hg hn]; rfl
          | some kn =>
            obtain ⟨k, j⟩ := kn
            have hx := tokOf_ne hn
            have h2 := run_len (c :: t)
            have h3 : 1 ≤ ((c :: t).takeWhile isPt).length := by
              rcases hx' : (c :: t).takeWhile isPt with _ | ⟨a, b⟩
              · exact absurd hx' hx
              · simp
            simp only [List.length_cons] at h2
            rw [lx_tok _ c t k j hb hg hn, lxP_tok _ c t k j hb hg hn, ih _ (by omega), hp]
        · rw [lx_sign _ c t hb hg, lxP_sign _ c t hb hg, ih t (by omega), hp]
      · rw [lx_blank _ c t hb, lxP_blank _ c t hb, ih t (by omega)]
/-- How far a scan is that tells one token behind the other. -/
def AtP (l : List UInt8) (p : Nat) (ts : List Tok) : Prop := lxP 0 l = (ts ++ (lxP p (l.drop p)).1, (lxP p (l.drop p)).2) ∧ ts.length ≤ p
theorem AtP.start (l : List UInt8) : AtP l 0 [] := ⟨rfl, Nat.le_refl _⟩
theorem AtP.blank {l : List UInt8} {p : Nat} {ts : List Tok} {c : UInt8} {t : List UInt8} (h : AtP l p ts) (hp : l.drop p = c :: t) (hb : isBl c = true) : AtP l (p + 1) ts := by
  have e : l.drop (p + 1) = t := by rw [← List.drop_drop, hp]; rfl
  exact ⟨by rw [h.1, hp, lxP_blank _ _ _ hb, e], by have := h.2; omega⟩
theorem AtP.sign {l : List UInt8} {p : Nat} {ts : List Tok} {c : UInt8} {t : List UInt8} (h : AtP l p ts) (hp : l.drop p = c :: t) (hb : isSg c = true) : AtP l (p + 1) (ts ++ [(4, [c], 0, (p : Int))]) ∧ ∃ r, (lxP 0 l).1 = ts ++ (4, [c], 0, (p : Int)) :: r := by
  have e : l.drop (p + 1) = t := by rw [← List.drop_drop, hp]; rfl
  refine ⟨⟨by rw [h.1, hp, lxP_sign _ _ _ (sg_not hb).1 hb, e]; simp, by have := h.2; simp; omega⟩, (lxP (p + 1) t).1, ?_⟩
  rw [h.1, hp, lxP_sign _ _ _ (sg_not hb).1 hb]
theorem AtP.tok {l : List UInt8} {p e : Nat} {ts : List Tok} {c : UInt8} {t x : List UInt8} {k n : Int} (h : AtP l p ts) (hp : l.drop p = c :: t) (hb : isBl c = false) (hg : isSg c = false)
    (hx : (l.drop p).takeWhile isPt = x) (hm : p + x.length = e) (hd : (l.drop p).dropWhile isPt = l.drop e) (ht : tokOf x = some (k, n)) : AtP l e (ts ++ [(k, x, n, (p : Int))]) ∧ ∃ r, (lxP 0 l).1 = ts ++ (k, x, n, (p : Int)) :: r := by
  have hm1 : 1 ≤ x.length := by
    have := tokOf_ne ht
    rcases x with _ | ⟨a, b⟩
    · exact absurd rfl this
    · simp
  rw [hp] at hx hd
  have q := lxP_tok p c t k n hb hg (by rw [hx]; exact ht)
  rw [hx, hd, hm] at q
  refine ⟨⟨by rw [h.1, hp, q]; simp, by have := h.2; simp; omega⟩, (lxP e (l.drop e)).1, ?_⟩
  rw [h.1, hp, q]
theorem AtP.bad {l : List UInt8} {p : Nat} {ts : List Tok} {c : UInt8} {t x : List UInt8} (h : AtP l p ts) (hp : l.drop p = c :: t) (hb : isBl c = false) (hg : isSg c = false)
    (hx : (l.drop p).takeWhile isPt = x) (ht : tokOf x = none) : lxP 0 l = (ts, some p) := by
  rw [hp] at hx
  rw [h.1, hp, lxP_bad _ _ _ hb hg (by rw [hx]; exact ht)]; simp
theorem AtP.done {l : List UInt8} {ts : List Tok} (h : AtP l l.length ts) : lxP 0 l = (ts ++ [(5, [], 0, (l.length : Int))], none) := by
  rw [h.1, List.drop_length, lxP_nil]
end Go.Proofs.YtlflfffjaodhpaaDoor
