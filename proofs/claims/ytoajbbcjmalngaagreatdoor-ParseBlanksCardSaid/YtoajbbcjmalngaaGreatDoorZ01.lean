/- Plain mathematics of layer 6: words, names, tokens, and what of a text is scanned. No program in this text; Plain mathematics of layer 6, second part: the law's pieces are tokens; what is no token is none. No program in this text; Tokens in memory, pairs of raw numbers; which tokens are the same; Plain mathematics of layer 7: expressions, their texts, sizes and depths. No program in this text. -/
import Derived.Test.YtoajbbcjmalngaaGreatDoorZ00
namespace Go.Proofs.YtoajbbcjmalngaaGreatDoor
open Go.Lib
set_option linter.unusedVariables false
set_option linter.unusedSimpArgs false

def isL (c : UInt8) : Bool := decide (97 ≤ c.toNat ∧ c.toNat ≤ 122)
def isPt (c : UInt8) : Bool := isL c || isD c || c == 46
def isBl (c : UInt8) : Bool := c == 32 || c == 10
def isSg (c : UInt8) : Bool := c == 40 || c == 41 || c == 44
def theWords : List (List UInt8) := [[108,111,119,101,115,116], [115,101,99,111,110,100], [102,114,111,109], [108,101,115,115], [99,117,116], [109,105,110], [109,97,120], [101,108,115,101], [105,102], [109,111,114,101], [97,98,111,118,101]]
def isWord (l : List UInt8) : Bool := theWords.any (· == l)
def isName (l : List UInt8) : Bool := decide (l ≠ [] ∧ l.length ≤ 12) && (l.head?.any isL) && !isWord l && l.all (fun c => isL c || isD c)
/-- A token: its kind, its text, its number, its place. -/
abbrev Tok := Int × List UInt8 × Int × Int
/-- What a run of parts is: a kind and a number. -/
def tokOf (x : List UInt8) : Option (Int × Int) :=
  if isWord x || isName x then some (1, 0)
  else if 0 ≤ cnt x 100000 then some (2, cnt x 100000)
  else match prs x with
    | some a => some (3, a)
    | none => none
/-- What is scanned: tokens, or the place of what is none. -/
abbrev Scan := Except Nat (List Tok)
def pre (ts : List Tok) : Scan → Scan
  | .ok l => .ok (ts ++ l)
  | .error k => .error k
theorem pre_nil (r : Scan) : pre [] r = r := by cases r <;> rfl
theorem pre_pre (a b : List Tok) (r : Scan) : pre a (pre b r) = pre (a ++ b) r := by cases r <;> simp [pre]
theorem run_len (l : List UInt8) : (l.dropWhile isPt).length = l.length - (l.takeWhile isPt).length := by
  have := congrArg List.length (List.takeWhile_append_dropWhile (p := isPt) (l := l))
  simp only [List.length_append] at this
  omega
theorem tokOf_nil : tokOf [] = none := by decide
theorem tokOf_ne {x : List UInt8} {k n : Int} (h : tokOf x = some (k, n)) : x ≠ [] := by
  rintro rfl; rw [tokOf_nil] at h; cases h
def lx (p : Nat) (l : List UInt8) : Scan :=
  match l with
  | [] => .ok [(5, [], 0, (p : Int))]
  | c :: t =>
    if isBl c then lx (p + 1) t
    else if isSg c then pre [(4, [c], 0, (p : Int))] (lx (p + 1) t)
    else
      match h : tokOf ((c :: t).takeWhile isPt) with
      | none => .error p
      | some kn => pre [(kn.1, (c :: t).takeWhile isPt, kn.2, (p : Int))] (lx (p + ((c :: t).takeWhile isPt).length) ((c :: t).dropWhile isPt))
  termination_by l.length
  decreasing_by
    all_goals simp_wf
    have h1 := tokOf_ne (k := kn.1) (n := kn.2) h
    have h2 := run_len (c :: t)
    have h3 : 1 ≤ ((c :: t).takeWhile isPt).length := by
      rcases hx : (c :: t).takeWhile isPt with _ | ⟨a, b⟩
      · exact absurd hx h1
      · simp
    simp at h2 h3 ⊢
    omega
theorem lx_nil (p : Nat) : lx p [] = .ok [(5, [], 0, (p : Int))] := by rw [lx]
theorem lx_blank (p : Nat) (c : UInt8) (t : List UInt8) (h : isBl c = true) : lx p (c :: t) = lx (p + 1) t := by rw [lx, if_pos h]
theorem lx_sign (p : Nat) (c : UInt8) (t : List UInt8) (h : isBl c = false) (h' : isSg c = true) : lx p (c :: t) = pre [(4, [c], 0, (p : Int))] (lx (p + 1) t) := by
  rw [lx, if_neg (by rw [h]; simp), if_pos h']
theorem lx_bad (p : Nat) (c : UInt8) (t : List UInt8) (h : isBl c = false) (h' : isSg c = false) (hn : tokOf ((c :: t).takeWhile isPt) = none) : lx p (c :: t) = .error p := by
  rw [lx, if_neg (by rw [h]; simp), if_neg (by rw [h']; simp)]
  split
  · rfl
  · rename_i h2; rw [hn] at h2; cases h2
theorem lx_tok (p : Nat) (c : UInt8) (t : List UInt8) (k n : Int) (h : isBl c = false) (h' : isSg c = false) (hn : tokOf ((c :: t).takeWhile isPt) = some (k, n)) :
    lx p (c :: t) = pre [(k, (c :: t).takeWhile isPt, n, (p : Int))] (lx (p + ((c :: t).takeWhile isPt).length) ((c :: t).dropWhile isPt)) := by
  rw [lx, if_neg (by rw [h]; simp), if_neg (by rw [h']; simp)]
  split
  · rename_i h2; rw [hn] at h2; cases h2
  · rename_i kn h2; rw [hn] at h2; cases h2; rfl

/-- A token that stands by itself. -/
def Good (x : List UInt8) (k n : Int) : Prop := (∃ c, x = [c] ∧ isSg c = true ∧ k = 4 ∧ n = 0) ∨ (x ≠ [] ∧ x.all isPt = true ∧ tokOf x = some (k, n))
/-- No part stands at the beginning. -/
def stops (r : List UInt8) : Bool := r.head?.all fun c => !isPt c
theorem pt_not {c : UInt8} (h : isPt c = true) : isBl c = false ∧ isSg c = false := by
  simp only [isPt, isL, isD, isBl, isSg, Bool.or_eq_true, decide_eq_true_eq, beq_iff_eq, Bool.or_eq_false_iff, beq_eq_false_iff_ne] at h ⊢
  refine ⟨⟨?_, ?_⟩, ⟨?_, ?_⟩, ?_⟩
  all_goals rintro rfl; revert h; decide
theorem bl_not {c : UInt8} (h : isBl c = true) : isPt c = false := by
  cases hp : isPt c
  · rfl
  · rw [(pt_not hp).1] at h; cases h
theorem sg_not {c : UInt8} (h : isSg c = true) : isBl c = false ∧ isPt c = false := by
  constructor
  · simp only [isBl, isSg, Bool.or_eq_true, beq_iff_eq, Bool.or_eq_false_iff, beq_eq_false_iff_ne] at h ⊢
    rcases h with (rfl | rfl) | rfl <;> decide
  · cases hp : isPt c
    · rfl
    · rw [(pt_not hp).2] at h; cases h
theorem take_run {x r : List UInt8} (hx : x.all isPt = true) (hr : stops r = true) : (x ++ r).takeWhile isPt = x ∧ (x ++ r).dropWhile isPt = r := by
  induction x with
  | nil =>
    cases r with
    | nil => exact ⟨rfl, rfl⟩
    | cons c t =>
      have hc : isPt c = false := by simpa [stops] using hr
      simp [List.takeWhile_cons, List.dropWhile_cons, hc]
  | cons c t ih =>
    simp only [List.all_cons, Bool.and_eq_true] at hx
    have := ih hx.2
    simp [List.takeWhile_cons, List.dropWhile_cons, hx.1, this.1, this.2]
theorem lx_good {x : List UInt8} {k n : Int} (h : Good x k n) (p : Nat) (r : List UInt8) (hr : stops r = true) : lx p (x ++ r) = pre [(k, x, n, (p : Int))] (lx (p + x.length) r) := by
  rcases h with ⟨c, rfl, hs, rfl, rfl⟩ | ⟨h0, ha, ht⟩
  · exact lx_sign p c r (sg_not hs).1 hs
  · cases x with
    | nil => exact absurd rfl h0
    | cons c t =>
      have hc : isPt c = true := by simp only [List.all_cons, Bool.and_eq_true] at ha; exact ha.1
      obtain ⟨e1, e2⟩ := take_run ha hr
      have e1' : (c :: (t ++ r)).takeWhile isPt = c :: t := e1
      have e2' : (c :: (t ++ r)).dropWhile isPt = r := e2
      show lx p (c :: (t ++ r)) = _
      rw [lx_tok p c (t ++ r) k n (pt_not hc).1 (pt_not hc).2 (by rw [e1']; exact ht), e1', e2']
theorem lx_blanks (b : List UInt8) (hb : b.all isBl = true) : ∀ (p : Nat) (r : List UInt8), lx p (b ++ r) = lx (p + b.length) r := by
  induction b with
  | nil => intro p r; rfl
  | cons c t ih =>
    simp only [List.all_cons, Bool.and_eq_true] at hb
    intro p r
    show lx p (c :: (t ++ r)) = _
    rw [lx_blank p c _ hb.1, ih hb.2, List.length_cons, Nat.add_right_comm, Nat.add_assoc]
theorem stops_blank {b r : List UInt8} (h0 : b ≠ []) (hb : b.all isBl = true) : stops (b ++ r) = true := by
  cases b with
  | nil => exact absurd rfl h0
  | cons c t =>
    simp only [List.all_cons, Bool.and_eq_true] at hb
    simp [stops, bl_not hb.1]
theorem lx_step {x b : List UInt8} {k n : Int} (h : Good x k n) (h0 : b ≠ []) (hb : b.all isBl = true) (p : Nat) (r : List UInt8) :
    lx p (x ++ (b ++ r)) = pre [(k, x, n, (p : Int))] (lx (p + (x.length + b.length)) r) := by
  rw [lx_good h p _ (stops_blank h0 hb), lx_blanks b hb, Nat.add_assoc]
theorem lx_alone {x : List UInt8} {k n : Int} (h : Good x k n) (p : Nat) : lx p x = .ok [(k, x, n, (p : Int)), (5, [], 0, ((p + x.length : Nat) : Int))] := by
  have := lx_good h p [] rfl
  rw [List.append_nil] at this
  rw [this, lx_nil]; rfl
/-- Each token stands at q or behind, and behind the one ahead of it. -/
def Ord : Int → List Tok → Prop
  | _, [] => True
  | q, t :: ts => q ≤ t.2.2.2 ∧ Ord (t.2.2.2 + (t.2.1.length : Int)) ts
theorem Ord.mono {q q' : Int} {ts : List Tok} (h : Ord q ts) (hq : q' ≤ q) : Ord q' ts := by
  cases ts with
  | nil => trivial
  | cons t ts => exact ⟨by have := h.1; omega, h.2⟩
theorem Ord.at {ts : List Tok} {q : Int} (h : Ord q ts) (i : Nat) (hi : i + 1 < ts.length) : ts[i].2.2.2 + (ts[i].2.1.length : Int) ≤ ts[i + 1].2.2.2 := by
  induction ts generalizing i q with
  | nil => simp at hi
  | cons t ts ih =>
    cases i with
    | zero =>
      cases ts with
      | nil => simp at hi
      | cons u us => exact h.2.1
    | succ i => exact ih h.2 i (by simpa using hi)
theorem pre_ok {ts l : List Tok} {r : Scan} (h : pre ts r = .ok l) : ∃ m, r = .ok m ∧ l = ts ++ m := by
  cases r with
  | ok m => exact ⟨m, rfl, by injection h with h; exact h.symm⟩
  | error k => cases h
theorem all_run (l : List UInt8) : (l.takeWhile isPt).all isPt = true := by
  induction l with
  | nil => rfl
  | cons c t ih =>
    rw [List.takeWhile_cons]
    split
    · rename_i h; simp only [List.all_cons, h, Bool.true_and]; exact ih
    · rfl
/-- What comes out: right tokens in order, and the end. -/
theorem lx_out : ∀ (m : Nat) (s : List UInt8), s.length ≤ m → ∀ (p : Nat) (l : List Tok), lx p s = .ok l →
    ∃ ts, l = ts ++ [(5, [], 0, ((p + s.length : Nat) : Int))] ∧ (∀ t ∈ ts, Good t.2.1 t.1 t.2.2.1 ∧ t.2.1.length ≤ s.length ∧ (p : Int) ≤ t.2.2.2 ∧ t.2.2.2 + (t.2.1.length : Int) ≤ ((p + s.length : Nat) : Int)) ∧ Ord p ts ∧ ts.length ≤ s.length := by
  intro m
  induction m with
  | zero =>
    intro s hs p l h
    obtain rfl : s = [] := List.length_eq_zero_iff.1 (by omega)
    rw [lx_nil] at h
    injection h with h
    exact ⟨[], by rw [← h]; rfl, (fun t ht => by cases ht), trivial, Nat.zero_le _⟩
  | succ m ih =>
    intro s hs p l h
    cases s with
    | nil =>
      rw [lx_nil] at h
      injection h with h
      exact ⟨[], by rw [← h]; rfl, (fun t ht => by cases ht), trivial, Nat.zero_le _⟩
    | cons c t =>
      simp only [List.length_cons] at hs ⊢
      cases hb : isBl c
      · cases hg : isSg c
        · cases hn : tokOf ((c :: t).takeWhile isPt) with
          | none => rw [lx_bad p c t hb hg hn] at h; cases h
          | some kn =>
            obtain ⟨k, n⟩ := kn
            rw [lx_tok p c t k n hb hg hn] at h
            obtain ⟨l', h', rfl⟩ := pre_ok h
            have hx := tokOf_ne hn
            have h2 := run_len (c :: t)
            have h3 : 1 ≤ ((c :: t).takeWhile isPt).length := by
              rcases hx' : (c :: t).takeWhile isPt with _ | ⟨a, b⟩
              · exact absurd hx' hx
              · simp
            have h4 : ((c :: t).takeWhile isPt).length ≤ (c :: t).length := (List.takeWhile_sublist _).length_le
            have ha := all_run (c :: t)
            generalize (c :: t).takeWhile isPt = x at *
            generalize (c :: t).dropWhile isPt = r at *
            simp only [List.length_cons] at h2 h4
            obtain ⟨ts, e, hts, ho, hle⟩ := ih r (by omega) (p + x.length) l' h'
            refine ⟨(k, x, n, (p : Int)) :: ts, ?_, ?_, ?_, by simp; omega⟩
            · rw [e, show p + x.length + r.length = p + (t.length + 1) by omega]; rfl
            · intro u hu
              rcases List.mem_cons.1 hu with rfl | hu
              · exact ⟨.inr ⟨hx, ha, hn⟩, h4, Int.le_refl _, by simp only []; omega⟩
              · have := hts u hu
                exact ⟨this.1, by omega, by omega, by omega⟩
            · exact ⟨Int.le_refl _, ho.mono (by simp only []; omega)⟩
        · rw [lx_sign p c t hb hg] at h
          obtain ⟨l', h', rfl⟩ := pre_ok h
          obtain ⟨ts, e, hts, ho, hle⟩ := ih t (by omega) (p + 1) l' h'
          refine ⟨(4, [c], 0, (p : Int)) :: ts, ?_, ?_, ?_, by simp; omega⟩
          · rw [e, show p + 1 + t.length = p + (t.length + 1) by omega]; rfl
          · intro u hu
            rcases List.mem_cons.1 hu with rfl | hu
            · exact ⟨.inl ⟨c, rfl, hg, rfl, rfl⟩, by simp, Int.le_refl _, by simp; omega⟩
            · have := hts u hu
              exact ⟨this.1, by omega, by omega, by omega⟩
          · exact ⟨Int.le_refl _, ho.mono (by simp)⟩
      · rw [lx_blank p c t hb] at h
        obtain ⟨ts, e, hts, ho, hle⟩ := ih t (by omega) (p + 1) l h
        exact ⟨ts, by rw [e, show p + 1 + t.length = p + (t.length + 1) by omega], fun u hu => ⟨(hts u hu).1, by have := (hts u hu).2; omega, by have := (hts u hu).2; omega, by have := (hts u hu).2; omega⟩, ho.mono (by omega), by omega⟩
/-- Further on by so many bytes. -/
def shiftT (n : Nat) (t : Tok) : Tok := (t.1, t.2.1, t.2.2.1, t.2.2.2 + (n : Int))
def shift (n : Nat) : Scan → Scan
  | .ok l => .ok (l.map (shiftT n))
  | .error k => .error (k + n)
theorem shift_pre (n : Nat) (ts : List Tok) (r : Scan) : shift n (pre ts r) = pre (ts.map (shiftT n)) (shift n r) := by cases r <;> simp [shift, pre]
theorem lx_shift (n : Nat) : ∀ (m : Nat) (s : List UInt8), s.length ≤ m → ∀ p : Nat, lx (p + n) s = shift n (lx p s) := by
  intro m
  induction m with
  | zero =>
    intro s hs p
    obtain rfl : s = [] := List.length_eq_zero_iff.1 (by omega)
    rw [lx_nil, lx_nil]; simp [shift, shiftT]
  | succ m ih =>
    intro s hs p
    cases s with
    | nil => rw [lx_nil, lx_nil]; simp [shift, shiftT]
    | cons c t =>
      simp only [List.length_cons] at hs
      cases hb : isBl c
      · cases hg : isSg c
        · cases hn : tokOf ((c :: t).takeWhile isPt) with
          | none => rw [lx_bad _ c t hb hg hn, lx_bad _ c t hb hg hn]; rfl
          | some kn =>
            obtain ⟨k, j⟩ := kn
            have hx := tokOf_ne hn
            have h2 := run_len (c :: t)
            have h3 : 1 ≤ ((c :: t).takeWhile isPt).length := by
              rcases hx' : (c :: t).takeWhile isPt with _ | ⟨a, b⟩
              · exact absurd hx' hx
              · simp
            rw [lx_tok _ c t k j hb hg hn, lx_tok _ c t k j hb hg hn, shift_pre]
            simp only [List.length_cons] at h2
            rw [show p + n + ((c :: t).takeWhile isPt).length = p + ((c :: t).takeWhile isPt).length + n by omega, ih _ (by omega)]
            simp [shiftT]
        · rw [lx_sign _ c t hb hg, lx_sign _ c t hb hg, shift_pre, show p + n + 1 = p + 1 + n by omega, ih t (by omega)]
          simp [shiftT]
      · rw [lx_blank _ c t hb, lx_blank _ c t hb, show p + n + 1 = p + 1 + n by omega, ih t (by omega)]
/-- What is no token, where no part goes on. -/
def Bad (x : List UInt8) : Bool := match x with
  | [] => false
  | c :: _ => !isBl c && !isSg c && (if isPt c then x.all isPt && (tokOf x).isNone else true)
theorem lx_wrong {x : List UInt8} (h : Bad x = true) (p : Nat) (r : List UInt8) (hr : stops r = true) : lx p (x ++ r) = .error p := by
  cases x with
  | nil => cases h
  | cons c t =>
    simp only [Bad, Bool.and_eq_true, Bool.not_eq_true'] at h
    obtain ⟨⟨hb, hg⟩, hx⟩ := h
    refine lx_bad p c (t ++ r) hb hg ?_
    cases hp : isPt c
    · rw [List.takeWhile_cons, hp]; exact tokOf_nil
    · rw [if_pos hp, Bool.and_eq_true] at hx
      have e : (c :: (t ++ r)).takeWhile isPt = c :: t := (take_run hx.1 hr).1
      rw [e]
      exact Option.isNone_iff_eq_none.1 hx.2
end Go.Proofs.YtoajbbcjmalngaaGreatDoor

namespace Go.Proofs.YtoajbbcjmalngaaGreatDoor
open Go.Lib
set_option linter.unusedVariables false
set_option linter.unusedSimpArgs false

def theSigns : List (List UInt8) := [[40], [41], [44]]
def theNames : List (List UInt8) := [[97], [98,111,98], [108,111,119,101,115], [97,99,109,101,57], [120,49], [101,108,115,101,101]]
def sellerL (k : Int) : List UInt8 := (theNames.getD (k % 6).toNat []) ++ decDigits (k / 6).toNat
/-- A piece of kind j: u is what n was picked to be. -/
def pieceL (j u : Int) : List UInt8 :=
  if j = 0 then theWords.getD u.toNat [] else if j = 1 then theSigns.getD u.toNat [] else if j = 2 then decDigits u.toNat else if j = 3 then pos u.toNat else sellerL u
def pieceM (j : Int) : Int := if j = 0 then 11 else if j = 1 then 3 else if j = 2 then 100001 else if j = 3 then 1000000 else 60
def pieceK (j : Int) : Int := if j = 1 then 4 else if j = 2 then 2 else if j = 3 then 3 else 1
def pieceN (j u : Int) : Int := if j = 2 ∨ j = 3 then u else 0
theorem name_head {x : List UInt8} {c : UInt8} {t : List UInt8} (hx : x = c :: t) (hc : isL c = false) : isName x = false := by
  subst hx; simp [isName, hc]
theorem word_head {x : List UInt8} {c : UInt8} {t : List UInt8} (hx : x = c :: t) (hc : isL c = false) : isWord x = false := by
  subst hx
  cases h : isWord (c :: t)
  · rfl
  · unfold isWord theWords at h
    simp only [List.any_cons, List.any_nil, Bool.or_false, Bool.or_eq_true, beq_iff_eq, List.cons.injEq] at h
    exfalso
    rcases h with ⟨e, _⟩ | ⟨e, _⟩ | ⟨e, _⟩ | ⟨e, _⟩ | ⟨e, _⟩ | ⟨e, _⟩ | ⟨e, _⟩ | ⟨e, _⟩ | ⟨e, _⟩ | ⟨e, _⟩ | ⟨e, _⟩ <;> (subst e; revert hc; decide)
theorem isL_D {c : UInt8} (h : isD c = true) : isL c = false := by
  rw [isD_iff] at h
  simp [isL]; omega
theorem isPt_D {c : UInt8} (h : isD c = true) : isPt c = true := by simp [isPt, h]
theorem all_pt {l : List UInt8} (h : allD l = true) : l.all isPt = true := by
  rw [List.all_eq_true]
  intro c hc
  exact isPt_D (List.all_eq_true.1 h c hc)
theorem dd_cons (u : Nat) : ∃ c t, decDigits u = c :: t ∧ isD c = true := by
  obtain ⟨h1, _, _, h4⟩ := dd_all u
  cases h : decDigits u with
  | nil => rw [h] at h4; cases h4
  | cons c t =>
    rw [h, allD_cons, Bool.and_eq_true] at h1
    exact ⟨c, t, rfl, h1.1⟩
theorem good_count (u : Nat) (h : u ≤ 100000) : Good (decDigits u) 2 u := by
  obtain ⟨c, t, e, hc⟩ := dd_cons u
  have h1 := name_head e (isL_D hc)
  have h2 := word_head e (isL_D hc)
  have h3 : cnt (decDigits u) 100000 = (u : Int) := by rw [cnt_dd, if_pos (by omega)]
  refine .inr ⟨by rw [e]; simp, all_pt (dd_all u).1, ?_⟩
  unfold tokOf
  rw [h1, h2, h3, if_neg (by simp), if_pos (by omega)]
theorem prs_posn (m : Nat) (h : m ≤ 1000000000000) : prs (pos m) = some (m : Int) := by
  have := prs_txt (a := (m : Int)) (rt_yes (by omega) (by omega))
  rw [show txt (m : Int) = pos m by unfold txt; rw [rt_yes (by omega) (by omega), if_pos rfl, if_neg (by omega)]; rfl] at this
  exact this
theorem good_money (m : Nat) (h : m ≤ 1000000000000) : Good (pos m) 3 m := by
  obtain ⟨c, t, e, hc⟩ := dd_cons (m / 100)
  have e' : pos m = c :: (t ++ ([46] ++ (decDigits (m / 10 % 10) ++ decDigits (m % 10)))) := by unfold pos; rw [e]; rfl
  have h1 := name_head e' (isL_D hc)
  have h2 := word_head e' (isL_D hc)
  have h3 : cnt (pos m) 100000 = -1 := cnt_not (by
    rw [pos, allD_append, allD_append]; simp [allD, isD])
  refine .inr ⟨by rw [e']; simp, ?_, ?_⟩
  · unfold pos
    rw [List.all_append, List.all_append, List.all_append, all_pt (dd_all _).1, all_pt (dd_all _).1, all_pt (dd_all _).1]; rfl
  · unfold tokOf
    rw [h1, h2, h3, if_neg (by simp), if_neg (by omega), prs_posn m h]
def goodB (x : List UInt8) : Bool := !x.isEmpty && x.all isPt && (isWord x || isName x)
theorem good_word {x : List UInt8} (h : goodB x = true) : Good x 1 0 := by
  simp only [goodB, Bool.and_eq_true] at h
  refine .inr ⟨by rintro rfl; simp at h, h.1.2, ?_⟩
  unfold tokOf; rw [if_pos h.2]
theorem lt_cases {P : Nat → Prop} (m : Nat) (h : ∀ i : Fin m, P i.val) (n : Nat) (hn : n < m) : P n := h ⟨n, hn⟩
theorem dd_one (n : Nat) (h : n < 10) : decDigits n = [UInt8.ofNat (48 + n)] := by rw [decDigits, dif_pos h]
theorem sellers : ∀ i : Fin 60, goodB ((theNames.getD (i.val % 6) []) ++ [UInt8.ofNat (48 + i.val / 6)]) = true := by decide
theorem seller_eq (u : Int) (h0 : 0 ≤ u) (h1 : u < 60) : sellerL u = (theNames.getD (u.toNat % 6) []) ++ [UInt8.ofNat (48 + u.toNat / 6)] := by
  unfold sellerL
  rw [show (u % 6).toNat = u.toNat % 6 by omega, show (u / 6).toNat = u.toNat / 6 by omega, dd_one _ (by omega)]
theorem seller_good (u : Int) (h0 : 0 ≤ u) (h1 : u < 60) : Good (sellerL u) 1 0 := by
  rw [seller_eq u h0 h1]
  exact good_word (sellers ⟨u.toNat, by omega⟩)
theorem words_good : ∀ i : Fin 11, goodB (theWords.getD i.val []) = true := by decide
theorem signs_good : ∀ i : Fin 3, ∃ c, theSigns.getD i.val [] = [c] ∧ isSg c = true
  | ⟨0, _⟩ => ⟨40, rfl, rfl⟩
  | ⟨1, _⟩ => ⟨41, rfl, rfl⟩
  | ⟨2, _⟩ => ⟨44, rfl, rfl⟩
theorem pieceM_at (j : Int) : (j = 0 → pieceM j = 11) ∧ (j = 1 → pieceM j = 3) ∧ (j = 2 → pieceM j = 100001) ∧ (j = 3 → pieceM j = 1000000) ∧ (j ≠ 0 → j ≠ 1 → j ≠ 2 → j ≠ 3 → pieceM j = 60) := by
  unfold pieceM
  refine ⟨fun h => by rw [if_pos h], fun h => by rw [if_neg (by omega), if_pos h], fun h => by rw [if_neg (by omega), if_neg (by omega), if_pos h], fun h => by rw [if_neg (by omega), if_neg (by omega), if_neg (by omega), if_pos h], fun h h1 h2 h3 => by rw [if_neg h, if_neg h1, if_neg h2, if_neg h3]⟩
theorem piece0 (u : Int) : pieceL 0 u = theWords.getD u.toNat [] ∧ pieceK 0 = 1 ∧ pieceN 0 u = 0 := ⟨rfl, rfl, rfl⟩
theorem piece1 (u : Int) : pieceL 1 u = theSigns.getD u.toNat [] ∧ pieceK 1 = 4 ∧ pieceN 1 u = 0 := ⟨rfl, rfl, rfl⟩
theorem piece2 (u : Int) : pieceL 2 u = decDigits u.toNat ∧ pieceK 2 = 2 ∧ pieceN 2 u = u := ⟨rfl, rfl, rfl⟩
theorem piece3 (u : Int) : pieceL 3 u = pos u.toNat ∧ pieceK 3 = 3 ∧ pieceN 3 u = u := ⟨rfl, rfl, rfl⟩
theorem piece4 {j : Int} (u : Int) (h0 : j ≠ 0) (h1 : j ≠ 1) (h2 : j ≠ 2) (h3 : j ≠ 3) : pieceL j u = sellerL u ∧ pieceK j = 1 ∧ pieceN j u = 0 := by
  unfold pieceL pieceK pieceN
  rw [if_neg h0, if_neg h1, if_neg h2, if_neg h3, if_neg h1, if_neg h2, if_neg h3, if_neg (by omega)]
  exact ⟨rfl, rfl, rfl⟩
theorem piece_good (j u : Int) (hu : 0 ≤ u) (hu' : u < pieceM j) : Good (pieceL j u) (pieceK j) (pieceN j u) := by
  obtain ⟨m0, m1, m2, m3, m4⟩ := pieceM_at j
  by_cases h0 : j = 0
  · have := m0 h0
    subst h0
    obtain ⟨e1, e2, e3⟩ := piece0 u
    rw [e1, e2, e3]
    exact good_word (words_good ⟨u.toNat, by omega⟩)
  · by_cases h1 : j = 1
    · have := m1 h1
      subst h1
      obtain ⟨e1, e2, e3⟩ := piece1 u
      rw [e1, e2, e3]
      obtain ⟨c, e, hc⟩ := signs_good ⟨u.toNat, by omega⟩
      exact .inl ⟨c, e, hc, rfl, rfl⟩
    · by_cases h2 : j = 2
      · have := m2 h2
        subst h2
        obtain ⟨e1, e2, e3⟩ := piece2 u
        rw [e1, e2, e3]
        have := good_count u.toNat (by omega)
        rwa [show ((u.toNat : Nat) : Int) = u by omega] at this
      · by_cases h3 : j = 3
        · have := m3 h3
          subst h3
          obtain ⟨e1, e2, e3⟩ := piece3 u
          rw [e1, e2, e3]
          have := good_money u.toNat (by omega)
          rwa [show ((u.toNat : Nat) : Int) = u by omega] at this
        · have := m4 h0 h1 h2 h3
          obtain ⟨e1, e2, e3⟩ := piece4 u h0 h1 h2 h3
          rw [e1, e2, e3]
          exact seller_good u hu (by omega)
/-- How long a piece is. -/
theorem words_len : ∀ i : Fin 11, (theWords.getD i.val []).length ≤ 6 := by decide
theorem signs_len : ∀ i : Fin 3, (theSigns.getD i.val []).length ≤ 6 := by decide
theorem names_len : ∀ i : Fin 6, (theNames.getD i.val []).length ≤ 5 := by decide
theorem dd_len (k u : Nat) (h : u < 10 ^ k) (hk : 1 ≤ k) : (decDigits u).length ≤ k := by
  induction k generalizing u with
  | zero => omega
  | succ k ih =>
    rw [decDigits]
    split
    · simp
    · rename_i h10
      have hk' : 1 ≤ k := by
        rcases k with _ | k
        · simp at h; omega
        · omega
      have := ih (u / 10) (by rw [Nat.pow_succ] at h; omega) hk'
      simp
      omega
theorem piece_len (j u : Int) (hu : 0 ≤ u) (hu' : u < pieceM j) : (pieceL j u).length ≤ 9 := by
  unfold pieceM at hu'
  unfold pieceL
  by_cases h0 : j = 0
  · rw [if_pos h0] at hu' ⊢
    exact Nat.le_trans (words_len ⟨u.toNat, by omega⟩) (by omega)
  · rw [if_neg h0] at hu' ⊢
    by_cases h1 : j = 1
    · rw [if_pos h1] at hu' ⊢
      exact Nat.le_trans (signs_len ⟨u.toNat, by omega⟩) (by omega)
    · rw [if_neg h1] at hu' ⊢
      by_cases h2 : j = 2
      · rw [if_pos h2] at hu' ⊢
        have := dd_len 6 u.toNat (by have : 10 ^ 6 = 1000000 := by decide
                                     omega) (by omega)
        omega
      · rw [if_neg h2] at hu' ⊢
        by_cases h3 : j = 3
        · rw [if_pos h3] at hu' ⊢
          have a := dd_len 4 (u.toNat / 100) (by have : 10 ^ 4 = 10000 := by decide
                                                 omega) (by omega)
          have b := dd_len 1 (u.toNat / 10 % 10) (by have : 10 ^ 1 = 10 := by decide
                                                     omega) (by omega)
          have c := dd_len 1 (u.toNat % 10) (by have : 10 ^ 1 = 10 := by decide
                                                omega) (by omega)
          unfold pos
          simp only [List.length_append, List.length_cons, List.length_nil]
          omega
        · rw [if_neg h3] at hu' ⊢
          rw [seller_eq u hu hu', List.length_append]
          have := names_len ⟨u.toNat % 6, by omega⟩
          simp only [List.length_cons, List.length_nil]
          simp only [] at this
          omega
/-- What is no token. -/
def theBads : List (List UInt8) := [[64], [65], [61], [49,97], [48,48], [49,48,48,48,48,49], [46,53], [49,46,53], [97,46,98], [97,98,99,100,101,102,103,104,105,106,107,108,109], [0], [9], [45,49], [49,46,50,51,52]]
theorem bads_bad : ∀ i : Fin 14, Bad (theBads.getD i.val []) = true := by decide
theorem bads_len : ∀ i : Fin 14, (theBads.getD i.val []).length ≤ 13 := by decide
/-- A token of one kind alone. -/
theorem good_kind {x : List UInt8} {k n : Int} (h : Good x k n) : (isName x && isWord x) = false ∧ ((isName x || isWord x) = decide (k = 1)) ∧ (k ≠ 2 → k ≠ 3 → n = 0) ∧ 0 ≤ n ∧ (k = 2 → n ≤ 100000) := by
  have hnw : (isName x && isWord x) = false := by
    unfold isName
    cases isWord x <;> simp
  refine ⟨hnw, ?_⟩
  rcases h with ⟨c, rfl, hs, rfl, rfl⟩ | ⟨h0, ha, ht⟩
  · have hl : isL c = false := by
      have := (sg_not hs).2
      simp only [isPt, Bool.or_eq_false_iff] at this
      exact this.1.1
    rw [name_head rfl hl, word_head rfl hl]
    exact ⟨rfl, fun _ _ => rfl, Int.le_refl _, fun h => by omega⟩
  · unfold tokOf at ht
    by_cases h1 : (isWord x || isName x) = true
    · rw [if_pos h1] at ht
      injection ht with ht
      injection ht with e1 e2
      subst e1; subst e2
      rw [Bool.or_comm] at h1
      exact ⟨by rw [h1]; rfl, fun _ _ => rfl, Int.le_refl _, fun h => by omega⟩
    · rw [if_neg h1] at ht
      rw [Bool.or_comm] at h1
      rw [Bool.not_eq_true _ |>.mp h1]
      by_cases h2 : 0 ≤ cnt x 100000
      · rw [if_pos h2] at ht
        injection ht with ht
        injection ht with e1 e2
        subst e1; subst e2
        have := cnt_bd x 100000
        exact ⟨rfl, fun h => absurd rfl h, h2, fun _ => by omega⟩
      · rw [if_neg h2] at ht
        cases hp : prs x with
        | none => rw [hp] at ht; cases ht
        | some a =>
          rw [hp] at ht
          injection ht with ht
          injection ht with e1 e2
          subst e1; subst e2
          refine ⟨rfl, fun _ h => absurd rfl h, ?_, fun h => by omega⟩
          obtain ⟨r1, r2⟩ := txt_of_prs hp
          by_cases h3 : a < 0
          · exfalso
            unfold txt at r2
            rw [if_pos r1, if_pos h3] at r2
            rw [← r2] at ha
            revert ha
            simp [isPt, isL, isD]
          · omega
end Go.Proofs.YtoajbbcjmalngaaGreatDoor

namespace Go.Proofs.YtoajbbcjmalngaaGreatDoor
open Go.RowKit Go.Lib
set_option linter.unusedVariables false
set_option linter.unusedSimpArgs false

abbrev TK (t : Tok) : Value := .agg #[.int .i64 t.1, .string (B t.2.1), .int .i64 t.2.2.1, .int .i64 t.2.2.2]
def cells4 (t : Tok) : List Value := [.int .i64 t.1, .string (B t.2.1), .int .i64 t.2.2.1, .int .i64 t.2.2.2]
def cellsOf (ts : List Tok) : List Value := ts.flatMap cells4
theorem cellsOf_snoc (ts : List Tok) (t : Tok) : cellsOf (ts ++ [t]) = cellsOf ts ++ cells4 t := by simp [cellsOf]
theorem cellsOf_len (ts : List Tok) : (cellsOf ts).length = ts.length * 4 := by
  induction ts with
  | nil => rfl
  | cons e t ih => simp only [cellsOf, List.flatMap_cons, List.length_append, List.length_cons] at ih ⊢; simp only [cells4, List.length_cons, List.length_nil]; omega
theorem cellsOf_at (ts : List Tok) (i : Nat) (h : i < ts.length) :
    (cellsOf ts)[i * 4]? = some (.int .i64 ts[i].1) ∧ (cellsOf ts)[i * 4 + 1]? = some (.string (B ts[i].2.1)) ∧ (cellsOf ts)[i * 4 + 2]? = some (.int .i64 ts[i].2.2.1) ∧ (cellsOf ts)[i * 4 + 3]? = some (.int .i64 ts[i].2.2.2) := by
  induction ts generalizing i with
  | nil => simp at h
  | cons e t ih =>
    have hc : cellsOf (e :: t) = cells4 e ++ cellsOf t := rfl
    cases i with
    | zero => rw [hc]; exact ⟨rfl, rfl, rfl, rfl⟩
    | succ i =>
      obtain ⟨h1, h2, h3, h4⟩ := ih i (by simpa using h)
      have l4 : (cells4 e).length = 4 := rfl
      refine ⟨?_, ?_, ?_, ?_⟩
      · rw [hc, List.getElem?_append_right (by omega), show (i + 1) * 4 - (cells4 e).length = i * 4 by omega]; exact h1
      · rw [hc, List.getElem?_append_right (by omega), show (i + 1) * 4 + 1 - (cells4 e).length = i * 4 + 1 by omega]; exact h2
      · rw [hc, List.getElem?_append_right (by omega), show (i + 1) * 4 + 2 - (cells4 e).length = i * 4 + 2 by omega]; exact h3
      · rw [hc, List.getElem?_append_right (by omega), show (i + 1) * 4 + 3 - (cells4 e).length = i * 4 + 3 by omega]; exact h4
/-- The cells from A on are these tokens. -/
def ToksAt (w : World) (A : Option Addr) (ts : List Tok) : Prop :=
  ∀ i (h : i < ts.length), ∃ (g off : Nat), A = some ⟨g, off, none⟩ ∧ g < w.heap.size ∧ w.cell? ⟨g, off + i * 4, none⟩ = some (.int .i64 ts[i].1) ∧ w.cell? ⟨g, off + i * 4 + 1, none⟩ = some (.string (B ts[i].2.1)) ∧
    w.cell? ⟨g, off + i * 4 + 2, none⟩ = some (.int .i64 ts[i].2.2.1) ∧ w.cell? ⟨g, off + i * 4 + 3, none⟩ = some (.int .i64 ts[i].2.2.2)
theorem ToksAt.nil (w : World) (A : Option Addr) : ToksAt w A [] := fun i h => absurd h (by simp)
theorem ToksAt.below {w w' : World} {A : Option Addr} {ts : List Tok} (h : ToksAt w A ts) (hb : Below w.heap.size w w') : ToksAt w' A ts := by
  intro i hi
  obtain ⟨g, off, e, hl, h0, h1, h2, h3⟩ := h i hi
  have hk : ∀ j, w'.cell? ⟨g, j, none⟩ = w.cell? ⟨g, j, none⟩ := fun j => hb.cell (p := ⟨g, j, none⟩) hl
  exact ⟨g, off, e, by have := hb.size; omega, by rw [hk]; exact h0, by rw [hk]; exact h1, by rw [hk]; exact h2, by rw [hk]; exact h3⟩
theorem ToksAt.rel {w w' : World} {A : Option Addr} {ts : List Tok} (h : ToksAt w A ts) (hr : Rel w w') : ToksAt w' A ts := h.below hr.2
/-- A slice of tokens of the call's own. -/
def TokOwn (w : World) (base : Nat) (v : Value) (ts : List Tok) : Prop := w.ownsRow base 44 4 v ts.length (cellsOf ts)
theorem TokOwn.nil (w : World) (base : Nat) : TokOwn w base (.slice none 0 0) [] := World.ownsRow_nil _ _ _ _
theorem TokOwn.rel {w w' : World} {base : Nat} {v : Value} {ts : List Tok} (h : TokOwn w base v ts) (hr : Rel w w') : TokOwn w' base v ts := own_rel h hr
theorem TokOwn.toks {w : World} {base : Nat} {A : Option Addr} {n c : Nat} {ts : List Tok} (h : TokOwn w base (.slice A n c) ts) (hn : n = ts.length) : ToksAt w A ts := by
  intro i hi
  have h : w.ownsRow base 44 4 (.slice A n c) ts.length (cellsOf ts) := h
  rcases h.2 with ⟨h0, h1⟩ | ⟨g, cap, cur, hv, hb, hh, _⟩
  · omega
  · have hA : A = some ⟨g, 0, none⟩ := by injection hv
    obtain ⟨c0, c1, c2, c3⟩ := cellsOf_at ts i hi
    have hc := h.cells (g := g) (by rw [hA]; rfl)
    have q0 := hc _ _ c0
    have q1 := hc _ _ c1
    have q2 := hc _ _ c2
    have q3 := hc _ _ c3
    rw [addr_at] at q0 q1 q2 q3
    refine ⟨g, 0, hA, Bk.lt (t := 44) hh, ?_, ?_, ?_, ?_⟩
    · exact q0
    · rw [Nat.add_assoc]; exact q1
    · rw [Nat.add_assoc]; exact q2
    · rw [Nat.add_assoc]; exact q3
theorem TokOwn.more {w1 : World} {base g cap : Nat} {ts : List Tok} {t : Tok}
    (hown1 : w1.ownsRow base 44 4 (.slice (some ⟨g, 0, none⟩) (ts.length + 1) cap) (ts.length + 1) (cellsOf ts ++ cells4 t)) : TokOwn w1 base (.slice (some ⟨g, 0, none⟩) (ts.length + 1) cap) (ts ++ [t]) := by
  unfold TokOwn
  rw [cellsOf_snoc, show (ts ++ [t]).length = ts.length + 1 by simp]; exact hown1
theorem tok_info : (Tryz.prog.info? 44).map (fun i => (i.zero, i.size, i.bytes)) = some (some (.agg #[.int .i64 0, .string ⟨#[]⟩, .int .i64 0, .int .i64 0]), 4, 40) := by kernel_rfl
theorem cells4_one (t : Tok) : ∀ u ∈ cells4 t, u.oneCell' = true := by
  intro u hu
  simp only [cells4, List.mem_cons, List.not_mem_nil, or_false] at hu
  rcases hu with rfl | rfl | rfl | rfl <;> rfl
/-- The cells from A on are these pairs of numbers. -/
def PairsAt (w : World) (A : Option Addr) (zs : List (Int × Int)) : Prop :=
  ∀ i (h : i < zs.length), ∃ (a : Addr), A = some a ∧ a.block < w.heap.size ∧ w.cell? (a.add (i * 2)) = some (.int .i64 zs[i].1) ∧ w.cell? (a.add (i * 2 + 1)) = some (.int .i64 zs[i].2)
theorem PairsAt.below {w w' : World} {A : Option Addr} {zs : List (Int × Int)} (h : PairsAt w A zs) (hb : Below w.heap.size w w') : PairsAt w' A zs := by
  intro i hi
  obtain ⟨a, e, hl, h0, h1⟩ := h i hi
  have hk : ∀ j, w'.cell? (a.add j) = w.cell? (a.add j) := fun j => hb.cell (p := a.add j) (by rw [block_add]; exact hl)
  exact ⟨a, e, by have := hb.size; omega, by rw [hk]; exact h0, by rw [hk]; exact h1⟩
theorem PairsAt.rel {w w' : World} {A : Option Addr} {zs : List (Int × Int)} (h : PairsAt w A zs) (hr : Rel w w') : PairsAt w' A zs := h.below hr.2
/-- Pairs of raw numbers as an argument. -/
def PairsIn (w : World) (A : Option Addr) (n : Nat) (zs : List (Int × Int)) : Prop := zs.length = n ∧ n ≤ 9223372036854775807 ∧ (∀ z ∈ zs, (-9223372036854775808 ≤ z.1 ∧ z.1 ≤ 9223372036854775807) ∧ (-9223372036854775808 ≤ z.2 ∧ z.2 ≤ 9223372036854775807)) ∧ PairsAt w A zs
theorem Bk.four {w : World} {g : Nat} {t : TypeId} {x y z u : Value} (h : Bk w g t #[x, y, z, u]) :
    (w.cell? ⟨g, 0, none⟩ = some x ∧ w.cell? ⟨g, 1, none⟩ = some y ∧ w.cell? ⟨g, 2, none⟩ = some z ∧ w.cell? ⟨g, 3, none⟩ = some u) ∧ (w.frozen? ⟨g, 0, none⟩ = false ∧ w.frozen? ⟨g, 1, none⟩ = false ∧ w.frozen? ⟨g, 2, none⟩ = false ∧ w.frozen? ⟨g, 3, none⟩ = false) :=
  ⟨⟨h.cell 0, h.cell 1, h.cell 2, h.cell 3⟩, ⟨h.frozen 0, h.frozen 1, h.frozen 2, h.frozen 3⟩⟩
theorem Bk.put4 {w : World} {g : Nat} {t : TypeId} {x y z u : Value} (h : Bk w g t #[x, y, z, u]) (a b c d : Value) : Bk ((((w.setCell ⟨g, 0, none⟩ a).setCell ⟨g, 1, none⟩ b).setCell ⟨g, 2, none⟩ c).setCell ⟨g, 3, none⟩ d) g t #[a, b, c, d] :=
  (((h.set_ 0 a).set_ 1 b).set_ 2 c).set_ 3 d
theorem Bk.snd (w : World) (cs cs' : Array Value) (t t' : TypeId) : Bk ((w.alloc (.cells cs t)).alloc (.cells cs' t')) (w.heap.size + 1) t' cs' := by
  have h := Bk.new (w.alloc (.cells cs t)) t' cs'
  rw [World.size_alloc] at h
  exact h
theorem Rel.put4 {w0 w : World} (h : Rel w0 w) {g : Nat} (hg : w0.heap.size ≤ g) (a b c d : Value) : Rel w0 ((((w.setCell ⟨g, 0, none⟩ a).setCell ⟨g, 1, none⟩ b).setCell ⟨g, 2, none⟩ c).setCell ⟨g, 3, none⟩ d) :=
  (((h.setCell hg a).setCell hg b).setCell hg c).setCell hg d
abbrev TB (w : World) (g : Nat) (t : Tok) : Prop := Bk w g 44 #[.int .i64 t.1, .string (B t.2.1), .int .i64 t.2.2.1, .int .i64 t.2.2.2]
end Go.Proofs.YtoajbbcjmalngaaGreatDoor

namespace Go.Proofs.YtoajbbcjmalngaaGreatDoor
open Go.Lib
set_option linter.unusedVariables false
set_option linter.unusedSimpArgs false

/-- An expression: kind, number, name, arguments. -/
inductive Ex where
  | mk (k n : Int) (nm : List UInt8) (l : List Ex)
def Ex.k : Ex → Int | .mk k _ _ _ => k
def Ex.n : Ex → Int | .mk _ n _ _ => n
def Ex.nm : Ex → List UInt8 | .mk _ _ nm _ => nm
def Ex.l : Ex → List Ex | .mk _ _ _ l => l
mutual
def size : Ex → Nat
  | .mk _ _ _ l => 1 + sizes l
def sizes : List Ex → Nat
  | [] => 0
  | x :: t => size x + sizes t
end
mutual
def deep : Ex → Nat
  | .mk _ _ _ l => deeps l + 1
def deeps : List Ex → Nat
  | [] => 0
  | x :: t => max (deep x) (deeps t)
end
theorem size_mk (k n : Int) (nm : List UInt8) (l : List Ex) : size (.mk k n nm l) = 1 + sizes l := by rw [size]
theorem sizes_nil : sizes [] = 0 := by rw [sizes]
theorem sizes_cons (x : Ex) (t : List Ex) : sizes (x :: t) = size x + sizes t := by rw [sizes]
theorem deep_mk (k n : Int) (nm : List UInt8) (l : List Ex) : deep (.mk k n nm l) = deeps l + 1 := by rw [deep]
theorem deeps_nil : deeps [] = 0 := by rw [deeps]
theorem deeps_cons (x : Ex) (t : List Ex) : deeps (x :: t) = max (deep x) (deeps t) := by rw [deeps]
theorem size_mem {x : Ex} {l : List Ex} (h : x ∈ l) : size x ≤ sizes l := by
  induction l with
  | nil => cases h
  | cons y t ih =>
    rw [sizes_cons]
    rcases List.mem_cons.1 h with rfl | h
    · omega
    · have := ih h; omega
theorem deep_mem {x : Ex} {l : List Ex} (h : x ∈ l) : deep x ≤ deeps l := by
  induction l with
  | nil => cases h
  | cons y t ih =>
    rw [deeps_cons]
    rcases List.mem_cons.1 h with rfl | h
    · omega
    · have := ih h; omega
theorem size_pos (x : Ex) : 1 ≤ size x := by cases x; rw [size_mk]; omega
theorem sizes_append (a b : List Ex) : sizes (a ++ b) = sizes a + sizes b := by
  induction a with
  | nil => simp [sizes_nil]
  | cons x t ih => rw [List.cons_append, sizes_cons, sizes_cons, ih]; omega
theorem deeps_append (a b : List Ex) : deeps (a ++ b) = max (deeps a) (deeps b) := by
  induction a with
  | nil => simp [deeps_nil]
  | cons x t ih => rw [List.cons_append, deeps_cons, deeps_cons, ih]; omega
/-- What holds of an expression if it holds of all its arguments. -/
theorem ex_ind {P : Ex → Prop} (h : ∀ k n nm l, (∀ x ∈ l, P x) → P (.mk k n nm l)) : ∀ x, P x := by
  have : ∀ m x, size x ≤ m → P x := by
    intro m
    induction m with
    | zero => intro x hx; have := size_pos x; omega
    | succ m ih =>
      intro x hx
      cases x with
      | mk k n nm l =>
        rw [size_mk] at hx
        exact h k n nm l fun y hy => ih y (by have := size_mem hy; omega)
  exact fun x => this _ x (Nat.le_refl _)
theorem deep_le_size : ∀ x, deep x ≤ size x := ex_ind fun k n nm l ih => by
  rw [deep_mk, size_mk]
  have : deeps l ≤ sizes l := by
    clear k n nm
    induction l with
    | nil => rw [deeps_nil]; omega
    | cons y t ih2 =>
      have h1 := ih y (List.mem_cons_self ..)
      have h2 := ih2 fun z hz => ih z (List.mem_cons_of_mem _ hz)
      rw [deeps_cons, sizes_cons]; omega
  omega
/-- Are two the same? -/
def sameN : Nat → Ex → Ex → Bool
  | 0, _, _ => false
  | d + 1, x, y => decide (x.k = y.k) && decide (x.n = y.n) && decide (x.nm = y.nm) && decide (x.l.length = y.l.length) && (x.l.zip y.l).all fun p => sameN d p.1 p.2
theorem zip_eq {a b : List Ex} (hl : a.length = b.length) (h : ∀ p ∈ a.zip b, p.1 = p.2) : a = b := by
  induction a generalizing b with
  | nil => cases b with
    | nil => rfl
    | cons y t => simp at hl
  | cons x s ih =>
    cases b with
    | nil => simp at hl
    | cons y t =>
      have e := h (x, y) (by simp)
      simp only at e
      rw [e, ih (by simpa using hl) fun p hp => h p (by simp [hp])]
theorem zip_self {a : List Ex} : ∀ p ∈ a.zip a, p.1 ∈ a ∧ p.1 = p.2 := by
  induction a with
  | nil => intro p hp; cases hp
  | cons x s ih =>
    intro p hp
    simp only [List.zip_cons_cons, List.mem_cons] at hp
    rcases hp with rfl | hp
    · exact ⟨List.mem_cons_self .., rfl⟩
    · exact ⟨List.mem_cons_of_mem _ (ih p hp).1, (ih p hp).2⟩
theorem same_eq : ∀ (d : Nat) (x y : Ex), sameN d x y = true → x = y := by
  intro d
  induction d with
  | zero => intro x y h; cases h
  | succ d ih =>
    intro x y h
    cases x with
    | mk k n nm l =>
      cases y with
      | mk k' n' nm' l' =>
        simp only [sameN, Bool.and_eq_true, List.all_eq_true] at h
        obtain ⟨⟨⟨⟨h1, h2⟩, h3⟩, h4⟩, h⟩ := h
        have e1 : k = k' := of_decide_eq_true h1
        have e2 : n = n' := of_decide_eq_true h2
        have e3 : nm = nm' := of_decide_eq_true h3
        have e4 : l.length = l'.length := of_decide_eq_true h4
        have e5 : l = l' := zip_eq e4 fun p hp => ih _ _ (h p hp)
        rw [e1, e2, e3, e5]
theorem same_refl : ∀ (x : Ex) (d : Nat), deep x ≤ d → sameN d x x = true := ex_ind fun k n nm l ih d hd => by
  rw [deep_mk] at hd
  cases d with
  | zero => omega
  | succ d =>
    simp only [sameN, Bool.and_eq_true, List.all_eq_true]
    refine ⟨⟨⟨⟨by simp, by simp⟩, by simp⟩, by simp⟩, fun p hp => ?_⟩
    obtain ⟨h1, h2⟩ := zip_self (a := l) p hp
    rw [← h2]
    exact ih _ h1 d (by have := deep_mem h1; omega)
/-- How many arguments a kind has; whether it is a condition; its greatest number; its word. -/
def argsN (k : Int) : Int := if k = 1 ∨ k = 2 ∨ k = 3 ∨ k = 4 ∨ k = 11 then 0 else if k = 5 ∨ k = 6 then 1 else if k = 7 ∨ k = 8 ∨ k = 9 ∨ k = 12 then 2 else if k = 10 then 3 else -1
def isCond (k : Int) : Bool := k == 11 || k == 12
def mostN (k : Int) : Int := if k = 4 ∨ k = 5 then 1000000000000 else if k = 6 then 100000 else if k = 11 then 1000 else 0
def wordK (k : Int) : List UInt8 :=
  if k = 1 then [108,111,119,101,115,116] else if k = 2 then [115,101,99,111,110,100] else if k = 3 then [102,114,111,109] else if k = 5 then [108,101,115,115] else if k = 6 then [99,117,116] else if k = 7 then [109,105,110] else if k = 8 then [109,97,120]
  else if k = 9 then [101,108,115,101] else if k = 10 then [105,102] else if k = 11 then [109,111,114,101] else if k = 12 then [97,98,111,118,101] else []
/-- May an expression be, but for how long its text is, within so many? -/
def fine : Nat → Ex → Bool
  | 0, _ => false
  | d + 1, x => decide (argsN x.k = (x.l.length : Int)) && decide (0 ≤ x.n ∧ x.n ≤ mostN x.k) && (decide (x.nm ≠ []) == decide (x.k = 3)) && (decide (x.k ≠ 3) || isName x.nm) &&
    (x.l.zipIdx).all fun p => (isCond p.1.k == (decide (x.k = 10) && decide (p.2 = 0))) && fine d p.1
def tailK (k n : Int) (nm : List UInt8) : List UInt8 := if k = 3 then nm else if k = 5 then [44, 32] ++ txt n else if k = 6 then [44, 32] ++ itoa n else if k = 11 then itoa n else []
mutual
def text : Ex → List UInt8
  | .mk k n nm l => if k = 4 then txt n else if k = 1 ∨ k = 2 then wordK k else wordK k ++ ([40] ++ (texts l ++ (tailK k n nm ++ [41])))
def texts : List Ex → List UInt8
  | [] => []
  | x :: t => text x ++ mores t
def mores : List Ex → List UInt8
  | [] => []
  | x :: t => [44, 32] ++ (text x ++ mores t)
end
theorem text_mk (k n : Int) (nm : List UInt8) (l : List Ex) : text (.mk k n nm l) = if k = 4 then txt n else if k = 1 ∨ k = 2 then wordK k else wordK k ++ ([40] ++ (texts l ++ (tailK k n nm ++ [41]))) := by rw [text]
theorem texts_nil : texts [] = [] := by rw [texts]
theorem texts_cons (x : Ex) (t : List Ex) : texts (x :: t) = text x ++ mores t := by rw [texts]
theorem mores_nil : mores [] = [] := by rw [mores]
theorem mores_cons (x : Ex) (t : List Ex) : mores (x :: t) = [44, 32] ++ (text x ++ mores t) := by rw [mores]
/-- May an expression be a strategy? -/
def rightX (x : Ex) : Bool := fine 32 x && !isCond x.k && decide (size x ≤ 2000) && decide ((text x).length ≤ 2000)
end Go.Proofs.YtoajbbcjmalngaaGreatDoor
