/- Plain mathematics of layer 6: words, names, tokens, and what of a text is scanned. No program in this text. -/
import Derived.Test.YtlflfffjaodhpaaDoorDecMathB
namespace Go.Proofs.YtlflfffjaodhpaaDoor
open Go.Lib
set_option linter.unusedVariables false
set_option linter.unusedSimpArgs false

def isL (c : UInt8) : Bool := decide (97 ≤ c.toNat ∧ c.toNat ≤ 122)
def isPt (c : UInt8) : Bool := isL c || isD c || c == 46
def isBl (c : UInt8) : Bool := c == 32 || c == 10
def isSg (c : UInt8) : Bool := c == 40 || c == 41 || c == 44
def theWords : List (List UInt8) := [[108,111,119,101,115,116], [115,101,99,111,110,100], [102,114,111,109], [108,101,115,115], [99,117,116], [109,105,110], [109,97,120], [101,108,115,101], [105,102], [109,111,114,101], [97,98,111,118,101]]
def isWord (l : List UInt8) : Bool := theWords.any (· == l)
def isName (l : List UInt8) : Bool := decide (l ≠ [] ∧ l.length ≤ 12) && (l.head?.any isL) && !isWord l && l.all (fun c => isL c || isD c)
/-- A token: its kind, its text, its number, its place. -/
abbrev Tok := Int × List UInt8 × Int × Int
/-- What a run of parts is: a kind and a number. -/
def tokOf (x : List UInt8) : Option (Int × Int) :=
  if isWord x || isName x then some (1, 0)
  else if 0 ≤ cnt x 100000 then some (2, cnt x 100000)
  else match prs x with
    | some a => some (3, a)
    | none => none
/-- What is scanned: tokens, or the place of what is none. -/
abbrev Scan := Except Nat (List Tok)
def pre (ts : List Tok) : Scan → Scan
  | .ok l => .ok (ts ++ l)
  | .error k => .error k
theorem pre_nil (r : Scan) : pre [] r = r := by cases r <;> rfl
theorem pre_pre (a b : List Tok) (r : Scan) : pre a (pre b r) = pre (a ++ b) r := by cases r <;> simp [pre]
theorem run_len (l : List UInt8) : (l.dropWhile isPt).length = l.length - (l.takeWhile isPt).length := by
  have := congrArg List.length (List.takeWhile_append_dropWhile (p := isPt) (l := l))
  simp only [List.length_append] at this
  omega
theorem tokOf_nil : tokOf [] = none := by decide
theorem tokOf_ne {x : List UInt8} {k n : Int} (h : tokOf x = some (k, n)) : x ≠ [] := by
  rintro rfl; rw [tokOf_nil] at h; cases h
def lx (p : Nat) (l : List UInt8) : Scan :=
  match l with
  | [] => .ok [(5, [], 0, (p : Int))]
  | c :: t =>
    if isBl c then lx (p + 1) t
    else if isSg c then pre [(4, [c], 0, (p : Int))] (lx (p + 1) t)
    else
      match h : tokOf ((c :: t).takeWhile isPt) with
      | none => .error p
      | some kn => pre [(kn.1, (c :: t).takeWhile isPt, kn.2, (p : Int))] (lx (p + ((c :: t).takeWhile isPt).length) ((c :: t).dropWhile isPt))
  termination_by l.length
  decreasing_by
    all_goals simp_wf
    have h1 := tokOf_ne (k := kn.1) (n := kn.2) h
    have h2 := run_len (c :: t)
    have h3 : 1 ≤ ((c :: t).takeWhile isPt).length := by
      rcases hx : (c :: t).takeWhile isPt with _ | ⟨a, b⟩
      · exact absurd hx h1
      · simp
    simp at h2 h3 ⊢
    omega
theorem lx_nil (p : Nat) : lx p [] = .ok [(5, [], 0, (p : Int))] := by rw [lx]
theorem lx_blank (p : Nat) (c : UInt8) (t : List UInt8) (h : isBl c = true) : lx p (c :: t) = lx (p + 1) t := by rw [lx, if_pos h]
theorem lx_sign (p : Nat) (c : UInt8) (t : List UInt8) (h : isBl c = false) (h' : isSg c = true) : lx p (c :: t) = pre [(4, [c], 0, (p : Int))] (lx (p + 1) t) := by
  rw [lx, if_neg (by rw [h]; simp), if_pos h']
theorem lx_bad (p : Nat) (c : UInt8) (t : List UInt8) (h : isBl c = false) (h' : isSg c = false) (hn : tokOf ((c :: t).takeWhile isPt) = none) : lx p (c :: t) = .error p := by
  rw [lx, if_neg (by rw [h]; simp), if_neg (by rw [h']; simp)]
  split
  · rfl
  · rename_i h2; rw [hn] at h2; cases h2
theorem lx_tok (p : Nat) (c : UInt8) (t : List UInt8) (k n : Int) (h : isBl c = false) (h' : isSg c = false) (hn : tokOf ((c :: t).takeWhile isPt) = some (k, n)) :
    lx p (c :: t) = pre [(k, (c :: t).takeWhile isPt, n, (p : Int))] (lx (p + ((c :: t).takeWhile isPt).length) ((c :: t).dropWhile isPt)) := by
  rw [lx, if_neg (by rw [h]; simp), if_neg (by rw [h']; simp)]
  split
  · rename_i h2; rw [hn] at h2; cases h2
  · rename_i kn h2; rw [hn] at h2; cases h2; rfl

/-- A token that stands by itself. -/
def Good (x : List UInt8) (k n : Int) : Prop := (∃ c, x = [c] ∧ isSg c = true ∧ k = 4 ∧ n = 0) ∨ (x ≠ [] ∧ x.all isPt = true ∧ tokOf x = some (k, n))
/-- No part stands at the beginning. -/
def stops (r : List UInt8) : Bool := r.head?.all fun c => !isPt c
theorem pt_not {c : UInt8} (h : isPt c = true) : isBl c = false ∧ isSg c = false := by
  simp only [isPt, isL, isD, isBl, isSg, Bool.or_eq_true, decide_eq_true_eq, beq_iff_eq, Bool.or_eq_false_iff, beq_eq_false_iff_ne] at h ⊢
  refine ⟨⟨?_, ?_⟩, ⟨?_, ?_⟩, ?_⟩
  all_goals rintro rfl; revert h; decide
theorem bl_not {c : UInt8} (h : isBl c = true) : isPt c = false := by
  cases hp : isPt c
  · rfl
  · rw [(pt_not hp).1] at h; cases h
theorem sg_not {c : UInt8} (h : isSg c = true) : isBl c = false ∧ isPt c = false := by
  constructor
  · simp only [isBl, isSg, Bool.or_eq_true, beq_iff_eq, Bool.or_eq_false_iff, beq_eq_false_iff_ne] at h ⊢
    rcases h with (rfl | rfl) | rfl <;> decide
  · cases hp : isPt c
    · rfl
    · rw [(pt_not hp).2] at h; cases h
theorem take_run {x r : List UInt8} (hx : x.all isPt = true) (hr : stops r = true) : (x ++ r).takeWhile isPt = x ∧ (x ++ r).dropWhile isPt = r := by
  induction x with
  | nil =>
    cases r with
    | nil => exact ⟨rfl, rfl⟩
    | cons c t =>
      have hc : isPt c = false := by simpa [stops] using hr
      simp [List.takeWhile_cons, List.dropWhile_cons, hc]
  | cons c t ih =>
    simp only [List.all_cons, Bool.and_eq_true] at hx
    have := ih hx.2
    simp [List.takeWhile_cons, List.dropWhile_cons, hx.1, this.1, this.2]
theorem lx_good {x : List UInt8} {k n : Int} (h : Good x k n) (p : Nat) (r : List UInt8) (hr : stops r = true) : lx p (x ++ r) = pre [(k, x, n, (p : Int))] (lx (p + x.length) r) := by
  rcases h with ⟨c, rfl, hs, rfl, rfl⟩ | ⟨h0, ha, ht⟩
  · exact lx_sign p c r (sg_not hs).1 hs
  · cases x with
    | nil => exact absurd rfl h0
    | cons c t =>
      have hc : isPt c = true := by simp only [List.all_cons, Bool.and_eq_true] at ha; exact ha.1
      obtain ⟨e1, e2⟩ := take_run ha hr
      have e1' : (c :: (t ++ r)).takeWhile isPt = c :: t := e1
      have e2' : (c :: (t ++ r)).dropWhile isPt = r := e2
      show lx p (c :: (t ++ r)) = _
      rw [lx_tok p c (t ++ r) k n (pt_not hc).1 (pt_not hc).2 (by rw [e1']; exact ht), e1', e2']
theorem lx_blanks (b : List UInt8) (hb : b.all isBl = true) : ∀ (p : Nat) (r : List UInt8), lx p (b ++ r) = lx (p + b.length) r := by
  induction b with
  | nil => intro p r; rfl
  | cons c t ih =>
    simp only [List.all_cons, Bool.and_eq_true] at hb
    intro p r
    show lx p (c :: (t ++ r)) = _
    rw [lx_blank p c _ hb.1, ih hb.2, List.length_cons, Nat.add_right_comm, Nat.add_assoc]
theorem stops_blank {b r : List UInt8} (h0 : b ≠ []) (hb : b.all isBl = true) : stops (b ++ r) = true := by
  cases b with
  | nil => exact absurd rfl h0
  | cons c t =>
    simp only [List.all_cons, Bool.and_eq_true] at hb
    simp [stops, bl_not hb.1]
theorem lx_step {x b : List UInt8} {k n : Int} (h : Good x k n) (h0 : b ≠ []) (hb : b.all isBl = true) (p : Nat) (r : List UInt8) :
    lx p (x ++ (b ++ r)) = pre [(k, x, n, (p : Int))] (lx (p + (x.length + b.length)) r) := by
  rw [lx_good h p _ (stops_blank h0 hb), lx_blanks b hb, Nat.add_assoc]
theorem lx_alone {x : List UInt8} {k n : Int} (h : Good x k n) (p : Nat) : lx p x = .ok [(k, x, n, (p : Int)), (5, [], 0, ((p + x.length : Nat) : Int))] := by
  have := lx_good h p [] rfl
  rw [List.append_nil] at this
  rw [this, lx_nil]; rfl
/-- Each token stands at q or behind, and behind the one ahead of it. -/
def Ord : Int → List Tok → Prop
  | _, [] => True
  | q, t :: ts => q ≤ t.2.2.2 ∧ Ord (t.2.2.2 + (t.2.1.length : Int)) ts
theorem Ord.mono {q q' : Int} {ts : List Tok} (h : Ord q ts) (hq : q' ≤ q) : Ord q' ts := by
  cases ts with
  | nil => trivial
  | cons t ts => exact ⟨by have := h.1; omega, h.2⟩
theorem Ord.at {ts : List Tok} {q : Int} (h : Ord q ts) (i : Nat) (hi : i + 1 < ts.length) : ts[i].2.2.2 + (ts[i].2.1.length : Int) ≤ ts[i + 1].2.2.2 := by
  induction ts generalizing i q with
  | nil => simp at hi
  | cons t ts ih =>
    cases i with
    | zero =>
      cases ts with
      | nil => simp at hi
      | cons u us => exact h.2.1
    | succ i => exact ih h.2 i (by simpa using hi)
theorem pre_ok {ts l : List Tok} {r : Scan} (h : pre ts r = .ok l) : ∃ m, r = .ok m ∧ l = ts ++ m := by
  cases r with
  | ok m => exact ⟨m, rfl, by injection h with h; exact h.symm⟩
  | error k => cases h
theorem all_run (l : List UInt8) : (l.takeWhile isPt).all isPt = true := by
  induction l with
  | nil => rfl
  | cons c t ih =>
    rw [List.takeWhile_cons]
    split
    · rename_i h; simp only [List.all_cons, h, Bool.true_and]; exact ih
    · rfl
/-- What comes out: right tokens in order, and the end. -/
theorem lx_out : ∀ (m : Nat) (s : List UInt8), s.length ≤ m → ∀ (p : Nat) (l : List Tok), lx p s = .ok l →
    ∃ ts, l = ts ++ [(5, [], 0, ((p + s.length : Nat) : Int))] ∧ (∀ t ∈ ts, Good t.2.1 t.1 t.2.2.1 ∧ t.2.1.length ≤ s.length ∧ (p : Int) ≤ t.2.2.2 ∧ t.2.2.2 + (t.2.1.length : Int) ≤ ((p + s.length : Nat) : Int)) ∧ Ord p ts ∧ ts.length ≤ s.length := by
  intro m
  induction m with
  | zero =>
    intro s hs p l h
    obtain rfl : s = [] := List.length_eq_zero_iff.1 (by omega)
    rw [lx_nil] at h
    injection h with h
    exact ⟨[], by rw [← h]; rfl, (fun t ht => by cases ht), trivial, Nat.zero_le _⟩
  | succ m ih =>
    intro s hs p l h
    cases s with
    | nil =>
      rw [lx_nil] at h
      injection h with h
      exact ⟨[], by rw [← h]; rfl, (fun t ht => by cases ht), trivial, Nat.zero_le _⟩
    | cons c t =>
      simp only [List.length_cons] at hs ⊢
      cases hb : isBl c
      · cases hg : isSg c
        · cases hn : tokOf ((c :: t).takeWhile isPt) with
          | none => rw [lx_bad p c t hb hg hn] at h; cases h
          | some kn =>
            obtain ⟨k, n⟩ := kn
            rw [lx_tok p c t k n hb hg hn] at h
            obtain ⟨l', h', rfl⟩ := pre_ok h
            have hx := tokOf_ne hn
            have h2 := run_len (c :: t)
            have h3 : 1 ≤ ((c :: t).takeWhile isPt).length := by
              rcases hx' : (c :: t).takeWhile isPt with _ | ⟨a, b⟩
              · exact absurd hx' hx
              · simp
            have h4 : ((c :: t).takeWhile isPt).length ≤ (c :: t).length := (List.takeWhile_sublist _).length_le
            have ha := all_run (c :: t)
            generalize (c :: t).takeWhile isPt = x at *
            generalize (c :: t).dropWhile isPt = r at *
            simp only [List.length_cons] at h2 h4
            obtain ⟨ts, e, hts, ho, hle⟩ := ih r (by omega) (p + x.length) l' h'
            refine ⟨(k, x, n, (p : Int)) :: ts, ?_, ?_, ?_, by simp; omega⟩
            · rw [e, show p + x.length + r.length = p + (t.length + 1) by omega]; rfl
            · intro u hu
              rcases List.mem_cons.1 hu with rfl | hu
              · exact ⟨.inr ⟨hx, ha, hn⟩, h4, Int.le_refl _, by simp only []; omega⟩
              · have := hts u hu
                exact ⟨this.1, by omega, by omega, by omega⟩
            · exact ⟨Int.le_refl _, ho.mono (by simp only []; omega)⟩
        · rw [lx_sign p c t hb hg] at h
          obtain ⟨l', h', rfl⟩ := pre_ok h
          obtain ⟨ts, e, hts, ho, hle⟩ := ih t (by omega) (p + 1) l' h'
          refine ⟨(4, [c], 0, (p : Int)) :: ts, ?_, ?_, ?_, by simp; omega⟩
          · rw [e, show p + 1 + t.length = p + (t.length + 1) by omega]; rfl
          · intro u hu
            rcases List.mem_cons.1 hu with rfl | hu
            · exact ⟨.inl ⟨c, rfl, hg, rfl, rfl⟩, by simp, Int.le_refl _, by simp; omega⟩
            · have := hts u hu
              exact ⟨this.1, by omega, by omega, by omega⟩
          · exact ⟨Int.le_refl _, ho.mono (by simp)⟩
      · rw [lx_blank p c t hb] at h
        obtain ⟨ts, e, hts, ho, hle⟩ := ih t (by omega) (p + 1) l h
        exact ⟨ts, by rw [e, show p + 1 + t.length = p + (t.length + 1) by omega], fun u hu => ⟨(hts u hu).1, by have := (hts u hu).2; omega, by have := (hts u hu).2; omega, by have := (hts u hu).2; omega⟩, ho.mono (by omega), by omega⟩
/-- Further on by so many bytes. -/
def shiftT (n : Nat) (t : Tok) : Tok := (t.1, t.2.1, t.2.2.1, t.2.2.2 + (n : Int))
def shift (n : Nat) : Scan → Scan
  | .ok l => .ok (l.map (shiftT n))
  | .error k => .error (k + n)
theorem shift_pre (n : Nat) (ts : List Tok) (r : Scan) : shift n (pre ts r) = pre (ts.map (shiftT n)) (shift n r) := by cases r <;> simp [shift, pre]
theorem lx_shift (n : Nat) : ∀ (m : Nat) (s : List UInt8), s.length ≤ m → ∀ p : Nat, lx (p + n) s = shift n (lx p s) := by
  intro m
  induction m with
  | zero =>
    intro s hs p
    obtain rfl : s = [] := List.length_eq_zero_iff.1 (by omega)
    rw [lx_nil, lx_nil]; simp [shift, shiftT]
  | succ m ih =>
    intro s hs p
    cases s with
    | nil => rw [lx_nil, lx_nil]; simp [shift, shiftT]
    | cons c t =>
      simp only [List.length_cons] at hs
      cases hb : isBl c
      · cases hg : isSg c
        · cases hn : tokOf ((c :: t).takeWhile isPt) with
          | none => rw [lx_bad _ c t hb hg hn, lx_bad _ c t hb hg hn]; rfl
          | some kn =>
            obtain ⟨k, j⟩ := kn
            have hx := tokOf_ne hn
            have h2 := run_len (c :: t)
            have h3 : 1 ≤ ((c :: t).takeWhile isPt).length := by
              rcases hx' : (c :: t).takeWhile isPt with _ | ⟨a, b⟩
              · exact absurd hx' hx
              · simp
            rw [lx_tok _ c t k j hb hg hn, lx_tok _ c t k j hb hg hn, shift_pre]
            simp only [List.length_cons] at h2
            rw [show p + n + ((c :: t).takeWhile isPt).length = p + ((c :: t).takeWhile isPt).length + n by omega, ih _ (by omega)]
            simp [shiftT]
        · rw [lx_sign _ c t hb hg, lx_sign _ c t hb hg, shift_pre, show p + n + 1 = p + 1 + n by omega, ih t (by omega)]
          simp [shiftT]
      · rw [lx_blank _ c t hb, lx_blank _ c t hb, show p + n + 1 = p + 1 + n by omega, ih t (by omega)]
/-- What is no token, where no part goes on. -/
def Bad (x : List UInt8) : Bool := match x with
  | [] => false
  | c :: _ => !isBl c && !isSg c && (if isPt c then x.all isPt && (tokOf x).isNone else true)
theorem lx_wrong {x : List UInt8} (h : Bad x = true) (p : Nat) (r : List UInt8) (hr : stops r = true) : lx p (x ++ r) = .error p := by
  cases x with
  | nil => cases h
  | cons c t =>
    simp only [Bad, Bool.and_eq_true, Bool.not_eq_true'] at h
    obtain ⟨⟨hb, hg⟩, hx⟩ := h
    refine lx_bad p c (t ++ r) hb hg ?_
    cases hp : isPt c
    · rw [List.takeWhile_cons, hp]; exact tokOf_nil
    · rw [if_pos hp, Bool.and_eq_true] at hx
      have e : (c :: (t ++ r)).takeWhile isPt = c :: t := (take_run hx.1 hr).1
      rw [e]
      exact Option.isNone_iff_eq_none.1 hx.2
end Go.Proofs.YtlflfffjaodhpaaDoor
