/- Blocks that are known whole, rows of the call's own, and what is kept of them; Plain mathematics of layer 6: words, names, tokens, and what of a text is scanned. No program in this text; Plain mathematics of layer 6, second part: the law's pieces are tokens; what is no token is none. No program in this text; Tokens in memory, pairs of raw numbers; which tokens are the same. -/
import Derived.Test.YtldopbkjchgcnaaDoorZ00
import Derived.Maps.AppendAt
import Derived.Deep.AppendLies
import Derived.OwnWalk
import Derived.Laws.Rows
import Derived.Deep.RegionLaw
import Derived.Deep.RegionHeld3
import Derived.StillTailTactics
import Derived.Deep.DeepCutAuto
import Derived.Deep.Cut
namespace Go.Proofs.YtldopbkjchgcnaaDoor
open Go.RowKit Go.Lib
set_option linter.unusedVariables false
set_option linter.unusedSimpArgs false

theorem blk_of_cell {w : World} {a : Addr} {v : Value} (h : w.cell? a = some v) : a.block < w.heap.size := by
  rcases Nat.lt_or_ge a.block w.heap.size with hn | hn
  · exact hn
  · simp [World.cell?, Array.getElem?_eq_none hn] at h
theorem block_add (a : Addr) (n : Nat) : (a.add n).block = a.block := by unfold Addr.add; split <;> rfl
/-- Block g is just these cells, none of them frozen. -/
def Bk (w : World) (g : Nat) (t : TypeId) (cs : Array Value) : Prop := w.heap[g]? = some (.cells cs t (0, 0))
theorem Bk.lt {w : World} {g : Nat} {t : TypeId} {cs : Array Value} (h : Bk w g t cs) : g < w.heap.size := by
  rcases Nat.lt_or_ge g w.heap.size with h' | h'
  · exact h'
  · unfold Bk at h; rw [Array.getElem?_eq_none h'] at h; cases h
theorem Bk.cell {w : World} {g : Nat} {t : TypeId} {cs : Array Value} (h : Bk w g t cs) (i : Nat) : w.cell? ⟨g, i, none⟩ = cs[i]? := cell_of_row w g i cs t (0, 0) h
theorem Bk.frozen {w : World} {g : Nat} {t : TypeId} {cs : Array Value} (h : Bk w g t cs) (i : Nat) : w.frozen? ⟨g, i, none⟩ = false := by
  unfold Bk at h; simp [World.frozen?, h]
theorem Bk.new (w : World) (t : TypeId) (cs : Array Value) : Bk (w.alloc (.cells cs t)) w.heap.size t cs := heap_alloc_new w _
theorem Bk.new_set (w : World) (p : Addr) (u : Value) (t : TypeId) (cs : Array Value) : Bk ((w.setCell p u).alloc (.cells cs t)) w.heap.size t cs := by
  have h := Bk.new (w.setCell p u) t cs
  rw [World.size_setCell] at h
  exact h
theorem Bk.alloc {w : World} {g : Nat} {t : TypeId} {cs : Array Value} (h : Bk w g t cs) (o : Obj) : Bk (w.alloc o) g t cs := (Below.heap_alloc w o g h.lt).trans h
theorem Bk.set_ {w : World} {g : Nat} {t : TypeId} {cs : Array Value} (h : Bk w g t cs) (i : Nat) (u : Value) : Bk (w.setCell ⟨g, i, none⟩ u) g t (cs.setIfInBounds i u) := by
  unfold Bk at h ⊢
  simp [World.setCell, Array.getElem?_modify, h]
theorem Bk.far {w : World} {g : Nat} {t : TypeId} {cs : Array Value} (h : Bk w g t cs) {p : Addr} (hp : g ≠ p.block) (u : Value) : Bk (w.setCell p u) g t cs := (Below.heap_setCell w p u g hp).trans h
theorem Bk.rel {w w' : World} {g : Nat} {t : TypeId} {cs : Array Value} (h : Bk w g t cs) (hr : Rel w w') : Bk w' g t cs := (hr.2.block g h.lt).trans h
theorem Bk.grown {w w' : World} {g : Nat} {t : TypeId} {cs : Array Value} (h : Bk w g t cs) {row : Option Nat} (hb : w.grownBy w' row) (hg : some g ≠ row) : Bk w' g t cs := (hb.block g h.lt hg).trans h
theorem Bk.drew {w : World} {g : Nat} {t : TypeId} {cs : Array Value} (h : Bk w g t cs) : Bk w.drew g t cs := h
theorem Bk.ne {w : World} {g g' : Nat} {t t' : TypeId} {cs cs' : Array Value} (h : Bk w g t cs) (h' : Bk w g' t' cs') (hne : t ≠ t') : g ≠ g' := by
  rintro rfl
  unfold Bk at h h'
  rw [h] at h'
  injection h' with h'
  injection h' with _ ht
  exact hne ht
theorem own_ne {w : World} {base : Nat} {e : TypeId} {size n : Nat} {v : Value} {xs : List Value} {g : Nat} {t : TypeId} {cs : Array Value} (h : w.ownsRow base e size v n xs) (hg : Bk w g t cs) (hne : e ≠ t) : some g ≠ v.ownBlock := by
  rcases h.2 with ⟨rfl, _⟩ | ⟨g', cap, cur, rfl, _, hh, _⟩
  · simp [Value.ownBlock]
  · intro he
    have : g = g' := by simpa [Value.ownBlock] using he
    subst this
    exact Bk.ne (t := e) hh hg hne rfl
theorem own_own {w : World} {base base' : Nat} {e e' : TypeId} {size size' n n' : Nat} {v v' : Value} {xs xs' : List Value} (h : w.ownsRow base e size v n xs) (h' : w.ownsRow base' e' size' v' n' xs') (hne : e ≠ e') : v.ownBlock = none ∨ v.ownBlock ≠ v'.ownBlock := by
  rcases h.2 with ⟨rfl, _⟩ | ⟨g, cap, cur, rfl, _, hh, _⟩
  · exact .inl rfl
  · exact .inr (own_ne h' (show Bk w g e cur from hh) (Ne.symm hne))
theorem Rel.grown {w0 w w' : World} (h : Rel w0 w) {row : Option Nat} (hg : w.grownBy w' row) (hr : ∀ k, row = some k → w0.heap.size ≤ k) : Rel w0 w' := ⟨h.1, Below.grown h.2 hg h.2.size hr⟩
theorem own_rel {w w' : World} {base : Nat} {e : TypeId} {size n : Nat} {v : Value} {xs : List Value} (h : w.ownsRow base e size v n xs) (hr : Rel w w') : w'.ownsRow base e size v n xs :=
  h.kept (row := none) ⟨hr.2.os, hr.2.tape, hr.2.output, hr.2.size, fun k hk _ => hr.2.block k hk⟩ (by cases v.ownBlock <;> simp)
theorem own_set {w : World} {base : Nat} {e : TypeId} {size n : Nat} {v : Value} {xs : List Value} (h : w.ownsRow base e size v n xs) {p : Addr} (hp : some p.block ≠ v.ownBlock) (u : Value) : (w.setCell p u).ownsRow base e size v n xs :=
  h.kept (row := some p.block) ⟨rfl, rfl, rfl, by simp, fun k hk hne => Below.heap_setCell w p u k (fun e => hne (by rw [e]))⟩ (by
    cases hv : v.ownBlock with
    | none => exact .inl rfl
    | some k => exact .inr (by rw [hv] at hp; exact Ne.symm hp))
/-- What a value that owns a row looks like. -/
theorem own_slice {w : World} {base : Nat} {e : TypeId} {size n : Nat} {v : Value} {xs : List Value} (h : w.ownsRow base e size v n xs) : ∃ A c, v = .slice A n c ∧ c ≤ maxLen := by
  rcases h.2 with ⟨rfl, rfl⟩ | ⟨g, cap, cur, rfl, _, _, _, hm, _⟩
  · exact ⟨none, 0, rfl, Nat.zero_le _⟩
  · exact ⟨_, cap, rfl, hm⟩
theorem own_zero {w : World} {base : Nat} {e : TypeId} {size n : Nat} {v : Value} {xs : List Value} (h : w.ownsRow base e size v n xs) : w.ownsRow 0 e size v n xs := by
  refine ⟨h.1, ?_⟩
  rcases h.2 with h0 | ⟨g, cap, cur, hv, _, hr⟩
  · exact .inl h0
  · exact .inr ⟨g, cap, cur, hv, Nat.zero_le _, hr⟩
theorem addr_at (g off k : Nat) : (⟨g, off, none⟩ : Addr).add k = ⟨g, off + k, none⟩ := by unfold Addr.add; split <;> simp_all
theorem Bk.two {w : World} {g : Nat} {t : TypeId} {x y : Value} (h : Bk w g t #[x, y]) :
    (w.cell? ⟨g, 0, none⟩ = some x ∧ w.cell? ⟨g, 1, none⟩ = some y) ∧ (w.frozen? ⟨g, 0, none⟩ = false ∧ w.frozen? ⟨g, 1, none⟩ = false) :=
  ⟨⟨h.cell 0, h.cell 1⟩, ⟨h.frozen 0, h.frozen 1⟩⟩
theorem Bk.put {w : World} {g : Nat} {t : TypeId} {x y : Value} (h : Bk w g t #[x, y]) (a b : Value) : Bk ((w.setCell ⟨g, 0, none⟩ a).setCell ⟨g, 1, none⟩ b) g t #[a, b] :=
  (h.set_ 0 a).set_ 1 b
end Go.Proofs.YtldopbkjchgcnaaDoor

namespace Go.Proofs.YtldopbkjchgcnaaDoor
open Go.Lib
set_option linter.unusedVariables false
set_option linter.unusedSimpArgs false

def isL (c : UInt8) : Bool := decide (97 ≤ c.toNat ∧ c.toNat ≤ 122)
def isPt (c : UInt8) : Bool := isL c || isD c || c == 46
def isBl (c : UInt8) : Bool := c == 32 || c == 10
def isSg (c : UInt8) : Bool := c == 40 || c == 41 || c == 44
def theWords : List (List UInt8) := [[108,111,119,101,115,116], [115,101,99,111,110,100], [102,114,111,109], [108,101,115,115], [99,117,116], [109,105,110], [109,97,120], [101,108,115,101], [105,102], [109,111,114,101], [97,98,111,118,101]]
def isWord (l : List UInt8) : Bool := theWords.any (· == l)
def isName (l : List UInt8) : Bool := decide (l ≠ [] ∧ l.length ≤ 12) && (l.head?.any isL) && !isWord l && l.all (fun c => isL c || isD c)
/-- A token: its kind, its text, its number, its place. -/
abbrev Tok := Int × List UInt8 × Int × Int
/-- What a run of parts is: a kind and a number. -/
def tokOf (x : List UInt8) : Option (Int × Int) :=
  if isWord x || isName x then some (1, 0)
  else if 0 ≤ cnt x 100000 then some (2, cnt x 100000)
  else match prs x with
    | some a => some (3, a)
    | none => none
/-- What is scanned: tokens, or the place of what is none. -/
abbrev Scan := Except Nat (List Tok)
def pre (ts : List Tok) : Scan → Scan
  | .ok l => .ok (ts ++ l)
  | .error k => .error k
theorem pre_nil (r : Scan) : pre [] r = r := by cases r <;> rfl
theorem pre_pre (a b : List Tok) (r : Scan) : pre a (pre b r) = pre (a ++ b) r := by cases r <;> simp [pre]
theorem run_len (l : List UInt8) : (l.dropWhile isPt).length = l.length - (l.takeWhile isPt).length := by
  have := congrArg List.length (List.takeWhile_append_dropWhile (p := isPt) (l := l))
  simp only [List.length_append] at this
  omega
theorem tokOf_nil : tokOf [] = none := by decide
theorem tokOf_ne {x : List UInt8} {k n : Int} (h : tokOf x = some (k, n)) : x ≠ [] := by
  rintro rfl; rw [tokOf_nil] at h; cases h
def lx (p : Nat) (l : List UInt8) : Scan :=
  match l with
  | [] => .ok [(5, [], 0, (p : Int))]
  | c :: t =>
    if isBl c then lx (p + 1) t
    else if isSg c then pre [(4, [c], 0, (p : Int))] (lx (p + 1) t)
    else
      match h : tokOf ((c :: t).takeWhile isPt) with
      | none => .error p
      | some kn => pre [(kn.1, (c :: t).takeWhile isPt, kn.2, (p : Int))] (lx (p + ((c :: t).takeWhile isPt).length) ((c :: t).dropWhile isPt))
  termination_by l.length
  decreasing_by
    all_goals simp_wf
    have h1 := tokOf_ne (k := kn.1) (n := kn.2) h
    have h2 := run_len (c :: t)
    have h3 : 1 ≤ ((c :: t).takeWhile isPt).length := by
      rcases hx : (c :: t).takeWhile isPt with _ | ⟨a, b⟩
      · exact absurd hx h1
      · simp
    simp at h2 h3 ⊢
    omega
theorem lx_nil (p : Nat) : lx p [] = .ok [(5, [], 0, (p : Int))] := by rw [lx]
theorem lx_blank (p : Nat) (c : UInt8) (t : List UInt8) (h : isBl c = true) : lx p (c :: t) = lx (p + 1) t := by rw [lx, if_pos h]
theorem lx_sign (p : Nat) (c : UInt8) (t : List UInt8) (h : isBl c = false) (h' : isSg c = true) : lx p (c :: t) = pre [(4, [c], 0, (p : Int))] (lx (p + 1) t) := by
  rw [lx, if_neg (by rw [h]; simp), if_pos h']
theorem lx_bad (p : Nat) (c : UInt8) (t : List UInt8) (h : isBl c = false) (h' : isSg c = false) (hn : tokOf ((c :: t).takeWhile isPt) = none) : lx p (c :: t) = .error p := by
  rw [lx, if_neg (by rw [h]; simp), if_neg (by rw [h']; simp)]
  split
  · rfl
  · rename_i h2; rw [hn] at h2; cases h2
theorem lx_tok (p : Nat) (c : UInt8) (t : List UInt8) (k n : Int) (h : isBl c = false) (h' : isSg c = false) (hn : tokOf ((c :: t).takeWhile isPt) = some (k, n)) :
    lx p (c :: t) = pre [(k, (c :: t).takeWhile isPt, n, (p : Int))] (lx (p + ((c :: t).takeWhile isPt).length) ((c :: t).dropWhile isPt)) := by
  rw [lx, if_neg (by rw [h]; simp), if_neg (by rw [h']; simp)]
  split
  · rename_i h2; rw [hn] at h2; cases h2
  · rename_i kn h2; rw [hn] at h2; cases h2; rfl

/-- A token that stands by itself. -/
def Good (x : List UInt8) (k n : Int) : Prop := (∃ c, x = [c] ∧ isSg c = true ∧ k = 4 ∧ n = 0) ∨ (x ≠ [] ∧ x.all isPt = true ∧ tokOf x = some (k, n))
/-- No part stands at the beginning. -/
def stops (r : List UInt8) : Bool := r.head?.all fun c => !isPt c
theorem pt_not {c : UInt8} (h : isPt c = true) : isBl c = false ∧ isSg c = false := by
  simp only [isPt, isL, isD, isBl, isSg, Bool.or_eq_true, decide_eq_true_eq, beq_iff_eq, Bool.or_eq_false_iff, beq_eq_false_iff_ne] at h ⊢
  refine ⟨⟨?_, ?_⟩, ⟨?_, ?_⟩, ?_⟩
  all_goals rintro rfl; revert h; decide
theorem bl_not {c : UInt8} (h : isBl c = true) : isPt c = false := by
  cases hp : isPt c
  · rfl
  · rw [(pt_not hp).1] at h; cases h
theorem sg_not {c : UInt8} (h : isSg c = true) : isBl c = false ∧ isPt c = false := by
  constructor
  · simp only [isBl, isSg, Bool.or_eq_true, beq_iff_eq, Bool.or_eq_false_iff, beq_eq_false_iff_ne] at h ⊢
    rcases h with (rfl | rfl) | rfl <;> decide
  · cases hp : isPt c
    · rfl
    · rw [(pt_not hp).2] at h; cases h
theorem take_run {x r : List UInt8} (hx : x.all isPt = true) (hr : stops r = true) : (x ++ r).takeWhile isPt = x ∧ (x ++ r).dropWhile isPt = r := by
  induction x with
  | nil =>
    cases r with
    | nil => exact ⟨rfl, rfl⟩
    | cons c t =>
      have hc : isPt c = false := by simpa [stops] using hr
      simp [List.takeWhile_cons, List.dropWhile_cons, hc]
  | cons c t ih =>
    simp only [List.all_cons, Bool.and_eq_true] at hx
    have := ih hx.2
    simp [List.takeWhile_cons, List.dropWhile_cons, hx.1, this.1, this.2]
theorem lx_good {x : List UInt8} {k n : Int} (h : Good x k n) (p : Nat) (r : List UInt8) (hr : stops r = true) : lx p (x ++ r) = pre [(k, x, n, (p : Int))] (lx (p + x.length) r) := by
  rcases h with ⟨c, rfl, hs, rfl, rfl⟩ | ⟨h0, ha, ht⟩
  · exact lx_sign p c r (sg_not hs).1 hs
  · cases x with
    | nil => exact absurd rfl h0
    | cons c t =>
      have hc : isPt c = true := by simp only [List.all_cons, Bool.and_eq_true] at ha; exact ha.1
      obtain ⟨e1, e2⟩ := take_run ha hr
      have e1' : (c :: (t ++ r)).takeWhile isPt = c :: t := e1
      have e2' : (c :: (t ++ r)).dropWhile isPt = r := e2
      show lx p (c :: (t ++ r)) = _
      rw [lx_tok p c (t ++ r) k n (pt_not hc).1 (pt_not hc).2 (by rw [e1']; exact ht), e1', e2']
theorem lx_blanks (b : List UInt8) (hb : b.all isBl = true) : ∀ (p : Nat) (r : List UInt8), lx p (b ++ r) = lx (p + b.length) r := by
  induction b with
  | nil => intro p r; rfl
  | cons c t ih =>
    simp only [List.all_cons, Bool.and_eq_true] at hb
    intro p r
    show lx p (c :: (t ++ r)) = _
    rw [lx_blank p c _ hb.1, ih hb.2, List.length_cons, Nat.add_right_comm, Nat.add_assoc]
theorem stops_blank {b r : List UInt8} (h0 : b ≠ []) (hb : b.all isBl = true) : stops (b ++ r) = true := by
  cases b with
  | nil => exact absurd rfl h0
  | cons c t =>
    simp only [List.all_cons, Bool.and_eq_true] at hb
    simp [stops, bl_not hb.1]
theorem lx_step {x b : List UInt8} {k n : Int} (h : Good x k n) (h0 : b ≠ []) (hb : b.all isBl = true) (p : Nat) (r : List UInt8) :
    lx p (x ++ (b ++ r)) = pre [(k, x, n, (p : Int))] (lx (p + (x.length + b.length)) r) := by
  rw [lx_good h p _ (stops_blank h0 hb), lx_blanks b hb, Nat.add_assoc]
theorem lx_alone {x : List UInt8} {k n : Int} (h : Good x k n) (p : Nat) : lx p x = .ok [(k, x, n, (p : Int)), (5, [], 0, ((p + x.length : Nat) : Int))] := by
  have := lx_good h p [] rfl
  rw [List.append_nil] at this
  rw [this, lx_nil]; rfl
/-- Each token stands at q or behind, and behind the one ahead of it. -/
def Ord : Int → List Tok → Prop
  | _, [] => True
  | q, t :: ts => q ≤ t.2.2.2 ∧ Ord (t.2.2.2 + (t.2.1.length : Int)) ts
theorem Ord.mono {q q' : Int} {ts : List Tok} (h : Ord q ts) (hq : q' ≤ q) : Ord q' ts := by
  cases ts with
  | nil => trivial
  | cons t ts => exact ⟨by have := h.1; omega, h.2⟩
theorem Ord.at {ts : List Tok} {q : Int} (h : Ord q ts) (i : Nat) (hi : i + 1 < ts.length) : ts[i].2.2.2 + (ts[i].2.1.length : Int) ≤ ts[i + 1].2.2.2 := by
  induction ts generalizing i q with
  | nil => simp at hi
  | cons t ts ih =>
    cases i with
    | zero =>
      cases ts with
      | nil => simp at hi
      | cons u us => exact h.2.1
    | succ i => exact ih h.2 i (by simpa using hi)
theorem pre_ok {ts l : List Tok} {r : Scan} (h : pre ts r = .ok l) : ∃ m, r = .ok m ∧ l = ts ++ m := by
  cases r with
  | ok m => exact ⟨m, rfl, by injection h with h; exact h.symm⟩
  | error k => cases h
theorem all_run (l : List UInt8) : (l.takeWhile isPt).all isPt = true := by
  induction l with
  | nil => rfl
  | cons c t ih =>
    rw [List.takeWhile_cons]
    split
    · rename_i h; simp only [List.all_cons, h, Bool.true_and]; exact ih
    · rfl
/-- What comes out: right tokens in order, and the end. -/
theorem lx_out : ∀ (m : Nat) (s : List UInt8), s.length ≤ m → ∀ (p : Nat) (l : List Tok), lx p s = .ok l →
    ∃ ts, l = ts ++ [(5, [], 0, ((p + s.length : Nat) : Int))] ∧ (∀ t ∈ ts, Good t.2.1 t.1 t.2.2.1 ∧ t.2.1.length ≤ s.length ∧ (p : Int) ≤ t.2.2.2 ∧ t.2.2.2 + (t.2.1.length : Int) ≤ ((p + s.length : Nat) : Int)) ∧ Ord p ts ∧ ts.length ≤ s.length := by
  intro m
  induction m with
  | zero =>
    intro s hs p l h
    obtain rfl : s = [] := List.length_eq_zero_iff.1 (by omega)
    rw [lx_nil] at h
    injection h with h
    exact ⟨[], by rw [← h]; rfl, (fun t ht => by cases ht), trivial, Nat.zero_le _⟩
  | succ m ih =>
    intro s hs p l h
    cases s with
    | nil =>
      rw [lx_nil] at h
      injection h with h
      exact ⟨[], by rw [← h]; rfl, (fun t ht => by cases ht), trivial, Nat.zero_le _⟩
    | cons c t =>
      simp only [List.length_cons] at hs ⊢
      cases hb : isBl c
      · cases hg : isSg c
        · cases hn : tokOf ((c :: t).takeWhile isPt) with
          | none => rw [lx_bad p c t hb hg hn] at h; cases h
          | some kn =>
            obtain ⟨k, n⟩ := kn
            rw [lx_tok p c t k n hb hg hn] at h
            obtain ⟨l', h', rfl⟩ := pre_ok h
            have hx := tokOf_ne hn
            have h2 := run_len (c :: t)
            have h3 : 1 ≤ ((c :: t).takeWhile isPt).length := by
              rcases hx' : (c :: t).takeWhile isPt with _ | ⟨a, b⟩
              · exact absurd hx' hx
              · simp
            have h4 : ((c :: t).takeWhile isPt).length ≤ (c :: t).length := (List.takeWhile_sublist _).length_le
            have ha := all_run (c :: t)
            generalize (c :: t).takeWhile isPt = x at *
            generalize (c :: t).dropWhile isPt = r at *
            simp only [List.length_cons] at h2 h4
            obtain ⟨ts, e, hts, ho, hle⟩ := ih r (by omega) (p + x.length) l' h'
            refine ⟨(k, x, n, (p : Int)) :: ts, ?_, ?_, ?_, by simp; omega⟩
            · rw [e, show p + x.length + r.length = p + (t.length + 1) by omega]; rfl
            · intro u hu
              rcases List.mem_cons.1 hu with rfl | hu
              · exact ⟨.inr ⟨hx, ha, hn⟩, h4, Int.le_refl _, by simp only []; omega⟩
              · have := hts u hu
                exact ⟨this.1, by omega, by omega, by omega⟩
            · exact ⟨Int.le_refl _, ho.mono (by simp only []; omega)⟩
        · rw [lx_sign p c t hb hg] at h
          obtain ⟨l', h', rfl⟩ := pre_ok h
          obtain ⟨ts, e, hts, ho, hle⟩ := ih t (by omega) (p + 1) l' h'
          refine ⟨(4, [c], 0, (p : Int)) :: ts, ?_, ?_, ?_, by simp; omega⟩
          · rw [e, show p + 1 + t.length = p + (t.length + 1) by omega]; rfl
          · intro u hu
            rcases List.mem_cons.1 hu with rfl | hu
            · exact ⟨.inl ⟨c, rfl, hg, rfl, rfl⟩, by simp, Int.le_refl _, by simp; omega⟩
            · have := hts u hu
              exact ⟨this.1, by omega, by omega, by omega⟩
          · exact ⟨Int.le_refl _, ho.mono (by simp)⟩
      · rw [lx_blank p c t hb] at h
        obtain ⟨ts, e, hts, ho, hle⟩ := ih t (by omega) (p + 1) l h
        exact ⟨ts, by rw [e, show p + 1 + t.length = p + (t.length + 1) by omega], fun u hu => ⟨(hts u hu).1, by have := (hts u hu).2; omega, by have := (hts u hu).2; omega, by have := (hts u hu).2; omega⟩, ho.mono (by omega), by omega⟩
/-- Further on by so many bytes. -/
def shiftT (n : Nat) (t : Tok) : Tok := (t.1, t.2.1, t.2.2.1, t.2.2.2 + (n : Int))
def shift (n : Nat) : Scan → Scan
  | .ok l => .ok (l.map (shiftT n))
  | .error k => .error (k + n)
theorem shift_pre (n : Nat) (ts : List Tok) (r : Scan) : shift n (pre ts r) = pre (ts.map (shiftT n)) (shift n r) := by cases r <;> simp [shift, pre]
theorem lx_shift (n : Nat) : ∀ (m : Nat) (s : List UInt8), s.length ≤ m → ∀ p : Nat, lx (p + n) s = shift n (lx p s) := by
  intro m
  induction m with
  | zero =>
    intro s hs p
    obtain rfl : s = [] := List.length_eq_zero_iff.1 (by omega)
    rw [lx_nil, lx_nil]; simp [shift, shiftT]
  | succ m ih =>
    intro s hs p
    cases s with
    | nil => rw [lx_nil, lx_nil]; simp [shift, shiftT]
    | cons c t =>
      simp only [List.length_cons] at hs
      cases hb : isBl c
      · cases hg : isSg c
        · cases hn : tokOf ((c :: t).takeWhile isPt) with
          | none => rw [lx_bad _ c t hb hg hn, lx_bad _ c t hb hg hn]; rfl
          | some kn =>
            obtain ⟨k, j⟩ := kn
            have hx := tokOf_ne hn
            have h2 := run_len (c :: t)
            have h3 : 1 ≤ ((c :: t).takeWhile isPt).length := by
              rcases hx' : (c :: t).takeWhile isPt with _ | ⟨a, b⟩
              · exact absurd hx' hx
              · simp
            rw [lx_tok _ c t k j hb hg hn, lx_tok _ c t k j hb hg hn, shift_pre]
            simp only [List.length_cons] at h2
            rw [show p + n + ((c :: t).takeWhile isPt).length = p + ((c :: t).takeWhile isPt).length + n by omega, ih _ (by omega)]
            simp [shiftT]
        · rw [lx_sign _ c t hb hg, lx_sign _ c t hb hg, shift_pre, show p + n + 1 = p + 1 + n by omega, ih t (by omega)]
          simp [shiftT]
      · rw [lx_blank _ c t hb, lx_blank _ c t hb, show p + n + 1 = p + 1 + n by omega, ih t (by omega)]
/-- What is no token, where no part goes on. -/
def Bad (x : List UInt8) : Bool := match x with
  | [] => false
  | c :: _ => !isBl c && !isSg c && (if isPt c then x.all isPt && (tokOf x).isNone else true)
theorem lx_wrong {x : List UInt8} (h : Bad x = true) (p : Nat) (r : List UInt8) (hr : stops r = true) : lx p (x ++ r) = .error p := by
  cases x with
  | nil => cases h
  | cons c t =>
    simp only [Bad, Bool.and_eq_true, Bool.not_eq_true'] at h
    obtain ⟨⟨hb, hg⟩, hx⟩ := h
    refine lx_bad p c (t ++ r) hb hg ?_
    cases hp : isPt c
    · rw [List.takeWhile_cons, hp]; exact tokOf_nil
    · rw [if_pos hp, Bool.and_eq_true] at hx
      have e : (c :: (t ++ r)).takeWhile isPt = c :: t := (take_run hx.1 hr).1
      rw [e]
      exact Option.isNone_iff_eq_none.1 hx.2
end Go.Proofs.YtldopbkjchgcnaaDoor

namespace Go.Proofs.YtldopbkjchgcnaaDoor
open Go.Lib
set_option linter.unusedVariables false
set_option linter.unusedSimpArgs false

def theSigns : List (List UInt8) := [[40], [41], [44]]
def theNames : List (List UInt8) := [[97], [98,111,98], [108,111,119,101,115], [97,99,109,101,57], [120,49], [101,108,115,101,101]]
def sellerL (k : Int) : List UInt8 := (theNames.getD (k % 6).toNat []) ++ decDigits (k / 6).toNat
/-- A piece of kind j: u is what n was picked to be. -/
def pieceL (j u : Int) : List UInt8 :=
  if j = 0 then theWords.getD u.toNat [] else if j = 1 then theSigns.getD u.toNat [] else if j = 2 then decDigits u.toNat else if j = 3 then pos u.toNat else sellerL u
def pieceM (j : Int) : Int := if j = 0 then 11 else if j = 1 then 3 else if j = 2 then 100001 else if j = 3 then 1000000 else 60
def pieceK (j : Int) : Int := if j = 1 then 4 else if j = 2 then 2 else if j = 3 then 3 else 1
def pieceN (j u : Int) : Int := if j = 2 ∨ j = 3 then u else 0
theorem name_head {x : List UInt8} {c : UInt8} {t : List UInt8} (hx : x = c :: t) (hc : isL c = false) : isName x = false := by
  subst hx; simp [isName, hc]
theorem word_head {x : List UInt8} {c : UInt8} {t : List UInt8} (hx : x = c :: t) (hc : isL c = false) : isWord x = false := by
  subst hx
  cases h : isWord (c :: t)
  · rfl
  · unfold isWord theWords at h
    simp only [List.any_cons, List.any_nil, Bool.or_false, Bool.or_eq_true, beq_iff_eq, List.cons.injEq] at h
    exfalso
    rcases h with ⟨e, _⟩ | ⟨e, _⟩ | ⟨e, _⟩ | ⟨e, _⟩ | ⟨e, _⟩ | ⟨e, _⟩ | ⟨e, _⟩ | ⟨e, _⟩ | ⟨e, _⟩ | ⟨e, _⟩ | ⟨e, _⟩ <;> (subst e; revert hc; decide)
theorem isL_D {c : UInt8} (h : isD c = true) : isL c = false := by
  rw [isD_iff] at h
  simp [isL]; omega
theorem isPt_D {c : UInt8} (h : isD c = true) : isPt c = true := by simp [isPt, h]
theorem all_pt {l : List UInt8} (h : allD l = true) : l.all isPt = true := by
  rw [List.all_eq_true]
  intro c hc
  exact isPt_D (List.all_eq_true.1 h c hc)
theorem dd_cons (u : Nat) : ∃ c t, decDigits u = c :: t ∧ isD c = true := by
  obtain ⟨h1, _, _, h4⟩ := dd_all u
  cases h : decDigits u with
  | nil => rw [h] at h4; cases h4
  | cons c t =>
    rw [h, allD_cons, Bool.and_eq_true] at h1
    exact ⟨c, t, rfl, h1.1⟩
theorem good_count (u : Nat) (h : u ≤ 100000) : Good (decDigits u) 2 u := by
  obtain ⟨c, t, e, hc⟩ := dd_cons u
  have h1 := name_head e (isL_D hc)
  have h2 := word_head e (isL_D hc)
  have h3 : cnt (decDigits u) 100000 = (u : Int) := by rw [cnt_dd, if_pos (by omega)]
  refine .inr ⟨by rw [e]; simp, all_pt (dd_all u).1, ?_⟩
  unfold tokOf
  rw [h1, h2, h3, if_neg (by simp), if_pos (by omega)]
theorem prs_posn (m : Nat) (h : m ≤ 1000000000000) : prs (pos m) = some (m : Int) := by
  have := prs_txt (a := (m : Int)) (rt_yes (by omega) (by omega))
  rw [show txt (m : Int) = pos m by unfold txt; rw [rt_yes (by omega) (by omega), if_pos rfl, if_neg (by omega)]; rfl] at this
  exact this
theorem good_money (m : Nat) (h : m ≤ 1000000000000) : Good (pos m) 3 m := by
  obtain ⟨c, t, e, hc⟩ := dd_cons (m / 100)
  have e' : pos m = c :: (t ++ ([46] ++ (decDigits (m / 10 % 10) ++ decDigits (m % 10)))) := by unfold pos; rw [e]; rfl
  have h1 := name_head e' (isL_D hc)
  have h2 := word_head e' (isL_D hc)
  have h3 : cnt (pos m) 100000 = -1 := cnt_not (by
    rw [pos, allD_append, allD_append]; simp [allD, isD])
  refine .inr ⟨by rw [e']; simp, ?_, ?_⟩
  · unfold pos
    rw [List.all_append, List.all_append, List.all_append, all_pt (dd_all _).1, all_pt (dd_all _).1, all_pt (dd_all _).1]; rfl
  · unfold tokOf
    rw [h1, h2, h3, if_neg (by simp), if_neg (by omega), prs_posn m h]
def goodB (x : List UInt8) : Bool := !x.isEmpty && x.all isPt && (isWord x || isName x)
theorem good_word {x : List UInt8} (h : goodB x = true) : Good x 1 0 := by
  simp only [goodB, Bool.and_eq_true] at h
  refine .inr ⟨by rintro rfl; simp at h, h.1.2, ?_⟩
  unfold tokOf; rw [if_pos h.2]
theorem lt_cases {P : Nat → Prop} (m : Nat) (h : ∀ i : Fin m, P i.val) (n : Nat) (hn : n < m) : P n := h ⟨n, hn⟩
theorem dd_one (n : Nat) (h : n < 10) : decDigits n = [UInt8.ofNat (48 + n)] := by rw [decDigits, dif_pos h]
theorem sellers : ∀ i : Fin 60, goodB ((theNames.getD (i.val % 6) []) ++ [UInt8.ofNat (48 + i.val / 6)]) = true := by decide
theorem seller_eq (u : Int) (h0 : 0 ≤ u) (h1 : u < 60) : sellerL u = (theNames.getD (u.toNat % 6) []) ++ [UInt8.ofNat (48 + u.toNat / 6)] := by
  unfold sellerL
  rw [show (u % 6).toNat = u.toNat % 6 by omega, show (u / 6).toNat = u.toNat / 6 by omega, dd_one _ (by omega)]
theorem seller_good (u : Int) (h0 : 0 ≤ u) (h1 : u < 60) : Good (sellerL u) 1 0 := by
  rw [seller_eq u h0 h1]
  exact good_word (sellers ⟨u.toNat, by omega⟩)
theorem words_good : ∀ i : Fin 11, goodB (theWords.getD i.val []) = true := by decide
theorem signs_good : ∀ i : Fin 3, ∃ c, theSigns.getD i.val [] = [c] ∧ isSg c = true
  | ⟨0, _⟩ => ⟨40, rfl, rfl⟩
  | ⟨1, _⟩ => ⟨41, rfl, rfl⟩
  | ⟨2, _⟩ => ⟨44, rfl, rfl⟩
theorem pieceM_at (j : Int) : (j = 0 → pieceM j = 11) ∧ (j = 1 → pieceM j = 3) ∧ (j = 2 → pieceM j = 100001) ∧ (j = 3 → pieceM j = 1000000) ∧ (j ≠ 0 → j ≠ 1 → j ≠ 2 → j ≠ 3 → pieceM j = 60) := by
  unfold pieceM
  refine ⟨fun h => by rw [if_pos h], fun h => by rw [if_neg (by omega), if_pos h], fun h => by rw [if_neg (by omega), if_neg (by omega), if_pos h], fun h => by rw [if_neg (by omega), if_neg (by omega), if_neg (by omega), if_pos h], fun h h1 h2 h3 => by rw [if_neg h, if_neg h1, if_neg h2, if_neg h3]⟩
theorem piece0 (u : Int) : pieceL 0 u = theWords.getD u.toNat [] ∧ pieceK 0 = 1 ∧ pieceN 0 u = 0 := ⟨rfl, rfl, rfl⟩
theorem piece1 (u : Int) : pieceL 1 u = theSigns.getD u.toNat [] ∧ pieceK 1 = 4 ∧ pieceN 1 u = 0 := ⟨rfl, rfl, rfl⟩
theorem piece2 (u : Int) : pieceL 2 u = decDigits u.toNat ∧ pieceK 2 = 2 ∧ pieceN 2 u = u := ⟨rfl, rfl, rfl⟩
theorem piece3 (u : Int) : pieceL 3 u = pos u.toNat ∧ pieceK 3 = 3 ∧ pieceN 3 u = u := ⟨rfl, rfl, rfl⟩
theorem piece4 {j : Int} (u : Int) (h0 : j ≠ 0) (h1 : j ≠ 1) (h2 : j ≠ 2) (h3 : j ≠ 3) : pieceL j u = sellerL u ∧ pieceK j = 1 ∧ pieceN j u = 0 := by
  unfold pieceL pieceK pieceN
  rw [if_neg h0, if_neg h1, if_neg h2, if_neg h3, if_neg h1, if_neg h2, if_neg h3, if_neg (by omega)]
  exact ⟨rfl, rfl, rfl⟩
theorem piece_good (j u : Int) (hu : 0 ≤ u) (hu' : u < pieceM j) : Good (pieceL j u) (pieceK j) (pieceN j u) := by
  obtain ⟨m0, m1, m2, m3, m4⟩ := pieceM_at j
  by_cases h0 : j = 0
  · have := m0 h0
    subst h0
    obtain ⟨e1, e2, e3⟩ := piece0 u
    rw [e1, e2, e3]
    exact good_word (words_good ⟨u.toNat, by omega⟩)
  · by_cases h1 : j = 1
    · have := m1 h1
      subst h1
      obtain ⟨e1, e2, e3⟩ := piece1 u
      rw [e1, e2, e3]
      obtain ⟨c, e, hc⟩ := signs_good ⟨u.toNat, by omega⟩
      exact .inl ⟨c, e, hc, rfl, rfl⟩
    · by_cases h2 : j = 2
      · have := m2 h2
        subst h2
        obtain ⟨e1, e2, e3⟩ := piece2 u
        rw [e1, e2, e3]
        have := good_count u.toNat (by omega)
        rwa [show ((u.toNat : Nat) : Int) = u by omega] at this
      · by_cases h3 : j = 3
        · have := m3 h3
          subst h3
          obtain ⟨e1, e2, e3⟩ := piece3 u
          rw [e1, e2, e3]
          have := good_money u.toNat (by omega)
          rwa [show ((u.toNat : Nat) : Int) = u by omega] at this
        · have := m4 h0 h1 h2 h3
          obtain ⟨e1, e2, e3⟩ := piece4 u h0 h1 h2 h3
          rw [e1, e2, e3]
          exact seller_good u hu (by omega)
/-- How long a piece is. -/
theorem words_len : ∀ i : Fin 11, (theWords.getD i.val []).length ≤ 6 := by decide
theorem signs_len : ∀ i : Fin 3, (theSigns.getD i.val []).length ≤ 6 := by decide
theorem names_len : ∀ i : Fin 6, (theNames.getD i.val []).length ≤ 5 := by decide
theorem dd_len (k u : Nat) (h : u < 10 ^ k) (hk : 1 ≤ k) : (decDigits u).length ≤ k := by
  induction k generalizing u with
  | zero => omega
  | succ k ih =>
    rw [decDigits]
    split
    · simp
    · rename_i h10
      have hk' : 1 ≤ k := by
        rcases k with _ | k
        · simp at h; omega
        · omega
      have := ih (u / 10) (by rw [Nat.pow_succ] at h; omega) hk'
      simp
      omega
theorem piece_len (j u : Int) (hu : 0 ≤ u) (hu' : u < pieceM j) : (pieceL j u).length ≤ 9 := by
  unfold pieceM at hu'
  unfold pieceL
  by_cases h0 : j = 0
  · rw [if_pos h0] at hu' ⊢
    exact Nat.le_trans (words_len ⟨u.toNat, by omega⟩) (by omega)
  · rw [if_neg h0] at hu' ⊢
    by_cases h1 : j = 1
    · rw [if_pos h1] at hu' ⊢
      exact Nat.le_trans (signs_len ⟨u.toNat, by omega⟩) (by omega)
    · rw [if_neg h1] at hu' ⊢
      by_cases h2 : j = 2
      · rw [if_pos h2] at hu' ⊢
        have := dd_len 6 u.toNat (by have : 10 ^ 6 = 1000000 := by decide
                                     omega) (by omega)
        omega
      · rw [if_neg h2] at hu' ⊢
        by_cases h3 : j = 3
        · rw [if_pos h3] at hu' ⊢
          have a := dd_len 4 (u.toNat / 100) (by have : 10 ^ 4 = 10000 := by decide
                                                 omega) (by omega)
          have b := dd_len 1 (u.toNat / 10 % 10) (by have : 10 ^ 1 = 10 := by decide
                                                     omega) (by omega)
          have c := dd_len 1 (u.toNat % 10) (by have : 10 ^ 1 = 10 := by decide
                                                omega) (by omega)
          unfold pos
          simp only [List.length_append, List.length_cons, List.length_nil]
          omega
        · rw [if_neg h3] at hu' ⊢
          rw [seller_eq u hu hu', List.length_append]
          have := names_len ⟨u.toNat % 6, by omega⟩
          simp only [List.length_cons, List.length_nil]
          simp only [] at this
          omega
/-- What is no token. -/
def theBads : List (List UInt8) := [[64], [65], [61], [49,97], [48,48], [49,48,48,48,48,49], [46,53], [49,46,53], [97,46,98], [97,98,99,100,101,102,103,104,105,106,107,108,109], [0], [9], [45,49], [49,46,50,51,52]]
theorem bads_bad : ∀ i : Fin 14, Bad (theBads.getD i.val []) = true := by decide
theorem bads_len : ∀ i : Fin 14, (theBads.getD i.val []).length ≤ 13 := by decide
/-- A token of one kind alone. -/
theorem good_kind {x : List UInt8} {k n : Int} (h : Good x k n) : (isName x && isWord x) = false ∧ ((isName x || isWord x) = decide (k = 1)) ∧ (k ≠ 2 → k ≠ 3 → n = 0) ∧ 0 ≤ n ∧ (k = 2 → n ≤ 100000) := by
  have hnw : (isName x && isWord x) = false := by
    unfold isName
    cases isWord x <;> simp
  refine ⟨hnw, ?_⟩
  rcases h with ⟨c, rfl, hs, rfl, rfl⟩ | ⟨h0, ha, ht⟩
  · have hl : isL c = false := by
      have := (sg_not hs).2
      simp only [isPt, Bool.or_eq_false_iff] at this
      exact this.1.1
    rw [name_head rfl hl, word_head rfl hl]
    exact ⟨rfl, fun _ _ => rfl, Int.le_refl _, fun h => by omega⟩
  · unfold tokOf at ht
    by_cases h1 : (isWord x || isName x) = true
    · rw [if_pos h1] at ht
      injection ht with ht
      injection ht with e1 e2
      subst e1; subst e2
      rw [Bool.or_comm] at h1
      exact ⟨by rw [h1]; rfl, fun _ _ => rfl, Int.le_refl _, fun h => by omega⟩
    · rw [if_neg h1] at ht
      rw [Bool.or_comm] at h1
      rw [Bool.not_eq_true _ |>.mp h1]
      by_cases h2 : 0 ≤ cnt x 100000
      · rw [if_pos h2] at ht
        injection ht with ht
        injection ht with e1 e2
        subst e1; subst e2
        have := cnt_bd x 100000
        exact ⟨rfl, fun h => absurd rfl h, h2, fun _ => by omega⟩
      · rw [if_neg h2] at ht
        cases hp : prs x with
        | none => rw [hp] at ht; cases ht
        | some a =>
          rw [hp] at ht
          injection ht with ht
          injection ht with e1 e2
          subst e1; subst e2
          refine ⟨rfl, fun _ h => absurd rfl h, ?_, fun h => by omega⟩
          obtain ⟨r1, r2⟩ := txt_of_prs hp
          by_cases h3 : a < 0
          · exfalso
            unfold txt at r2
            rw [if_pos r1, if_pos h3] at r2
            rw [← r2] at ha
            revert ha
            simp [isPt, isL, isD]
          · omega
end Go.Proofs.YtldopbkjchgcnaaDoor

namespace Go.Proofs.YtldopbkjchgcnaaDoor
open Go.RowKit Go.Lib
set_option linter.unusedVariables false
set_option linter.unusedSimpArgs false

abbrev TK (t : Tok) : Value := .agg #[.int .i64 t.1, .string (B t.2.1), .int .i64 t.2.2.1, .int .i64 t.2.2.2]
def cells4 (t : Tok) : List Value := [.int .i64 t.1, .string (B t.2.1), .int .i64 t.2.2.1, .int .i64 t.2.2.2]
def cellsOf (ts : List Tok) : List Value := ts.flatMap cells4
theorem cellsOf_snoc (ts : List Tok) (t : Tok) : cellsOf (ts ++ [t]) = cellsOf ts ++ cells4 t := by simp [cellsOf]
theorem cellsOf_len (ts : List Tok) : (cellsOf ts).length = ts.length * 4 := by
  induction ts with
  | nil => rfl
  | cons e t ih => simp only [cellsOf, List.flatMap_cons, List.length_append, List.length_cons] at ih ⊢; simp only [cells4, List.length_cons, List.length_nil]; omega
theorem cellsOf_at (ts : List Tok) (i : Nat) (h : i < ts.length) :
    (cellsOf ts)[i * 4]? = some (.int .i64 ts[i].1) ∧ (cellsOf ts)[i * 4 + 1]? = some (.string (B ts[i].2.1)) ∧ (cellsOf ts)[i * 4 + 2]? = some (.int .i64 ts[i].2.2.1) ∧ (cellsOf ts)[i * 4 + 3]? = some (.int .i64 ts[i].2.2.2) := by
  induction ts generalizing i with
  | nil => simp at h
  | cons e t ih =>
    have hc : cellsOf (e :: t) = cells4 e ++ cellsOf t := rfl
    cases i with
    | zero => rw [hc]; exact ⟨rfl, rfl, rfl, rfl⟩
    | succ i =>
      obtain ⟨h1, h2, h3, h4⟩ := ih i (by simpa using h)
      have l4 : (cells4 e).length = 4 := rfl
      refine ⟨?_, ?_, ?_, ?_⟩
      · rw [hc, List.getElem?_append_right (by omega), show (i + 1) * 4 - (cells4 e).length = i * 4 by omega]; exact h1
      · rw [hc, List.getElem?_append_right (by omega), show (i + 1) * 4 + 1 - (cells4 e).length = i * 4 + 1 by omega]; exact h2
      · rw [hc, List.getElem?_append_right (by omega), show (i + 1) * 4 + 2 - (cells4 e).length = i * 4 + 2 by omega]; exact h3
      · rw [hc, List.getElem?_append_right (by omega), show (i + 1) * 4 + 3 - (cells4 e).length = i * 4 + 3 by omega]; exact h4
/-- The cells from A on are these tokens. -/
def ToksAt (w : World) (A : Option Addr) (ts : List Tok) : Prop :=
  ∀ i (h : i < ts.length), ∃ (g off : Nat), A = some ⟨g, off, none⟩ ∧ g < w.heap.size ∧ w.cell? ⟨g, off + i * 4, none⟩ = some (.int .i64 ts[i].1) ∧ w.cell? ⟨g, off + i * 4 + 1, none⟩ = some (.string (B ts[i].2.1)) ∧
    w.cell? ⟨g, off + i * 4 + 2, none⟩ = some (.int .i64 ts[i].2.2.1) ∧ w.cell? ⟨g, off + i * 4 + 3, none⟩ = some (.int .i64 ts[i].2.2.2)
theorem ToksAt.nil (w : World) (A : Option Addr) : ToksAt w A [] := fun i h => absurd h (by simp)
theorem ToksAt.below {w w' : World} {A : Option Addr} {ts : List Tok} (h : ToksAt w A ts) (hb : Below w.heap.size w w') : ToksAt w' A ts := by
  intro i hi
  obtain ⟨g, off, e, hl, h0, h1, h2, h3⟩ := h i hi
  have hk : ∀ j, w'.cell? ⟨g, j, none⟩ = w.cell? ⟨g, j, none⟩ := fun j => hb.cell (p := ⟨g, j, none⟩) hl
  exact ⟨g, off, e, by have := hb.size; omega, by rw [hk]; exact h0, by rw [hk]; exact h1, by rw [hk]; exact h2, by rw [hk]; exact h3⟩
theorem ToksAt.rel {w w' : World} {A : Option Addr} {ts : List Tok} (h : ToksAt w A ts) (hr : Rel w w') : ToksAt w' A ts := h.below hr.2
theorem cells4_one (t : Tok) : ∀ u ∈ cells4 t, u.oneCell' = true := by
  intro u hu
  simp only [cells4, List.mem_cons, List.not_mem_nil, or_false] at hu
  rcases hu with rfl | rfl | rfl | rfl <;> rfl
/-- The cells from A on are these pairs of numbers. -/
def PairsAt (w : World) (A : Option Addr) (zs : List (Int × Int)) : Prop :=
  ∀ i (h : i < zs.length), ∃ (a : Addr), A = some a ∧ a.block < w.heap.size ∧ w.cell? (a.add (i * 2)) = some (.int .i64 zs[i].1) ∧ w.cell? (a.add (i * 2 + 1)) = some (.int .i64 zs[i].2)
theorem PairsAt.below {w w' : World} {A : Option Addr} {zs : List (Int × Int)} (h : PairsAt w A zs) (hb : Below w.heap.size w w') : PairsAt w' A zs := by
  intro i hi
  obtain ⟨a, e, hl, h0, h1⟩ := h i hi
  have hk : ∀ j, w'.cell? (a.add j) = w.cell? (a.add j) := fun j => hb.cell (p := a.add j) (by rw [block_add]; exact hl)
  exact ⟨a, e, by have := hb.size; omega, by rw [hk]; exact h0, by rw [hk]; exact h1⟩
theorem PairsAt.rel {w w' : World} {A : Option Addr} {zs : List (Int × Int)} (h : PairsAt w A zs) (hr : Rel w w') : PairsAt w' A zs := h.below hr.2
/-- Pairs of raw numbers as an argument. -/
def PairsIn (w : World) (A : Option Addr) (n : Nat) (zs : List (Int × Int)) : Prop := zs.length = n ∧ n ≤ 9223372036854775807 ∧ (∀ z ∈ zs, (-9223372036854775808 ≤ z.1 ∧ z.1 ≤ 9223372036854775807) ∧ (-9223372036854775808 ≤ z.2 ∧ z.2 ≤ 9223372036854775807)) ∧ PairsAt w A zs
theorem Bk.four {w : World} {g : Nat} {t : TypeId} {x y z u : Value} (h : Bk w g t #[x, y, z, u]) :
    (w.cell? ⟨g, 0, none⟩ = some x ∧ w.cell? ⟨g, 1, none⟩ = some y ∧ w.cell? ⟨g, 2, none⟩ = some z ∧ w.cell? ⟨g, 3, none⟩ = some u) ∧ (w.frozen? ⟨g, 0, none⟩ = false ∧ w.frozen? ⟨g, 1, none⟩ = false ∧ w.frozen? ⟨g, 2, none⟩ = false ∧ w.frozen? ⟨g, 3, none⟩ = false) :=
  ⟨⟨h.cell 0, h.cell 1, h.cell 2, h.cell 3⟩, ⟨h.frozen 0, h.frozen 1, h.frozen 2, h.frozen 3⟩⟩
theorem Bk.put4 {w : World} {g : Nat} {t : TypeId} {x y z u : Value} (h : Bk w g t #[x, y, z, u]) (a b c d : Value) : Bk ((((w.setCell ⟨g, 0, none⟩ a).setCell ⟨g, 1, none⟩ b).setCell ⟨g, 2, none⟩ c).setCell ⟨g, 3, none⟩ d) g t #[a, b, c, d] :=
  (((h.set_ 0 a).set_ 1 b).set_ 2 c).set_ 3 d
theorem Bk.snd (w : World) (cs cs' : Array Value) (t t' : TypeId) : Bk ((w.alloc (.cells cs t)).alloc (.cells cs' t')) (w.heap.size + 1) t' cs' := by
  have h := Bk.new (w.alloc (.cells cs t)) t' cs'
  rw [World.size_alloc] at h
  exact h
theorem Rel.put4 {w0 w : World} (h : Rel w0 w) {g : Nat} (hg : w0.heap.size ≤ g) (a b c d : Value) : Rel w0 ((((w.setCell ⟨g, 0, none⟩ a).setCell ⟨g, 1, none⟩ b).setCell ⟨g, 2, none⟩ c).setCell ⟨g, 3, none⟩ d) :=
  (((h.setCell hg a).setCell hg b).setCell hg c).setCell hg d
end Go.Proofs.YtldopbkjchgcnaaDoor
