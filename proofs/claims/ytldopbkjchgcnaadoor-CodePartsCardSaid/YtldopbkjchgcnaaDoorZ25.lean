/- Plain mathematics of layer 6, third part: what is told one token behind the other, up to an error. No program in this text; Plain mathematics of layer 6, fourth part: the piece that stands at a place, and what is told of it. No program in this text; The program's readings of numbers and amounts (layer 2's), at this seat; What the landed package lex tells of bytes, words and names. -/
import Derived.Test.YtldopbkjchgcnaaDoorZ01
import Derived.Test.YtldopbkjchgcnaaDoorZ08
import Derived.Test.YtldopbkjchgcnaaDoorZ21
import Derived.Test.YtldopbkjchgcnaaDoorZ24
namespace Go.Proofs.YtldopbkjchgcnaaDoor
open Go.Lib
set_option linter.unusedVariables false
set_option linter.unusedSimpArgs false

/-- The tokens ahead of an error, or all; the place of the error. -/
def lxP (p : Nat) (l : List UInt8) : List Tok × Option Nat :=
  match l with
  | [] => ([(5, [], 0, (p : Int))], none)
  | c :: t =>
    if isBl c then lxP (p + 1) t
    else if isSg c then ((4, [c], 0, (p : Int)) :: (lxP (p + 1) t).1, (lxP (p + 1) t).2)
    else
      match h : tokOf ((c :: t).takeWhile isPt) with
      | none => ([], some p)
      | some kn => ((kn.1, (c :: t).takeWhile isPt, kn.2, (p : Int)) :: (lxP (p + ((c :: t).takeWhile isPt).length) ((c :: t).dropWhile isPt)).1, (lxP (p + ((c :: t).takeWhile isPt).length) ((c :: t).dropWhile isPt)).2)
  termination_by l.length
  decreasing_by
    all_goals simp_wf
    all_goals
      have h1 := tokOf_ne (k := kn.1) (n := kn.2) h
      have h2 := run_len (c :: t)
      have h3 : 1 ≤ ((c :: t).takeWhile isPt).length := by
        rcases hx : (c :: t).takeWhile isPt with _ | ⟨a, b⟩
        · exact absurd hx h1
        · simp
      simp at h2 h3 ⊢
      omega
theorem lxP_nil (p : Nat) : lxP p [] = ([(5, [], 0, (p : Int))], none) := by rw [lxP]
theorem lxP_blank (p : Nat) (c : UInt8) (t : List UInt8) (h : isBl c = true) : lxP p (c :: t) = lxP (p + 1) t := by rw [lxP, if_pos h]
theorem lxP_sign (p : Nat) (c : UInt8) (t : List UInt8) (h : isBl c = false) (h' : isSg c = true) : lxP p (c :: t) = ((4, [c], 0, (p : Int)) :: (lxP (p + 1) t).1, (lxP (p + 1) t).2) := by
  rw [lxP, if_neg (by rw [h]; simp), if_pos h']
theorem lxP_bad (p : Nat) (c : UInt8) (t : List UInt8) (h : isBl c = false) (h' : isSg c = false) (hn : tokOf ((c :: t).takeWhile isPt) = none) : lxP p (c :: t) = ([], some p) := by
  rw [lxP, if_neg (by rw [h]; simp), if_neg (by rw [h']; simp)]
  split
  · rfl
  · rename_i h2; rw [hn] at h2; cases h2
theorem lxP_tok (p : Nat) (c : UInt8) (t : List UInt8) (k n : Int) (h : isBl c = false) (h' : isSg c = false) (hn : tokOf ((c :: t).takeWhile isPt) = some (k, n)) :
    lxP p (c :: t) = ((k, (c :: t).takeWhile isPt, n, (p : Int)) :: (lxP (p + ((c :: t).takeWhile isPt).length) ((c :: t).dropWhile isPt)).1, (lxP (p + ((c :: t).takeWhile isPt).length) ((c :: t).dropWhile isPt)).2) := by
  rw [lxP, if_neg (by rw [h]; simp), if_neg (by rw [h']; simp)]
  split
  · rename_i h2; rw [hn] at h2; cases h2
  · rename_i kn h2; rw [hn] at h2; cases h2; rfl
/-- What Lex tells, of what is told one behind the other. -/
def outP (r : List Tok × Option Nat) : Scan := match r.2 with
  | none => .ok r.1
  | some k => .error k
theorem lx_outP : ∀ (m : Nat) (s : List UInt8), s.length ≤ m → ∀ p : Nat, lx p s = outP (lxP p s) := by
  intro m
  induction m with
  | zero =>
    intro s hs p
    obtain rfl : s = [] := List.length_eq_zero_iff.1 (by omega)
    rw [lx_nil, lxP_nil]; rfl
  | succ m ih =>
    intro s hs p
    cases s with
    | nil => rw [lx_nil, lxP_nil]; rfl
    | cons c t =>
      simp only [List.length_cons] at hs
      have hp : ∀ (x : Tok) (r : List Tok × Option Nat), pre [x] (outP r) = outP (x :: r.1, r.2) := fun x r => by
        obtain ⟨a, b⟩ := r
        cases b <;> rfl
      cases hb : isBl c
      · cases hg : isSg c
        · cases hn : tokOf ((c :: t).takeWhile isPt) with
          | none => rw [lx_bad _ c t hb hg hn, lxP_bad _ c t hb hg hn]; rfl
          | some kn =>
            obtain ⟨k, j⟩ := kn
            have hx := tokOf_ne hn
            have h2 := run_len (c :: t)
            have h3 : 1 ≤ ((c :: t).takeWhile isPt).length := by
              rcases hx' : (c :: t).takeWhile isPt with _ | ⟨a, b⟩
              · exact absurd hx' hx
              · simp
            simp only [List.length_cons] at h2
            rw [lx_tok _ c t k j hb hg hn, lxP_tok _ c t k j hb hg hn, ih _ (by omega), hp]
        · rw [lx_sign _ c t hb hg, lxP_sign _ c t hb hg, ih t (by omega), hp]
      · rw [lx_blank _ c t hb, lxP_blank _ c t hb, ih t (by omega)]
/-- How far a scan is that tells one token behind the other. -/
def AtP (l : List UInt8) (p : Nat) (ts : List Tok) : Prop := lxP 0 l = (ts ++ (lxP p (l.drop p)).1, (lxP p (l.drop p)).2) ∧ ts.length ≤ p
theorem AtP.start (l : List UInt8) : AtP l 0 [] := ⟨rfl, Nat.le_refl _⟩
theorem AtP.blank {l : List UInt8} {p : Nat} {ts : List Tok} {c : UInt8} {t : List UInt8} (h : AtP l p ts) (hp : l.drop p = c :: t) (hb : isBl c = true) : AtP l (p + 1) ts := by
  have e : l.drop (p + 1) = t := by rw [← List.drop_drop, hp]; rfl
  exact ⟨by rw [h.1, hp, lxP_blank _ _ _ hb, e], by have := h.2; omega⟩
theorem AtP.sign {l : List UInt8} {p : Nat} {ts : List Tok} {c : UInt8} {t : List UInt8} (h : AtP l p ts) (hp : l.drop p = c :: t) (hb : isSg c = true) : AtP l (p + 1) (ts ++ [(4, [c], 0, (p : Int))]) ∧ ∃ r, (lxP 0 l).1 = ts ++ (4, [c], 0, (p : Int)) :: r := by
  have e : l.drop (p + 1) = t := by rw [← List.drop_drop, hp]; rfl
  refine ⟨⟨by rw [h.1, hp, lxP_sign _ _ _ (sg_not hb).1 hb, e]; simp, by have := h.2; simp; omega⟩, (lxP (p + 1) t).1, ?_⟩
  rw [h.1, hp, lxP_sign _ _ _ (sg_not hb).1 hb]
theorem AtP.tok {l : List UInt8} {p e : Nat} {ts : List Tok} {c : UInt8} {t x : List UInt8} {k n : Int} (h : AtP l p ts) (hp : l.drop p = c :: t) (hb : isBl c = false) (hg : isSg c = false)
    (hx : (l.drop p).takeWhile isPt = x) (hm : p + x.length = e) (hd : (l.drop p).dropWhile isPt = l.drop e) (ht : tokOf x = some (k, n)) : AtP l e (ts ++ [(k, x, n, (p : Int))]) ∧ ∃ r, (lxP 0 l).1 = ts ++ (k, x, n, (p : Int)) :: r := by
  have hm1 : 1 ≤ x.length := by
    have := tokOf_ne ht
    rcases x with _ | ⟨a, b⟩
    · exact absurd rfl this
    · simp
  rw [hp] at hx hd
  have q := lxP_tok p c t k n hb hg (by rw [hx]; exact ht)
  rw [hx, hd, hm] at q
  refine ⟨⟨by rw [h.1, hp, q]; simp, by have := h.2; simp; omega⟩, (lxP e (l.drop e)).1, ?_⟩
  rw [h.1, hp, q]
theorem AtP.bad {l : List UInt8} {p : Nat} {ts : List Tok} {c : UInt8} {t x : List UInt8} (h : AtP l p ts) (hp : l.drop p = c :: t) (hb : isBl c = false) (hg : isSg c = false)
    (hx : (l.drop p).takeWhile isPt = x) (ht : tokOf x = none) : lxP 0 l = (ts, some p) := by
  rw [hp] at hx
  rw [h.1, hp, lxP_bad _ _ _ hb hg (by rw [hx]; exact ht)]; simp
theorem AtP.done {l : List UInt8} {ts : List Tok} (h : AtP l l.length ts) : lxP 0 l = (ts ++ [(5, [], 0, (l.length : Int))], none) := by
  rw [h.1, List.drop_length, lxP_nil]
end Go.Proofs.YtldopbkjchgcnaaDoor

namespace Go.Proofs.YtldopbkjchgcnaaDoor
open Go.Lib
set_option linter.unusedVariables false
set_option linter.unusedSimpArgs false

/-- What belongs together at the beginning: all parts as far as they go on, or one other byte. -/
def pcOf (l : List UInt8) : List UInt8 := if l.takeWhile isPt = [] then l.take 1 else l.takeWhile isPt
/-- What a piece is told as: a kind and a number. -/
def told : List UInt8 → Option (Int × Int)
  | [] => none
  | c :: t => if isSg c then some (4, 0) else tokOf (c :: t)
theorem told_sign {c : UInt8} {t : List UInt8} (h : isSg c = true) : told (c :: t) = some (4, 0) := by simp only [told]; rw [if_pos h]
theorem told_not {c : UInt8} {t : List UInt8} (h : isSg c = false) : told (c :: t) = tokOf (c :: t) := by simp only [told]; rw [if_neg (by rw [h]; simp)]
theorem take_pt {c : UInt8} {t : List UInt8} (h : isPt c = true) : ∃ y, (c :: t).takeWhile isPt = c :: y := ⟨t.takeWhile isPt, by rw [List.takeWhile_cons, h]; rfl⟩
theorem take_not {c : UInt8} {t : List UInt8} (h : isPt c = false) : (c :: t).takeWhile isPt = [] := by rw [List.takeWhile_cons, h]; rfl
theorem pc_pt {c : UInt8} {t : List UInt8} (h : isPt c = true) : pcOf (c :: t) = (c :: t).takeWhile isPt := by
  obtain ⟨y, e⟩ := take_pt (t := t) h
  unfold pcOf; rw [e, if_neg (by simp)]
theorem pc_not {c : UInt8} {t : List UInt8} (h : isPt c = false) : pcOf (c :: t) = [c] := by
  unfold pcOf; rw [take_not h, if_pos rfl]; rfl
theorem pc_head (c : UInt8) (t : List UInt8) : ∃ y, pcOf (c :: t) = c :: y := by
  cases h : isPt c
  · exact ⟨[], pc_not h⟩
  · rw [pc_pt h]; exact take_pt h
theorem pc_len_le (l : List UInt8) : (pcOf l).length ≤ l.length := by
  unfold pcOf
  split
  · exact List.length_take_le' _ _
  · exact (List.takeWhile_sublist _).length_le
theorem pc_max (c : UInt8) (t : List UInt8) : pcOf (c :: t) = (c :: t).take (max ((c :: t).takeWhile isPt).length 1) ∧ (pcOf (c :: t)).length = max ((c :: t).takeWhile isPt).length 1 := by
  cases h : isPt c
  · rw [pc_not h, take_not h]; exact ⟨rfl, rfl⟩
  · obtain ⟨y, e⟩ := take_pt (t := t) h
    have e2 : (c :: t).takeWhile isPt ++ (c :: t).dropWhile isPt = c :: t := List.takeWhile_append_dropWhile
    have m : max ((c :: t).takeWhile isPt).length 1 = ((c :: t).takeWhile isPt).length := by rw [e]; simp
    rw [pc_pt h, m]
    refine ⟨?_, rfl⟩
    have e3 : (c :: t).take ((c :: t).takeWhile isPt).length = ((c :: t).takeWhile isPt ++ (c :: t).dropWhile isPt).take ((c :: t).takeWhile isPt).length := by rw [e2]
    rw [e3, List.take_left]
theorem tok_char {c : UInt8} (h : isPt c = false) : tokOf [c] = none := by
  simp only [isPt, Bool.or_eq_false_iff] at h
  unfold tokOf
  rw [word_head (c := c) rfl h.1.1, name_head (c := c) rfl h.1.1, cnt_not (l := [c]) (by simp [allD, h.1.2]), ref_short (l := [c]) (by unfold body; split <;> simp), if_neg (by simp), if_neg (by omega)]
/-- Not a blank: a token stands there, or the error. -/
theorem AtP.piece {l : List UInt8} {p : Nat} {ts : List Tok} {c : UInt8} {t : List UInt8} (h : AtP l p ts) (hp : l.drop p = c :: t) (hb : isBl c = false) :
    (∃ k n, told (pcOf (c :: t)) = some (k, n) ∧ AtP l (p + (pcOf (c :: t)).length) (ts ++ [(k, pcOf (c :: t), n, (p : Int))]) ∧ ∃ r, (lxP 0 l).1 = ts ++ (k, pcOf (c :: t), n, (p : Int)) :: r) ∨
    (told (pcOf (c :: t)) = none ∧ lxP 0 l = (ts, some p)) := by
  cases hg : isSg c
  · cases hpt : isPt c
    · refine .inr ⟨?_, h.bad hp hb hg (x := []) (by rw [hp]; exact take_not hpt) tokOf_nil⟩
      rw [pc_not hpt, told_not hg]; exact tok_char hpt
    · obtain ⟨y, e⟩ := take_pt (t := t) hpt
      have e2 : told (pcOf (c :: t)) = tokOf (pcOf (c :: t)) := by rw [pc_pt hpt, e]; exact told_not hg
      rw [e2, pc_pt hpt]
      cases ht : tokOf ((c :: t).takeWhile isPt) with
      | none => exact .inr ⟨rfl, h.bad hp hb hg (by rw [hp]) ht⟩
      | some kn =>
        obtain ⟨k, n⟩ := kn
        refine .inl ⟨k, n, rfl, h.tok hp hb hg (by rw [hp]) rfl ?_ ht⟩
        have e3 : (c :: t).takeWhile isPt ++ (c :: t).dropWhile isPt = c :: t := List.takeWhile_append_dropWhile
        have e4 : l.drop (p + ((c :: t).takeWhile isPt).length) = ((c :: t).takeWhile isPt ++ (c :: t).dropWhile isPt).drop ((c :: t).takeWhile isPt).length := by rw [← List.drop_drop, hp, e3]
        rw [hp, e4, List.drop_left]
  · have hpt := (sg_not hg).2
    rw [pc_not hpt]
    obtain ⟨a, b⟩ := h.sign hp hg
    exact .inl ⟨4, 0, told_sign hg, a, b⟩
theorem bl_not_pt {c : UInt8} (h : isBl c = true) : isPt c = false := bl_not h
end Go.Proofs.YtldopbkjchgcnaaDoor

namespace Go.Proofs.YtldopbkjchgcnaaDoor
open Go.RowKit Go.Lib
set_option linter.unusedVariables false
set_option linter.unusedSimpArgs false

def wit (a l h : Int) : Bool := decide (l ≤ a ∧ a ≤ h)
set_option maxHeartbeats 400000 in
theorem within_any (a l h : Int) (w : World) :
    Calls Tryd.prog 80 #[.int .i64 a, .int .i64 l, .int .i64 h] w fun e w' => e = .returned (.bool (wit a l h)) ∧ w = w' := by
  by_cases h1 : l ≤ a <;> by_cases h2 : a ≤ h
  all_goals
    go_enter Tryd.func80, Tryd.ntmps80
    go_wp2
    all_goals
      go_ret
      exact ⟨ret_bool (by unfold wit; rw [eq_comm]; first | exact decide_eq_true (by omega) | exact decide_eq_false (by omega)), rfl⟩
set_option maxHeartbeats 400000 in
theorem right_any (a : Int) (w : World) :
    Calls Tryd.prog 78 #[.int .i64 a] w fun e w' => e = .returned (.bool (rt a)) ∧ w = w' := by
  by_cases h1 : -1000000000000 ≤ a <;> by_cases h2 : a ≤ 1000000000000
  all_goals
    go_enter Tryd.func78, Tryd.ntmps78
    go_wp2
    all_goals
      go_ret
      exact ⟨ret_bool (by unfold rt; rw [eq_comm]; first | exact decide_eq_true (by omega) | exact decide_eq_false (by omega)), rfl⟩
theorem digs_no (most acc : Int) (c : UInt8) (t : List UInt8) (h : c.toNat < 48 ∨ 57 < c.toNat) : digs most (c :: t) acc = -1 := by
  unfold digs
  rw [if_neg]
  simp [isD]; omega
theorem digs_big (most acc : Int) (c : UInt8) (t : List UInt8) (h : 48 ≤ c.toNat) (h' : c.toNat ≤ 57) (hm : most < acc * 10 + ((c.toNat : Int) - 48)) : digs most (c :: t) acc = -1 := by
  unfold digs
  rw [if_pos (isD_iff.2 ⟨h, h'⟩), if_pos hm]
theorem digs_go (most acc : Int) (c : UInt8) (t : List UInt8) (h : 48 ≤ c.toNat) (h' : c.toNat ≤ 57) (hm : acc * 10 + ((c.toNat : Int) - 48) ≤ most) : digs most (c :: t) acc = digs most t (acc * 10 + ((c.toNat : Int) - 48)) := by
  conv => lhs; unfold digs
  rw [if_pos (isD_iff.2 ⟨h, h'⟩), if_neg (by omega)]
theorem cnt_digs (c : UInt8) (t : List UInt8) (most : Int) (h : t.length = 0 ∨ c.toNat ≠ 48) : digs (min most 1000000000000) (B (c :: t)).data.toList 0 = cnt (c :: t) most := by
  rw [B_list]
  refine cnt_prog _ _ rfl ?_
  rcases h with h | h
  · left; simp [h]
  · right; intro e; simp at e; exact h (by rw [e]; rfl)
def dot : ByteArray := ⟨#[46]⟩
def cutA (s : ByteArray) : List UInt8 := (cut s.data.toList [46]).1
def cutB (s : ByteArray) : List UInt8 := (cut s.data.toList [46]).2.1
def cutC (s : ByteArray) : Bool := (cut s.data.toList [46]).2.2
theorem ret_ssb {a a' b b' : ByteArray} {c c' : Bool} (h : a = a') (h' : b = b') (h'' : c = c') : Ending.returned (.tuple #[.string a, .string b, .bool c]) = Ending.returned (.tuple #[.string a', .string b', .bool c']) := by rw [h, h', h'']
theorem trim_body (l : List UInt8) : trimPrefix l [45] = body l ∧ hasPrefix l [45] = negL l := by
  unfold trimPrefix hasPrefix body negL
  cases l with
  | nil => exact ⟨rfl, rfl⟩
  | cons c t =>
    by_cases h : c = 45
    · subst h; exact ⟨rfl, rfl⟩
    · have h1 : ((45 : UInt8) == c) = false := by simp [Ne.symm h]
      have h2 : (c == (45 : UInt8)) = false := by simp [h]
      simp [List.isPrefixOf, h1, h]
def bd (s : ByteArray) : ByteArray := B (body s.data.toList)
theorem bd_size (s : ByteArray) : (bd s).size ≤ s.size := by
  unfold bd body
  rw [B_size]
  have : s.data.toList.length = s.size := by simp
  split
  · rw [List.length_tail]; omega
  · omega
theorem cutA_size (s : ByteArray) : (B (cutA s)).size ≤ s.size := by
  rw [B_size]
  unfold cutA
  have hl : s.data.toList.length = s.size := by simp
  unfold cut
  split
  · rw [List.length_take]; omega
  · show s.data.toList.length ≤ s.size; omega
theorem parse_no {l : List UInt8} (h : cnt (cut (body l) [46]).1 10000000000 < 0 ∨ pair (cut (body l) [46]).2.1 < 0) : 0 = prs1 l ∧ 20 = prs2 l := by
  unfold prs1 prs2; rw [prog_no h]; exact ⟨rfl, rfl⟩
theorem parse_yes {l : List UInt8} {h c : Int} {b : Bool} (e1 : cnt (cut (body l) [46]).1 10000000000 = h) (e2 : pair (cut (body l) [46]).2.1 = c) (h0 : 0 ≤ h) (c0 : 0 ≤ c) (eb : negL l = b) :
    ((1000000000000 < h * 100 + c ∨ (b = true ∧ h * 100 + c = 0)) → 0 = prs1 l ∧ 20 = prs2 l) ∧ ((h * 100 + c ≤ 1000000000000 ∧ ¬ (b = true ∧ h * 100 + c = 0)) → (if b then -(h * 100 + c) else h * 100 + c) = prs1 l ∧ 0 = prs2 l) := by
  have := prog_yes (l := l) (by rw [e1]; exact h0) (by rw [e2]; exact c0)
  rw [e1, e2, eb] at this
  unfold prs1 prs2
  rw [this]
  unfold fin
  constructor
  · intro hh
    simp only [if_pos hh]
    exact ⟨rfl, rfl⟩
  · intro hh
    have hn : ¬ (1000000000000 < h * 100 + c ∨ (b = true ∧ h * 100 + c = 0)) := fun x => x.elim (fun y => by omega) hh.2
    simp only [if_neg hn]
    exact ⟨rfl, rfl⟩
end Go.Proofs.YtldopbkjchgcnaaDoor

namespace Go.Proofs.YtldopbkjchgcnaaDoor
open Go.RowKit Go.Lib
set_option linter.unusedVariables false
set_option linter.unusedSimpArgs false

theorem lletter_any (c : UInt8) (w : World) : Calls Tryd.prog 67 #[.int .u8 (c.toNat : Int)] w fun e w' => e = .returned (.bool (isL c)) ∧ w = w' := by
  by_cases h1 : 97 ≤ c.toNat <;> by_cases h2 : c.toNat ≤ 122
  all_goals
    go_enter Tryd.func67, Tryd.ntmps67
    go_wp2
    all_goals
      go_ret
      exact ⟨ret_bool (Bool.eq_iff_iff.2 (by simp [isL]; omega)), rfl⟩
theorem ldigit_any (c : UInt8) (w : World) : Calls Tryd.prog 69 #[.int .u8 (c.toNat : Int)] w fun e w' => e = .returned (.bool (isD c)) ∧ w = w' := by
  by_cases h1 : 48 ≤ c.toNat <;> by_cases h2 : c.toNat ≤ 57
  all_goals
    go_enter Tryd.func69, Tryd.ntmps69
    go_wp2
    all_goals
      go_ret
      exact ⟨ret_bool (Bool.eq_iff_iff.2 (by simp [isD]; omega)), rfl⟩
theorem pt_bytes (c : UInt8) : isPt c = (isL c || isD c || ((c.toNat : Int) == 46)) := by
  rw [byte_eq (d := 46) 46 rfl]; rfl
theorem lit_eq {s : ByteArray} {l : List UInt8} (h : B l = s) : (s.toList == l) = true := by have := list_of.2 h.symm; rwa [B_toList] at this
theorem lit_ne {s : ByteArray} {l : List UInt8} (h : ¬ B l = s) : (s.toList == l) = false := by have := list_ne (fun e => h e.symm); rwa [B_toList] at this
theorem word_ways (s : ByteArray) :
    ((s.toList == [108, 111, 119, 101, 115, 116]) = true ∧ isWord s.data.toList = true) ∨
    ((s.toList == [108, 111, 119, 101, 115, 116]) = false ∧ (s.toList == [115, 101, 99, 111, 110, 100]) = true ∧ isWord s.data.toList = true) ∨
    ((s.toList == [108, 111, 119, 101, 115, 116]) = false ∧ (s.toList == [115, 101, 99, 111, 110, 100]) = false ∧ (s.toList == [102, 114, 111, 109]) = true ∧ isWord s.data.toList = true) ∨
    ((s.toList == [108, 111, 119, 101, 115, 116]) = false ∧ (s.toList == [115, 101, 99, 111, 110, 100]) = false ∧ (s.toList == [102, 114, 111, 109]) = false ∧ (s.toList == [108, 101, 115, 115]) = true ∧ isWord s.data.toList = true) ∨
    ((s.toList == [108, 111, 119, 101, 115, 116]) = false ∧ (s.toList == [115, 101, 99, 111, 110, 100]) = false ∧ (s.toList == [102, 114, 111, 109]) = false ∧ (s.toList == [108, 101, 115, 115]) = false ∧ (s.toList == [99, 117, 116]) = true ∧ isWord s.data.toList = true) ∨
    ((s.toList == [108, 111, 119, 101, 115, 116]) = false ∧ (s.toList == [115, 101, 99, 111, 110, 100]) = false ∧ (s.toList == [102, 114, 111, 109]) = false ∧ (s.toList == [108, 101, 115, 115]) = false ∧ (s.toList == [99, 117, 116]) = false ∧ (s.toList == [109, 105, 110]) = true ∧ isWord s.data.toList = true) ∨
    ((s.toList == [108, 111, 119, 101, 115, 116]) = false ∧ (s.toList == [115, 101, 99, 111, 110, 100]) = false ∧ (s.toList == [102, 114, 111, 109]) = false ∧ (s.toList == [108, 101, 115, 115]) = false ∧ (s.toList == [99, 117, 116]) = false ∧ (s.toList == [109, 105, 110]) = false ∧ (s.toList == [109, 97, 120]) = true ∧ isWord s.data.toList = true) ∨
    ((s.toList == [108, 111, 119, 101, 115, 116]) = false ∧ (s.toList == [115, 101, 99, 111, 110, 100]) = false ∧ (s.toList == [102, 114, 111, 109]) = false ∧ (s.toList == [108, 101, 115, 115]) = false ∧ (s.toList == [99, 117, 116]) = false ∧ (s.toList == [109, 105, 110]) = false ∧ (s.toList == [109, 97, 120]) = false ∧ (s.toList == [101, 108, 115, 101]) = true ∧ isWord s.data.toList = true) ∨
    ((s.toList == [108, 111, 119, 101, 115, 116]) = false ∧ (s.toList == [115, 101, 99, 111, 110, 100]) = false ∧ (s.toList == [102, 114, 111, 109]) = false ∧ (s.toList == [108, 101, 115, 115]) = false ∧ (s.toList == [99, 117, 116]) = false ∧ (s.toList == [109, 105, 110]) = false ∧ (s.toList == [109, 97, 120]) = false ∧ (s.toList == [101, 108, 115, 101]) = false ∧ (s.toList == [105, 102]) = true ∧ isWord s.data.toList = true) ∨
    ((s.toList == [108, 111, 119, 101, 115, 116]) = false ∧ (s.toList == [115, 101, 99, 111, 110, 100]) = false ∧ (s.toList == [102, 114, 111, 109]) = false ∧ (s.toList == [108, 101, 115, 115]) = false ∧ (s.toList == [99, 117, 116]) = false ∧ (s.toList == [109, 105, 110]) = false ∧ (s.toList == [109, 97, 120]) = false ∧ (s.toList == [101, 108, 115, 101]) = false ∧ (s.toList == [105, 102]) = false ∧ (s.toList == [109, 111, 114, 101]) = true ∧ isWord s.data.toList = true) ∨
    ((s.toList == [108, 111, 119, 101, 115, 116]) = false ∧ (s.toList == [115, 101, 99, 111, 110, 100]) = false ∧ (s.toList == [102, 114, 111, 109]) = false ∧ (s.toList == [108, 101, 115, 115]) = false ∧ (s.toList == [99, 117, 116]) = false ∧ (s.toList == [109, 105, 110]) = false ∧ (s.toList == [109, 97, 120]) = false ∧ (s.toList == [101, 108, 115, 101]) = false ∧ (s.toList == [105, 102]) = false ∧ (s.toList == [109, 111, 114, 101]) = false ∧ (s.toList == [97, 98, 111, 118, 101]) = true ∧ isWord s.data.toList = true) ∨
    ((s.toList == [108, 111, 119, 101, 115, 116]) = false ∧ (s.toList == [115, 101, 99, 111, 110, 100]) = false ∧ (s.toList == [102, 114, 111, 109]) = false ∧ (s.toList == [108, 101, 115, 115]) = false ∧ (s.toList == [99, 117, 116]) = false ∧ (s.toList == [109, 105, 110]) = false ∧ (s.toList == [109, 97, 120]) = false ∧ (s.toList == [101, 108, 115, 101]) = false ∧ (s.toList == [105, 102]) = false ∧ (s.toList == [109, 111, 114, 101]) = false ∧ (s.toList == [97, 98, 111, 118, 101]) = false ∧ isWord s.data.toList = false) := by
  by_cases h0 : B [108, 111, 119, 101, 115, 116] = s
  · exact .inl ⟨lit_eq h0, word_yes (j := 0) (by omega) h0⟩
  by_cases h1 : B [115, 101, 99, 111, 110, 100] = s
  · exact .inr (.inl ⟨lit_ne h0, lit_eq h1, word_yes (j := 1) (by omega) h1⟩)
  by_cases h2 : B [102, 114, 111, 109] = s
  · exact .inr (.inr (.inl ⟨lit_ne h0, lit_ne h1, lit_eq h2, word_yes (j := 2) (by omega) h2⟩))
  by_cases h3 : B [108, 101, 115, 115] = s
  · exact .inr (.inr (.inr (.inl ⟨lit_ne h0, lit_ne h1, lit_ne h2, lit_eq h3, word_yes (j := 3) (by omega) h3⟩)))
  by_cases h4 : B [99, 117, 116] = s
  · exact .inr (.inr (.inr (.inr (.inl ⟨lit_ne h0, lit_ne h1, lit_ne h2, lit_ne h3, lit_eq h4, word_yes (j := 4) (by omega) h4⟩))))
  by_cases h5 : B [109, 105, 110] = s
  · exact .inr (.inr (.inr (.inr (.inr (.inl ⟨lit_ne h0, lit_ne h1, lit_ne h2, lit_ne h3, lit_ne h4, lit_eq h5, word_yes (j := 5) (by omega) h5⟩)))))
  by_cases h6 : B [109, 97, 120] = s
  · exact .inr (.inr (.inr (.inr (.inr (.inr (.inl ⟨lit_ne h0, lit_ne h1, lit_ne h2, lit_ne h3, lit_ne h4, lit_ne h5, lit_eq h6, word_yes (j := 6) (by omega) h6⟩))))))
  by_cases h7 : B [101, 108, 115, 101] = s
  · exact .inr (.inr (.inr (.inr (.inr (.inr (.inr (.inl ⟨lit_ne h0, lit_ne h1, lit_ne h2, lit_ne h3, lit_ne h4, lit_ne h5, lit_ne h6, lit_eq h7, word_yes (j := 7) (by omega) h7⟩)))))))
  by_cases h8 : B [105, 102] = s
  · exact .inr (.inr (.inr (.inr (.inr (.inr (.inr (.inr (.inl ⟨lit_ne h0, lit_ne h1, lit_ne h2, lit_ne h3, lit_ne h4, lit_ne h5, lit_ne h6, lit_ne h7, lit_eq h8, word_yes (j := 8) (by omega) h8⟩))))))))
  by_cases h9 : B [109, 111, 114, 101] = s
  · exact .inr (.inr (.inr (.inr (.inr (.inr (.inr (.inr (.inr (.inl ⟨lit_ne h0, lit_ne h1, lit_ne h2, lit_ne h3, lit_ne h4, lit_ne h5, lit_ne h6, lit_ne h7, lit_ne h8, lit_eq h9, word_yes (j := 9) (by omega) h9⟩)))))))))
  by_cases h10 : B [97, 98, 111, 118, 101] = s
  · exact .inr (.inr (.inr (.inr (.inr (.inr (.inr (.inr (.inr (.inr (.inl ⟨lit_ne h0, lit_ne h1, lit_ne h2, lit_ne h3, lit_ne h4, lit_ne h5, lit_ne h6, lit_ne h7, lit_ne h8, lit_ne h9, lit_eq h10, word_yes (j := 10) (by omega) h10⟩))))))))))
  exact .inr (.inr (.inr (.inr (.inr (.inr (.inr (.inr (.inr (.inr (.inr (⟨lit_ne h0, lit_ne h1, lit_ne h2, lit_ne h3, lit_ne h4, lit_ne h5, lit_ne h6, lit_ne h7, lit_ne h8, lit_ne h9, lit_ne h10, word_no (fun j hj => by
    rcases j with _|_|_|_|_|_|_|_|_|_|_|j
    · exact h0
    · exact h1
    · exact h2
    · exact h3
    · exact h4
    · exact h5
    · exact h6
    · exact h7
    · exact h8
    · exact h9
    · exact h10
    · omega)⟩)))))))))))
set_option maxHeartbeats 1000000 in
theorem lword_any (s : ByteArray) (w0 w : World) (hr : Rel w0 w) :
    Calls Tryd.prog 68 #[.string s] w fun e w' => e = .returned (.bool (isWord s.data.toList)) ∧ Rel w0 w' := by
  rcases word_ways s with ⟨k0, hw⟩ | ⟨k0, k1, hw⟩ | ⟨k0, k1, k2, hw⟩ | ⟨k0, k1, k2, k3, hw⟩ | ⟨k0, k1, k2, k3, k4, hw⟩ | ⟨k0, k1, k2, k3, k4, k5, hw⟩ | ⟨k0, k1, k2, k3, k4, k5, k6, hw⟩ | ⟨k0, k1, k2, k3, k4, k5, k6, k7, hw⟩ | ⟨k0, k1, k2, k3, k4, k5, k6, k7, k8, hw⟩ | ⟨k0, k1, k2, k3, k4, k5, k6, k7, k8, k9, hw⟩ | ⟨k0, k1, k2, k3, k4, k5, k6, k7, k8, k9, k10, hw⟩ | ⟨k0, k1, k2, k3, k4, k5, k6, k7, k8, k9, k10, hw⟩
  all_goals
    have HW := Lib.hid hw
    clear hw
    go_enter Tryd.func68, Tryd.ntmps68
    go_wp2_with (fail)
    go_ret
    exact ⟨ret_bool HW.out.symm, hr⟩
set_option maxHeartbeats 1000000 in
theorem lname_list (l : List UInt8) (hl : l.length ≤ 9223372036854775807) (w0 w : World) (hr : Rel w0 w) :
    Calls Tryd.prog 52 #[.string (B l)] w fun e w' => e = .returned (.bool (isName l)) ∧ Rel w0 w' := by
  cases l with
  | nil =>
    have HT := B_toList []
    go_enter Tryd.func52, Tryd.ntmps52
    go_wp2_with (fail)
    go_ret
    exact ⟨ret_bool rfl, hr⟩
  | cons c t =>
    have HT := B_toList (c :: t)
    have HB := B_cons_size c t
    have H0 := B_zero c t
    by_cases h12 : t.length + 1 ≤ 12
    · have z : ¬ (12 : Int) < (t.length : Int) + 1 := by omega
      cases hc : isL c
      · have HF := Lib.hid (show isName (c :: t) = false by rw [name_eq, hc]; simp)
        clear hl h12
        go_enter Tryd.func52, Tryd.ntmps52
        go_wp2_with (go_at_call 67; (with_reducible refine (bool_at false (lletter_any c _) (Lib.hid hc)).mono ?_); rintro e w' ⟨rfl, rfl⟩)
        go_ret
        exact ⟨ret_bool HF.out.symm, hr⟩
      · cases hw : isWord (c :: t)
        · have HC := Lib.hid hc
          have HWd := Lib.hid (show isWord (B (c :: t)).data.toList = false by rw [B_list]; exact hw)
          have HW0 := Lib.hid hw
          have HR := Lib.hid hr
          clear hw hc
          go_enter Tryd.func52, Tryd.ntmps52
          go_wp2_with (first
            | (go_at_call 67; (with_reducible refine (bool_at true (lletter_any c _) HC).mono ?_); rintro e w' ⟨rfl, rfl⟩)
            | (go_at_call 68; (with_reducible refine (bool_at false (lword_any _ _ _ hr.self) HWd).mono ?_); rintro e w1 ⟨rfl, h1⟩))
          go_loopw [3, 23] (fun _ i wr => ∃ j : Nat, j ≤ t.length + 1 ∧ i = .int .i64 j ∧ Hid (((c :: t).take j).all LD = true) ∧ wr = w1) (fun _ i _ => t.length + 1 - (RowKit.intOf i).toNat)
          case atStart => exact ⟨0, by omega, rfl, Lib.hid rfl, rfl⟩
          case round =>
            obtain ⟨j, hj, rfl, HA, rfl⟩ := hrel
            by_cases hlt : j < t.length + 1
            · have hlt' : j < (c :: t).length := by simpa using hlt
              obtain ⟨x, hx⟩ : ∃ x, x = (c :: t)[j] := ⟨_, rfl⟩
              have hg : ∀ h, (B (c :: t))[j]'h = x := fun h => by rw [hx]; rfl
              have HX := Lib.hid hx
              clear hx
              cases hL : isL x <;> cases hD : isD x
              · have HF := Lib.hid (show isName (c :: t) = false by rw [name_eq, all_bad j hlt' (by rw [← HX.out]; simp [LD, hL, hD])]; simp)
                have HL := Lib.hid hL
                have HD := Lib.hid hD
                clear hL hD
                go_wp2_with (first
                  | (go_at_call 67; (with_reducible refine (bool_at false (lletter_any x _) HL).mono ?_); rintro e w' ⟨rfl, rfl⟩)
                  | (go_at_call 69; (with_reducible refine (bool_at false (ldigit_any x _) HD).mono ?_); rintro e w' ⟨rfl, rfl⟩))
                go_ret
                exact ⟨ret_bool HF.out.symm, HR.out.trans h1⟩
              all_goals
                have HM := Lib.hid (all_more j hlt' HA.out (by rw [← HX.out]; simp [LD, hL, hD]))
                have HL := Lib.hid hL
                have HD := Lib.hid hD
                clear hL hD
                go_wp2_with (first
                  | (go_at_call 67; (with_reducible refine (bool_at _ (lletter_any x _) HL).mono ?_); rintro e w' ⟨rfl, rfl⟩)
                  | (go_at_call 69; (with_reducible refine (bool_at _ (ldigit_any x _) HD).mono ?_); rintro e w' ⟨rfl, rfl⟩))
                go_roundw
                case rel => exact ⟨j + 1, by omega, by go_num, HM, trivial⟩
                case measure => simp [RowKit.intOf]; omega
            · obtain rfl : j = t.length + 1 := by omega
              have HY := Lib.hid (show isName (c :: t) = true by
                have ha := HA.out
                rw [List.take_of_length_le (by simp)] at ha
                rw [name_eq, ha, HC.out, HW0.out, decide_eq_true h12]; rfl)
              go_wp2_with (fail)
              go_ret
              exact ⟨ret_bool HY.out.symm, HR.out.trans h1⟩
        · have HC := Lib.hid hc
          have HWd := Lib.hid (show isWord (B (c :: t)).data.toList = true by rw [B_list]; exact hw)
          have HF := Lib.hid (show isName (c :: t) = false by rw [name_eq, hw]; simp)
          clear hw hc
          go_enter Tryd.func52, Tryd.ntmps52
          go_wp2_with (first
            | (go_at_call 67; (with_reducible refine (bool_at true (lletter_any c _) HC).mono ?_); rintro e w' ⟨rfl, rfl⟩)
            | (go_at_call 68; (with_reducible refine (bool_at true (lword_any _ _ _ hr.self) HWd).mono ?_); rintro e w1 ⟨rfl, h1⟩))
          go_ret
          exact ⟨ret_bool HF.out.symm, hr.trans h1⟩
    · have HF := Lib.hid (show isName (c :: t) = false by rw [name_eq, decide_eq_false h12]; simp)
      have z : (12 : Int) < (t.length : Int) + 1 := by omega
      clear h12
      go_enter Tryd.func52, Tryd.ntmps52
      go_wp2_with (fail)
      go_ret
      exact ⟨ret_bool HF.out.symm, hr⟩
theorem lname_any (s : ByteArray) (hs : s.size ≤ 9223372036854775807) (w0 w : World) (hr : Rel w0 w) :
    Calls Tryd.prog 52 #[.string s] w fun e w' => e = .returned (.bool (isName s.data.toList)) ∧ Rel w0 w' := by
  have := lname_list s.data.toList (by simpa using hs) w0 w hr
  rwa [B_of] at this
end Go.Proofs.YtldopbkjchgcnaaDoor
