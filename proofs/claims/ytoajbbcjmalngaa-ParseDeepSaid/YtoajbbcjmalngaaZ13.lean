/- Plain mathematics of layer 6, third part: what is told one token behind the other, up to an error. No program in this text; Plain mathematics of layer 6, fourth part: the piece that stands at a place, and what is told of it. No program in this text; DERIVED: THE SHELF's CONTRACTS AT THIS DUMP, IN PLAIN WORDS (tools/lay-plain.mjs out of 'TryShelf.lean', which tools/lay-shelf.mjs wrote): THE SAME DECLARATIONS UNDER THE SAME NAMES: 'import', 'namespace', 'open', 'def', 'theorem' AND NOTHING ELSE: no command of the shelf's: FOR A HAND-IN. Each laying: the table of numbers ('.._ren') and one theorem, a field a fact of the dump's own or the kernel's comparison; each contract: ONE APPLICATION; The program's readings of numbers and amounts (layer 2's), at this seat. -/
import Derived.Test.YtoajbbcjmalngaaZ01
import Derived.Shelf.Small.Wraps
import Derived.Shelf.LaysM
import Derived.Shelf.Strconv.Clone
import Derived.Shelf.Strings.Search1
import Derived.Shelf.Strings.Search2
import Derived.Shelf.Strings.Cut
import Derived.Shelf.Strings.Shaped
import Derived.Shelf.Strings.Prefix
import Derived.Test.YtoajbbcjmalngaaProg
import Derived.Test.YtoajbbcjmalngaaZ10
namespace Go.Proofs.Ytoajbbcjmalngaa
open Go.Lib
set_option linter.unusedVariables false
set_option linter.unusedSimpArgs false

/-- The tokens ahead of an error, or all; the place of the error. -/
def lxP (p : Nat) (l : List UInt8) : List Tok × Option Nat :=
  match l with
  | [] => ([(5, [], 0, (p : Int))], none)
  | c :: t =>
    if isBl c then lxP (p + 1) t
    else if isSg c then ((4, [c], 0, (p : Int)) :: (lxP (p + 1) t).1, (lxP (p + 1) t).2)
    else
      match h : tokOf ((c :: t).takeWhile isPt) with
      | none => ([], some p)
      | some kn => ((kn.1, (c :: t).takeWhile isPt, kn.2, (p : Int)) :: (lxP (p + ((c :: t).takeWhile isPt).length) ((c :: t).dropWhile isPt)).1, (lxP (p + ((c :: t).takeWhile isPt).length) ((c :: t).dropWhile isPt)).2)
  termination_by l.length
  decreasing_by
    all_goals simp_wf
    all_goals
      have h1 := tokOf_ne (k := kn.1) (n := kn.2) h
      have h2 := run_len (c :: t)
      have h3 : 1 ≤ ((c :: t).takeWhile isPt).length := by
        rcases hx : (c :: t).takeWhile isPt with _ | ⟨a, b⟩
        · exact absurd hx h1
        · simp
      simp at h2 h3 ⊢
      omega
theorem lxP_nil (p : Nat) : lxP p [] = ([(5, [], 0, (p : Int))], none) := by rw [lxP]
theorem lxP_blank (p : Nat) (c : UInt8) (t : List UInt8) (h : isBl c = true) : lxP p (c :: t) = lxP (p + 1) t := by rw [lxP, if_pos h]
theorem lxP_sign (p : Nat) (c : UInt8) (t : List UInt8) (h : isBl c = false) (h' : isSg c = true) : lxP p (c :: t) = ((4, [c], 0, (p : Int)) :: (lxP (p + 1) t).1, (lxP (p + 1) t).2) := by
  rw [lxP, if_neg (by rw [h]; simp), if_pos h']
theorem lxP_bad (p : Nat) (c : UInt8) (t : List UInt8) (h : isBl c = false) (h' : isSg c = false) (hn : tokOf ((c :: t).takeWhile isPt) = none) : lxP p (c :: t) = ([], some p) := by
  rw [lxP, if_neg (by rw [h]; simp), if_neg (by rw [h']; simp)]
  split
  · rfl
  · rename_i h2; rw [hn] at h2; cases h2
theorem lxP_tok (p : Nat) (c : UInt8) (t : List UInt8) (k n : Int) (h : isBl c = false) (h' : isSg c = false) (hn : tokOf ((c :: t).takeWhile isPt) = some (k, n)) :
    lxP p (c :: t) = ((k, (c :: t).takeWhile isPt, n, (p : Int)) :: (lxP (p + ((c :: t).takeWhile isPt).length) ((c :: t).dropWhile isPt)).1, (lxP (p + ((c :: t).takeWhile isPt).length) ((c :: t).dropWhile isPt)).2) := by
  rw [lxP, if_neg (by rw [h]; simp), if_neg (by rw [h']; simp)]
  split
  · rename_i h2; rw [hn] at h2; cases h2
  · rename_i kn h2; rw [hn] at h2; cases h2; rfl
/-- What Lex tells, of what is told one behind the other. -/
def outP (r : List Tok × Option Nat) : Scan := match r.2 with
  | none => .ok r.1
  | some k => .error k
theorem lx_outP : ∀ (m : Nat) (s : List UInt8), s.length ≤ m → ∀ p : Nat, lx p s = outP (lxP p s) := by
  intro m
  induction m with
  | zero =>
    intro s hs p
    obtain rfl : s = [] := List.length_eq_zero_iff.1 (by omega)
    rw [lx_nil, lxP_nil]; rfl
  | succ m ih =>
    intro s hs p
    cases s with
    | nil => rw [lx_nil, lxP_nil]; rfl
    | cons c t =>
      simp only [List.length_cons] at hs
      have hp : ∀ (x : Tok) (r : List Tok × Option Nat), pre [x] (outP r) = outP (x :: r.1, r.2) := fun x r => by
        obtain ⟨a, b⟩ := r
        cases b <;> rfl
      cases hb : isBl c
      · cases hg : isSg c
        · cases hn : tokOf ((c :: t).takeWhile isPt) with
          | none => rw [lx_bad _ c t hb hg hn, lxP_bad _ c t hb hg hn]; rfl
          | some kn =>
            obtain ⟨k, j⟩ := kn
            have hx := tokOf_ne hn
            have h2 := run_len (c :: t)
            have h3 : 1 ≤ ((c :: t).takeWhile isPt).length := by
              rcases hx' : (c :: t).takeWhile isPt with _ | ⟨a, b⟩
              · exact absurd hx' hx
              · simp
            simp only [List.length_cons] at h2
            rw [lx_tok _ c t k j hb hg hn, lxP_tok _ c t k j hb hg hn, ih _ (by omega), hp]
        · rw [lx_sign _ c t hb hg, lxP_sign _ c t hb hg, ih t (by omega), hp]
      · rw [lx_blank _ c t hb, lxP_blank _ c t hb, ih t (by omega)]
/-- How far a scan is that tells one token behind the other. -/
def AtP (l : List UInt8) (p : Nat) (ts : List Tok) : Prop := lxP 0 l = (ts ++ (lxP p (l.drop p)).1, (lxP p (l.drop p)).2) ∧ ts.length ≤ p
theorem AtP.start (l : List UInt8) : AtP l 0 [] := ⟨rfl, Nat.le_refl _⟩
theorem AtP.blank {l : List UInt8} {p : Nat} {ts : List Tok} {c : UInt8} {t : List UInt8} (h : AtP l p ts) (hp : l.drop p = c :: t) (hb : isBl c = true) : AtP l (p + 1) ts := by
  have e : l.drop (p + 1) = t := by rw [← List.drop_drop, hp]; rfl
  exact ⟨by rw [h.1, hp, lxP_blank _ _ _ hb, e], by have := h.2; omega⟩
theorem AtP.sign {l : List UInt8} {p : Nat} {ts : List Tok} {c : UInt8} {t : List UInt8} (h : AtP l p ts) (hp : l.drop p = c :: t) (hb : isSg c = true) : AtP l (p + 1) (ts ++ [(4, [c], 0, (p : Int))]) ∧ ∃ r, (lxP 0 l).1 = ts ++ (4, [c], 0, (p : Int)) :: r := by
  have e : l.drop (p + 1) = t := by rw [← List.drop_drop, hp]; rfl
  refine ⟨⟨by rw [h.1, hp, lxP_sign _ _ _ (sg_not hb).1 hb, e]; simp, by have := h.2; simp; omega⟩, (lxP (p + 1) t).1, ?_⟩
  rw [h.1, hp, lxP_sign _ _ _ (sg_not hb).1 hb]
theorem AtP.tok {l : List UInt8} {p e : Nat} {ts : List Tok} {c : UInt8} {t x : List UInt8} {k n : Int} (h : AtP l p ts) (hp : l.drop p = c :: t) (hb : isBl c = false) (hg : isSg c = false)
    (hx : (l.drop p).takeWhile isPt = x) (hm : p + x.length = e) (hd : (l.drop p).dropWhile isPt = l.drop e) (ht : tokOf x = some (k, n)) : AtP l e (ts ++ [(k, x, n, (p : Int))]) ∧ ∃ r, (lxP 0 l).1 = ts ++ (k, x, n, (p : Int)) :: r := by
  have hm1 : 1 ≤ x.length := by
    have := tokOf_ne ht
    rcases x with _ | ⟨a, b⟩
    · exact absurd rfl this
    · simp
  rw [hp] at hx hd
  have q := lxP_tok p c t k n hb hg (by rw [hx]; exact ht)
  rw [hx, hd, hm] at q
  refine ⟨⟨by rw [h.1, hp, q]; simp, by have := h.2; simp; omega⟩, (lxP e (l.drop e)).1, ?_⟩
  rw [h.1, hp, q]
theorem AtP.bad {l : List UInt8} {p : Nat} {ts : List Tok} {c : UInt8} {t x : List UInt8} (h : AtP l p ts) (hp : l.drop p = c :: t) (hb : isBl c = false) (hg : isSg c = false)
    (hx : (l.drop p).takeWhile isPt = x) (ht : tokOf x = none) : lxP 0 l = (ts, some p) := by
  rw [hp] at hx
  rw [h.1, hp, lxP_bad _ _ _ hb hg (by rw [hx]; exact ht)]; simp
theorem AtP.done {l : List UInt8} {ts : List Tok} (h : AtP l l.length ts) : lxP 0 l = (ts ++ [(5, [], 0, (l.length : Int))], none) := by
  rw [h.1, List.drop_length, lxP_nil]
end Go.Proofs.Ytoajbbcjmalngaa

namespace Go.Proofs.Ytoajbbcjmalngaa
open Go.Lib
set_option linter.unusedVariables false
set_option linter.unusedSimpArgs false

/-- What belongs together at the beginning: all parts as far as they go on, or one other byte. -/
def pcOf (l : List UInt8) : List UInt8 := if l.takeWhile isPt = [] then l.take 1 else l.takeWhile isPt
/-- What a piece is told as: a kind and a number. -/
def told : List UInt8 → Option (Int × Int)
  | [] => none
  | c :: t => if isSg c then some (4, 0) else tokOf (c :: t)
theorem told_sign {c : UInt8} {t : List UInt8} (h : isSg c = true) : told (c :: t) = some (4, 0) := by simp only [told]; rw [if_pos h]
theorem told_not {c : UInt8} {t : List UInt8} (h : isSg c = false) : told (c :: t) = tokOf (c :: t) := by simp only [told]; rw [if_neg (by rw [h]; simp)]
theorem take_pt {c : UInt8} {t : List UInt8} (h : isPt c = true) : ∃ y, (c :: t).takeWhile isPt = c :: y := ⟨t.takeWhile isPt, by rw [List.takeWhile_cons, h]; rfl⟩
theorem take_not {c : UInt8} {t : List UInt8} (h : isPt c = false) : (c :: t).takeWhile isPt = [] := by rw [List.takeWhile_cons, h]; rfl
theorem pc_pt {c : UInt8} {t : List UInt8} (h : isPt c = true) : pcOf (c :: t) = (c :: t).takeWhile isPt := by
  obtain ⟨y, e⟩ := take_pt (t := t) h
  unfold pcOf; rw [e, if_neg (by simp)]
theorem pc_not {c : UInt8} {t : List UInt8} (h : isPt c = false) : pcOf (c :: t) = [c] := by
  unfold pcOf; rw [take_not h, if_pos rfl]; rfl
theorem pc_head (c : UInt8) (t : List UInt8) : ∃ y, pcOf (c :: t) = c :: y := by
  cases h : isPt c
  · exact ⟨[], pc_not h⟩
  · rw [pc_pt h]; exact take_pt h
theorem pc_len_le (l : List UInt8) : (pcOf l).length ≤ l.length := by
  unfold pcOf
  split
  · exact List.length_take_le' _ _
  · exact (List.takeWhile_sublist _).length_le
theorem pc_max (c : UInt8) (t : List UInt8) : pcOf (c :: t) = (c :: t).take (max ((c :: t).takeWhile isPt).length 1) ∧ (pcOf (c :: t)).length = max ((c :: t).takeWhile isPt).length 1 := by
  cases h : isPt c
  · rw [pc_not h, take_not h]; exact ⟨rfl, rfl⟩
  · obtain ⟨y, e⟩ := take_pt (t := t) h
    have e2 : (c :: t).takeWhile isPt ++ (c :: t).dropWhile isPt = c :: t := List.takeWhile_append_dropWhile
    have m : max ((c :: t).takeWhile isPt).length 1 = ((c :: t).takeWhile isPt).length := by rw [e]; simp
    rw [pc_pt h, m]
    refine ⟨?_, rfl⟩
    have e3 : (c :: t).take ((c :: t).takeWhile isPt).length = ((c :: t).takeWhile isPt ++ (c :: t).dropWhile isPt).take ((c :: t).takeWhile isPt).length := by rw [e2]
    rw [e3, List.take_left]
theorem tok_char {c : UInt8} (h : isPt c = false) : tokOf [c] = none := by
  simp only [isPt, Bool.or_eq_false_iff] at h
  unfold tokOf
  rw [word_head (c := c) rfl h.1.1, name_head (c := c) rfl h.1.1, cnt_not (l := [c]) (by simp [allD, h.1.2]), ref_short (l := [c]) (by unfold body; split <;> simp), if_neg (by simp), if_neg (by omega)]
/-- Not a blank: a token stands there, or the error. -/
theorem AtP.piece {l : List UInt8} {p : Nat} {ts : List Tok} {c : UInt8} {t : List UInt8} (h : AtP l p ts) (hp : l.drop p = c :: t) (hb : isBl c = false) :
    (∃ k n, told (pcOf (c :: t)) = some (k, n) ∧ AtP l (p + (pcOf (c :: t)).length) (ts ++ [(k, pcOf (c :: t), n, (p : Int))]) ∧ ∃ r, (lxP 0 l).1 = ts ++ (k, pcOf (c :: t), n, (p : Int)) :: r) ∨
    (told (pcOf (c :: t)) = none ∧ lxP 0 l = (ts, some p)) := by
  cases hg : isSg c
  · cases hpt : isPt c
    · refine .inr ⟨?_, h.bad hp hb hg (x := []) (by rw [hp]; exact take_not hpt) tokOf_nil⟩
      rw [pc_not hpt, told_not hg]; exact tok_char hpt
    · obtain ⟨y, e⟩ := take_pt (t := t) hpt
      have e2 : told (pcOf (c :: t)) = tokOf (pcOf (c :: t)) := by rw [pc_pt hpt, e]; exact told_not hg
      rw [e2, pc_pt hpt]
      cases ht : tokOf ((c :: t).takeWhile isPt) with
      | none => exact .inr ⟨rfl, h.bad hp hb hg (by rw [hp]) ht⟩
      | some kn =>
        obtain ⟨k, n⟩ := kn
        refine .inl ⟨k, n, rfl, h.tok hp hb hg (by rw [hp]) rfl ?_ ht⟩
        have e3 : (c :: t).takeWhile isPt ++ (c :: t).dropWhile isPt = c :: t := List.takeWhile_append_dropWhile
        have e4 : l.drop (p + ((c :: t).takeWhile isPt).length) = ((c :: t).takeWhile isPt ++ (c :: t).dropWhile isPt).drop ((c :: t).takeWhile isPt).length := by rw [← List.drop_drop, hp, e3]
        rw [hp, e4, List.drop_left]
  · have hpt := (sg_not hg).2
    rw [pc_not hpt]
    obtain ⟨a, b⟩ := h.sign hp hg
    exact .inl ⟨4, 0, told_sign hg, a, b⟩
theorem bl_not_pt {c : UInt8} (h : isBl c = true) : isPt c = false := bl_not h
end Go.Proofs.Ytoajbbcjmalngaa

namespace Go.Proofs
open Go.Shelf
def Try.lays103_ren : Go.Shelf.Ren := ⟨fun | 103 => 74 | 210 => 80 | 206 => 83 | n => n, fun | 9 => 9 | 4 => 4 | 24 => 93 | 3 => 3 | n => n, fun | n => n⟩
theorem Try.lays103 : Go.Proofs.Lays.n103 Try.prog Try.lays103_ren := {
  mixed := by kernel_rfl
  f103 := Try.func74.trans (congrArg some (by kernel_rfl))
  f206 := Try.func83.trans (congrArg some (by kernel_rfl))
  f210 := Try.func80.trans (congrArg some (by kernel_rfl))
  t3 := Try.underlying3
  a3 := Try.isAgg3
  z3 := Try.sizeOf3
  v3 := Try.zeroValue3
  t4 := Try.underlying4
  a4 := Try.isAgg4
  z4 := Try.sizeOf4
  v4 := Try.zeroValue4
  t9 := Try.underlying9
  a9 := Try.isAgg9
  z9 := Try.sizeOf9
  v9 := Try.zeroValue9
  t24 := Try.underlying93
  a24 := Try.isAgg93
  z24 := Try.sizeOf93
  v24 := Try.zeroValue93 }
open Go.RowKit in
/-- strings.CutPrefix: "CutPrefix returns s without the provided leading prefix string and reports whether it found the prefix. If s doesn't start with prefix, CutPrefix returns s, false. If prefix is the empty string, CutPrefix returns s, true.": IT RETURNS '(Lib.trimPrefix s p, Lib.hasPrefix s p)'; the world is as it was. (LAID: no walk: one application.) -/
theorem Try.strings_CutPrefix (s p : ByteArray) (w : World) :
    Calls Try.prog 74 #[.string s, .string p] w fun e w' => e = .returned (.tuple #[.string ⟨(Lib.trimPrefix s.data.toList p.data.toList).toArray⟩, .bool (Lib.hasPrefix s.data.toList p.data.toList)]) ∧ w' = w := Any.strings_CutPrefix Try.lays103 s p w
def Try.laysM316_ren : Go.Shelf.Ren := ⟨fun | 316 => 78 | n => n, fun | 9 => 9 | 3 => 3 | 4 => 4 | 37 => 62 | 0 => 0 | 127 => 98 | 5 => 5 | n => n, fun | n => n⟩
theorem Try.laysM316 : Go.Proofs.LaysM.n316 Try.prog Try.laysM316_ren := {
  mixed := by kernel_rfl
  f316 := Try.func78.trans (congrArg some (by kernel_rfl))
  t0 := Try.underlying0
  a0 := Try.isAgg0
  z0 := Try.sizeOf0
  v0 := Try.zeroValue0
  t3 := Try.underlying3
  a3 := Try.isAgg3
  z3 := Try.sizeOf3
  v3 := Try.zeroValue3
  t4 := Try.underlying4
  a4 := Try.isAgg4
  z4 := Try.sizeOf4
  v4 := Try.zeroValue4
  t9 := Try.underlying9
  a9 := Try.isAgg9
  z9 := Try.sizeOf9
  v9 := Try.zeroValue9
  t37 := Try.underlying62
  a37 := Try.isAgg62
  z37 := Try.sizeOf62
  v37 := Try.zeroValue62
  t127 := Try.underlying98
  a127 := Try.isAgg98
  z127 := Try.sizeOf98
  v127 := Try.zeroValue98
  t5 := Try.underlying5
  a5 := Try.isAgg5
  z5 := Try.sizeOf5
  v5 := Try.zeroValue5
  i0 := by kernel_rfl
  i3 := by kernel_rfl
  i4 := by kernel_rfl
  i5 := by kernel_rfl
  i9 := by kernel_rfl
  i37 := by kernel_rfl
  i127 := by kernel_rfl }
open Go.RowKit in
/-- internal/stringslite.Clone (what strings.Clone calls): "Clone returns a fresh copy of s.": THE SAME BYTES. Of what was there nothing has turned (a new row is laid, and frozen, where s is not empty). (LAID: no walk: one application.) -/
theorem Try.stringslite_Clone (s : ByteArray) (w : World) (hlim : s.size ≤ 281474976710656) :
    Calls Try.prog 78 #[.string s] w fun e w' => e = .returned (.string s) ∧ Below w.heap.size w w' := Any.stringslite_Clone Try.laysM316 s w hlim
def Try.lays219_ren : Go.Shelf.Ren := ⟨fun | 219 => 84 | 217 => 85 | 225 => 86 | 224 => 87 | 267 => 88 | 266 => 89 | 314 => 90 | n => n, fun | 9 => 9 | 3 => 3 | 4 => 4 | 5 => 5 | 46 => 102 | 146 => 104 | 51 => 103 | n => n, fun | 1 => 0 | n => n⟩
theorem Try.lays219 : Go.Proofs.Lays.n219 Try.prog Try.lays219_ren := {
  mixed := by kernel_rfl
  f217 := Try.func85.trans (congrArg some (by kernel_rfl))
  f219 := Try.func84.trans (congrArg some (by kernel_rfl))
  f224 := Try.func87.trans (congrArg some (by kernel_rfl))
  f225 := Try.func86.trans (congrArg some (by kernel_rfl))
  f266 := Try.func89.trans (congrArg some (by kernel_rfl))
  f267 := Try.func88.trans (congrArg some (by kernel_rfl))
  f314 := Try.func90.trans (congrArg some (by kernel_rfl))
  t3 := Try.underlying3
  a3 := Try.isAgg3
  z3 := Try.sizeOf3
  v3 := Try.zeroValue3
  t4 := Try.underlying4
  a4 := Try.isAgg4
  z4 := Try.sizeOf4
  v4 := Try.zeroValue4
  t5 := Try.underlying5
  a5 := Try.isAgg5
  z5 := Try.sizeOf5
  v5 := Try.zeroValue5
  t9 := Try.underlying9
  a9 := Try.isAgg9
  z9 := Try.sizeOf9
  v9 := Try.zeroValue9
  t46 := Try.underlying102
  a46 := Try.isAgg102
  z46 := Try.sizeOf102
  v46 := Try.zeroValue102
  t51 := Try.underlying103
  a51 := Try.isAgg103
  z51 := Try.sizeOf103
  v51 := Try.zeroValue103
  t146 := Try.underlying104
  a146 := Try.isAgg104
  z146 := Try.sizeOf104
  v146 := Try.zeroValue104
  g1 := by kernel_rfl }
open Go.RowKit Go.Lib in
/-- internal/stringslite.Index (what strings.Index calls) AT A substr OF ONE BYTE c: IT RETURNS 'Lib.indexByte s c'; the world is as it was. (LAID: no walk: one application.) -/
theorem Try.stringslite_Index_one (s : ByteArray) (c : UInt8) (w : World) :
    Calls Try.prog 84 #[.string s, .string ⟨#[c]⟩] w fun e w' => e = .returned (.int .i64 (Lib.indexByte s.data.toList c)) ∧ w' = w := Any.stringslite_Index_one Try.lays219 s c w
end Go.Proofs

namespace Go.Proofs.Ytoajbbcjmalngaa
open Go.RowKit Go.Lib
set_option linter.unusedVariables false
set_option linter.unusedSimpArgs false

def wit (a l h : Int) : Bool := decide (l ≤ a ∧ a ≤ h)
set_option maxHeartbeats 400000 in
theorem within_any (a l h : Int) (w : World) :
    Calls Try.prog 82 #[.int .i64 a, .int .i64 l, .int .i64 h] w fun e w' => e = .returned (.bool (wit a l h)) ∧ w = w' := by
  by_cases h1 : l ≤ a <;> by_cases h2 : a ≤ h
  all_goals
    go_enter Try.func82, Try.ntmps82
    go_wp2
    all_goals
      go_ret
      exact ⟨ret_bool (by unfold wit; rw [eq_comm]; first | exact decide_eq_true (by omega) | exact decide_eq_false (by omega)), rfl⟩
set_option maxHeartbeats 400000 in
theorem right_any (a : Int) (w : World) :
    Calls Try.prog 77 #[.int .i64 a] w fun e w' => e = .returned (.bool (rt a)) ∧ w = w' := by
  by_cases h1 : -1000000000000 ≤ a <;> by_cases h2 : a ≤ 1000000000000
  all_goals
    go_enter Try.func77, Try.ntmps77
    go_wp2
    all_goals
      go_ret
      exact ⟨ret_bool (by unfold rt; rw [eq_comm]; first | exact decide_eq_true (by omega) | exact decide_eq_false (by omega)), rfl⟩
theorem digs_no (most acc : Int) (c : UInt8) (t : List UInt8) (h : c.toNat < 48 ∨ 57 < c.toNat) : digs most (c :: t) acc = -1 := by
  unfold digs
  rw [if_neg]
  simp [isD]; omega
theorem digs_big (most acc : Int) (c : UInt8) (t : List UInt8) (h : 48 ≤ c.toNat) (h' : c.toNat ≤ 57) (hm : most < acc * 10 + ((c.toNat : Int) - 48)) : digs most (c :: t) acc = -1 := by
  unfold digs
  rw [if_pos (isD_iff.2 ⟨h, h'⟩), if_pos hm]
theorem digs_go (most acc : Int) (c : UInt8) (t : List UInt8) (h : 48 ≤ c.toNat) (h' : c.toNat ≤ 57) (hm : acc * 10 + ((c.toNat : Int) - 48) ≤ most) : digs most (c :: t) acc = digs most t (acc * 10 + ((c.toNat : Int) - 48)) := by
  conv => lhs; unfold digs
  rw [if_pos (isD_iff.2 ⟨h, h'⟩), if_neg (by omega)]
set_option maxHeartbeats 1000000 in
set_option maxRecDepth 100000 in
theorem digits_prog (s : ByteArray) (most : Int) (hm : most ≤ 1000000000000) (w0 w : World) (hr : Rel w0 w) :
    Calls Try.prog 73 #[.string s, .int .i64 most] w fun e w' => e = .returned (.int .i64 (digs most s.data.toList 0)) ∧ Rel w0 w' := by
  go_enter Try.func73, Try.ntmps73
  go_wp2
  go_loopw [5] (fun n w' => ∃ (pos : Nat) (acc : Int), w' = w.iter s pos ∧ n = .int .i64 acc ∧ 0 ≤ acc ∧ acc ≤ 1000000000000 ∧ Hid (digs most (s.data.toList.drop pos) acc = digs most s.data.toList 0)) (fun _ w' => s.size - w'.iterPos w.heap.size)
  case atStart => exact ⟨0, 0, rfl, rfl, by omega, by omega, Lib.hid rfl⟩
  case round =>
    obtain ⟨pos, acc, rfl, rfl, h0, h1, HH⟩ := hrel
    by_cases hp : pos < s.size
    · by_cases ha : (s[pos]'hp).toNat < 128
      · obtain ⟨c, hc⟩ : ∃ c, c = s[pos]'hp := ⟨_, rfl⟩
        have hnx : ∀ ty, (Instr.next (.pointer (some ⟨w.heap.size, 0, none⟩)) true ty).run Try.prog (w.iter s pos) = .ok (.tuple #[.bool true, .int .i64 pos, .int .i32 (c.toNat : Int)]) (w.iter s (pos + 1)) := fun ty => by rw [hc]; exact run_next_ascii w s pos ty hp ha
        have HD := Lib.hid (drop_step s pos hp)
        rw [← hc] at HD
        have ha' : c.toNat < 128 := by rw [hc]; exact ha
        clear hc
        generalize hk : c.toNat = k at hnx ha'
        have HK := Lib.hid hk
        clear hk ha
        by_cases g1 : k < 48
        · go_wp2
          go_ret
          exact ⟨ret_int (by rw [← HH.out, HD.out, digs_no _ _ _ _ (.inl (by rw [HK.out]; exact g1))]), hr.alloc _⟩
        · by_cases g2 : 57 < k
          · go_wp2
            go_ret
            exact ⟨ret_int (by rw [← HH.out, HD.out, digs_no _ _ _ _ (.inr (by rw [HK.out]; exact g2))]), hr.alloc _⟩
          · by_cases g3 : most < acc * 10 + ((k : Int) - 48)
            · go_wp2
              go_ret
              exact ⟨ret_int (by rw [← HH.out, HD.out, digs_big _ _ _ _ (by rw [HK.out]; omega) (by rw [HK.out]; omega) (by rw [HK.out]; exact g3)]), hr.alloc _⟩
            · go_wp2
              go_roundw
              case rel =>
                exact ⟨pos + 1, acc * 10 + ((k : Int) - 48), rfl, rfl, by omega, by omega, Lib.hid (by rw [← HH.out, HD.out, digs_go _ _ _ _ (by rw [HK.out]; omega) (by rw [HK.out]; omega) (by rw [HK.out]; omega), HK.out])⟩
              case measure =>
                simp
                omega
      · have hh := (decode_high s pos hp (by omega)).1
        have HN := Lib.hid (digs_no most acc (s[pos]'hp) (s.data.toList.drop (pos + 1)) (.inr (by omega)))
        have HD := Lib.hid (drop_step s pos hp)
        have hnx : ∀ ty, (Instr.next (.pointer (some ⟨w.heap.size, 0, none⟩)) true ty).run Try.prog (w.iter s pos) = _ := fun ty => run_next_any w s pos ty hp
        generalize (Utf8.decode s pos).1 = k at hh hnx
        clear ha
        have hh2 : ¬ k < 48 := by omega
        have hh3 : 57 < k := by omega
        go_wp2
        go_ret
        exact ⟨ret_int (by rw [← HH.out, HD.out, HN.out]), hr.alloc _⟩
    · have hnx : ∀ ty, (Instr.next (.pointer (some ⟨w.heap.size, 0, none⟩)) true ty).run Try.prog (w.iter s pos) = _ := fun ty => run_next_end w s pos ty hp
      have HD := Lib.hid (drop_end s pos hp)
      go_wp2
      go_ret
      exact ⟨ret_int (by rw [← HH.out, HD.out]; rfl), hr.alloc _⟩
theorem cnt_digs (c : UInt8) (t : List UInt8) (most : Int) (h : t.length = 0 ∨ c.toNat ≠ 48) : digs (min most 1000000000000) (B (c :: t)).data.toList 0 = cnt (c :: t) most := by
  rw [B_list]
  refine cnt_prog _ _ rfl ?_
  rcases h with h | h
  · left; simp [h]
  · right; intro e; simp at e; exact h (by rw [e]; rfl)
set_option maxHeartbeats 400000 in
theorem count_list (l : List UInt8) (most : Int) (hl : l.length ≤ 9223372036854775807) (w0 w : World) (hr : Rel w0 w) :
    Calls Try.prog 64 #[.string (B l), .int .i64 most] w fun e w' => e = .returned (.int .i64 (cnt l most)) ∧ Rel w0 w' := by
  cases l with
  | nil =>
    have HT := B_toList []
    go_enter Try.func64, Try.ntmps64
    go_wp2_with (fail)
    go_ret
    exact ⟨ret_int (cnt_no (.inl rfl)).symm, hr⟩
  | cons c t =>
    have HT := B_toList (c :: t)
    have HB := B_size (c :: t)
    have H0 := B_zero c t
    go_enter Try.func64, Try.ntmps64
    go_wp2_with ((go_at_call 73; (with_reducible refine (digits_prog _ _ (by omega) _ _ hr).mono ?_); rintro e w' ⟨rfl, hr'⟩))
    · have h1 : 1 < (t.length : Int) + 1 := by assumption
      have h2 : ((c.toNat : Int) == 48) = true := by assumption
      have h3 : c = 48 := UInt8.toNat_inj.1 (by rw [show (48 : UInt8).toNat = 48 from rfl]; simp only [beq_iff_eq] at h2; omega)
      go_ret
      exact ⟨ret_int (cnt_no (.inr ⟨by simp; omega, by rw [h3]; rfl⟩)).symm, hr⟩
    · have h2 : ((c.toNat : Int) == 48) = false := by assumption
      go_ret
      exact ⟨ret_int (cnt_digs c t most (.inr (by simp only [beq_eq_false_iff_ne] at h2; omega))), by assumption⟩
    · have h1 : (t.length : Int) + 1 ≤ 1 := by assumption
      go_ret
      exact ⟨ret_int (cnt_digs c t most (.inl (by omega))), by assumption⟩
theorem count_any (s : ByteArray) (most : Int) (hl : s.size ≤ 9223372036854775807) (w0 w : World) (hr : Rel w0 w) :
    Calls Try.prog 64 #[.string s, .int .i64 most] w fun e w' => e = .returned (.int .i64 (cnt s.data.toList most)) ∧ Rel w0 w' := by
  have := count_list s.data.toList most (by simpa using hl) w0 w hr
  rwa [B_of] at this
set_option maxHeartbeats 400000 in
theorem pair_any (s : ByteArray) (w0 w : World) (hr : Rel w0 w) :
    Calls Try.prog 76 #[.string s] w fun e w' => e = .returned (.int .i64 (pair s.data.toList)) ∧ Rel w0 w' := by
  have hL : s.data.toList.length = s.size := by simp
  by_cases h : s.size = 2
  · have HS := Lib.hid (show digs 99 s.data.toList 0 = pair s.data.toList by unfold pair; rw [if_pos (by omega)])
    have h' : ((s.size : Int) != 2) = false := by simp [h]
    clear h hL
    go_enter Try.func76, Try.ntmps76
    go_wp2_with ((go_at_call 73; (with_reducible refine (digits_prog _ _ (by omega) _ _ hr).mono ?_); rintro e w' ⟨rfl, hr'⟩))
    go_ret
    exact ⟨ret_int HS.out, by assumption⟩
  · have HS := Lib.hid (pair_no (l := s.data.toList) (by omega))
    have h' : ((s.size : Int) != 2) = true := by simp; omega
    clear h hL
    go_enter Try.func76, Try.ntmps76
    go_wp2_with (fail)
    go_ret
    exact ⟨ret_int HS.out.symm, hr⟩
def dot : ByteArray := ⟨#[46]⟩
def cutA (s : ByteArray) : List UInt8 := (cut s.data.toList [46]).1
def cutB (s : ByteArray) : List UInt8 := (cut s.data.toList [46]).2.1
def cutC (s : ByteArray) : Bool := (cut s.data.toList [46]).2.2
theorem ret_ssb {a a' b b' : ByteArray} {c c' : Bool} (h : a = a') (h' : b = b') (h'' : c = c') : Ending.returned (.tuple #[.string a, .string b, .bool c]) = Ending.returned (.tuple #[.string a', .string b', .bool c']) := by rw [h, h', h'']
theorem lcut_any (s : ByteArray) (hl : s.size ≤ 9223372036854775807) (w0 w : World) (hr : Rel w0 w) :
    Calls Try.prog 81 #[.string s, .string ⟨#[46]⟩] w fun e w' => e = .returned (.tuple #[.string (B (cutA s)), .string (B (cutB s)), .bool (cutC s)]) ∧ Rel w0 w' := by
  have ei : Lib.indexByte s.data.toList 46 = Lib.indexB s dot := (Lib.index_one s.data.toList 46).symm
  rcases Lib.indexB_cases s dot with hix | ⟨i, hix, hroom⟩
  · obtain ⟨e1, e2, e3⟩ := Lib.cutB_miss s dot hix
    have f1 := Lib.hid (show s = B (cutA s) from e1.symm)
    have f2 := Lib.hid (show (⟨#[]⟩ : ByteArray) = B (cutB s) from e2.symm)
    have f3 := Lib.hid (show false = cutC s from e3.symm)
    have hix' := Lib.hid (ei.trans hix)
    clear e1 e2 e3 ei hix
    go_enter Try.func81, Try.ntmps81
    go_wp2_with ((go_at_call 84; refine (int_at (R := fun w' => w' = _) (-1) (Try.stringslite_Index_one s 46 _) hix').mono ?_; rintro e w' ⟨rfl, rfl⟩))
    go_ret3
    exact ⟨ret_ssb f1.out f2.out f3.out, hr⟩
  · obtain ⟨e1, e2, e3⟩ := Lib.cutB_hit s dot i hix
    have f1 := Lib.hid (show s.extract 0 i = B (cutA s) from e1.symm)
    have f2 := Lib.hid (show s.extract (i + 1) s.size = B (cutB s) from e2.symm)
    have f3 := Lib.hid (show true = cutC s from e3.symm)
    have hix' := Lib.hid (ei.trans hix)
    have hd : dot.size = 1 := rfl
    rw [hd] at hroom
    have c1 : (0 : Int) ≤ ↑i := by omega
    have c2 : (↑i : Int) ≤ ↑s.size := by omega
    have c3 : (0 : Int) ≤ ↑i + 1 := by omega
    have c4 : (↑i + 1 : Int) ≤ ↑s.size := by omega
    clear e1 e2 e3 ei hix hd
    have c5 : IntKind.i64.wrap ((i : Int) + 1) = (i : Int) + 1 := IntWalk.i64_in _ (by omega)
    have c6 : ((i : Int) + 1).toNat = i + 1 := by omega
    go_enter Try.func81, Try.ntmps81
    go_wp2_with ((go_at_call 84; refine (int_at (R := fun w' => w' = _) (i : Int) (Try.stringslite_Index_one s 46 _) hix').mono ?_; rintro e w' ⟨rfl, rfl⟩))
    go_region
    go_wp2
    go_ret3
    exact ⟨ret_ssb f1.out f2.out f3.out, hr.drew⟩
theorem cut_any (s : ByteArray) (hl : s.size ≤ 9223372036854775807) (w0 w : World) (hr : Rel w0 w) :
    Calls Try.prog 75 #[.string s, .string ⟨#[46]⟩] w fun e w' => e = .returned (.tuple #[.string (B (cutA s)), .string (B (cutB s)), .bool (cutC s)]) ∧ Rel w0 w' := by
  go_enter Try.func75, Try.ntmps75
  go_wp2_with ((go_at_call 81; (with_reducible refine (lcut_any _ hl _ _ hr).mono ?_); rintro e w' ⟨rfl, hr'⟩))
  go_ret3
  exact ⟨ret_ssb rfl rfl rfl, hr'⟩
theorem trim_body (l : List UInt8) : trimPrefix l [45] = body l ∧ hasPrefix l [45] = negL l := by
  unfold trimPrefix hasPrefix body negL
  cases l with
  | nil => exact ⟨rfl, rfl⟩
  | cons c t =>
    by_cases h : c = 45
    · subst h; exact ⟨rfl, rfl⟩
    · have h1 : ((45 : UInt8) == c) = false := by simp [Ne.symm h]
      have h2 : (c == (45 : UInt8)) = false := by simp [h]
      simp [List.isPrefixOf, h1, h]
def bd (s : ByteArray) : ByteArray := B (body s.data.toList)
theorem bd_size (s : ByteArray) : (bd s).size ≤ s.size := by
  unfold bd body
  rw [B_size]
  have : s.data.toList.length = s.size := by simp
  split
  · rw [List.length_tail]; omega
  · omega
theorem cutp_any (s : ByteArray) (b : Bool) (hb : Hid (negL s.data.toList = b)) (w0 w : World) (hr : Rel w0 w) :
    Calls Try.prog 74 #[.string s, .string ⟨#[45]⟩] w fun e w' => e = .returned (.tuple #[.string (bd s), .bool b]) ∧ Rel w0 w' := by
  refine (Try.strings_CutPrefix s ⟨#[45]⟩ w).mono ?_
  rintro e w' ⟨rfl, rfl⟩
  obtain ⟨h1, h2⟩ := trim_body s.data.toList
  refine ⟨?_, hr⟩
  show Ending.returned (.tuple #[.string ⟨(trimPrefix s.data.toList [45]).toArray⟩, .bool (hasPrefix s.data.toList [45])]) = _
  rw [h1, h2, hb.out]
  rfl
theorem cutA_size (s : ByteArray) : (B (cutA s)).size ≤ s.size := by
  rw [B_size]
  unfold cutA
  have hl : s.data.toList.length = s.size := by simp
  unfold cut
  split
  · rw [List.length_take]; omega
  · show s.data.toList.length ≤ s.size; omega
theorem parse_no {l : List UInt8} (h : cnt (cut (body l) [46]).1 10000000000 < 0 ∨ pair (cut (body l) [46]).2.1 < 0) : 0 = prs1 l ∧ 20 = prs2 l := by
  unfold prs1 prs2; rw [prog_no h]; exact ⟨rfl, rfl⟩
theorem parse_yes {l : List UInt8} {h c : Int} {b : Bool} (e1 : cnt (cut (body l) [46]).1 10000000000 = h) (e2 : pair (cut (body l) [46]).2.1 = c) (h0 : 0 ≤ h) (c0 : 0 ≤ c) (eb : negL l = b) :
    ((1000000000000 < h * 100 + c ∨ (b = true ∧ h * 100 + c = 0)) → 0 = prs1 l ∧ 20 = prs2 l) ∧ ((h * 100 + c ≤ 1000000000000 ∧ ¬ (b = true ∧ h * 100 + c = 0)) → (if b then -(h * 100 + c) else h * 100 + c) = prs1 l ∧ 0 = prs2 l) := by
  have := prog_yes (l := l) (by rw [e1]; exact h0) (by rw [e2]; exact c0)
  rw [e1, e2, eb] at this
  unfold prs1 prs2
  rw [this]
  unfold fin
  constructor
  · intro hh
    simp only [if_pos hh]
    exact ⟨rfl, rfl⟩
  · intro hh
    have hn : ¬ (1000000000000 < h * 100 + c ∨ (b = true ∧ h * 100 + c = 0)) := fun x => x.elim (fun y => by omega) hh.2
    simp only [if_neg hn]
    exact ⟨rfl, rfl⟩
set_option maxHeartbeats 1000000 in
theorem parse_any (s : ByteArray) (hl : s.size ≤ 9223372036854775807) (w0 w : World) (hr : Rel w0 w) :
    Calls Try.prog 65 #[.string s] w fun e w' => Two e (prs1 s.data.toList) (prs2 s.data.toList) ∧ Rel w0 w' := by
  obtain ⟨b, hb⟩ : ∃ b, negL s.data.toList = b := ⟨_, rfl⟩
  obtain ⟨h, he1⟩ : ∃ h, cnt (cut (body s.data.toList) [46]).1 10000000000 = h := ⟨_, rfl⟩
  obtain ⟨c, he2⟩ : ∃ c, pair (cut (body s.data.toList) [46]).2.1 = c := ⟨_, rfl⟩
  have hbd := cnt_bd (cut (body s.data.toList) [46]).1 10000000000
  have cbd := pair_bd (cut (body s.data.toList) [46]).2.1
  rw [he1] at hbd
  rw [he2] at cbd
  have h1 : -1 ≤ h := by omega
  have h2 : h ≤ 10000000000 := by omega
  have c1 : -1 ≤ c := by omega
  have c2 : c ≤ 99 := by omega
  have HB := Lib.hid hb
  have HE1 := Lib.hid (show cnt (B (cutA (bd s))).data.toList 10000000000 = h by rw [B_list]; unfold cutA bd; rw [B_list]; exact he1)
  have HE2 := Lib.hid (show pair (B (cutB (bd s))).data.toList = c by rw [B_list]; unfold cutB bd; rw [B_list]; exact he2)
  have z1 := bd_size s
  have z2 := cutA_size (bd s)
  have HN := Lib.hid (parse_no (l := s.data.toList))
  rw [he1, he2] at HN
  have HY : 0 ≤ h → 0 ≤ c → _ := fun x y => parse_yes he1 he2 x y hb
  have HY := Lib.hid HY
  clear hbd cbd he1 he2 hb
  by_cases h0 : h < 0
  · go_enter Try.func65, Try.ntmps65
    go_wp2_with (first | (go_at_call 74; (with_reducible refine (cutp_any _ b HB _ _ hr).mono ?_); rintro e w' ⟨rfl, hr'⟩) | (go_at_call 75; (with_reducible refine (cut_any _ (by omega) _ _ (by assumption)).mono ?_); rintro e w' ⟨rfl, hr'⟩) | (go_at_call 64; (with_reducible refine (int_at h (count_any _ _ (by omega) _ _ (by assumption)) HE1).mono ?_); rintro e w' ⟨rfl, hr'⟩) | (go_at_call 76; (with_reducible refine (int_at c (pair_any _ _ _ (by assumption)) HE2).mono ?_); rintro e w' ⟨rfl, hr'⟩))
    go_ret2
    exact ⟨ret_two (HN.out (.inl h0)).1 (HN.out (.inl h0)).2, by assumption⟩
  · by_cases c0 : c < 0
    · go_enter Try.func65, Try.ntmps65
      go_wp2_with (first | (go_at_call 74; (with_reducible refine (cutp_any _ b HB _ _ hr).mono ?_); rintro e w' ⟨rfl, hr'⟩) | (go_at_call 75; (with_reducible refine (cut_any _ (by omega) _ _ (by assumption)).mono ?_); rintro e w' ⟨rfl, hr'⟩) | (go_at_call 64; (with_reducible refine (int_at h (count_any _ _ (by omega) _ _ (by assumption)) HE1).mono ?_); rintro e w' ⟨rfl, hr'⟩) | (go_at_call 76; (with_reducible refine (int_at c (pair_any _ _ _ (by assumption)) HE2).mono ?_); rintro e w' ⟨rfl, hr'⟩))
      go_ret2
      exact ⟨ret_two (HN.out (.inr c0)).1 (HN.out (.inr c0)).2, by assumption⟩
    · have HY2 := Lib.hid (HY.out (by omega) (by omega))
      clear HY HN
      obtain ⟨a, ha⟩ : ∃ a, a = h * 100 + c := ⟨_, rfl⟩
      rw [← ha] at HY2
      have a0 : 0 ≤ a := by omega
      have a1 : a ≤ 1000000000099 := by omega
      by_cases hbig : 1000000000000 < a
      · have HR := Lib.hid (show rt (h * 100 + c) = false by rw [← ha]; exact rt_no (.inr hbig))
        have h3 : 0 ≤ h := by omega
        have c3 : 0 ≤ c := by omega
        have HH := Lib.hid (HY2.out.1 (.inl hbig))
        clear ha h0 c0
        go_enter Try.func65, Try.ntmps65
        go_wp2_with (first | (go_at_call 74; (with_reducible refine (cutp_any _ b HB _ _ hr).mono ?_); rintro e w' ⟨rfl, hr'⟩) | (go_at_call 75; (with_reducible refine (cut_any _ (by omega) _ _ (by assumption)).mono ?_); rintro e w' ⟨rfl, hr'⟩) | (go_at_call 64; (with_reducible refine (int_at h (count_any _ _ (by omega) _ _ (by assumption)) HE1).mono ?_); rintro e w' ⟨rfl, hr'⟩) | (go_at_call 76; (with_reducible refine (int_at c (pair_any _ _ _ (by assumption)) HE2).mono ?_); rintro e w' ⟨rfl, hr'⟩) | (go_at_call 77; (with_reducible refine (bool_at false (right_any _ _) HR).mono ?_); rintro e w' ⟨rfl, rfl⟩))
        go_ret2
        exact ⟨ret_two HH.out.1 HH.out.2, by assumption⟩
      · have HR := Lib.hid (show rt (h * 100 + c) = true by rw [← ha]; exact rt_yes (by omega) (by omega))
        have bb : h * 100 + c ≤ 1000000000000 := by omega
        rw [ha] at HY2
        clear ha hbig a0 a1
        cases b
        · have HH := Lib.hid (HY2.out.2 ⟨bb, by simp⟩)
          have h3 : 0 ≤ h := by omega
          have c3 : 0 ≤ c := by omega
          clear HY2 h0 c0
          go_enter Try.func65, Try.ntmps65
          go_wp2_with (first | (go_at_call 74; (with_reducible refine (cutp_any _ false HB _ _ hr).mono ?_); rintro e w' ⟨rfl, hr'⟩) | (go_at_call 75; (with_reducible refine (cut_any _ (by omega) _ _ (by assumption)).mono ?_); rintro e w' ⟨rfl, hr'⟩) | (go_at_call 64; (with_reducible refine (int_at h (count_any _ _ (by omega) _ _ (by assumption)) HE1).mono ?_); rintro e w' ⟨rfl, hr'⟩) | (go_at_call 76; (with_reducible refine (int_at c (pair_any _ _ _ (by assumption)) HE2).mono ?_); rintro e w' ⟨rfl, hr'⟩) | (go_at_call 77; (with_reducible refine (bool_at true (right_any _ _) HR).mono ?_); rintro e w' ⟨rfl, rfl⟩))
          go_ret2
          exact ⟨ret_two HH.out.1 HH.out.2, by assumption⟩
        · by_cases hz : h * 100 + c = 0
          · have HH := Lib.hid (HY2.out.1 (.inr ⟨rfl, hz⟩))
            have hz' : ((h * 100 + c : Int) == 0) = true := by simpa using hz
            clear hz
            have h3 : 0 ≤ h := by omega
            have c3 : 0 ≤ c := by omega
            clear HY2 h0 c0
            go_enter Try.func65, Try.ntmps65
            go_wp2_with (first | (go_at_call 74; (with_reducible refine (cutp_any _ true HB _ _ hr).mono ?_); rintro e w' ⟨rfl, hr'⟩) | (go_at_call 75; (with_reducible refine (cut_any _ (by omega) _ _ (by assumption)).mono ?_); rintro e w' ⟨rfl, hr'⟩) | (go_at_call 64; (with_reducible refine (int_at h (count_any _ _ (by omega) _ _ (by assumption)) HE1).mono ?_); rintro e w' ⟨rfl, hr'⟩) | (go_at_call 76; (with_reducible refine (int_at c (pair_any _ _ _ (by assumption)) HE2).mono ?_); rintro e w' ⟨rfl, hr'⟩) | (go_at_call 77; (with_reducible refine (bool_at true (right_any _ _) HR).mono ?_); rintro e w' ⟨rfl, rfl⟩))
            go_ret2
            exact ⟨ret_two HH.out.1 HH.out.2, by assumption⟩
          · have HH := Lib.hid (HY2.out.2 ⟨bb, fun x => hz x.2⟩)
            have hz' : ((h * 100 + c : Int) == 0) = false := by simpa using hz
            clear hz
            have h3 : 0 ≤ h := by omega
            have c3 : 0 ≤ c := by omega
            clear HY2 h0 c0
            go_enter Try.func65, Try.ntmps65
            go_wp2_with (first | (go_at_call 74; (with_reducible refine (cutp_any _ true HB _ _ hr).mono ?_); rintro e w' ⟨rfl, hr'⟩) | (go_at_call 75; (with_reducible refine (cut_any _ (by omega) _ _ (by assumption)).mono ?_); rintro e w' ⟨rfl, hr'⟩) | (go_at_call 64; (with_reducible refine (int_at h (count_any _ _ (by omega) _ _ (by assumption)) HE1).mono ?_); rintro e w' ⟨rfl, hr'⟩) | (go_at_call 76; (with_reducible refine (int_at c (pair_any _ _ _ (by assumption)) HE2).mono ?_); rintro e w' ⟨rfl, hr'⟩) | (go_at_call 77; (with_reducible refine (bool_at true (right_any _ _) HR).mono ?_); rintro e w' ⟨rfl, rfl⟩))
            go_ret2
            exact ⟨ret_two HH.out.1 HH.out.2, by assumption⟩
end Go.Proofs.Ytoajbbcjmalngaa
