/- Plain mathematics of layer 6, fourth part: the piece that stands at a place, and what is told of it. No program in this text. -/
import Derived.Test.YtlflfffjaodhpaaDoorLexMathC
namespace Go.Proofs.YtlflfffjaodhpaaDoor
open Go.Lib
set_option linter.unusedVariables false
set_option linter.unusedSimpArgs false

/-- What belongs together at the beginning: all parts as far as they go on, or one other byte. -/
def pcOf (l : List UInt8) : List UInt8 := if l.takeWhile isPt = [] then l.take 1 else l.takeWhile isPt
/-- What a piece is told as: a kind and a number. -/
def told : List UInt8 → Option (Int × Int)
  | [] => none
  | c :: t => if isSg c then some (4, 0) else tokOf (c :: t)
theorem told_sign {c : UInt8} {t : List UInt8} (h : isSg c = true) : told (c :: t) = some (4, 0) := by simp only [told]; rw [if_pos h]
theorem told_not {c : UInt8} {t : List UInt8} (h : isSg c = false) : told (c :: t) = tokOf (c :: t) := by simp only [told]; rw [if_neg (by rw [h]; simp)]
theorem take_pt {c : UInt8} {t : List UInt8} (h : isPt c = true) : ∃ y, (c :: t).takeWhile isPt = c :: y := ⟨t.takeWhile isPt, by rw [List.takeWhile_cons, h]; rfl⟩
theorem take_not {c : UInt8} {t : List UInt8} (h : isPt c = false) : (c :: t).takeWhile isPt = [] := by rw [List.takeWhile_cons, h]; rfl
theorem pc_pt {c : UInt8} {t : List UInt8} (h : isPt c = true) : pcOf (c :: t) = (c :: t).takeWhile isPt := by
  obtain ⟨y, e⟩ := take_pt (t := t) h
  unfold pcOf; rw [e, if_neg (by simp)]
theorem pc_not {c : UInt8} {t : List UInt8} (h : isPt c = false) : pcOf (c :: t) = [c] := by
  unfold pcOf; rw [take_not h, if_pos rfl]; rfl
theorem pc_head (c : UInt8) (t : List UInt8) : ∃ y, pcOf (c :: t) = c :: y := by
  cases h : isPt c
  · exact ⟨[], pc_not h⟩
  · rw [pc_pt h]; exact take_pt h
theorem pc_len_le (l : List UInt8) : (pcOf l).length ≤ l.length := by
  unfold pcOf
  split
  · exact List.length_take_le' _ _
  · exact (List.takeWhile_sublist _).length_le
theorem pc_max (c : UInt8) (t : List UInt8) : pcOf (c :: t) = (c :: t).take (max ((c :: t).takeWhile isPt).length 1) ∧ (pcOf (c :: t)).length = max ((c :: t).takeWhile isPt).length 1 := by
  cases h : isPt c
  · rw [pc_not h, take_not h]; exact ⟨rfl, rfl⟩
  · obtain ⟨y, e⟩ := take_pt (t := t) h
    have e2 : (c :: t).takeWhile isPt ++ (c :: t).dropWhile isPt = c :: t := List.takeWhile_append_dropWhile
    have m : max ((c :: t).takeWhile isPt).length 1 = ((c :: t).takeWhile isPt).length := by rw [e]; simp
    rw [pc_pt h, m]
    refine ⟨?_, rfl⟩
    have e3 : (c :: t).take ((c :: t).takeWhile isPt).length = ((c :: t).takeWhile isPt ++ (c :: t).dropWhile isPt).take ((c :: t).takeWhile isPt).length := by rw [e2]
    rw [e3, List.take_left]
theorem tok_char {c : UInt8} (h : isPt c = false) : tokOf [c] = none := by
  simp only [isPt, Bool.or_eq_false_iff] at h
  unfold tokOf
  rw [word_head (c := c) rfl h.1.1, name_head (c := c) rfl h.1.1, cnt_not (l := [c]) (by simp [allD, h.1.2]), ref_short (l := [c]) (by unfold body; split <;> simp), if_neg (by simp), if_neg (by omega)]
/-- Not a blank: a token stands there, or the error. -/
theorem AtP.piece {l : List UInt8} {p : Nat} {ts : List Tok} {c : UInt8} {t : List UInt8} (h : AtP l p ts) (hp : l.drop p = c :: t) (hb : isBl c = false) :
    (∃ k n, told (pcOf (c :: t)) = some (k, n) ∧ AtP l (p + (pcOf (c :: t)).length) (ts ++ [(k, pcOf (c :: t), n, (p : Int))]) ∧ ∃ r, (lxP 0 l).1 = ts ++ (k, pcOf (c :: t), n, (p : Int)) :: r) ∨
    (told (pcOf (c :: t)) = none ∧ lxP 0 l = (ts, some p)) := by
  cases hg : isSg c
  · cases hpt : isPt c
    · refine .inr ⟨?_, h.bad hp hb hg (x := []) (by rw [hp]; exact take_not hpt) tokOf_nil⟩
      rw [pc_not hpt, told_not hg]; exact tok_char hpt
    · obtain ⟨y, e⟩ := take_pt (t := t) hpt
      have e2 : told (pcOf (c :: t)) = tokOf (pcOf (c :: t)) := by rw [pc_pt hpt, e]; exact told_not hg
      rw [e2, pc_pt hpt]
      cases ht : tokOf ((c :: t).takeWhile isPt) with
      | none => exact .inr ⟨rfl, h.bad hp hb hg (by rw [hp]) ht⟩
      | some kn =>
        obtain ⟨k, n⟩ := kn
        refine .inl ⟨k, n, rfl, h.tok hp hb hg (by rw [hp]) rfl ?_ ht⟩
        have e3 : (c :: t).takeWhile isPt ++ (c :: t).dropWhile isPt = c :: t := List.takeWhile_append_dropWhile
        have e4 : l.drop (p + ((c :: t).takeWhile isPt).length) = ((c :: t).takeWhile isPt ++ (c :: t).dropWhile isPt).drop ((c :: t).takeWhile isPt).length := by rw [← List.drop_drop, hp, e3]
        rw [hp, e4, List.drop_left]
  · have hpt := (sg_not hg).2
    rw [pc_not hpt]
    obtain ⟨a, b⟩ := h.sign hp hg
    exact .inl ⟨4, 0, told_sign hg, a, b⟩
theorem bl_not_pt {c : UInt8} (h : isBl c = true) : isPt c = false := bl_not h
end Go.Proofs.YtlflfffjaodhpaaDoor
