/- What is scanned: the document's own Lex. -/
import Derived.Test.YtldopbkjchgcnaaDoorZ08
namespace Go.Proofs.YtldopbkjchgcnaaDoor
open Go.RowKit Go.Lib
set_option linter.unusedVariables false
set_option linter.unusedSimpArgs false

/-- What Lex tells of a text: tokens, an error, a place. -/
def Out (l : List UInt8) (ts : List Tok) (err place : Int) : Prop :=
  (2000 < l.length ∧ ts = [] ∧ err = 60 ∧ place = 2000) ∨ (l.length ≤ 2000 ∧ lx 0 l = .ok ts ∧ err = 0 ∧ place = 0) ∨ (l.length ≤ 2000 ∧ ∃ k : Nat, lx 0 l = .error k ∧ ts = [] ∧ err = 61 ∧ place = k)
def LexPost (l : List UInt8) (w0 : World) (e : Ending) (w' : World) : Prop :=
  ∃ (ts : List Tok) (A : Option Addr) (c : Nat) (err place : Int), e = .returned (.tuple #[.slice A ts.length c, .int .i64 err, .int .i64 place]) ∧ Rel w0 w' ∧ ToksAt w' A ts ∧ Out l ts err place
theorem Out.det {l : List UInt8} {ts ts' : List Tok} {e e' p p' : Int} (h : Out l ts e p) (h' : Out l ts' e' p') : ts = ts' ∧ e = e' ∧ p = p' := by
  rcases h with ⟨a, rfl, rfl, rfl⟩ | ⟨a, b, rfl, rfl⟩ | ⟨a, k, b, rfl, rfl, rfl⟩ <;> rcases h' with ⟨a', rfl, rfl, rfl⟩ | ⟨a', b', rfl, rfl⟩ | ⟨a', k', b', rfl, rfl, rfl⟩
  · exact ⟨rfl, rfl, rfl⟩
  · omega
  · omega
  · omega
  · rw [b] at b'; injection b' with b'; exact ⟨b', rfl, rfl⟩
  · rw [b] at b'; cases b'
  · omega
  · rw [b] at b'; cases b'
  · rw [b] at b'; injection b' with b'; subst b'; exact ⟨rfl, rfl, rfl⟩
theorem B_cut (s : ByteArray) (i j : Nat) : s.extract i j = B ((s.data.toList.drop i).take (j - i)) := by
  apply ByteArray.ext
  apply Array.ext'
  simp [B, ByteArray.data_extract, List.extract_eq_take_drop]
theorem run_at (s : ByteArray) (p : Nat) (hp : p ≤ s.size) : ∃ m, p + m ≤ s.size ∧ (∀ j (h : p + j < s.size), j < m → isPt (s[p + j]'h) = true) ∧ (∀ h : p + m < s.size, isPt (s[p + m]'h) = false) ∧
    s.extract p (p + m) = B ((s.data.toList.drop p).takeWhile isPt) ∧ ((s.data.toList.drop p).takeWhile isPt).length = m ∧ (s.data.toList.drop p).dropWhile isPt = s.data.toList.drop (p + m) := by
  have el : s.data.toList.length = s.size := by simp
  obtain ⟨x, hx⟩ : ∃ x, (s.data.toList.drop p).takeWhile isPt = x := ⟨_, rfl⟩
  obtain ⟨r, hr⟩ : ∃ r, (s.data.toList.drop p).dropWhile isPt = r := ⟨_, rfl⟩
  have hL : s.data.toList.drop p = x ++ r := by rw [← hx, ← hr]; exact (List.takeWhile_append_dropWhile).symm
  have hlen : x.length + r.length = s.size - p := by rw [← List.length_append, ← hL, List.length_drop, el]
  have hat : ∀ j (h : p + j < s.size), (x ++ r)[j]? = some (s[p + j]'h) := fun j h => by
    rw [← hL, List.getElem?_drop, List.getElem?_eq_getElem (by omega)]; rfl
  have hall : x.all isPt = true := by rw [← hx]; exact all_run _
  refine ⟨x.length, by omega, ?_, ?_, ?_, by rw [hx], ?_⟩
  · intro j h hj
    have := hat j h
    rw [List.getElem?_append_left hj, List.getElem?_eq_getElem hj] at this
    rw [← Option.some.inj this]
    exact List.all_eq_true.1 hall _ (List.getElem_mem hj)
  · intro h
    have := hat x.length h
    rw [List.getElem?_append_right (Nat.le_refl _), Nat.sub_self] at this
    cases r with
    | nil => simp at this
    | cons d u =>
      simp at this
      rw [← this]
      have hd := List.head?_dropWhile_not isPt (s.data.toList.drop p)
      rw [hr] at hd
      simpa using hd
  · rw [B_cut, hx, hL, show p + x.length - p = x.length by omega, List.take_left]
  · rw [hr, ← List.drop_drop, hL, List.drop_left]
theorem drop_cons (s : ByteArray) (p : Nat) (h : p < s.size) : s.data.toList.drop p = (s[p]'h) :: s.data.toList.drop (p + 1) := by
  have el : s.data.toList.length = s.size := by simp
  rw [List.drop_eq_getElem_cons (by omega)]; rfl
theorem cut_one (s : ByteArray) (p : Nat) (h : p < s.size) : s.extract p (p + 1) = B [s[p]'h] := by
  rw [B_cut, drop_cons s p h, show p + 1 - p = 1 by omega]; rfl
/-- How far a scan is: at p, behind these tokens. -/
def At (l : List UInt8) (p : Nat) (ts : List Tok) : Prop := lx 0 l = pre ts (lx p (l.drop p)) ∧ ts.length ≤ p
theorem At.start (l : List UInt8) : At l 0 [] := ⟨by rw [pre_nil]; rfl, by simp⟩
theorem At.blank {s : ByteArray} {p : Nat} {ts : List Tok} (h : At s.data.toList p ts) (hp : p < s.size) (hb : isBl (s[p]'hp) = true) : At s.data.toList (p + 1) ts :=
  ⟨by rw [h.1, drop_cons s p hp, lx_blank _ _ _ hb], by have := h.2; omega⟩
theorem At.sign {s : ByteArray} {p : Nat} {ts : List Tok} (h : At s.data.toList p ts) (hp : p < s.size) (hb : isSg (s[p]'hp) = true) : At s.data.toList (p + 1) (ts ++ [(4, [s[p]'hp], 0, (p : Int))]) :=
  ⟨by rw [h.1, drop_cons s p hp, lx_sign _ _ _ (sg_not hb).1 hb, pre_pre], by have := h.2; simp; omega⟩
theorem At.tok {s : ByteArray} {p m : Nat} {ts : List Tok} {x : List UInt8} {k n : Int} (h : At s.data.toList p ts) (hp : p < s.size) (hb : isBl (s[p]'hp) = false) (hg : isSg (s[p]'hp) = false)
    (hx : (s.data.toList.drop p).takeWhile isPt = x) (hm : x.length = m) (hd : (s.data.toList.drop p).dropWhile isPt = s.data.toList.drop (p + m)) (ht : tokOf x = some (k, n)) : At s.data.toList (p + m) (ts ++ [(k, x, n, (p : Int))]) := by
  have hm1 : 1 ≤ m := by
    have := tokOf_ne ht
    rcases x with _ | ⟨a, b⟩
    · exact absurd rfl this
    · simp at hm; omega
  refine ⟨?_, by have := h.2; simp; omega⟩
  rw [h.1]
  have e := drop_cons s p hp
  rw [e] at hx hd
  rw [e, lx_tok _ _ _ k n hb hg (by rw [hx]; exact ht), hx, hd, hm, pre_pre]
theorem At.bad {s : ByteArray} {p : Nat} {ts : List Tok} {x : List UInt8} (h : At s.data.toList p ts) (hp : p < s.size) (hb : isBl (s[p]'hp) = false) (hg : isSg (s[p]'hp) = false)
    (hx : (s.data.toList.drop p).takeWhile isPt = x) (ht : tokOf x = none) : lx 0 s.data.toList = .error p := by
  rw [h.1]
  have e := drop_cons s p hp
  rw [e] at hx
  rw [e, lx_bad _ _ _ hb hg (by rw [hx]; exact ht)]; rfl
theorem At.done {s : ByteArray} {ts : List Tok} (h : At s.data.toList s.size ts) : lx 0 s.data.toList = .ok (ts ++ [(5, [], 0, (s.size : Int))]) := by
  have el : s.data.toList.length = s.size := by simp
  rw [h.1, List.drop_of_length_le (by omega), lx_nil]; rfl
theorem TokPost.cases {l : List UInt8} {p : Int} {e : Ending} (h : TokPost l p e) : ∃ (t : Tok) (b : Bool), e = .returned (.tuple #[TK t, .bool b]) ∧ (b = true → ∃ k n, tokOf l = some (k, n) ∧ t = (k, l, n, p)) ∧ (b = false → tokOf l = none) := by
  rcases h with ⟨k, n, h, rfl⟩ | ⟨h, t, rfl⟩
  · exact ⟨_, true, rfl, (fun _ => ⟨k, n, h, rfl⟩), (fun h => by cases h)⟩
  · exact ⟨t, false, rfl, (fun h => by cases h), fun _ => h⟩
theorem run_to (s : ByteArray) (p : Nat) (hp : p ≤ s.size) : ∃ (e : Nat) (x : List UInt8), p ≤ e ∧ e ≤ s.size ∧ (∀ q (h : q < s.size), p ≤ q → q < e → isPt (s[q]'h) = true) ∧ (∀ h : e < s.size, isPt (s[e]'h) = false) ∧
    s.extract p e = B x ∧ (s.data.toList.drop p).takeWhile isPt = x ∧ p + x.length = e ∧ (s.data.toList.drop p).dropWhile isPt = s.data.toList.drop e := by
  obtain ⟨m, h1, h2, h3, h4, h5, h6⟩ := run_at s p hp
  refine ⟨p + m, _, by omega, h1, fun q h ha hb => ?_, h3, h4, rfl, by rw [h5], h6⟩
  have := h2 (q - p) (by omega) (by omega)
  simp only [show p + (q - p) = q by omega] at this
  exact this
theorem pt_ways {c : UInt8} (h : isPt c = true) : isL c = true ∨ (isL c = false ∧ isD c = true) ∨ (isL c = false ∧ isD c = false ∧ ((c.toNat : Int) == 46) = true) := by
  cases hl : isL c
  · cases hd : isD c
    · have : c = 46 := by simpa [isPt, hl, hd] using h
      subst this
      exact .inr (.inr ⟨rfl, rfl, rfl⟩)
    · exact .inr (.inl ⟨rfl, rfl⟩)
  · exact .inl rfl
theorem pt_none {c : UInt8} (h : isPt c = false) : isL c = false ∧ isD c = false ∧ ((c.toNat : Int) == 46) = false := by
  simp only [isPt, Bool.or_eq_false_iff] at h
  refine ⟨h.1.1, h.1.2, ?_⟩
  simp only [beq_eq_false_iff_ne, ne_eq] at h ⊢
  intro e
  exact h.2 (UInt8.toNat_inj.1 (by rw [show (46 : UInt8).toNat = 46 from rfl]; omega))
theorem byte_eq {c d : UInt8} (n : Int) (hd : (d.toNat : Int) = n) : ((c.toNat : Int) == n) = (c == d) := by
  apply Bool.eq_iff_iff.2
  simp only [beq_iff_eq]
  constructor
  · intro e; exact UInt8.toNat_inj.1 (by omega)
  · rintro rfl; exact hd
theorem bl_bytes (c : UInt8) : isBl c = (((c.toNat : Int) == 32) || ((c.toNat : Int) == 10)) := by
  rw [byte_eq (d := 32) 32 rfl, byte_eq (d := 10) 10 rfl]; rfl
theorem sg_bytes (c : UInt8) : isSg c = (((c.toNat : Int) == 40) || ((c.toNat : Int) == 41) || ((c.toNat : Int) == 44)) := by
  rw [byte_eq (d := 40) 40 rfl, byte_eq (d := 41) 41 rfl, byte_eq (d := 44) 44 rfl]; rfl
theorem ways (c : UInt8) :
    (isBl c = true ∧ ((c.toNat : Int) == 32) = true) ∨ (isBl c = true ∧ ((c.toNat : Int) == 32) = false ∧ ((c.toNat : Int) == 10) = true) ∨
    (isSg c = true ∧ ((c.toNat : Int) == 32) = false ∧ ((c.toNat : Int) == 10) = false ∧ ((c.toNat : Int) == 40) = true) ∨
    (isSg c = true ∧ ((c.toNat : Int) == 32) = false ∧ ((c.toNat : Int) == 10) = false ∧ ((c.toNat : Int) == 40) = false ∧ ((c.toNat : Int) == 41) = true) ∨
    (isSg c = true ∧ ((c.toNat : Int) == 32) = false ∧ ((c.toNat : Int) == 10) = false ∧ ((c.toNat : Int) == 40) = false ∧ ((c.toNat : Int) == 41) = false ∧ ((c.toNat : Int) == 44) = true) ∨
    ((isBl c = false ∧ isSg c = false) ∧ ((c.toNat : Int) == 32) = false ∧ ((c.toNat : Int) == 10) = false ∧ ((c.toNat : Int) == 40) = false ∧ ((c.toNat : Int) == 41) = false ∧ ((c.toNat : Int) == 44) = false) := by
  have h1 := bl_bytes c
  have h2 := sg_bytes c
  have h3 := fun h => (sg_not (c := c) h).1
  revert h1 h2 h3
  cases ((c.toNat : Int) == 32) <;> cases ((c.toNat : Int) == 10) <;> cases ((c.toNat : Int) == 40) <;> cases ((c.toNat : Int) == 41) <;> cases ((c.toNat : Int) == 44) <;> cases isBl c <;> cases isSg c <;> simp
end Go.Proofs.YtldopbkjchgcnaaDoor
