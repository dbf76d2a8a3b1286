/- Texts that are cut at a byte, and the numbers between blanks: plain mathematics. -/
import Derived.Test.YtjbbfcomgglhiaaDoorRecParse
import Derived.Lib.AtoiAllCases
namespace Go.Proofs.YtjbbfcomgglhiaaDoor
open Go.Lib
set_option linter.unusedVariables false
set_option linter.unusedSimpArgs false

def hd (c : UInt8) (l : List UInt8) : List UInt8 := l.takeWhile (· != c)
def tl (c : UInt8) (l : List UInt8) : List UInt8 := l.drop ((hd c l).length + 1)
theorem hd_no {c : UInt8} {l : List UInt8} (h : c ∉ l) : hd c l = l := by
  unfold hd
  induction l with
  | nil => rfl
  | cons b t ih =>
    have h1 : b ≠ c := fun e => h (by rw [e]; exact List.mem_cons_self ..)
    rw [List.takeWhile_cons_of_pos (by simpa using h1), ih (fun hh => h (List.mem_cons_of_mem _ hh))]
theorem hd_at {c : UInt8} {a t : List UInt8} (h : c ∉ a) : hd c (a ++ c :: t) = a := by
  unfold hd
  induction a with
  | nil => simp
  | cons b u ih =>
    have h1 : b ≠ c := fun e => h (by rw [e]; exact List.mem_cons_self ..)
    rw [List.cons_append, List.takeWhile_cons_of_pos (by simpa using h1), ih (fun hh => h (List.mem_cons_of_mem _ hh))]
theorem tl_at {c : UInt8} {a t : List UInt8} (h : c ∉ a) : tl c (a ++ c :: t) = t := by
  unfold tl
  rw [hd_at h, List.drop_append, List.drop_of_length_le (by omega), List.nil_append, show a.length + 1 - a.length = 1 by omega]
  rfl
theorem hd_le (c : UInt8) (l : List UInt8) : (hd c l).length ≤ l.length := by
  unfold hd
  induction l with
  | nil => exact Nat.le_refl _
  | cons b t ih =>
    rw [List.takeWhile_cons]
    split
    · simp only [List.length_cons]; omega
    · simp
theorem tl_no {c : UInt8} {l : List UInt8} (h : c ∉ l) : tl c l = [] := by
  unfold tl
  rw [hd_no h, List.drop_of_length_le (by omega)]
theorem part_at {c : UInt8} {l : List UInt8} (h : c ∈ l) : ∃ a t, c ∉ a ∧ l = a ++ c :: t := by
  induction l with
  | nil => cases h
  | cons b t ih =>
    by_cases hb : b = c
    · exact ⟨[], t, by simp, by rw [hb]; rfl⟩
    · have h' : c ∈ t := by
        rcases List.mem_cons.1 h with e | h'
        · exact absurd e.symm hb
        · exact h'
      obtain ⟨a, u, h1, h2⟩ := ih h'
      exact ⟨b :: a, u, fun hh => by
        rcases List.mem_cons.1 hh with e | hh
        · exact hb e.symm
        · exact h1 hh, by rw [h2]; rfl⟩
theorem idx_no {c : UInt8} {l : List UInt8} (h : c ∉ l) : indexByte l c = -1 := by
  induction l with
  | nil => rfl
  | cons b t ih =>
    have h1 : b ≠ c := fun e => h (by rw [e]; exact List.mem_cons_self ..)
    unfold indexByte
    rw [ih (fun hh => h (List.mem_cons_of_mem _ hh))]
    simp [h1]
theorem idx_at {c : UInt8} {a t : List UInt8} (h : c ∉ a) : indexByte (a ++ c :: t) c = a.length := by
  induction a with
  | nil => simp [indexByte]
  | cons b u ih =>
    have h1 : b ≠ c := fun e => h (by rw [e]; exact List.mem_cons_self ..)
    have h2 := ih (fun hh => h (List.mem_cons_of_mem _ hh))
    rw [List.cons_append]
    unfold indexByte
    rw [h2]
    have h3 : ((u.length : Int) == -1) = false := by rw [beq_eq_false_iff_ne]; omega
    simp [h1, h3]
/-- The parts between blanks. -/
def flds (l : List UInt8) : List (List UInt8) :=
  if h : 32 ∈ l then hd 32 l :: flds (tl 32 l) else [l]
termination_by l.length
decreasing_by
  obtain ⟨a, t, h1, h2⟩ := part_at h
  rw [h2, tl_at h1, List.length_append, List.length_cons]; omega
theorem flds_no {l : List UInt8} (h : 32 ∉ l) : flds l = [l] := by rw [flds, dif_neg h]
theorem flds_at {a t : List UInt8} (h : 32 ∉ a) : flds (a ++ 32 :: t) = a :: flds t := by
  rw [flds, dif_pos (by simp), hd_at h, tl_at h]
theorem flds_len (k : Nat) : ∀ l : List UInt8, l.length ≤ k → (flds l).length ≤ l.length + 1 ∧ 1 ≤ (flds l).length := by
  induction k with
  | zero =>
    intro l h
    rw [List.eq_nil_of_length_eq_zero (by omega : l.length = 0), flds_no (by simp)]
    exact ⟨Nat.le_refl _, Nat.le_refl _⟩
  | succ k ih =>
    intro l h
    by_cases hm : (32 : UInt8) ∈ l
    · obtain ⟨a, t, h1, h2⟩ := part_at hm
      rw [h2, List.length_append, List.length_cons] at h
      have := ih t (by omega)
      rw [h2, flds_at h1, List.length_append, List.length_cons, List.length_cons]
      omega
    · rw [flds_no hm]; simp
theorem flds_part (k : Nat) : ∀ l : List UInt8, l.length ≤ k → ∀ x ∈ flds l, x.length ≤ l.length := by
  induction k with
  | zero =>
    intro l h x hx
    rw [List.eq_nil_of_length_eq_zero (by omega : l.length = 0), flds_no (by simp)] at hx
    rw [List.mem_singleton.1 hx]; exact Nat.zero_le _
  | succ k ih =>
    intro l h x hx
    by_cases hm : (32 : UInt8) ∈ l
    · obtain ⟨a, t, h1, h2⟩ := part_at hm
      rw [h2, List.length_append, List.length_cons] at h
      rw [h2, flds_at h1] at hx
      rw [h2, List.length_append, List.length_cons]
      rcases List.mem_cons.1 hx with rfl | hx
      · omega
      · have := ih t (by omega) x hx
        omega
    · rw [flds_no hm] at hx
      rw [List.mem_singleton.1 hx]; exact Nat.le_refl _
theorem no32 {n : Int} : (32 : UInt8) ∉ itoa n := fun h => (noSep_itoa n 32 h).1 rfl
theorem no58 {n : Int} : (58 : UInt8) ∉ itoa n := fun h => (noSep_itoa n 58 h).2 rfl
theorem no58_nums (k : Int) (xs : List Int) : (58 : UInt8) ∉ itoa k ++ frNums xs := by
  induction xs generalizing k with
  | nil => simpa [frNums] using no58
  | cons x t ih =>
    intro h
    rcases List.mem_append.1 h with h | h
    · exact no58 h
    · simp only [frNums] at h
      rcases List.mem_cons.1 h with e | h
      · exact absurd e (by decide)
      · exact ih x h
theorem flds_nums (k : Int) (xs : List Int) : flds (itoa k ++ frNums xs) = itoa k :: xs.map itoa := by
  induction xs generalizing k with
  | nil => rw [show frNums [] = [] from rfl, List.append_nil, flds_no no32]; rfl
  | cons x t ih => rw [show frNums (x :: t) = 32 :: (itoa x ++ frNums t) from rfl, flds_at no32, ih]; rfl
theorem body_parts (k : Int) (xs : List Int) (t : List UInt8) : hd 58 (frBody (k, xs, t)) = itoa k ++ frNums xs ∧ tl 58 (frBody (k, xs, t)) = t := by
  unfold frBody
  simp only
  rw [← List.append_assoc]
  exact ⟨hd_at (no58_nums k xs), tl_at (no58_nums k xs)⟩
/-- A numeral is read. -/
theorem pu_val {l : List UInt8} (h : allD l = true) {n : Nat} (hv : val l n < 1844674407370955162) : parseUint10 n l = .ok (val l n).toNat := by
  induction l generalizing n with
  | nil => simp [parseUint10, val]
  | cons c t ih =>
    rw [allD_cons, Bool.and_eq_true] at h
    have hc := isD_iff.1 h.1
    simp only [val] at hv ⊢
    have hg := val_ge h.2 (n := (n : Int) * 10 + ((c.toNat : Int) - 48)) (by omega)
    have e : (n : Int) * 10 + ((c.toNat : Int) - 48) = ((n * 10 + (c.toNat - 48) : Nat) : Int) := by omega
    rw [e] at hv hg ⊢
    unfold parseUint10
    rw [if_pos hc, if_neg (by omega), if_neg (by omega), ih h.2 hv]
theorem mag_dd {u : Nat} (hu : u < 1844674407370955162) : parseMag (decDigits u) = .ok u := by
  obtain ⟨h1, h2, _, h4⟩ := dd_all u
  have hne : decDigits u ≠ [] := fun e => by rw [e] at h4; cases h4
  unfold parseMag
  rw [if_neg hne, pu_val h1 (n := 0) (by rw [show ((0 : Nat) : Int) = 0 from rfl, h2]; omega), show ((0 : Nat) : Int) = 0 from rfl, h2]
  rfl
theorem atoi_itoa {n : Int} (h0 : -1125899906842624 ≤ n) (h1 : n ≤ 1125899906842624) : atoiAll (itoa n) = .ok n := by
  unfold itoa
  split
  · rw [atoiAll_minus, mag_dd (by omega)]
    unfold signed
    simp only
    rw [if_neg (by omega)]
    congr 1; omega
  · have hd := dd_all n.toNat
    cases he : decDigits n.toNat with
    | nil => rw [he] at hd; cases hd.2.2.2
    | cons c r =>
      have hc := hd.1
      rw [he, allD_cons, Bool.and_eq_true] at hc
      have hc' := isD_iff.1 hc.1
      rw [atoiAll_plain c r (by omega) (by omega), ← he, mag_dd (by omega)]
      unfold signless
      simp only
      rw [if_neg (by omega)]
      congr 1; omega
/-- What was read, part by part. -/
def Red (pre : List (List UInt8)) (ns : List Int) : Prop := pre.map atoiAll = ns.map NumEnd.ok
theorem Red.nil : Red [] [] := rfl
theorem Red.more {pre : List (List UInt8)} {ns : List Int} {x : List UInt8} {n : Int} (h : Red pre ns) (hx : atoiAll x = .ok n) : Red (pre ++ [x]) (ns ++ [n]) := by
  unfold Red at h ⊢
  rw [List.map_append, List.map_append, h]
  simp [hx]
theorem Red.len {pre : List (List UInt8)} {ns : List Int} (h : Red pre ns) : ns.length = pre.length := by
  have := congrArg List.length h
  simpa using this.symm
/-- Where a part is no number, the body is no record's. -/
theorem red_no {b : List UInt8} {x : List UInt8} (hx : x ∈ flds (hd 58 b)) (hn : ∀ v, atoiAll x ≠ .ok v) (r : Int × List Int × List UInt8) (hr : frRight r) : frBody r ≠ b := by
  rintro rfl
  obtain ⟨k, xs, t⟩ := r
  obtain ⟨h1, h2, _, h4, _⟩ := hr
  rw [(body_parts k xs t).1, flds_nums] at hx
  simp only at h1 h2 h4
  rcases List.mem_cons.1 hx with rfl | hx
  · exact hn k (atoi_itoa (by omega) (by omega))
  · obtain ⟨n, hn1, rfl⟩ := List.mem_map.1 hx
    obtain ⟨g1, g2⟩ := h4 n hn1
    exact hn n (atoi_itoa g1 g2)
theorem red_yes {b : List UInt8} {K : Int} {xs : List Int} (hx : Red (flds (hd 58 b)) (K :: xs)) (r : Int × List Int × List UInt8) (hr : frRight r) (hb : frBody r = b) : (K, xs, tl 58 b) = r := by
  subst hb
  obtain ⟨k, ys, t⟩ := r
  obtain ⟨h1, h2, _, h4, _⟩ := hr
  simp only at h1 h2 h4
  rw [(body_parts k ys t).1, flds_nums] at hx
  rw [(body_parts k ys t).2]
  unfold Red at hx
  rw [List.map_cons, List.map_cons, atoi_itoa (by omega) (by omega)] at hx
  obtain ⟨e1, e2⟩ := List.cons.inj hx
  injection e1 with e1
  have key : ∀ (ys xs : List Int), (∀ n ∈ ys, -1125899906842624 ≤ n ∧ n ≤ 1125899906842624) → (ys.map itoa).map atoiAll = xs.map NumEnd.ok → ys = xs := by
    intro ys
    induction ys with
    | nil =>
      intro xs _ h
      cases xs with
      | nil => rfl
      | cons => cases h
    | cons y t ih =>
      intro xs hb h
      cases xs with
      | nil => cases h
      | cons x u =>
        have hy := hb y (List.mem_cons_self ..)
        rw [List.map_cons, List.map_cons, List.map_cons, atoi_itoa hy.1 hy.2] at h
        obtain ⟨e1, e2⟩ := List.cons.inj h
        injection e1 with e1
        rw [e1, ih u (fun n hn => hb n (List.mem_cons_of_mem _ hn)) e2]
  rw [e1, key ys xs h4 e2]
end Go.Proofs.YtjbbfcomgglhiaaDoor
