/- Plain mathematics of layer 2, second part: amounts' texts, and what of a text is an amount. No program in this text. -/
import Derived.Test.YtlflfffjaodhpaaDoorDecMath
import Derived.Lib.CutLaws
import Derived.Lib.IndexBytes
namespace Go.Proofs.YtlflfffjaodhpaaDoor
open Go.Lib
set_option linter.unusedVariables false
set_option linter.unusedSimpArgs false

def rt (a : Int) : Bool := decide (-1000000000000 ≤ a ∧ a ≤ 1000000000000)
theorem rt_yes {a : Int} (h : -1000000000000 ≤ a) (h' : a ≤ 1000000000000) : rt a = true := by simp [rt, h, h']
theorem rt_no {a : Int} (h : a < -1000000000000 ∨ 1000000000000 < a) : rt a = false := by simp [rt]; omega
theorem rt_iff {a : Int} : rt a = true ↔ -1000000000000 ≤ a ∧ a ≤ 1000000000000 := by simp [rt]
def pos (m : Nat) : List UInt8 := decDigits (m / 100) ++ ([46] ++ (decDigits (m / 10 % 10) ++ decDigits (m % 10)))
def txt (a : Int) : List UInt8 := if rt a then (if a < 0 then 45 :: pos a.natAbs else pos a.natAbs) else []
def negL (l : List UInt8) : Bool := l.head? == some 45
def body (l : List UInt8) : List UInt8 := if negL l then l.tail else l
def fin (neg : Bool) (m : Int) : Option Int := if 1000000000000 < m ∨ (neg = true ∧ m = 0) then none else some (if neg then -m else m)
def last3 (t : List UInt8) : Option (List UInt8 × UInt8 × UInt8) := match t.reverse with
  | d :: c :: e :: r => if e == 46 then some (r.reverse, c, d) else none
  | _ => none
def two (c d : UInt8) : Int := ((c.toNat : Int) - 48) * 10 + ((d.toNat : Int) - 48)
def prs (l : List UInt8) : Option Int := match last3 (body l) with
  | some (x, c, d) => if decide (0 ≤ cnt x 10000000000) && (isD c && isD d) then fin (negL l) (cnt x 10000000000 * 100 + two c d) else none
  | none => none
def prs1 (l : List UInt8) : Int := (prs l).getD 0
def prs2 (l : List UInt8) : Int := if (prs l).isSome then 0 else 20
def pair (l : List UInt8) : Int := if l.length = 2 then digs 99 l 0 else -1

theorem last3_mk (x : List UInt8) (c d : UInt8) : last3 (x ++ [46, c, d]) = some (x, c, d) := by
  unfold last3
  simp
theorem last3_of {t x : List UInt8} {c d : UInt8} (h : last3 t = some (x, c, d)) : t = x ++ [46, c, d] := by
  unfold last3 at h
  split at h
  · rename_i d' c' e' r heq
    split at h
    · rename_i he
      simp only [Option.some.injEq, Prod.mk.injEq] at h
      obtain ⟨rfl, rfl, rfl⟩ := h
      have := congrArg List.reverse heq
      rw [List.reverse_reverse] at this
      rw [this]
      have : e' = 46 := by simpa using he
      simp [this]
    · cases h
  · cases h
theorem cnt_ne {x : List UInt8} {m : Int} (h : 0 ≤ cnt x m) : x ≠ [] := by
  rintro rfl
  simp [cnt, cano] at h
theorem cnt_allD {x : List UInt8} {m : Int} (h : 0 ≤ cnt x m) : allD x = true := by
  cases e : allD x
  · rw [cnt_not e] at h; omega
  · rfl
theorem prs_mk {l x : List UInt8} {c d : UInt8} (h : body l = x ++ [46, c, d]) : prs l = if decide (0 ≤ cnt x 10000000000) && (isD c && isD d) then fin (negL l) (cnt x 10000000000 * 100 + two c d) else none := by
  unfold prs
  rw [h, last3_mk]
theorem prs_no {l : List UInt8} (h : last3 (body l) = none) : prs l = none := by
  unfold prs
  rw [h]
theorem two_bd {c d : UInt8} (hc : isD c = true) (hd : isD d = true) : 0 ≤ two c d ∧ two c d ≤ 99 := by
  have := isD_iff.1 hc; have := isD_iff.1 hd; unfold two; omega
theorem not_mem_of_allD {l : List UInt8} (h : allD l = true) : (46 : UInt8) ∉ l := fun hm => by
  unfold allD at h
  have := List.all_eq_true.1 h 46 hm
  simp [isD] at this

theorem pair_two (c d : UInt8) : pair [c, d] = if isD c && isD d then two c d else -1 := by
  unfold pair
  rw [if_pos (show [c, d].length = 2 from rfl), digs_eq _ _ _ (by omega)]
  simp only [allD, List.all_cons, List.all_nil, Bool.and_true, List.isEmpty_cons, Bool.false_or, val]
  cases hc : isD c
  · simp
  · cases hd : isD d
    · simp
    · have := two_bd hc hd
      unfold two at this ⊢
      rw [if_pos (by simp; omega)]
      simp
theorem pair_no {l : List UInt8} (h : l.length ≠ 2) : pair l = -1 := by unfold pair; rw [if_neg h]
theorem pair_bd (l : List UInt8) : -1 ≤ pair l ∧ pair l ≤ 99 := by
  unfold pair
  split
  · have := digs_bd 99 l 0 (by omega) (.inl (by omega)) (by omega); omega
  · omega
theorem cut46 (t : List UInt8) : (∃ x y, t = x ++ 46 :: y ∧ 46 ∉ x ∧ (cut t [46]).1 = x ∧ (cut t [46]).2.1 = y) ∨ (46 ∉ t ∧ (cut t [46]).2.1 = []) := by
  have key : ∀ t : List UInt8, (∃ (x y : List UInt8), t = x ++ 46 :: y ∧ 46 ∉ x ∧ indexByte t 46 = x.length) ∨ (46 ∉ t ∧ indexByte t 46 = -1) := by
    intro t
    induction t with
    | nil => right; exact ⟨by simp, rfl⟩
    | cons b t ih =>
      by_cases hb : b = 46
      · left
        refine ⟨[], t, by rw [hb]; rfl, by simp, ?_⟩
        simp [indexByte, hb]
      · rcases ih with ⟨x, y, rfl, hx, hi⟩ | ⟨hn, hi⟩
        · left
          refine ⟨b :: x, y, rfl, by simp [hx, Ne.symm hb], ?_⟩
          unfold indexByte
          rw [if_neg (by simpa using hb), hi, if_neg (by simp)]
          simp
        · right
          refine ⟨by simp [hn, Ne.symm hb], ?_⟩
          unfold indexByte
          rw [if_neg (by simpa using hb), hi]
          rfl
  unfold cut
  rw [index_one]
  rcases key t with ⟨x, y, rfl, hx, hi⟩ | ⟨hn, hi⟩
  · left
    refine ⟨x, y, rfl, hx, ?_, ?_⟩
    · rw [hi, if_pos (by omega)]; simp
    · rw [hi, if_pos (by omega)]; simp
  · right
    refine ⟨hn, ?_⟩
    rw [hi, if_neg (by omega)]
/-- What the program's Parse answers, case by case. -/
theorem prog_no {l : List UInt8} (h : cnt (cut (body l) [46]).1 10000000000 < 0 ∨ pair (cut (body l) [46]).2.1 < 0) : prs l = none := by
  cases e : last3 (body l) with
  | none => exact prs_no e
  | some p =>
    obtain ⟨x, c, d⟩ := p
    have ht := last3_of e
    rw [prs_mk ht]
    split
    · rename_i hh
      exfalso
      simp only [Bool.and_eq_true, decide_eq_true_eq] at hh
      have hx : (46 : UInt8) ∉ x := not_mem_of_allD (cnt_allD hh.1)
      rcases cut46 (body l) with ⟨x', y', ht', hx', e1, e2⟩ | ⟨hn, _⟩
      · rw [e1, e2] at h
        rw [ht] at ht'
        have hx2 : x = x' ∧ [c, d] = y' := by
          clear h hh ht e e1 e2
          revert x'
          induction x with
          | nil =>
            intro x' ht' hx'
            cases x' with
            | nil => simpa using ht'
            | cons b x' => simp at ht'; exact absurd (by simp [ht'.1]) hx'
          | cons b x ih =>
            intro x' ht' hx'
            cases x' with
            | nil => simp at ht'; exact absurd (by simp [ht'.1]) hx
            | cons b' x' =>
              simp only [List.cons_append, List.cons.injEq] at ht'
              have := ih (fun hm => hx (by simp [hm])) x' ht'.2 (fun hm => hx' (by simp [hm]))
              exact ⟨by rw [ht'.1, this.1], this.2⟩
        obtain ⟨rfl, rfl⟩ := hx2
        rw [pair_two, hh.2.1, hh.2.2] at h
        have := two_bd hh.2.1 hh.2.2
        simp at h
        omega
      · exact hn (by rw [ht]; simp)
    · rfl
theorem prog_yes {l : List UInt8} (h1 : 0 ≤ cnt (cut (body l) [46]).1 10000000000) (h2 : 0 ≤ pair (cut (body l) [46]).2.1) :
    prs l = fin (negL l) (cnt (cut (body l) [46]).1 10000000000 * 100 + pair (cut (body l) [46]).2.1) := by
  rcases cut46 (body l) with ⟨x, y, ht, hx, e1, e2⟩ | ⟨hn, e2⟩
  · rw [e1] at h1 ⊢
    rw [e2] at h2 ⊢
    have hl : y.length = 2 := by
      by_cases hl : y.length = 2
      · exact hl
      · rw [pair_no hl] at h2; omega
    match y, hl with
    | [c, d], _ =>
      rw [pair_two] at h2 ⊢
      split at h2
      · rename_i hcd
        rw [if_pos hcd, prs_mk ht, if_pos (by rw [hcd]; simpa using h1)]
      · omega
  · rw [e2, pair_no (by simp)] at h2; omega

theorem ofD {c : UInt8} (h : isD c = true) : decDigits (((c.toNat : Int) - 48).toNat) = [c] := by
  have := isD_iff.1 h
  rw [decDigits_one (by omega), show 48 + ((c.toNat : Int) - 48).toNat = c.toNat by omega]
  simp
theorem pos_of {x : List UInt8} {c d : UInt8} (hx : 0 ≤ cnt x 10000000000) (hc : isD c = true) (hd : isD d = true) : pos (cnt x 10000000000 * 100 + two c d).toNat = x ++ [46, c, d] := by
  have hb := cnt_bd x 10000000000
  have h1 := isD_iff.1 hc; have h2 := isD_iff.1 hd
  unfold pos two
  generalize hw : cnt x 10000000000 = w at *
  have e1 : (w * 100 + (((c.toNat : Int) - 48) * 10 + ((d.toNat : Int) - 48))).toNat / 100 = w.toNat := by omega
  have e2 : (w * 100 + (((c.toNat : Int) - 48) * 10 + ((d.toNat : Int) - 48))).toNat / 10 % 10 = ((c.toNat : Int) - 48).toNat := by omega
  have e3 : (w * 100 + (((c.toNat : Int) - 48) * 10 + ((d.toNat : Int) - 48))).toNat % 10 = ((d.toNat : Int) - 48).toNat := by omega
  rw [e1, e2, e3, ofD hc, ofD hd]
  have hi : itoa (cnt x 10000000000) = x := dd_of_cnt (by rw [hw]; exact hx)
  rw [hw] at hi
  unfold itoa at hi
  rw [if_neg (by omega)] at hi
  rw [hi]
  rfl
theorem of_body {l : List UInt8} (h : negL l = true) : l = 45 :: body l := by
  unfold body; rw [h]
  unfold negL at h
  cases l with
  | nil => simp at h
  | cons b t => simp at h; simp [h]
theorem of_body' {l : List UInt8} (h : negL l = false) : l = body l := by unfold body; rw [h]; rfl
theorem txt_of_prs {l : List UInt8} {a : Int} (h : prs l = some a) : rt a = true ∧ txt a = l := by
  cases e : last3 (body l) with
  | none => rw [prs_no e] at h; cases h
  | some p =>
    obtain ⟨x, c, d⟩ := p
    have ht := last3_of e
    rw [prs_mk ht] at h
    split at h
    · rename_i hh
      simp only [Bool.and_eq_true, decide_eq_true_eq] at hh
      have hb := cnt_bd x 10000000000
      have h2 := two_bd hh.2.1 hh.2.2
      have hp := pos_of hh.1 hh.2.1 hh.2.2
      generalize hm : cnt x 10000000000 * 100 + two c d = m at *
      unfold fin at h
      split at h
      · cases h
      · rename_i hn
        simp only [Option.some.injEq] at h
        cases hg : negL l
        · rw [hg] at h; simp at h
          subst h
          have hr : rt m = true := rt_yes (by omega) (by omega)
          refine ⟨hr, ?_⟩
          unfold txt
          rw [hr, if_pos rfl, if_neg (by omega), show m.natAbs = m.toNat by omega, hp, ← ht, ← of_body' hg]
        · rw [hg] at h hn; simp at h hn
          subst h
          have hr : rt (-m) = true := rt_yes (by omega) (by omega)
          refine ⟨hr, ?_⟩
          unfold txt
          rw [hr, if_pos rfl, if_pos (by omega), show (-m).natAbs = m.toNat by omega, hp, ← ht, ← of_body hg]
    · cases h
theorem dd_head (u : Nat) : (decDigits u).head? ≠ some 45 := by
  obtain ⟨a, _, _, d⟩ := dd_all u
  cases e : decDigits u with
  | nil => simp
  | cons c t =>
    rw [e] at a
    rw [allD_cons, Bool.and_eq_true] at a
    have := isD_iff.1 a.1
    simp
    intro h
    rw [h] at this
    simp at this
theorem pos_eq (m : Nat) : pos m = decDigits (m / 100) ++ [46, UInt8.ofNat (48 + m / 10 % 10), UInt8.ofNat (48 + m % 10)] := by
  unfold pos
  rw [decDigits_one (show m / 10 % 10 < 10 by omega), decDigits_one (show m % 10 < 10 by omega)]
  rfl
theorem pos_head (m : Nat) : (pos m).head? ≠ some 45 := by
  have h := dd_head (m / 100)
  have he := (dd_all (m / 100)).2.2.2
  rw [pos_eq]
  cases e : decDigits (m / 100) with
  | nil => rw [e] at he; cases he
  | cons c t => rw [e] at h; simpa using h
theorem prs_pos (m : Nat) (l : List UInt8) (hl : body l = pos m) (hm : m ≤ 1000000000000) : prs l = fin (negL l) m := by
  rw [pos_eq] at hl
  have h1 : isD (UInt8.ofNat (48 + m / 10 % 10)) = true := isD_iff.2 (by rw [of48 (by omega)]; omega)
  have h2 : isD (UInt8.ofNat (48 + m % 10)) = true := isD_iff.2 (by rw [of48 (by omega)]; omega)
  rw [prs_mk hl, cnt_dd, if_pos (show ((m / 100 : Nat) : Int) ≤ min 10000000000 1000000000000 by omega), if_pos (by simp only [h1, h2, Bool.and_true, decide_eq_true_eq]; omega)]
  unfold two
  rw [of48 (show m / 10 % 10 < 10 by omega), of48 (show m % 10 < 10 by omega)]
  congr 1
  omega
theorem prs_txt {a : Int} (h : rt a = true) : prs (txt a) = some a := by
  have hb := rt_iff.1 h
  unfold txt
  rw [h, if_pos rfl]
  by_cases ha : a < 0
  · rw [if_pos ha, prs_pos a.natAbs _ (by simp [body, negL]) (by omega)]
    unfold fin
    rw [show negL (45 :: pos a.natAbs) = true from rfl, if_neg (by omega)]
    simp; omega
  · have hn : negL (pos a.natAbs) = false := by unfold negL; simpa using pos_head a.natAbs
    rw [if_neg ha, prs_pos a.natAbs _ (by unfold body; rw [hn]; rfl) (by omega)]
    unfold fin
    rw [hn, if_neg (by simp; omega)]
    simp; omega
theorem prs1_txt {a : Int} (h : rt a = true) : prs1 (txt a) = a := by unfold prs1; rw [prs_txt h]; rfl
theorem prs2_txt {a : Int} (h : rt a = true) : prs2 (txt a) = 0 := by unfold prs2; rw [prs_txt h]; rfl
theorem txt_inj {a b : Int} (ha : rt a = true) (hb : rt b = true) (h : txt a = txt b) : a = b := by
  have := prs_txt ha
  rw [h, prs_txt hb] at this
  exact (Option.some.inj this).symm
/-- The document's own answer: where the parts are right, the text of the amount decides. -/
theorem ref_yes {l x : List UInt8} {c d : UInt8} (ht : body l = x ++ [46, c, d]) (hx : 0 ≤ cnt x 10000000000) (hc : isD c = true) (hd : isD d = true) :
    prs l = if txt ((if negL l then -1 else 1) * (cnt x 10000000000 * 100 + two c d)) = l then some ((if negL l then -1 else 1) * (cnt x 10000000000 * 100 + two c d)) else none := by
  have e : prs l = fin (negL l) (cnt x 10000000000 * 100 + two c d) := by rw [prs_mk ht, if_pos (by simp [hx, hc, hd])]
  have hsign : ∀ m : Int, (if negL l then -m else m) = (if negL l then -1 else 1) * m := by intro m; cases negL l <;> simp
  generalize hm : cnt x 10000000000 * 100 + two c d = m at *
  generalize hA : (if negL l then -1 else 1) * m = A at *
  cases hp : prs l with
  | some a =>
    have h1 := (txt_of_prs hp).2
    rw [hp] at e
    unfold fin at e
    split at e
    · cases e
    · rw [hsign, hA] at e
      obtain rfl := Option.some.inj e
      rw [if_pos h1]
  | none =>
    rw [if_neg]
    intro h
    cases hr : rt A
    · unfold txt at h
      rw [hr] at h
      have hl : l = [] := h.symm
      subst hl
      simp [body, negL] at ht
    · have := prs_txt hr
      rw [h, hp] at this
      cases this
theorem ref_no {l x : List UInt8} {c d : UInt8} (ht : body l = x ++ [46, c, d]) (h : cnt x 10000000000 < 0 ∨ isD c = false ∨ isD d = false) : prs l = none := by
  rw [prs_mk ht]
  rw [if_neg]
  simp only [Bool.and_eq_true, decide_eq_true_eq]
  rintro ⟨a, b, c⟩
  rcases h with h | h | h
  · omega
  · rw [h] at b; cases b
  · rw [h] at c; cases c
theorem ref_short {l : List UInt8} (h : (body l).length < 4) : prs l = none := by
  cases e : last3 (body l) with
  | none => exact prs_no e
  | some p =>
    obtain ⟨x, c, d⟩ := p
    have ht := last3_of e
    rw [ht] at h
    have hx : x = [] := by
      cases x with
      | nil => rfl
      | cons => simp at h; omega
    exact ref_no ht (.inl (by rw [hx]; simp [cnt, cano]))
theorem ref_dot {l : List UInt8} (h : 4 ≤ (body l).length) (h' : (body l)[(body l).length - 3]? ≠ some 46) : prs l = none := by
  cases e : last3 (body l) with
  | none => exact prs_no e
  | some p =>
    obtain ⟨x, c, d⟩ := p
    have ht := last3_of e
    exfalso
    apply h'
    rw [ht]
    simp
theorem ref_parts {t : List UInt8} (h : 4 ≤ t.length) (h' : t[t.length - 3]? = some 46) : ∃ c d, t = t.take (t.length - 3) ++ [46, c, d] ∧ t[t.length - 2]? = some c ∧ t[t.length - 1]? = some d := by
  have h2 : t.length - 2 < t.length := by omega
  have h1 : t.length - 1 < t.length := by omega
  have h3 : t.length - 3 < t.length := by omega
  refine ⟨t[t.length - 2], t[t.length - 1], ?_, List.getElem?_eq_getElem h2, List.getElem?_eq_getElem h1⟩
  have e3 : t[t.length - 3] = 46 := by rw [List.getElem?_eq_getElem h3] at h'; exact Option.some.inj h'
  have d3 := List.drop_eq_getElem_cons h3
  have d2 := List.drop_eq_getElem_cons h2
  have d1 := List.drop_eq_getElem_cons h1
  rw [show t.length - 3 + 1 = t.length - 2 by omega, e3, d2, show t.length - 2 + 1 = t.length - 1 by omega, d1, show t.length - 1 + 1 = t.length by omega, List.drop_length] at d3
  have := List.take_append_drop (t.length - 3) t
  rw [d3] at this
  exact this.symm
end Go.Proofs.YtlflfffjaodhpaaDoor
