/- A record's body, read from the left: plain mathematics. -/
import Derived.Test.YtjbbfcomgglhiaaDoorRecNum
namespace Go.Proofs.YtjbbfcomgglhiaaDoor
open Go.Lib
set_option linter.unusedVariables false
set_option linter.unusedSimpArgs false

/-- What was read of a body: the kind and the numbers, and a blank. -/
def pfx (K : Int) (xs : List Int) (s : List UInt8) : List UInt8 := itoa K ++ (frNums xs ++ 32 :: s)
theorem frNums_app (xs ys : List Int) : frNums (xs ++ ys) = frNums xs ++ frNums ys := by
  induction xs with
  | nil => rfl
  | cons n t ih => simp only [List.cons_append, frNums, ih, List.append_assoc]
theorem pfx_more (K : Int) (xs : List Int) (x : Int) (s : List UInt8) : pfx K xs (itoa x ++ 32 :: s) = pfx K (xs ++ [x]) s := by
  unfold pfx; rw [frNums_app]; simp [frNums, List.append_assoc]
theorem pfx_body (K : Int) (xs : List Int) (x : Int) (t : List UInt8) : pfx K xs (itoa x ++ 58 :: t) = frBody (K, xs ++ [x], t) := by
  unfold pfx frBody; simp only; rw [frNums_app]; simp [frNums, List.append_assoc]
theorem pfx_first {K : Int} {s : List UInt8} {k : Int} {ys : List Int} {t : List UInt8} (h : itoa K ++ 32 :: s = frBody (k, ys, t)) : K = k ∧ ∃ x u, ys = x :: u ∧ s = frBody (x, u, t) := by
  unfold frBody at h
  simp only at h
  obtain ⟨c, v, hv, hc⟩ := frNums_head ys t
  rw [hv] at h
  obtain ⟨e1, e2, e3⟩ := parted_sep (noSep_itoa K) (noSep_itoa k) (.inl rfl) hc h
  refine ⟨itoa_inj e1, ?_⟩
  cases ys with
  | nil =>
    rw [← e2] at hv
    exact absurd (List.cons.inj hv).1 (by decide)
  | cons x u =>
    refine ⟨x, u, rfl, ?_⟩
    have := (List.cons.inj hv).2
    rw [e3, ← this]
    simp [frBody, List.append_assoc]
/-- Whatever body begins so goes on with a number of that very record. -/
theorem pfx_sub {K : Int} {xs : List Int} {s : List UInt8} {k : Int} {ys : List Int} {t : List UInt8} (h : pfx K xs s = frBody (k, ys, t)) : ∃ x u, x ∈ ys ∧ s = frBody (x, u, t) := by
  induction xs generalizing K k ys with
  | nil =>
    obtain ⟨_, x, u, e1, e2⟩ := pfx_first (K := K) (s := s) h
    exact ⟨x, u, by rw [e1]; exact List.mem_cons_self .., e2⟩
  | cons y l ih =>
    have h' : itoa K ++ 32 :: pfx y l s = frBody (k, ys, t) := by
      rw [← h]; simp [pfx, frNums, List.append_assoc]
    obtain ⟨_, x, u, e1, e2⟩ := pfx_first h'
    obtain ⟨x', u', h1, h2⟩ := ih e2
    exact ⟨x', u', by rw [e1]; exact List.mem_cons_of_mem _ h1, h2⟩
theorem frBody_sep {x : Int} {u : List Int} {t : List UInt8} : ¬ noSep (frBody (x, u, t)) := by
  intro h
  have := (h 58 (by simp [frBody])).2
  exact this rfl
theorem frBody_tok {x : Int} {u : List Int} {t tok s : List UInt8} {c : UInt8} (h : tok ++ c :: s = frBody (x, u, t)) (hs : noSep tok) (hc : c = 32 ∨ c = 58) : tok = itoa x := by
  unfold frBody at h
  simp only at h
  obtain ⟨d, v, hv, hd⟩ := frNums_head u t
  rw [hv] at h
  exact (parted_sep hs (noSep_itoa x) hc hd h).1
theorem itoa_short {x : Int} (h1 : -1125899906842624 ≤ x) (h2 : x ≤ 1125899906842624) : (itoa x).length < 18 := by
  have e : 10 ^ 16 = 10000000000000000 := by decide
  have hd : ∀ u : Nat, u ≤ 1125899906842624 → (decDigits u).length ≤ 16 := fun u hu => nd_le 16 u (by rw [e]; omega) (by omega)
  unfold itoa
  split
  · have := hd x.natAbs (by omega)
    simp only [List.length_cons]; omega
  · have := hd x.toNat (by omega)
    omega
/-- Is it the body of a right record: none, if what is left to be read has no part of one. -/
def NoBody (b : List UInt8) : Prop := ∀ r, frRight r → frBody r ≠ b
/-- Where a reading stands: at the very beginning, or behind a blank. -/
def At (b : List UInt8) (first : Bool) (K : Int) (xs : List Int) (s : List UInt8) : Prop := if first = true then b = s ∧ K = 0 ∧ xs = [] else b = pfx K xs s
theorem At.sub {b : List UInt8} {first : Bool} {K : Int} {xs : List Int} {s : List UInt8} (h : At b first K xs s) {r : Int × List Int × List UInt8} (hr : frRight r) (he : frBody r = b) :
    ∃ x u, (itoa x).length < 18 ∧ s = frBody (x, u, r.2.2) := by
  obtain ⟨h1, h2, h3, h4, h5⟩ := hr
  unfold At at h
  split at h
  · exact ⟨r.1, r.2.1, itoa_short (by omega) (by omega), by rw [← h.1, he]⟩
  · obtain ⟨x, u, hx, hs⟩ := pfx_sub (K := K) (xs := xs) (s := s) (k := r.1) (ys := r.2.1) (t := r.2.2) (by rw [← h, ← he])
    have := h4 x hx
    exact ⟨x, u, itoa_short (by omega) (by omega), hs⟩
theorem At.bad {b : List UInt8} {first : Bool} {K : Int} {xs : List Int} {tok s : List UInt8} {c : UInt8} (h : At b first K xs (tok ++ c :: s)) (hs : noSep tok) (hc : c = 32 ∨ c = 58) (hn : nuB tok = false) : NoBody b := by
  intro r hr he
  obtain ⟨x, u, hx, e⟩ := h.sub hr he
  exact nuB_no hn x hx (frBody_tok e hs hc).symm
theorem At.ended {b : List UInt8} {first : Bool} {K : Int} {xs : List Int} {s : List UInt8} (h : At b first K xs s) (hs : noSep s) : NoBody b := by
  intro r hr he
  obtain ⟨x, u, hx, e⟩ := h.sub hr he
  rw [e] at hs
  exact frBody_sep hs
/-- The kind and the numbers behind one token more. -/
def nxK (first : Bool) (K n : Int) : Int := if first then n else K
def nxX (first : Bool) (xs : List Int) (n : Int) : List Int := if first then xs else xs ++ [n]
theorem At.blank {b : List UInt8} {first : Bool} {K : Int} {xs : List Int} {tok s : List UInt8} (h : At b first K xs (tok ++ 32 :: s)) {n : Int} (hn : itoa n = tok) : At b false (nxK first K n) (nxX first xs n) s := by
  unfold At at h ⊢
  subst hn
  cases first
  · simp only [Bool.false_eq_true, if_false] at h ⊢
    rw [h, pfx_more]; rfl
  · simp only [if_true, Bool.false_eq_true, if_false] at h ⊢
    rw [h.1, h.2.2]
    simp [pfx, frNums, nxK, nxX]
theorem At.colon {b : List UInt8} {first : Bool} {K : Int} {xs : List Int} {tok s : List UInt8} (h : At b first K xs (tok ++ 58 :: s)) {n : Int} (hn : itoa n = tok) : b = frBody (nxK first K n, nxX first xs n, s) := by
  unfold At at h
  subst hn
  cases first
  · simp only [Bool.false_eq_true, if_false] at h
    rw [h, pfx_body]; rfl
  · simp only [if_true] at h
    rw [h.1, h.2.2]
    simp [frBody, frNums, nxK, nxX]
end Go.Proofs.YtjbbfcomgglhiaaDoor
