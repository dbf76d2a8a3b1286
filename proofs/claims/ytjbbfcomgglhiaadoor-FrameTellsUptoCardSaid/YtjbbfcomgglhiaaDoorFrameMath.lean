/- Plain mathematics of layer 4: records, their frames, and what is scanned, as lists of bytes. No program in this text. -/
import Derived.Test.YtjbbfcomgglhiaaDoorDecMath
import Derived.Test.YtjbbfcomgglhiaaDoorSumMath
import Derived.Lib.ItoaLen
namespace Go.Proofs.YtjbbfcomgglhiaaDoor
open Go.Lib
set_option linter.unusedVariables false
set_option linter.unusedSimpArgs false

/-- May it be? A record is its kind, its numbers, and its text. -/
def frRight (r : Int × List Int × List UInt8) : Prop :=
  1 ≤ r.1 ∧ r.1 ≤ 255 ∧ r.2.1.length ≤ 20 ∧ (∀ n ∈ r.2.1, -1125899906842624 ≤ n ∧ n ≤ 1125899906842624) ∧ r.2.2.length ≤ 2000
def frNums : List Int → List UInt8
  | [] => []
  | n :: t => 32 :: (itoa n ++ frNums t)
def frBody (r : Int × List Int × List UInt8) : List UInt8 := itoa r.1 ++ (frNums r.2.1 ++ 58 :: r.2.2)
def frHead (r : Int × List Int × List UInt8) : List UInt8 := tw (frBody r).length ++ frBody r
noncomputable def frEnc (r : Int × List Int × List UInt8) : List UInt8 := frHead r ++ tw (crc (frHead r) 65535)

/-- Neither a blank nor a colon. -/
def noSep (l : List UInt8) : Prop := ∀ c ∈ l, c ≠ 32 ∧ c ≠ 58
theorem noSep_allD {l : List UInt8} (h : allD l = true) : noSep l := by
  intro c hc
  have hd := isD_iff.1 (List.all_eq_true.1 h c hc)
  refine ⟨fun e => ?_, fun e => ?_⟩
  · rw [e] at hd; exact absurd hd.1 (by decide)
  · rw [e] at hd; exact absurd hd.2 (by decide)
theorem noSep_itoa (n : Int) : noSep (itoa n) := by
  unfold itoa
  split
  · intro c hc
    rcases List.mem_cons.1 hc with rfl | h
    · decide
    · exact noSep_allD (dd_all n.natAbs).1 c h
  · exact noSep_allD (dd_all n.toNat).1
theorem dd_no45 (u : Nat) (t : List UInt8) : decDigits u ≠ 45 :: t := by
  intro h
  have ha := (dd_all u).1
  rw [h, allD_cons, Bool.and_eq_true] at ha
  exact absurd (isD_iff.1 ha.1).1 (by decide)
theorem dd_inj {a b : Nat} (h : decDigits a = decDigits b) : a = b := by
  have h1 := (dd_all a).2.1
  have h2 := (dd_all b).2.1
  rw [h] at h1
  omega
theorem itoa_inj {a b : Int} (h : itoa a = itoa b) : a = b := by
  unfold itoa at h
  by_cases h1 : a < 0 <;> by_cases h2 : b < 0
  · rw [if_pos h1, if_pos h2] at h
    have := dd_inj (List.cons.inj h).2
    omega
  · rw [if_pos h1, if_neg h2] at h
    exact absurd h.symm (dd_no45 _ _)
  · rw [if_neg h1, if_pos h2] at h
    exact absurd h (dd_no45 _ _)
  · rw [if_neg h1, if_neg h2] at h
    have := dd_inj h
    omega
theorem parted_sep {a a' t t' : List UInt8} {x x' : UInt8} (ha : noSep a) (ha' : noSep a') (hx : x = 32 ∨ x = 58) (hx' : x' = 32 ∨ x' = 58) (h : a ++ x :: t = a' ++ x' :: t') : a = a' ∧ x = x' ∧ t = t' := by
  induction a generalizing a' with
  | nil =>
    cases a' with
    | nil => exact ⟨rfl, (List.cons.inj h).1, (List.cons.inj h).2⟩
    | cons c b =>
      have e : x = c := (List.cons.inj h).1
      have := ha' c (List.mem_cons_self ..)
      rcases hx with rfl | rfl
      · exact absurd e.symm this.1
      · exact absurd e.symm this.2
  | cons d b ih =>
    cases a' with
    | nil =>
      have e : d = x' := (List.cons.inj h).1
      have := ha d (List.mem_cons_self ..)
      rcases hx' with rfl | rfl
      · exact absurd e this.1
      · exact absurd e this.2
    | cons c b' =>
      obtain ⟨e1, e2⟩ := List.cons.inj h
      obtain ⟨h1, h2, h3⟩ := ih (fun z hz => ha z (List.mem_cons_of_mem _ hz)) (a' := b') (fun z hz => ha' z (List.mem_cons_of_mem _ hz)) e2
      exact ⟨by rw [e1, h1], h2, h3⟩
theorem frNums_head (l : List Int) (s : List UInt8) : ∃ x t, frNums l ++ 58 :: s = x :: t ∧ (x = 32 ∨ x = 58) := by
  cases l with
  | nil => exact ⟨58, s, rfl, .inr rfl⟩
  | cons n t => exact ⟨32, (itoa n ++ frNums t) ++ 58 :: s, rfl, .inl rfl⟩
theorem frNums_inj {l l' : List Int} {s s' : List UInt8} (h : frNums l ++ 58 :: s = frNums l' ++ 58 :: s') : l = l' ∧ s = s' := by
  induction l generalizing l' with
  | nil =>
    cases l' with
    | nil => exact ⟨rfl, (List.cons.inj h).2⟩
    | cons n t => exact absurd (List.cons.inj h).1 (by decide)
  | cons n t ih =>
    cases l' with
    | nil => exact absurd (List.cons.inj h).1 (by decide)
    | cons m u =>
      have e : itoa n ++ (frNums t ++ 58 :: s) = itoa m ++ (frNums u ++ 58 :: s') := by
        have := (List.cons.inj h).2
        simpa [frNums, List.append_assoc] using this
      obtain ⟨x, v, hv, hx⟩ := frNums_head t s
      obtain ⟨x', v', hv', hx'⟩ := frNums_head u s'
      rw [hv, hv'] at e
      obtain ⟨e1, e2, e3⟩ := parted_sep (noSep_itoa n) (noSep_itoa m) hx hx' e
      obtain ⟨h1, h2⟩ := ih (l' := u) (by rw [hv, hv', e2, e3])
      exact ⟨by rw [itoa_inj e1, h1], h2⟩
theorem frBody_inj {r r' : Int × List Int × List UInt8} (h : frBody r = frBody r') : r = r' := by
  obtain ⟨k, l, s⟩ := r
  obtain ⟨k', l', s'⟩ := r'
  unfold frBody at h
  obtain ⟨x, v, hv, hx⟩ := frNums_head l s
  obtain ⟨x', v', hv', hx'⟩ := frNums_head l' s'
  simp only at h
  rw [hv, hv'] at h
  obtain ⟨e1, e2, e3⟩ := parted_sep (noSep_itoa k) (noSep_itoa k') hx hx' h
  obtain ⟨h1, h2⟩ := frNums_inj (l := l) (l' := l') (s := s) (s' := s') (by rw [hv, hv', e2, e3])
  rw [itoa_inj e1, h1, h2]

theorem frNums_len (l : List Int) (h : ∀ n ∈ l, -1125899906842624 ≤ n ∧ n ≤ 1125899906842624) : (frNums l).length ≤ 22 * l.length := by
  induction l with
  | nil => exact Nat.le_refl 0
  | cons n t ih =>
    have h1 := ih (fun m hm => h m (List.mem_cons_of_mem _ hm))
    have h2 := h n (List.mem_cons_self ..)
    have h3 := itoa_length_le n (by omega) (by omega)
    simp only [frNums, List.length_cons, List.length_append]
    omega
theorem frBody_len {r : Int × List Int × List UInt8} (h : frRight r) : (frBody r).length ≤ 2462 ∧ 1 ≤ (frBody r).length := by
  obtain ⟨h1, h2, h3, h4, h5⟩ := h
  have a := itoa_length_le r.1 (by omega) (by omega)
  have b := frNums_len r.2.1 h4
  unfold frBody
  simp only [List.length_append, List.length_cons]
  omega
theorem tw_len (n : Nat) : (tw n).length = 2 := rfl
theorem frHead_len (r : Int × List Int × List UInt8) : (frHead r).length = (frBody r).length + 2 := by
  unfold frHead; rw [List.length_append, tw_len]; omega
theorem frEnc_len (r : Int × List Int × List UInt8) : (frEnc r).length = (frBody r).length + 4 := by
  unfold frEnc; rw [List.length_append, tw_len, frHead_len]
/-- What the first two bytes ask for. -/
def frLn : List UInt8 → Nat
  | a :: b :: _ => a.toNat * 256 + b.toNat
  | _ => 0
theorem frLn_tw {n : Nat} (h : n < 65536) (m : List UInt8) : frLn (tw n ++ m) = n := by
  show (UInt8.ofNat (n / 256)).toNat * 256 + (UInt8.ofNat (n % 256)).toNat = n
  rw [tw_hi h, tw_lo]; omega
theorem frEnc_eq (r : Int × List Int × List UInt8) (m : List UInt8) : frEnc r ++ m = tw (frBody r).length ++ (frBody r ++ (tw (crc (frHead r) 65535) ++ m)) := by
  unfold frEnc frHead
  simp only [List.append_assoc]
theorem frLn_enc {r : Int × List Int × List UInt8} (h : frRight r) (m : List UInt8) : frLn (frEnc r ++ m) = (frBody r).length := by
  have := frBody_len h
  rw [frEnc_eq]
  exact frLn_tw (by omega) _
theorem frLn_two {a b : List UInt8} (h2 : 2 ≤ a.length) (h : a.take 2 = b.take 2) : frLn a = frLn b := by
  match a, h2 with
  | x :: y :: t, _ =>
    match b with
    | [] => simp at h
    | [z] => simp at h
    | z :: w :: u =>
      simp only [List.take_succ_cons, List.take_zero, List.cons.injEq, and_true] at h
      unfold frLn
      rw [h.1, h.2]
theorem frEnc_inj {r r' : Int × List Int × List UInt8} (h : frRight r) (h' : frRight r') (e : frEnc r = frEnc r') : r = r' := by
  have a := frLn_enc h []
  have b := frLn_enc h' []
  rw [e, b] at a
  have e1 := frEnc_eq r []
  have e2 := frEnc_eq r' []
  rw [e] at e1
  rw [e2, a] at e1
  have e3 := List.append_cancel_left e1
  exact (frBody_inj (List.append_inj e3 a).1).symm
open Classical in
/-- The right record whose frame these bytes are. -/
noncomputable def frGood (f : List UInt8) : Option (Int × List Int × List UInt8) := if h : ∃ r, frRight r ∧ frEnc r = f then some h.choose else none
theorem frGood_enc {r : Int × List Int × List UInt8} (h : frRight r) : frGood (frEnc r) = some r := by
  have hx : ∃ r', frRight r' ∧ frEnc r' = frEnc r := ⟨r, h, rfl⟩
  unfold frGood
  rw [dif_pos hx]
  have := hx.choose_spec
  rw [frEnc_inj this.1 h this.2]
theorem frGood_some {f : List UInt8} {r : Int × List Int × List UInt8} (h : frGood f = some r) : frRight r ∧ frEnc r = f := by
  unfold frGood at h
  split at h
  · rename_i hx
    have := hx.choose_spec
    rw [← Option.some.inj h]
    exact this
  · cases h
theorem frGood_none {f : List UInt8} (h : ∀ r, frRight r → frEnc r ≠ f) : frGood f = none := by
  unfold frGood
  rw [dif_neg]
  rintro ⟨r, h1, h2⟩
  exact h r h1 h2
/-- What is scanned: the records, how many bytes they are, and whether it ends well. -/
noncomputable def frScan (s : List UInt8) : List (Int × List Int × List UInt8) × Nat × Bool :=
  if h : s.length < frLn s + 4 then ([], 0, true) else
  match frGood (s.take (frLn s + 4)) with
  | none => ([], 0, false)
  | some r => (r :: (frScan (s.drop (frLn s + 4))).1, frLn s + 4 + (frScan (s.drop (frLn s + 4))).2.1, (frScan (s.drop (frLn s + 4))).2.2)
termination_by s.length
decreasing_by all_goals (rw [List.length_drop]; omega)
theorem frScan_short {s : List UInt8} (h : s.length < frLn s + 4) : frScan s = ([], 0, true) := by
  rw [frScan, dif_pos h]
theorem frScan_bad {s : List UInt8} (h : ¬ s.length < frLn s + 4) (hg : frGood (s.take (frLn s + 4)) = none) : frScan s = ([], 0, false) := by
  rw [frScan, dif_neg h, hg]
theorem frScan_good {s : List UInt8} {r : Int × List Int × List UInt8} (h : ¬ s.length < frLn s + 4) (hg : frGood (s.take (frLn s + 4)) = some r) :
    frScan s = (r :: (frScan (s.drop (frLn s + 4))).1, frLn s + 4 + (frScan (s.drop (frLn s + 4))).2.1, (frScan (s.drop (frLn s + 4))).2.2) := by
  rw [frScan, dif_neg h, hg]
theorem frScan_enc {r : Int × List Int × List UInt8} (h : frRight r) (m : List UInt8) :
    frScan (frEnc r ++ m) = (r :: (frScan m).1, (frEnc r).length + (frScan m).2.1, (frScan m).2.2) := by
  have e := frLn_enc h m
  have l := frEnc_len r
  have ht : (frEnc r ++ m).take (frLn (frEnc r ++ m) + 4) = frEnc r := by rw [e, ← l, List.take_left]
  have hd : (frEnc r ++ m).drop (frLn (frEnc r ++ m) + 4) = m := by rw [e, ← l, List.drop_left]
  rw [frScan_good (r := r) (by rw [e, List.length_append]; omega) (by rw [ht]; exact frGood_enc h), hd, e, l]
noncomputable def frAll : List (Int × List Int × List UInt8) → List UInt8
  | [] => []
  | r :: t => frEnc r ++ frAll t
theorem frAll_append (a b : List (Int × List Int × List UInt8)) : frAll (a ++ b) = frAll a ++ frAll b := by
  induction a with
  | nil => rfl
  | cons r t ih => show frEnc r ++ frAll (t ++ b) = frEnc r ++ frAll t ++ frAll b; rw [ih, List.append_assoc]
theorem frScan_all {l : List (Int × List Int × List UInt8)} (h : ∀ r ∈ l, frRight r) (m : List UInt8) :
    frScan (frAll l ++ m) = (l ++ (frScan m).1, (frAll l).length + (frScan m).2.1, (frScan m).2.2) := by
  induction l with
  | nil => simp [frAll]
  | cons r t ih =>
    show frScan (frEnc r ++ frAll t ++ m) = _
    rw [List.append_assoc, frScan_enc (h r (List.mem_cons_self ..)), ih (fun x hx => h x (List.mem_cons_of_mem _ hx))]
    simp only [frAll, List.length_append, List.cons_append, Nat.add_assoc]
theorem frScan_nil : frScan [] = ([], 0, true) := frScan_short (by show 0 < 0 + 4; omega)
theorem frScan_back {l : List (Int × List Int × List UInt8)} (h : ∀ r ∈ l, frRight r) : frScan (frAll l) = (l, (frAll l).length, true) := by
  have := frScan_all h []
  rw [frScan_nil, List.append_nil] at this
  simpa using this
/-- Whatever is cut off at the end. -/
theorem frScan_torn {l : List (Int × List Int × List UInt8)} (h : ∀ r ∈ l, frRight r) (k : Nat) (hk : k ≤ (frAll l).length) :
    ∃ j, j ≤ l.length ∧ frScan ((frAll l).take k) = (l.take j, (frAll (l.take j)).length, true) ∧ (frAll (l.take j)).length ≤ k ∧ (j < l.length → k < (frAll (l.take (j + 1))).length) ∧ (j = l.length → k = (frAll l).length) := by
  induction l generalizing k with
  | nil =>
    have h0 : k = 0 := by simpa [frAll] using hk
    subst h0
    exact ⟨0, Nat.le_refl _, by simp [frAll, frScan_nil], by simp [frAll], fun h => absurd h (Nat.lt_irrefl _), fun _ => rfl⟩
  | cons r t ih =>
    have hr := h r (List.mem_cons_self ..)
    have e : frAll (r :: t) = frEnc r ++ frAll t := rfl
    have l4 := frEnc_len r
    rw [e, List.length_append] at hk
    by_cases hc : (frEnc r).length ≤ k
    · obtain ⟨j, h1, h2, h3, h4, h5⟩ := ih (fun x hx => h x (List.mem_cons_of_mem _ hx)) (k - (frEnc r).length) (by omega)
      refine ⟨j + 1, by simpa using h1, ?_, ?_, ?_, ?_⟩
      · rw [e, List.take_append, List.take_of_length_le hc, frScan_enc hr, h2]
        simp [frAll]
      · simp only [List.take_succ_cons, frAll, List.length_append]; omega
      · intro hj
        have := h4 (by simpa using hj)
        simp only [List.take_succ_cons, frAll, List.length_append] at this ⊢
        omega
      · intro hj
        have := h5 (by simpa using hj)
        rw [e, List.length_append]
        omega
    · refine ⟨0, Nat.zero_le _, ?_, by simp [frAll], fun _ => ?_, fun h => by simp at h⟩
      · rw [frScan_short]
        · simp [frAll]
        · rw [e, List.take_append_of_le_length (by omega), List.length_take]
          by_cases h2 : k < 2
          · omega
          · have := frLn_two (a := (frEnc r).take k) (b := frEnc r ++ []) (by rw [List.length_take]; omega) (by rw [List.append_nil, List.take_take, Nat.min_eq_left (by omega)])
            rw [this, frLn_enc hr]
            omega
      · simp only [List.take_succ_cons, List.take_zero, frAll, List.append_nil]; omega
/-- One byte that is another one, behind the length. -/
theorem frScan_wrong {l : List (Int × List Int × List UInt8)} (h : ∀ r ∈ l, frRight r) {r : Int × List Int × List UInt8} (hr : frRight r) (k : Nat) (hk : 2 ≤ k) (hk' : k < (frEnc r).length) (c : UInt8) (hc : c ≠ (frEnc r)[k]) (m : List UInt8) :
    frScan (frAll l ++ ((frEnc r).set k c ++ m)) = (l, (frAll l).length, false) := by
  have l4 := frEnc_len r
  have hl : ((frEnc r).set k c).length = (frEnc r).length := List.length_set
  have e : frLn ((frEnc r).set k c ++ m) = (frBody r).length := by
    rw [← frLn_enc hr m]
    refine frLn_two (by rw [List.length_append]; omega) ?_
    rw [List.take_append_of_le_length (by omega), List.take_append_of_le_length (by omega), List.take_set_of_le (by omega)]
  have ht : ((frEnc r).set k c ++ m).take (frLn ((frEnc r).set k c ++ m) + 4) = (frEnc r).set k c := by
    rw [e, ← l4, ← hl, List.take_left]
  have hb : frScan ((frEnc r).set k c ++ m) = ([], 0, false) := by
    refine frScan_bad (by rw [e, List.length_append]; omega) ?_
    rw [ht]
    refine frGood_none fun r' h' he => ?_
    have n1 : crc (frEnc r) 65535 = 0 := crc_own (frHead r) (by omega)
    have n2 : crc (frEnc r') 65535 = 0 := crc_own (frHead r') (by omega)
    rw [he] at n2
    have hs : frEnc r = (frEnc r).take k ++ (frEnc r)[k] :: (frEnc r).drop (k + 1) := by rw [← List.drop_eq_getElem_cons hk', List.take_append_drop]
    have hs' : (frEnc r).set k c = (frEnc r).take k ++ c :: (frEnc r).drop (k + 1) := List.set_eq_take_append_cons_drop .. |>.trans (by rw [if_pos hk'])
    rw [hs'] at n2
    rw [hs, ← n2, crc_append, crc_append] at n1
    have hbd := crc_bd ((frEnc r).take k) (n := 65535) (by omega)
    have h1 := crc_inj _ (stp_bd hbd (u8_lt _)) (stp_bd hbd (u8_lt _)) (show crc ((frEnc r).drop (k + 1)) (stp _ (frEnc r)[k].toNat) = crc ((frEnc r).drop (k + 1)) (stp _ c.toNat) from n1)
    exact hc (u8_inj (stp_inj' hbd (u8_lt _) (u8_lt _) h1)).symm
  rw [frScan_all h, hb]
  simp
/-- What was scanned, put into frames again. -/
theorem frScan_again (k : Nat) : ∀ s : List UInt8, s.length ≤ k → frAll (frScan s).1 = s.take (frScan s).2.1 ∧ (frScan s).2.1 ≤ s.length ∧ ∀ r ∈ (frScan s).1, frRight r := by
  induction k with
  | zero =>
    intro s hs
    rw [frScan_short (by omega)]
    exact ⟨by simp [frAll], Nat.zero_le _, fun r h => by cases h⟩
  | succ k ih =>
    intro s hs
    by_cases h : s.length < frLn s + 4
    · rw [frScan_short h]
      exact ⟨by simp [frAll], Nat.zero_le _, fun r h => by cases h⟩
    · cases hg : frGood (s.take (frLn s + 4)) with
      | none =>
        rw [frScan_bad h hg]
        exact ⟨by simp [frAll], Nat.zero_le _, fun r h => by cases h⟩
      | some r =>
        obtain ⟨hr, he⟩ := frGood_some hg
        obtain ⟨h1, h2, h3⟩ := ih (s.drop (frLn s + 4)) (by rw [List.length_drop]; omega)
        rw [List.length_drop] at h2
        rw [frScan_good h hg]
        refine ⟨?_, by simp only; omega, fun x hx => ?_⟩
        · simp only [frAll]
          rw [h1, he]
          exact List.take_add.symm
        · rcases List.mem_cons.1 hx with rfl | hx
          · exact hr
          · exact h3 x hx
theorem frEnc_prefix {r r' : Int × List Int × List UInt8} (h : frRight r) (h' : frRight r') (m : List UInt8) (e : frEnc r' = frEnc r ++ m) : r = r' := by
  have a := frLn_enc h m
  have b := frLn_enc h' []
  rw [List.append_nil, e, a] at b
  have l1 := frEnc_len r
  have l2 := frEnc_len r'
  rw [e, List.length_append] at l2
  have hm : m = [] := List.eq_nil_of_length_eq_zero (by omega)
  rw [hm, List.append_nil] at e
  exact frEnc_inj h h' e.symm
end Go.Proofs.YtjbbfcomgglhiaaDoor
