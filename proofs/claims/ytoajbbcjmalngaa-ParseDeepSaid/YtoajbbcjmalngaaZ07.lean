/- Plain mathematics of layer 8, fourth part: texts that are parsed; cut ones, longer ones, other blanks. No program in this text; Plain mathematics of layer 8, fifth part: a token that can't stand where it does. No program in this text; Plain mathematics of layer 8, sixth part: texts that are cut behind a token; texts that are written out. No program in this text; Plain mathematics of layer 8, seventh part: the law's first texts; expressions that stand in one another. No program in this text. -/
import Derived.Test.YtoajbbcjmalngaaZ06
namespace Go.Proofs.Ytoajbbcjmalngaa
open Go.Lib
set_option linter.unusedVariables false
set_option linter.unusedSimpArgs false

theorem good_okT {x : List UInt8} {k n p : Int} (h : Good x k n) : okT (k, x, n, p) := by
  obtain ⟨_, _, _, h0, h2⟩ := good_kind h
  refine ⟨fun e => ⟨h0, ?_⟩, fun e => ⟨h0, h2 e⟩, fun e => ?_⟩
  · simp only at e
    subst e
    rcases h with ⟨c, rfl, hs, hk, _⟩ | ⟨hx, ha, ht⟩
    · omega
    · unfold tokOf at ht
      split at ht
      · cases ht
      · split at ht
        · cases ht
        · cases hp : prs x with
          | none => rw [hp] at ht; cases ht
          | some a =>
            rw [hp] at ht
            injection ht with ht
            injection ht with e1 e2
            subst e2
            have := rt_iff.1 (txt_of_prs hp).1
            exact this.2
  · rcases h with ⟨c, rfl, _⟩ | ⟨hx, _⟩
    · simp
    · exact hx
theorem lx_okT {p : Nat} {s : List UInt8} {l : List Tok} (h : lx p s = .ok l) : (∀ t ∈ l, okT t) ∧ (∀ t ∈ l, 0 ≤ t.2.2.2 ∧ t.2.2.2 ≤ ((p + s.length : Nat) : Int)) ∧ ∃ ts, l = ts ++ [(5, [], 0, ((p + s.length : Nat) : Int))] := by
  obtain ⟨ts, rfl, hts, _, _⟩ := lx_out _ s (Nat.le_refl _) p l h
  refine ⟨fun t ht => ?_, fun t ht => ?_, ts, rfl⟩
  · rcases List.mem_append.1 ht with h1 | h1
    · exact good_okT (hts t h1).1
    · obtain rfl := List.mem_singleton.1 h1
      refine ⟨?_, ?_, ?_⟩ <;> (intro e; simp at e)
  · rcases List.mem_append.1 ht with h1 | h1
    · have := hts t h1; omega
    · obtain rfl := List.mem_singleton.1 h1
      exact ⟨by simp only []; omega, Int.le_refl _⟩
theorem lx_err : ∀ (m : Nat) (s : List UInt8), s.length ≤ m → ∀ (p k : Nat), lx p s = .error k → k ≤ p + s.length := by
  intro m
  induction m with
  | zero =>
    intro s hs p k h
    obtain rfl : s = [] := List.length_eq_zero_iff.1 (by omega)
    rw [lx_nil] at h; cases h
  | succ m ih =>
    intro s hs p k h
    have pre_err : ∀ (ts : List Tok) (r : Scan), pre ts r = .error k → r = .error k := fun ts r h => by
      cases r with
      | ok m => cases h
      | error q => exact h
    cases s with
    | nil => rw [lx_nil] at h; cases h
    | cons c t =>
      simp only [List.length_cons] at hs ⊢
      cases hb : isBl c
      · cases hg : isSg c
        · cases hn : tokOf ((c :: t).takeWhile isPt) with
          | none => rw [lx_bad p c t hb hg hn] at h; injection h with h; omega
          | some kn =>
            obtain ⟨k', n⟩ := kn
            rw [lx_tok p c t k' n hb hg hn] at h
            have h' := pre_err _ _ h
            have hx := tokOf_ne hn
            have h2 := run_len (c :: t)
            have h3 : 1 ≤ ((c :: t).takeWhile isPt).length := by
              rcases hx' : (c :: t).takeWhile isPt with _ | ⟨a, b⟩
              · exact absurd hx' hx
              · simp
            have h4 : ((c :: t).takeWhile isPt).length ≤ (c :: t).length := (List.takeWhile_sublist _).length_le
            simp only [List.length_cons] at h2 h4
            have := ih _ (by omega) _ _ h'
            omega
        · rw [lx_sign p c t hb hg] at h
          have := ih t (by omega) _ _ (pre_err _ _ h)
          omega
      · rw [lx_blank p c t hb] at h
        have := ih t (by omega) _ _ h
        omega
/-- What a strategy's tokens tell. -/
theorem strat_spec (ts : List Tok) (ho : ∀ t ∈ ts, okT t) : (∀ x, stratT ts = .ok x → fine 32 x = true ∧ isCond x.k = false) ∧ (∀ e p, stratT ts = .error (e, p) → (e = 80 ∨ e = 81) ∧ (p = 0 ∨ ∃ t ∈ ts, p = t.2.2.2)) := by
  have h := expr_spec 32 false ts ho
  rcases hm : exprT 32 false ts with ⟨e, p⟩ | ⟨x, r⟩
  · rw [hm] at h
    have e1 : stratT ts = .error (e, p) := by unfold stratT; rw [hm]
    rw [e1]
    refine ⟨(fun x hx => by cases hx), fun e' p' he => ?_⟩
    injection he with he
    injection he with h1 h2
    subst h1; subst h2
    exact h
  · rw [hm] at h
    obtain ⟨hx, a, rfl⟩ := h
    by_cases h5 : (hdT r).1 = 5 ∧ (([] : List UInt8) = [] ∨ (hdT r).2.1 = [])
    · have e1 : stratT (a ++ r) = .ok x := by
        have tk : takeT 5 [] r = .ok (hdT r, r) := by unfold takeT; rw [if_pos h5]; rfl
        unfold stratT; rw [hm]; simp only; rw [tk]
      rw [e1]
      refine ⟨fun y hy => ?_, (fun e' p' he => by cases he)⟩
      injection hy with hy
      subst hy
      exact hx
    · have e1 : stratT (a ++ r) = .error (80, atT r) := by
        have tk : takeT 5 [] r = .error (80, atT r) := by unfold takeT; rw [if_neg h5]
        unfold stratT; rw [hm]; simp only; rw [tk]
      rw [e1]
      refine ⟨(fun x hx => by cases hx), fun e' p' he => ?_⟩
      injection he with he
      injection he with h1 h2
      subst h1; subst h2
      exact Spec.up (α := Ex) (P := fun _ => True) (a := a) (at_spec r (.inl rfl))
theorem parse_spec (s : List UInt8) : (∀ x, parseS s = .ok x → fine 32 x = true ∧ isCond x.k = false) ∧ (∀ e p, parseS s = .error (e, p) → (e = 60 ∨ e = 61 ∨ e = 80 ∨ e = 81) ∧ 0 ≤ p ∧ p ≤ (s.length : Int)) := by
  by_cases hl : 2000 < s.length
  · have e1 : parseS s = .error (60, 2000) := by unfold parseS; rw [if_pos hl]
    rw [e1]
    refine ⟨(fun x hx => by cases hx), fun e' p' he => ?_⟩
    injection he with he
    injection he with h1 h2
    subst h1; subst h2
    exact ⟨.inl rfl, by decide, by omega⟩
  · cases hx : lx 0 s with
    | error k =>
      have e1 : parseS s = .error (61, (k : Int)) := by unfold parseS; rw [if_neg hl, hx]
      rw [e1]
      have := lx_err _ s (Nat.le_refl _) 0 k hx
      refine ⟨(fun x hx => by cases hx), fun e' p' he => ?_⟩
      injection he with he
      injection he with h1 h2
      subst h1; subst h2
      exact ⟨.inr (.inl rfl), by omega, by omega⟩
    | ok ts =>
      have e1 : parseS s = stratT ts := by unfold parseS; rw [if_neg hl, hx]
      rw [e1]
      obtain ⟨h1, h2, _⟩ := lx_okT hx
      obtain ⟨ha, hb⟩ := strat_spec ts h1
      refine ⟨ha, fun e p he => ?_⟩
      obtain ⟨he, hp⟩ := hb e p he
      refine ⟨.inr (.inr he), ?_, ?_⟩
      · rcases hp with rfl | ⟨t, ht, rfl⟩
        · exact Int.le_refl _
        · exact (h2 t ht).1
      · rcases hp with rfl | ⟨t, ht, rfl⟩
        · omega
        · have := (h2 t ht).2; omega
theorem right_text {x : Ex} (h : fine 32 x = true) (hc : isCond x.k = false) : rightX x = decide ((text x).length ≤ 2000) := by
  unfold rightX
  rw [h, hc]
  by_cases ht : (text x).length ≤ 2000
  · have := text_more x 32 h
    rw [decide_eq_true ht, decide_eq_true (by omega : size x ≤ 2000)]; rfl
  · rw [decide_eq_false ht]; simp
/-- One more token behind it is told there. -/
theorem parse_more {x : Ex} (h : rightX x = true) (t : Tok) (r : List Tok) (ht : t.1 ≠ 5) (us : List Tok) (hu : us.map sh = toks x) : stratT (us ++ t :: r) = .error (80, t.2.2.2) := by
  simp only [rightX, Bool.and_eq_true, decide_eq_true_eq] at h
  have hc : isCond x.k = false := by simpa using h.1.1.2
  unfold stratT
  have := expr_ok x 32 us (t :: r) h.1.1.1 hu
  rw [hc] at this
  rw [this]
  simp only
  unfold takeT
  rw [if_neg (fun hh => ht hh.1)]
  rfl
/-- Every token of what may be is a right one. -/
theorem toks_good : ∀ (x : Ex) (d : Nat), fine d x = true → ∀ s ∈ toks x, Good s.2.1 s.1 s.2.2 := ex_ind fun k n nm l ih d hx => by
  obtain ⟨d, rfl⟩ : ∃ e, d = e + 1 := by
    cases d with
    | zero => cases hx
    | succ d => exact ⟨d, rfl⟩
  obtain ⟨a1, a2, a3, a4, a5⟩ := fine_parts hx
  have m1 := most_le k
  have hsg : ∀ c, isSg c = true → Good (sg c).2.1 (sg c).1 (sg c).2.2 := fun c hc => .inl ⟨c, rfl, hc, rfl, rfl⟩
  have hm : ∀ m : List Ex, (∀ y ∈ m, ∀ s ∈ toks y, Good s.2.1 s.1 s.2.2) → ∀ s ∈ tokms m, Good s.2.1 s.1 s.2.2 := fun m hm => by
    induction m with
    | nil => rw [tokms_nil]; intro s hs; cases hs
    | cons y t ih2 =>
      rw [tokms_cons]
      intro s hs
      rcases List.mem_cons.1 hs with rfl | hs
      · exact hsg 44 (by decide)
      · rcases List.mem_append.1 hs with hs | hs
        · exact hm y (List.mem_cons_self ..) s hs
        · exact ih2 (fun z hz => hm z (List.mem_cons_of_mem _ hz)) s hs
  rw [toks_mk]
  split
  · rename_i k4
    subst k4
    intro s hs
    obtain rfl := List.mem_singleton.1 hs
    exact txt_good a2.1 (by omega)
  · rename_i k4
    obtain ⟨g, _, _⟩ := word_kind (by omega : 0 ≤ argsN k) k4
    split
    · intro s hs
      obtain rfl := List.mem_singleton.1 hs
      exact g
    · intro s hs
      rcases List.mem_cons.1 hs with rfl | hs
      · exact g
      · rcases List.mem_cons.1 hs with rfl | hs
        · exact hsg 40 (by decide)
        · rcases List.mem_append.1 hs with hs | hs
          · cases l with
            | nil => rw [tokss_nil] at hs; cases hs
            | cons y t =>
              rw [tokss_cons] at hs
              rcases List.mem_append.1 hs with hs | hs
              · exact ih y (List.mem_cons_self ..) d (fine_mem hx (List.mem_cons_self ..)) s hs
              · exact hm t (fun z hz => ih z (List.mem_cons_of_mem _ hz) d (fine_mem hx (List.mem_cons_of_mem _ hz))) s hs
          · rcases List.mem_append.1 hs with hs | hs
            · unfold tailS at hs
              split at hs
              · rename_i e
                obtain rfl := List.mem_singleton.1 hs
                exact name_good (a4 e)
              · split at hs
                · rcases List.mem_cons.1 hs with rfl | hs
                  · exact hsg 44 (by decide)
                  · obtain rfl := List.mem_singleton.1 hs
                    exact txt_good a2.1 (by omega)
                · split at hs
                  · rename_i e
                    have := m1.2.1 (.inl e)
                    rcases List.mem_cons.1 hs with rfl | hs
                    · exact hsg 44 (by decide)
                    · obtain rfl := List.mem_singleton.1 hs
                      exact itoa_good a2.1 (by omega)
                  · split at hs
                    · rename_i e
                      have := m1.2.1 (.inr e)
                      obtain rfl := List.mem_singleton.1 hs
                      exact itoa_good a2.1 (by omega)
                    · cases hs
            · obtain rfl := List.mem_singleton.1 hs
              exact hsg 41 (by decide)
/-- Tokens' texts, each with blanks behind it, are scanned to these tokens. -/
def spread : List Sh → List (List UInt8) → List UInt8
  | [], _ => []
  | s :: S, bs => s.2.1 ++ (bs.headD [32] ++ spread S bs.tail)
theorem spread_lex : ∀ (S : List Sh) (bs : List (List UInt8)) (p : Nat), (∀ s ∈ S, Good s.2.1 s.1 s.2.2) → (∀ b ∈ bs, b ≠ [] ∧ b.all isBl = true) → ∃ ts, lx p (spread S bs) = .ok (ts ++ [(5, [], 0, ((p + (spread S bs).length : Nat) : Int))]) ∧ ts.map sh = S := by
  intro S
  induction S with
  | nil => intro bs p _ _; exact ⟨[], by rw [spread, lx_nil]; rfl, rfl⟩
  | cons s S ih =>
    intro bs p hg hb
    have hbl : bs.headD [32] ≠ [] ∧ (bs.headD [32]).all isBl = true := by
      cases bs with
      | nil => exact ⟨by simp, by decide⟩
      | cons b t => exact hb b (List.mem_cons_self ..)
    have htl : ∀ b ∈ bs.tail, b ≠ [] ∧ b.all isBl = true := fun b h => hb b (List.mem_of_mem_tail h)
    obtain ⟨ts, e, hm⟩ := ih bs.tail (p + s.2.1.length + (bs.headD [32]).length) (fun u hu => hg u (List.mem_cons_of_mem _ hu)) htl
    refine ⟨(s.1, s.2.1, s.2.2, (p : Int)) :: ts, ?_, by rw [List.map_cons, hm]; rfl⟩
    rw [spread, lx_step (hg s (List.mem_cons_self ..)) hbl.1 hbl.2 p (spread S bs.tail), ← Nat.add_assoc, e]
    simp only [pre, List.length_append]
    rw [show p + s.2.1.length + (bs.headD [32]).length + (spread S bs.tail).length = p + (s.2.1.length + ((bs.headD [32]).length + (spread S bs.tail).length)) by omega]
    rfl
/-- Blanks between tokens make no difference. -/
theorem parse_spread {x : Ex} (h : rightX x = true) (bs : List (List UInt8)) (hb : ∀ b ∈ bs, b ≠ [] ∧ b.all isBl = true) (hl : (spread (toks x) bs).length ≤ 2000) : parseS (spread (toks x) bs) = .ok x := by
  have h' := h
  simp only [rightX, Bool.and_eq_true, decide_eq_true_eq] at h'
  have hc : isCond x.k = false := by simpa using h'.1.1.2
  obtain ⟨ts, e, hm⟩ := spread_lex (toks x) bs 0 (toks_good x 32 h'.1.1.1) hb
  unfold parseS
  rw [if_neg (by omega), e]
  simp only
  unfold stratT
  have := expr_ok x 32 ts [(5, [], 0, ((0 + (spread (toks x) bs).length : Nat) : Int))] h'.1.1.1 hm
  rw [hc] at this
  rw [this]
  rfl
end Go.Proofs.Ytoajbbcjmalngaa

namespace Go.Proofs.Ytoajbbcjmalngaa
open Go.Lib
set_option linter.unusedVariables false
set_option linter.unusedSimpArgs false

/-- A token that can stand in no place but that of a number. -/
def Odd (w : Tok) : Prop := (w.1 = 5 ∨ w.1 = 2) ∧ isName w.2.1 = false
theorem Odd.kind {w : Tok} (h : Odd w) (c : Bool) : kindT c w = 0 := by
  unfold kindT
  rw [if_neg (by have := h.1; omega), if_neg (by have := h.1; omega)]
theorem Odd.take {w : Tok} (k : Int) (x : List UInt8) (r : List Tok) (hk : w.1 ≠ k) : takeT k x (w :: r) = .error (80, w.2.2.2) := by
  unfold takeT
  rw [if_neg (fun hh => hk hh.1)]
  rfl
theorem take_app {α : Type} {S S' : List α} {j : Nat} : (S ++ S').take j = S.take j ++ S'.take (j - S.length) := List.take_append
/-- How a beginning of two lists begins. -/
theorem cut_app {ts : List Tok} {S S' : List Sh} {j : Nat} (h : ts.map sh = (S ++ S').take j) (hj : j < (S ++ S').length) :
    (j < S.length ∧ ts.map sh = S.take j) ∨ (S.length ≤ j ∧ ∃ a b, ts = a ++ b ∧ a.map sh = S ∧ b.map sh = S'.take (j - S.length) ∧ j - S.length < S'.length) := by
  rw [take_app] at h
  rw [List.length_append] at hj
  rcases Nat.lt_or_ge j S.length with h1 | h1
  · left
    refine ⟨h1, ?_⟩
    rw [h, show j - S.length = 0 by omega, List.take_zero, List.append_nil]
  · right
    rw [List.take_of_length_le (i := j) (l := S) h1] at h
    obtain ⟨a, b, e, ha, hb⟩ := map_app h
    exact ⟨h1, a, b, e, ha, hb, by omega⟩
theorem at_app {S S' : List Sh} {j : Nat} (h : S.length ≤ j) (hj : j < (S ++ S').length) (h' : j - S.length < S'.length) : (S ++ S')[j] = S'[j - S.length] := by
  rw [List.getElem_append_right h]
theorem at_app' {S S' : List Sh} {j : Nat} (h : j < S.length) (hj : j < (S ++ S').length) : (S ++ S')[j] = S[j] := by
  rw [List.getElem_append_left h]
theorem args_bad (f : Bool → List Tok → Told Ex) (k : Int) (w : Tok) (r : List Tok) (hw : Odd w) : ∀ (l : List Ex) (i : Nat) (ts : List Tok) (j : Nat), (∀ j (h : j < l.length) (a b : List Tok), a.map sh = toks l[j] → f (decide (k = 10) && decide (i + j = 0)) (a ++ b) = .ok (l[j], b)) →
    (∀ j (h : j < l.length) (a : List Tok) (q : Nat) (hq : q < (toks l[j]).length), a.map sh = (toks l[j]).take q → (toks l[j])[q].1 ≠ w.1 → f (decide (k = 10) && decide (i + j = 0)) (a ++ w :: r) = .error (80, w.2.2.2)) →
    ∀ (hj : j < (if i = 0 then tokss l else tokms l).length), ts.map sh = (if i = 0 then tokss l else tokms l).take j → (if i = 0 then tokss l else tokms l)[j].1 ≠ w.1 → argsT f k i l.length (ts ++ w :: r) = .error (80, w.2.2.2) := by
  intro l
  induction l with
  | nil =>
    intro i ts j _ _ hj
    have : (if i = 0 then tokss [] else tokms []).length = 0 := by split <;> rfl
    omega
  | cons x t ih =>
    intro i ts j hf hb hj hm hne
    have h0 := hf 0 (by simp)
    have b0 := hb 0 (by simp)
    simp only [Nat.add_zero, List.getElem_cons_zero] at h0 b0
    have hrest : ∀ (us : List Tok) (q : Nat) (hq : q < (tokms t).length), us.map sh = (tokms t).take q → (tokms t)[q].1 ≠ w.1 → argsT f k (i + 1) t.length (us ++ w :: r) = .error (80, w.2.2.2) := fun us q hq hu hn =>
      ih (i + 1) us q (fun j hj a b ha => by
        have := hf (j + 1) (by simpa using hj) a b ha
        rw [show i + (j + 1) = i + 1 + j by omega] at this
        exact this) (fun j hj a q hq ha hn => by
        have := hb (j + 1) (by simpa using hj) a q hq ha hn
        rw [show i + (j + 1) = i + 1 + j by omega] at this
        exact this) (by rw [if_neg (by omega)]; exact hq) (by rw [if_neg (by omega)]; exact hu) (by simp only [if_neg (show ¬ i + 1 = 0 by omega)]; exact hn)
    rw [List.length_cons]
    unfold argsT
    by_cases hi : i = 0
    · simp only [if_pos hi, tokss_cons] at hj hm hne
      rw [if_pos hi]
      simp only
      rcases cut_app hm hj with ⟨h1, h2⟩ | ⟨h1, a, b, rfl, ha, hbm, hlt⟩
      · rw [at_app' h1] at hne
        rw [b0 ts j h1 h2 hne]
      · rw [at_app h1 hj hlt] at hne
        rw [List.append_assoc, h0 a _ ha]
        simp only
        rw [hrest b _ hlt hbm hne]
    · simp only [if_neg hi, tokms_cons] at hj hm hne
      rw [if_neg hi]
      cases j with
      | zero =>
        obtain rfl : ts = [] := by simpa using hm
        have h4 : w.1 ≠ 4 := by have := hw.1; omega
        simp only [List.nil_append]
        rw [Odd.take 4 [44] r h4]
      | succ j =>
        rw [List.take_succ_cons] at hm
        obtain ⟨p, us, rfl, hu⟩ := map_cons' hm
        simp only [sg, List.cons_append]
        rw [take_sign]
        simp only
        simp only [List.length_cons] at hj
        have hj' : j < (toks x ++ tokms t).length := by omega
        simp only [List.getElem_cons_succ] at hne
        rcases cut_app hu hj' with ⟨h1, h2⟩ | ⟨h1, a, b, rfl, ha, hbm, hlt⟩
        · rw [at_app' h1] at hne
          rw [b0 us j h1 h2 hne]
        · rw [at_app h1 hj' hlt] at hne
          rw [List.append_assoc, h0 a _ ha]
          simp only
          rw [hrest b _ hlt hbm hne]
theorem rest_bad {k n : Int} {nm : List UInt8} (w : Tok) (r : List Tok) (hw : Odd w) (ts : List Tok) (q : Nat) (hq : q < (tailS k n nm).length) (hm : ts.map sh = (tailS k n nm).take q) (hne : (tailS k n nm)[q].1 ≠ w.1) : restT k (ts ++ w :: r) = .error (80, w.2.2.2) := by
  have h4 : w.1 ≠ 4 := by have := hw.1; omega
  have h1' : w.1 ≠ 1 := by have := hw.1; omega
  have two : ∀ (K : Int) (x : List UInt8) (y : Int) (hq : q < [sg 44, (K, x, y)].length), ts.map sh = [sg 44, (K, x, y)].take q → [sg 44, (K, x, y)][q].1 ≠ w.1 →
      (match takeT 4 [44] (ts ++ w :: r) with | .error e => (.error e : Told (Int × List UInt8)) | .ok (_, ts) => (match takeT K [] ts with | .error e => .error e | .ok (t, ts) => .ok ((t.2.2.1, []), ts))) = .error (80, w.2.2.2) := by
    intro K x y hq hm hne
    match q, hq, hm, hne with
    | 0, _, hm, hne =>
      obtain rfl : ts = [] := by simpa using hm
      simp only [List.nil_append]
      rw [Odd.take 4 [44] r h4]
    | 1, _, hm, hne =>
      rw [List.take_succ_cons] at hm
      obtain ⟨p, us, rfl, hu⟩ := map_cons' hm
      obtain rfl : us = [] := by simpa using hu
      simp only [sg, List.cons_append, List.nil_append]
      rw [take_sign]
      simp only
      rw [Odd.take K [] r (fun e => hne (by simp [e]))]
  unfold restT
  unfold tailS at hq hm hne
  by_cases e3 : k = 3
  · simp only [if_pos e3] at hq hm hne ⊢
    obtain rfl : q = 0 := by simpa using hq
    obtain rfl : ts = [] := by simpa using hm
    exact (if_neg (show ¬ isName w.2.1 = true by rw [hw.2]; simp)).trans rfl
  · simp only [if_neg e3] at hq hm hne ⊢
    by_cases e5 : k = 5
    · simp only [if_pos e5] at hq hm hne ⊢
      exact two 3 _ _ hq hm hne
    · simp only [if_neg e5] at hq hm hne ⊢
      by_cases e6 : k = 6
      · simp only [if_pos e6] at hq hm hne ⊢
        exact two 2 _ _ hq hm hne
      · simp only [if_neg e6] at hq hm hne ⊢
        by_cases e11 : k = 11
        · simp only [if_pos e11] at hq hm hne ⊢
          obtain rfl : q = 0 := by simpa using hq
          obtain rfl : ts = [] := by simpa using hm
          by_cases hle : w.2.2.1 ≤ 1000
          · refine (if_pos hle).trans ?_
            rw [List.nil_append, Odd.take 2 [] r (fun e => hne (by simp [e]))]
          · exact (if_neg hle).trans rfl
        · simp only [if_neg e11] at hq
          simp at hq
/-- Behind a beginning of an expression's tokens, a token that can't stand there is told. -/
theorem expr_bad : ∀ (x : Ex) (d : Nat) (ts : List Tok) (w : Tok) (r : List Tok) (j : Nat) (hj : j < (toks x).length), fine d x = true → Odd w → ts.map sh = (toks x).take j → (toks x)[j].1 ≠ w.1 → exprT d (isCond x.k) (ts ++ w :: r) = .error (80, w.2.2.2) := ex_ind fun k n nm l ih d ts w r j hj hx hw h hne => by
  obtain ⟨d, rfl⟩ : ∃ e, d = e + 1 := by
    cases d with
    | zero => cases hx
    | succ d => exact ⟨d, rfl⟩
  obtain ⟨a1, a2, a3, a4, a5⟩ := fine_parts hx
  have k12 : 1 ≤ k ∧ k ≤ 12 := by
    unfold argsN at a1
    by_cases hk : k = 1 ∨ k = 2 ∨ k = 3 ∨ k = 4 ∨ k = 11
    · omega
    · rw [if_neg hk] at a1
      split at a1
      · omega
      · split at a1
        · omega
        · split at a1
          · omega
          · omega
  have h4w : w.1 ≠ 4 := by have := hw.1; omega
  show exprT (d + 1) (isCond k) (ts ++ w :: r) = _
  by_cases j0 : j = 0
  · subst j0
    obtain rfl : ts = [] := by simpa using h
    rw [List.nil_append, exprT_none (hw.kind _)]
    rfl
  · simp only [toks_mk] at hj h hne
    by_cases k4 : k = 4
    · simp only [if_pos k4] at hj
      simp at hj; omega
    · simp only [if_neg k4] at hj h hne
      by_cases k1 : k = 1 ∨ k = 2
      · simp only [if_pos k1] at hj
        simp at hj; omega
      · simp only [if_neg k1] at hj h hne
        obtain ⟨j, rfl⟩ : ∃ q, j = q + 1 := ⟨j - 1, by omega⟩
        rw [List.take_succ_cons] at h
        obtain ⟨p, us, rfl, hu⟩ := map_cons' h
        simp only [List.getElem_cons_succ] at hne
        simp only [List.length_cons] at hj
        rw [List.cons_append, exprT_call (kind_word k12.1 k12.2 k4 _ _) (by omega) k4 k1, List.tail_cons]
        unfold callT
        cases j with
        | zero =>
          obtain rfl : us = [] := by simpa using hu
          rw [List.nil_append, Odd.take 4 [40] r h4w]
        | succ j =>
          rw [List.take_succ_cons] at hu
          obtain ⟨q, vs, rfl, hv⟩ := map_cons' hu
          simp only [List.getElem_cons_succ] at hne
          simp only [sg, List.cons_append]
          rw [take_sign]
          simp only
          have el : (argsN k).toNat = l.length := by omega
          rw [el]
          have hok : ∀ j (hj : j < l.length) (a b : List Tok), a.map sh = toks l[j] → exprT d (decide (k = 10) && decide (0 + j = 0)) (a ++ b) = .ok (l[j], b) := fun j hj a b hab => by
            have h5 := a5 j hj
            have := expr_ok l[j] d a b h5.2 hab
            rw [h5.1] at this
            rw [Nat.zero_add]
            exact this
          have hj' : j < (tokss l ++ (tailS k n nm ++ [sg 41])).length := by simpa using hj
          rcases cut_app hv hj' with ⟨h1, h2⟩ | ⟨h1, a, b, rfl, ha, hbm, hlt⟩
          · rw [at_app' h1] at hne
            rw [args_bad (exprT d) k w r hw l 0 vs j hok (fun j hj a q hq hab hn => by
              have h5 := a5 j hj
              have := ih _ (List.getElem_mem hj) d a w r q hq h5.2 hw hab hn
              rw [h5.1] at this
              rw [Nat.zero_add]
              exact this) (by rw [if_pos rfl]; exact h1) (by rw [if_pos rfl]; exact h2) (by simp only [if_pos]; exact hne)]
          · rw [at_app h1 hj' hlt] at hne
            rw [List.append_assoc, args_ok (exprT d) k l 0 a _ hok (by rw [if_pos rfl]; exact ha)]
            simp only
            rcases cut_app hbm hlt with ⟨g1, g2⟩ | ⟨g1, a', b', rfl, ha', hbm', hlt'⟩
            · rw [at_app' g1] at hne
              rw [rest_bad w r hw b _ g1 g2 hne]
            · rw [List.append_assoc, rest_ok a2 a4 a3 a' _ ha' k4]
              simp only
              have e0 : j - (tokss l).length - (tailS k n nm).length = 0 := by simp at hlt'; omega
              rw [e0] at hbm'
              obtain rfl : b' = [] := by simpa using hbm'
              rw [List.nil_append, Odd.take 4 [41] r h4w]
end Go.Proofs.Ytoajbbcjmalngaa

namespace Go.Proofs.Ytoajbbcjmalngaa
open Go.Lib
set_option linter.unusedVariables false
set_option linter.unusedSimpArgs false

/-- A text that is cut behind a token is scanned to the tokens up to it. -/
theorem lx_cut : ∀ (m : Nat) (s : List UInt8), s.length ≤ m → ∀ (p : Nat) (ts : List Tok) (e : Tok), lx p s = .ok (ts ++ [e]) → ∀ (k : Nat) (hk : k < ts.length) (c : Nat), (c : Int) + p = ts[k].2.2.2 + (ts[k].2.1.length : Int) →
    c ≤ s.length ∧ 0 < c ∧ lx p (s.take c) = .ok (ts.take (k + 1) ++ [(5, [], 0, ((p + c : Nat) : Int))]) := by
  intro m
  induction m with
  | zero =>
    intro s hs p ts e h k hk
    obtain rfl : s = [] := List.length_eq_zero_iff.1 (by omega)
    rw [lx_nil] at h
    injection h with h
    have := congrArg List.length h
    simp only [List.length_append, List.length_cons, List.length_nil] at this
    omega
  | succ m ih =>
    intro s hs p ts e h k hk c hc
    have sing : ∀ {a : Tok} {l : List Tok}, a :: l = ts ++ [e] → l ≠ [] → ∃ us, ts = a :: us ∧ l = us ++ [e] := fun {a l} hh hl => by
      cases ts with
      | nil => simp at hk
      | cons b us =>
        rw [List.cons_append, List.cons.injEq] at hh
        exact ⟨us, by rw [hh.1], hh.2⟩
    cases s with
    | nil =>
      rw [lx_nil] at h
      injection h with h
      have := congrArg List.length h
      simp only [List.length_append, List.length_cons, List.length_nil] at this
      omega
    | cons b t =>
      simp only [List.length_cons] at hs ⊢
      cases hb : isBl b
      · cases hg : isSg b
        · cases hn : tokOf ((b :: t).takeWhile isPt) with
          | none => rw [lx_bad p b t hb hg hn] at h; cases h
          | some kn =>
            obtain ⟨k', n⟩ := kn
            rw [lx_tok p b t k' n hb hg hn] at h
            obtain ⟨l', h', hl⟩ := pre_ok h
            have hx := tokOf_ne hn
            have h2 := run_len (b :: t)
            have hsp : (b :: t).takeWhile isPt ++ (b :: t).dropWhile isPt = b :: t := List.takeWhile_append_dropWhile
            have hst : stops ((b :: t).dropWhile isPt) = true := by
              unfold stops
              cases hd : (b :: t).dropWhile isPt with
              | nil => rfl
              | cons y ys =>
                have := List.head?_dropWhile_not isPt (b :: t)
                rw [hd] at this
                simpa using this
            have ha := all_run (b :: t)
            have hle : ((b :: t).takeWhile isPt).length ≤ (b :: t).length := (List.takeWhile_sublist _).length_le
            have h3 : 1 ≤ ((b :: t).takeWhile isPt).length := by
              rcases hx' : (b :: t).takeWhile isPt with _ | ⟨a, q⟩
              · exact absurd hx' hx
              · simp
            generalize (b :: t).takeWhile isPt = x at *
            generalize (b :: t).dropWhile isPt = r at *
            rw [← hsp]
            simp only [List.length_cons] at h2 hle
            have hgood : Good x k' n := .inr ⟨hx, ha, hn⟩
            obtain ⟨us, rfl, rfl⟩ := sing hl.symm (by
              obtain ⟨vs, e', _⟩ := lx_out _ r (Nat.le_refl _) _ _ h'
              rw [e']; simp)
            cases k with
            | zero =>
              simp only [List.getElem_cons_zero] at hc
              have hcx : c = x.length := by omega
              subst hcx
              refine ⟨by omega, by omega, ?_⟩
              rw [List.take_left, lx_alone hgood p]
              rfl
            | succ k =>
              simp only [List.getElem_cons_succ] at hc
              have hk' : k < us.length := by simpa using hk
              obtain ⟨c1, c2, c3⟩ := ih r (by omega) (p + x.length) us e h' k hk' (c - x.length) (by
                obtain ⟨vs, e', hvs, _⟩ := lx_out _ r (Nat.le_refl _) _ _ h'
                have hv : vs = us := by
                  have := congrArg List.dropLast e'
                  simpa using this.symm
                have := hvs us[k] (by rw [hv]; exact List.getElem_mem hk')
                omega)
              refine ⟨by omega, by omega, ?_⟩
              have ht : (x ++ r).take c = x ++ r.take (c - x.length) := by
                rw [List.take_append, List.take_of_length_le (by omega)]
              rw [ht]
              have hs2 : stops (r.take (c - x.length)) = true := by
                cases r with
                | nil => rw [List.take_nil]; rfl
                | cons y ys =>
                  obtain ⟨q, hq⟩ : ∃ q, c - x.length = q + 1 := ⟨c - x.length - 1, by omega⟩
                  rw [hq, List.take_succ_cons]
                  exact hst
              rw [lx_good hgood p _ hs2, c3]
              simp only [pre, List.take_succ_cons, List.cons_append, List.nil_append]
              rw [show p + x.length + (c - x.length) = p + c by omega]
        · rw [lx_sign p b t hb hg] at h
          obtain ⟨l', h', hl⟩ := pre_ok h
          obtain ⟨us, rfl, rfl⟩ := sing hl.symm (by
            obtain ⟨vs, e', _⟩ := lx_out _ t (Nat.le_refl _) _ _ h'
            rw [e']; simp)
          cases k with
          | zero =>
            simp only [List.getElem_cons_zero, List.length_cons, List.length_nil] at hc
            obtain rfl : c = 1 := by omega
            refine ⟨by omega, by omega, ?_⟩
            rw [List.take_succ_cons, List.take_zero, lx_sign p b [] hb hg, lx_nil]
            rfl
          | succ k =>
            simp only [List.getElem_cons_succ] at hc
            have hk' : k < us.length := by simpa using hk
            obtain ⟨c1, c2, c3⟩ := ih t (by omega) (p + 1) us e h' k hk' (c - 1) (by
              obtain ⟨vs, e', hvs, _⟩ := lx_out _ t (Nat.le_refl _) _ _ h'
              have hv : vs = us := by
                have := congrArg List.dropLast e'
                simpa using this.symm
              have := hvs us[k] (by rw [hv]; exact List.getElem_mem hk')
              omega)
            refine ⟨by omega, by omega, ?_⟩
            obtain ⟨q, rfl⟩ : ∃ q, c = q + 1 := ⟨c - 1, by omega⟩
            rw [List.take_succ_cons, lx_sign p b _ hb hg]
            rw [Nat.add_sub_cancel] at c3
            rw [c3]
            simp only [pre, List.take_succ_cons, List.cons_append, List.nil_append]
            rw [show p + 1 + q = p + (q + 1) by omega]
      · rw [lx_blank p b t hb] at h
        obtain ⟨c1, c2, c3⟩ := ih t (by omega) (p + 1) ts e h k hk (c - 1) (by
          obtain ⟨vs, e', hvs, _⟩ := lx_out _ t (Nat.le_refl _) _ _ h
          have hv : vs = ts := by
            have := congrArg List.dropLast e'
            simpa using this.symm
          have := hvs ts[k] (by rw [hv]; exact List.getElem_mem hk)
          omega)
        refine ⟨by omega, by omega, ?_⟩
        obtain ⟨q, rfl⟩ : ∃ q, c = q + 1 := ⟨c - 1, by omega⟩
        rw [List.take_succ_cons, lx_blank p b _ hb]
        rw [Nat.add_sub_cancel] at c3
        rw [c3, show p + 1 + q = p + (q + 1) by omega]
theorem end_odd (p : Int) : Odd (5, [], 0, p) := ⟨.inl rfl, (by decide : isName [] = false)⟩
/-- A text that is cut behind a token, but the last one, is told at its end. -/
theorem parse_cut {x : Ex} (h : rightX x = true) (ts : List Tok) (e : Tok) (hl : lx 0 (text x) = .ok (ts ++ [e])) (k : Nat) (hk : k + 1 < ts.length) (c : Nat) (hc : (c : Int) = ts[k].2.2.2 + (ts[k].2.1.length : Int)) :
    c ≤ (text x).length ∧ parseS ((text x).take c) = .error (80, (c : Int)) := by
  simp only [rightX, Bool.and_eq_true, decide_eq_true_eq] at h
  have hcd : isCond x.k = false := by simpa using h.1.1.2
  obtain ⟨us, e2, hm⟩ := fine_lex h.1.1.1
  have hus : us = ts := by
    rw [hl] at e2
    injection e2 with e2
    have := congrArg List.dropLast e2
    simpa using this.symm
  subst hus
  obtain ⟨c1, c2, c3⟩ := lx_cut _ (text x) (Nat.le_refl _) 0 us e hl k (by omega) c (by omega)
  refine ⟨c1, ?_⟩
  unfold parseS
  rw [if_neg (by rw [List.length_take]; omega), c3]
  simp only
  unfold stratT
  have hlen : us.length = (toks x).length := by rw [← hm, List.length_map]
  have hj : k + 1 < (toks x).length := by omega
  have hg := toks_good x 32 h.1.1.1 (toks x)[k + 1] (List.getElem_mem hj)
  have hne : (toks x)[k + 1].1 ≠ 5 := by
    rcases hg with ⟨_, _, _, hh, _⟩ | ⟨_, _, ht⟩
    · omega
    · unfold tokOf at ht
      split at ht
      · injection ht with ht; injection ht with h1 h2; omega
      · split at ht
        · injection ht with ht; injection ht with h1 h2; omega
        · split at ht
          · injection ht with ht; injection ht with h1 h2; omega
          · cases ht
  have := expr_bad x 32 (us.take (k + 1)) (5, [], 0, ((0 + c : Nat) : Int)) [] (k + 1) hj h.1.1.1 (end_odd _) (by rw [List.map_take, hm]) hne
  rw [hcd] at this
  rw [this]
  simp
/-- Scanning, so that it can be reckoned. -/
def lxF : Nat → Nat → List UInt8 → Scan
  | 0, p, _ => .ok [(5, [], 0, (p : Int))]
  | _ + 1, p, [] => .ok [(5, [], 0, (p : Int))]
  | f + 1, p, c :: t =>
    if isBl c then lxF f (p + 1) t
    else if isSg c then pre [(4, [c], 0, (p : Int))] (lxF f (p + 1) t)
    else match tokOf ((c :: t).takeWhile isPt) with
      | none => .error p
      | some kn => pre [(kn.1, (c :: t).takeWhile isPt, kn.2, (p : Int))] (lxF f (p + ((c :: t).takeWhile isPt).length) ((c :: t).dropWhile isPt))
theorem lxF_eq : ∀ (f : Nat) (p : Nat) (s : List UInt8), s.length ≤ f → lx p s = lxF f p s := by
  intro f
  induction f with
  | zero =>
    intro p s hs
    obtain rfl : s = [] := List.length_eq_zero_iff.1 (by omega)
    rw [lx_nil]; rfl
  | succ f ih =>
    intro p s hs
    cases s with
    | nil => rw [lx_nil]; rfl
    | cons c t =>
      simp only [List.length_cons] at hs
      unfold lxF
      cases hb : isBl c
      · cases hg : isSg c
        · cases hn : tokOf ((c :: t).takeWhile isPt) with
          | none => rw [lx_bad p c t hb hg hn]; simp
          | some kn =>
            have hx := tokOf_ne hn
            have h2 := run_len (c :: t)
            have h3 : 1 ≤ ((c :: t).takeWhile isPt).length := by
              rcases hx' : (c :: t).takeWhile isPt with _ | ⟨a, b⟩
              · exact absurd hx' hx
              · simp
            simp only [List.length_cons] at h2
            rw [lx_tok p c t kn.1 kn.2 hb hg hn, ih _ _ (by omega)]; simp
        · rw [lx_sign p c t hb hg, ih _ _ (by omega)]; simp
      · rw [lx_blank p c t hb, ih _ _ (by omega)]; simp
end Go.Proofs.Ytoajbbcjmalngaa

namespace Go.Proofs.Ytoajbbcjmalngaa
open Go.Lib
set_option linter.unusedVariables false
set_option linter.unusedSimpArgs false

def awA : List UInt8 := [108, 101, 115, 115, 40, 108, 111, 119, 101, 115, 116, 32, 48, 46, 48, 49, 41]
def awB : List UInt8 := [32, 105, 102, 40, 32, 109, 111, 114, 101, 40, 51, 41, 44, 109, 105, 110, 40, 102, 114, 111, 109, 40, 97, 41, 32, 44, 115, 101, 99, 111, 110, 100, 41, 44, 49, 46, 48, 48, 41]
def awC : List UInt8 := [105, 102, 40, 109, 111, 114, 101, 40, 51, 41, 44, 32, 109, 105, 110, 40, 102, 114, 111, 109, 40, 97, 41, 44, 32, 115, 101, 99, 111, 110, 100, 41, 44, 32, 49, 46, 48, 48, 41]
def awX : Ex := .mk 10 0 [] [.mk 11 3 [] [], .mk 7 0 [] [.mk 3 0 [97] [], .mk 2 0 [] []], .mk 4 100 [] []]
theorem awA_parse : parseS awA = .error (80, 12) := by
  have h : lx 0 awA = .ok [(1, [108, 101, 115, 115], 0, 0), (4, [40], 0, 4), (1, [108, 111, 119, 101, 115, 116], 0, 5), (3, [48, 46, 48, 49], 1, 12), (4, [41], 0, 16), (5, [], 0, 17)] := by
    rw [lxF_eq 20 0 awA (by decide)]; rfl
  unfold parseS
  rw [if_neg (by decide), h]
  rfl
theorem awB_parse : parseS awB = .ok awX := by
  have h : lx 0 awB = .ok [(1, [105, 102], 0, 1), (4, [40], 0, 3), (1, [109, 111, 114, 101], 0, 5), (4, [40], 0, 9), (2, [51], 3, 10), (4, [41], 0, 11), (4, [44], 0, 12), (1, [109, 105, 110], 0, 13), (4, [40], 0, 16), (1, [102, 114, 111, 109], 0, 17), (4, [40], 0, 21), (1, [97], 0, 22), (4, [41], 0, 23), (4, [44], 0, 25), (1, [115, 101, 99, 111, 110, 100], 0, 26), (4, [41], 0, 32), (4, [44], 0, 33), (3, [49, 46, 48, 48], 100, 34), (4, [41], 0, 38), (5, [], 0, 39)] := by
    rw [lxF_eq 40 0 awB (by decide)]; rfl
  unfold parseS
  rw [if_neg (by decide), h]
  rfl
theorem awX_text : text awX = awC := by
  have e1 : txt 100 = [49, 46, 48, 48] := by
    rw [txt_pos (by omega) (by omega)]
    unfold pos
    rw [show (100 : Int).toNat / 100 = 1 by decide, show (100 : Int).toNat / 10 % 10 = 0 by decide, show (100 : Int).toNat % 10 = 0 by decide, dd_one _ (by omega), dd_one _ (by omega)]
    rfl
  have e2 : itoa 3 = [51] := by rw [itoa_pos (by omega), show (3 : Int).toNat = 3 from rfl, dd_one _ (by omega)]; rfl
  unfold awX
  simp only [text_mk, texts_cons, texts_nil, mores_cons, mores_nil, tailK, e1, e2]
  decide
theorem awX_right : rightX awX = true := by
  unfold rightX
  rw [awX_text]
  have : size awX = 6 := by unfold awX; simp only [size_mk, sizes_cons, sizes_nil]
  rw [this]
  decide
end Go.Proofs.Ytoajbbcjmalngaa
