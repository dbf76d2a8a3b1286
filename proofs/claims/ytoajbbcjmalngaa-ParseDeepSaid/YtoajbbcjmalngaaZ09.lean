/- Plain mathematics of layer 8, eleventh part: the document's own state, tokens and what is wrong, step by step. No program in this text; Plain mathematics of layer 8, twelfth part: calls taken piece by piece; tokens known by their texts. No program in this text; The landed parser: its state; a token taken, a fault, an amount, a name, a sign, the end; The landed parser: a fault made; a sign, the end, a number, a name; what begins. -/
import Derived.Test.YtoajbbcjmalngaaZ08
import Derived.Test.YtoajbbcjmalngaaZ03
namespace Go.Proofs.Ytoajbbcjmalngaa
open Go.Lib
set_option linter.unusedVariables false
set_option linter.unusedSimpArgs false

abbrev PS := List Tok × Int
def zT : Tok := (0, [], 0, 0)
def zE : Ex := .mk 0 0 [] []
def wrongR (c : Int) (s : PS) : PS := if s.2 = 0 then (s.1, c) else s
def takeR (k : Int) (x : List UInt8) (s : PS) : Tok × PS :=
  if s.2 = 0 then (if (hdT s.1).1 = k ∧ (x = [] ∨ (hdT s.1).2.1 = x) then (hdT s.1, (if k = 5 then s.1 else s.1.tail, 0)) else (zT, (s.1, 80))) else (zT, s)
def betweenR (j : Nat) (s : PS) : PS := if j = 0 then s else (takeR 4 [44] s).2
/-- The first arguments. -/
def uptoR (f : Bool → PS → Ex × PS) (k : Int) : Nat → PS → List Ex × PS
  | 0, s => ([], s)
  | j + 1, s => ((uptoR f k j s).1 ++ [(f (decide (k = 10) && decide (j = 0)) (betweenR j (uptoR f k j s).2)).1], (f (decide (k = 10) && decide (j = 0)) (betweenR j (uptoR f k j s).2)).2)
def restR (k : Int) (s : PS) : (Int × List UInt8) × PS :=
  if k = 3 then ((0, (hdT s.1).2.1), (takeR 1 [] (if isName (hdT s.1).2.1 then s else wrongR 80 s)).2)
  else if k = 5 then (((takeR 3 [] (takeR 4 [44] s).2).1.2.2.1, []), (takeR 3 [] (takeR 4 [44] s).2).2)
  else if k = 6 then (((takeR 2 [] (takeR 4 [44] s).2).1.2.2.1, []), (takeR 2 [] (takeR 4 [44] s).2).2)
  else if k = 11 then (((hdT s.1).2.2.1, []), (takeR 2 [] (if (hdT s.1).2.2.1 ≤ 1000 then s else wrongR 80 s)).2)
  else ((0, []), s)
def callR (f : Bool → PS → Ex × PS) (k : Int) (s : PS) : Ex × PS :=
  (.mk k (restR k (uptoR f k (argsN k).toNat (takeR 4 [40] s).2).2).1.1 (restR k (uptoR f k (argsN k).toNat (takeR 4 [40] s).2).2).1.2 (uptoR f k (argsN k).toNat (takeR 4 [40] s).2).1,
    (takeR 4 [41] (restR k (uptoR f k (argsN k).toNat (takeR 4 [40] s).2).2).2).2)
def exprR : Nat → Bool → PS → Ex × PS
  | 0, _, s => (zE, wrongR 81 s)
  | d + 1, c, s =>
    if s.2 ≠ 0 then (zE, s)
    else if kindT c (hdT s.1) = 0 then (zE, (s.1, 80))
    else if kindT c (hdT s.1) = 4 then (.mk 4 (hdT s.1).2.2.1 [] [], (s.1.tail, 0))
    else if kindT c (hdT s.1) = 1 ∨ kindT c (hdT s.1) = 2 then (.mk (kindT c (hdT s.1)) 0 [] [], (takeR 1 [] s).2)
    else callR (exprR d) (kindT c (hdT s.1)) (takeR 1 [] s).2
/-- The state says what was told. -/
def SameR {α : Type} (r : Told α) (q : α × PS) : Prop := match r with
  | .ok (x, ts) => q = (x, (ts, 0))
  | .error E => q.2.2 = E.1 ∧ E.1 ≠ 0 ∧ atT q.2.1 = E.2
theorem SameR.ok_ {α : Type} {r : Told α} {q : α × PS} (h : SameR r q) {x : α} {ts : List Tok} (e : r = .ok (x, ts)) : q = (x, (ts, 0)) := by subst e; exact h
theorem SameR.er {α : Type} {r : Told α} {q : α × PS} (h : SameR r q) {E : Int × Int} (e : r = .error E) : q.2.2 = E.1 ∧ E.1 ≠ 0 ∧ atT q.2.1 = E.2 := by subst e; exact h
theorem SameR.of_er {α β : Type} {r : Told α} {q : α × PS} (h : SameR r q) {E : Int × Int} (e : r = .error E) {q' : β × PS} (hq : q'.2 = q.2) : SameR (.error E : Told β) q' := by
  obtain ⟨a, b, c⟩ := h.er e
  exact ⟨by rw [hq]; exact a, b, by rw [hq]; exact c⟩
theorem SameR.bad {α : Type} {r : Told α} {q : α × PS} (h : SameR r q) {E : Int × Int} (e : r = .error E) : q.2.2 ≠ 0 := by
  obtain ⟨a, b, c⟩ := h.er e
  rw [a]; exact b
theorem takeR_bad {k : Int} {x : List UInt8} {s : PS} (h : s.2 ≠ 0) : takeR k x s = (zT, s) := by unfold takeR; rw [if_neg h]
theorem wrongR_bad {c : Int} {s : PS} (h : s.2 ≠ 0) : wrongR c s = s := by unfold wrongR; rw [if_neg h]
theorem betweenR_bad {j : Nat} {s : PS} (h : s.2 ≠ 0) : betweenR j s = s := by unfold betweenR; rw [takeR_bad h]; split <;> rfl
theorem take_same (k : Int) (x : List UInt8) (ts : List Tok) : SameR (takeT k x ts) (takeR k x (ts, 0)) := by
  unfold takeT takeR
  rw [if_pos rfl]
  by_cases h : (hdT ts).1 = k ∧ (x = [] ∨ (hdT ts).2.1 = x)
  · rw [if_pos h, if_pos h]; rfl
  · rw [if_neg h, if_neg h]; exact ⟨rfl, show (80 : Int) ≠ 0 by decide, rfl⟩
theorem restR_bad {k : Int} {s : PS} (h : s.2 ≠ 0) : (restR k s).2 = s := by
  have hw : ∀ p : Prop, [Decidable p] → (if p then s else wrongR 80 s) = s := fun p _ => by rw [wrongR_bad h]; split <;> rfl
  unfold restR
  split
  · simp only [hw, takeR_bad h]
  · split
    · simp only [takeR_bad h]
    · split
      · simp only [takeR_bad h]
      · split
        · simp only [hw, takeR_bad h]
        · rfl
theorem uptoR_bad {f : Bool → PS → Ex × PS} {k : Int} (hf : ∀ b s, s.2 ≠ 0 → (f b s).2 = s) (j : Nat) {s : PS} (h : s.2 ≠ 0) : (uptoR f k j s).2 = s := by
  induction j with
  | zero => rfl
  | succ j ih =>
    unfold uptoR
    simp only [ih, betweenR_bad h]
    rw [hf _ _ h]
theorem callR_bad {f : Bool → PS → Ex × PS} {k : Int} (hf : ∀ b s, s.2 ≠ 0 → (f b s).2 = s) {s : PS} (h : s.2 ≠ 0) : (callR f k s).2 = s := by
  unfold callR
  simp only [takeR_bad h, uptoR_bad hf _ h, restR_bad h]
theorem exprR_bad (d : Nat) (c : Bool) (s : PS) (h : s.2 ≠ 0) : (exprR d c s).2 = s := by
  cases d with
  | zero => unfold exprR; exact wrongR_bad h
  | succ d => unfold exprR; rw [if_pos h]
/-- The arguments from the i-th on, the first of them first. -/
def argsR (f : Bool → PS → Ex × PS) (k : Int) : Nat → Nat → PS → List Ex × PS
  | _, 0, s => ([], s)
  | i, m + 1, s => ((f (decide (k = 10) && decide (i = 0)) (betweenR i s)).1 :: (argsR f k (i + 1) m (f (decide (k = 10) && decide (i = 0)) (betweenR i s)).2).1, (argsR f k (i + 1) m (f (decide (k = 10) && decide (i = 0)) (betweenR i s)).2).2)
theorem argsR_snoc (f : Bool → PS → Ex × PS) (k : Int) (m : Nat) : ∀ (i : Nat) (s : PS), argsR f k i (m + 1) s = ((argsR f k i m s).1 ++ [(f (decide (k = 10) && decide (i + m = 0)) (betweenR (i + m) (argsR f k i m s).2)).1], (f (decide (k = 10) && decide (i + m = 0)) (betweenR (i + m) (argsR f k i m s).2)).2) := by
  induction m with
  | zero => intro i s; rfl
  | succ m ih =>
    intro i s
    rw [argsR, ih]
    rw [show i + 1 + m = i + (m + 1) by omega]
    conv => rhs; rw [argsR]
    rfl
theorem uptoR_args (f : Bool → PS → Ex × PS) (k : Int) (m : Nat) (s : PS) : uptoR f k m s = argsR f k 0 m s := by
  induction m with
  | zero => rfl
  | succ m ih =>
    rw [argsR_snoc, uptoR, ih]
    simp only [Nat.zero_add]
theorem args_same {f : Bool → List Tok → Told Ex} {g : Bool → PS → Ex × PS} (k : Int) (h : ∀ b ts, SameR (f b ts) (g b (ts, 0))) (hg : ∀ b s, s.2 ≠ 0 → (g b s).2 = s) (m : Nat) : ∀ (i : Nat) (ts : List Tok), SameR (argsT f k i m ts) (argsR g k i m (ts, 0)) := by
  induction m with
  | zero => intro i ts; rfl
  | succ m ih =>
    have hbad : ∀ (i m : Nat) (s : PS), s.2 ≠ 0 → (argsR g k i m s).2 = s := by
      intro i m
      induction m generalizing i with
      | zero => intro s _; rfl
      | succ m ih => intro s hs; rw [argsR]; simp only [betweenR_bad hs]; rw [ih _ _ (by rw [hg _ _ hs]; exact hs), hg _ _ hs]
    intro i ts
    have hb : SameR (if i = 0 then (.ok ((5, [], 0, 0), ts) : Told Tok) else takeT 4 [44] ts) (if i = 0 then ((5, [], 0, 0), (ts, 0)) else takeR 4 [44] (ts, 0)) := by
      split
      · rfl
      · exact take_same 4 [44] ts
    have hbe : betweenR i (ts, 0) = (if i = 0 then ((5, [], 0, 0), (ts, 0)) else takeR 4 [44] (ts, 0)).2 := by unfold betweenR; split <;> rfl
    unfold argsT argsR
    rw [hbe]
    generalize (if i = 0 then ((5, [], 0, 0), (ts, 0)) else takeR 4 [44] (ts, 0)) = q at hb
    cases hr : (if i = 0 then (.ok ((5, [], 0, 0), ts) : Told Tok) else takeT 4 [44] ts) with
    | error E =>
      have hq := hb.bad hr
      exact hb.of_er hr (by simp only [hg _ _ hq]; rw [hbad _ _ _ hq])
    | ok p =>
      obtain ⟨t, ts1⟩ := p
      obtain rfl := hb.ok_ hr
      have hf := h (decide (k = 10) && decide (i = 0)) ts1
      simp only
      cases hx : f (decide (k = 10) && decide (i = 0)) ts1 with
      | error E =>
        have hq := hf.bad hx
        exact hf.of_er hx (hbad _ _ _ hq)
      | ok p2 =>
        obtain ⟨x, ts2⟩ := p2
        have e2 := hf.ok_ hx
        rw [e2]
        simp only
        have hi := ih (i + 1) ts2
        cases hy : argsT f k (i + 1) m ts2 with
        | error E => exact hi.of_er hy rfl
        | ok p3 =>
          obtain ⟨l, ts3⟩ := p3
          have e3 := hi.ok_ hy
          rw [e3]
          rfl
theorem rest_same (k : Int) (ts : List Tok) : SameR (restT k ts) (restR k (ts, 0)) := by
  have two : ∀ K : Int, SameR (match takeT 4 [44] ts with | .error e => (.error e : Told (Int × List UInt8)) | .ok (_, ts) => (match takeT K [] ts with | .error e => .error e | .ok (t, ts) => .ok ((t.2.2.1, []), ts))) (((takeR K [] (takeR 4 [44] (ts, 0)).2).1.2.2.1, []), (takeR K [] (takeR 4 [44] (ts, 0)).2).2) := by
    intro K
    have h1 := take_same 4 [44] ts
    cases hr : takeT 4 [44] ts with
    | error E =>
      have hq := h1.bad hr
      exact h1.of_er hr (by simp only [takeR_bad hq])
    | ok p =>
      obtain ⟨t, ts1⟩ := p
      rw [h1.ok_ hr]
      simp only
      have h2 := take_same K [] ts1
      cases hr2 : takeT K [] ts1 with
      | error E => exact h2.of_er hr2 rfl
      | ok p2 =>
        obtain ⟨t2, ts2⟩ := p2
        rw [h2.ok_ hr2]
        rfl
  unfold restT restR
  by_cases e3 : k = 3
  · rw [if_pos e3, if_pos e3]
    by_cases hn : isName (hdT ts).2.1 = true
    · rw [if_pos hn, if_pos hn]
      have h2 := take_same 1 [] ts
      cases hr2 : takeT 1 [] ts with
      | error E => exact h2.of_er hr2 rfl
      | ok p2 =>
        obtain ⟨t2, ts2⟩ := p2
        have e2 := h2.ok_ hr2
        rw [e2]
        have : t2 = hdT ts := by
          unfold takeT at hr2
          split at hr2
          · injection hr2 with hr2; injection hr2 with a b; exact a.symm
          · cases hr2
        rw [this]
        rfl
    · rw [if_neg hn, if_neg hn]
      show SameR (.error (80, atT ts)) ((0, (hdT ts).2.1), (takeR 1 [] (ts, 80)).2)
      rw [takeR_bad (show (80 : Int) ≠ 0 by decide)]
      exact ⟨rfl, show (80 : Int) ≠ 0 by decide, rfl⟩
  · rw [if_neg e3, if_neg e3]
    by_cases e5 : k = 5
    · rw [if_pos e5, if_pos e5]; exact two 3
    · rw [if_neg e5, if_neg e5]
      by_cases e6 : k = 6
      · rw [if_pos e6, if_pos e6]; exact two 2
      · rw [if_neg e6, if_neg e6]
        by_cases e11 : k = 11
        · rw [if_pos e11, if_pos e11]
          by_cases hn : (hdT ts).2.2.1 ≤ 1000
          · rw [if_pos hn, if_pos hn]
            have h2 := take_same 2 [] ts
            cases hr2 : takeT 2 [] ts with
            | error E => exact h2.of_er hr2 rfl
            | ok p2 =>
              obtain ⟨t2, ts2⟩ := p2
              have e2 := h2.ok_ hr2
              rw [e2]
              have : t2 = hdT ts := by
                unfold takeT at hr2
                split at hr2
                · injection hr2 with hr2; injection hr2 with a b; exact a.symm
                · cases hr2
              rw [this]
              rfl
          · rw [if_neg hn, if_neg hn]
            show SameR (.error (80, atT ts)) (((hdT ts).2.2.1, []), (takeR 2 [] (ts, 80)).2)
            rw [takeR_bad (show (80 : Int) ≠ 0 by decide)]
            exact ⟨rfl, show (80 : Int) ≠ 0 by decide, rfl⟩
        · rw [if_neg e11, if_neg e11]; rfl
theorem call_same {f : Bool → List Tok → Told Ex} {g : Bool → PS → Ex × PS} (k : Int) (h : ∀ b ts, SameR (f b ts) (g b (ts, 0))) (hg : ∀ b s, s.2 ≠ 0 → (g b s).2 = s) (ts : List Tok) : SameR (callT f k ts) (callR g k (ts, 0)) := by
  unfold callT callR
  have h1 := take_same 4 [40] ts
  cases hr : takeT 4 [40] ts with
  | error E =>
    have hq := h1.bad hr
    exact h1.of_er hr (by simp only [uptoR_bad hg _ hq, restR_bad hq, takeR_bad hq])
  | ok p =>
    obtain ⟨t, ts1⟩ := p
    rw [h1.ok_ hr]
    simp only
    have h2 := args_same k h hg (argsN k).toNat 0 ts1
    rw [← uptoR_args] at h2
    cases hr2 : argsT f k 0 (argsN k).toNat ts1 with
    | error E =>
      have hq := h2.bad hr2
      exact h2.of_er hr2 (by simp only [restR_bad hq, takeR_bad hq])
    | ok p2 =>
      obtain ⟨l, ts2⟩ := p2
      rw [h2.ok_ hr2]
      simp only
      have h3 := rest_same k ts2
      cases hr3 : restT k ts2 with
      | error E =>
        have hq := h3.bad hr3
        exact h3.of_er hr3 (by simp only [takeR_bad hq])
      | ok p3 =>
        obtain ⟨⟨n, nm⟩, ts3⟩ := p3
        rw [h3.ok_ hr3]
        simp only
        have h4 := take_same 4 [41] ts3
        cases hr4 : takeT 4 [41] ts3 with
        | error E => exact h4.of_er hr4 rfl
        | ok p4 =>
          obtain ⟨t4, ts4⟩ := p4
          rw [h4.ok_ hr4]
          rfl
theorem kind_tok {c : Bool} {t : Tok} (h : kindT c t ≠ 0) : (kindT c t = 4 → t.1 = 3 ∨ t.1 = 1) ∧ (kindT c t ≠ 4 → t.1 = 1) := by
  unfold kindT at h ⊢
  split
  · rename_i h3; exact ⟨fun _ => .inl h3.1, fun h => absurd rfl h⟩
  · rename_i h3
    rw [if_neg h3] at h
    split
    · rename_i h1; exact ⟨fun _ => .inr h1, fun _ => h1⟩
    · rename_i h1; rw [if_neg h1] at h; exact absurd rfl h
theorem kindW_4 (c : Bool) (x : List UInt8) (hx : x ≠ []) : kindW c x ≠ 4 := by
  unfold kindW
  intro h
  cases hf : (([1, 2, 3, 4, 5, 6, 7, 8, 9, 10, 11, 12] : List Int).find? fun k => wordK k == x && isCond k == c) with
  | none => rw [hf] at h; cases h
  | some k =>
    rw [hf] at h
    have hk : k = 4 := h
    have := List.find?_some hf
    simp only [Bool.and_eq_true, beq_iff_eq] at this
    rw [hk] at this
    exact hx this.1.symm
theorem takeR_ok {k : Int} {ts : List Tok} (h : (hdT ts).1 = k) (h5 : k ≠ 5) : takeR k [] (ts, 0) = (hdT ts, (ts.tail, 0)) := by
  unfold takeR
  rw [if_pos rfl, if_pos ⟨h, .inl rfl⟩, if_neg h5]
/-- Step by step it is what is told. -/
theorem expr_same (d : Nat) : ∀ (c : Bool) (ts : List Tok), SameR (exprT d c ts) (exprR d c (ts, 0)) := by
  induction d with
  | zero => intro c ts; exact ⟨rfl, show (81 : Int) ≠ 0 by decide, rfl⟩
  | succ d ih =>
    intro c ts
    unfold exprT exprR
    rw [if_neg (show ¬ ((0 : Int) ≠ 0) by decide)]
    by_cases k0 : kindT c (hdT ts) = 0
    · rw [if_pos k0, if_pos k0]; exact ⟨rfl, show (80 : Int) ≠ 0 by decide, rfl⟩
    · rw [if_neg k0, if_neg k0]
      by_cases k4 : kindT c (hdT ts) = 4
      · rw [if_pos k4, if_pos k4]; rfl
      · rw [if_neg k4, if_neg k4, takeR_ok ((kind_tok k0).2 k4) (by decide)]
        by_cases k1 : kindT c (hdT ts) = 1 ∨ kindT c (hdT ts) = 2
        · rw [if_pos k1, if_pos k1]; rfl
        · rw [if_neg k1, if_neg k1]
          exact call_same _ ih (exprR_bad d) ts.tail
end Go.Proofs.Ytoajbbcjmalngaa

namespace Go.Proofs.Ytoajbbcjmalngaa
open Go.Lib
set_option linter.unusedVariables false
set_option linter.unusedSimpArgs false

/-- A token as a scan tells it: its text tells its kind. -/
def okP (t : Tok) : Prop := okT t ∧ (isWord t.2.1 = true → t.1 = 1) ∧ (isName t.2.1 = true → t.1 = 1) ∧ (t.2.1 = [40] ∨ t.2.1 = [41] ∨ t.2.1 = [44] → t.1 = 4) ∧ (1 ≤ t.1 ∧ t.1 ≤ 5)
theorem good_okP {x : List UInt8} {k n p : Int} (h : Good x k n) : okP (k, x, n, p) := by
  refine ⟨good_okT h, ?_, ?_, ?_, ?_⟩
  · intro hw
    rcases h with ⟨c, rfl, hs, _⟩ | ⟨_, _, ht⟩
    · exfalso
      simp only at hw
      unfold isWord theWords at hw
      simp at hw
    · simp only at hw ⊢
      unfold tokOf at ht
      rw [hw] at ht
      simp at ht
      exact ht.1.symm
  · intro hw
    rcases h with ⟨c, rfl, hs, _⟩ | ⟨_, _, ht⟩
    · exfalso
      simp only at hw
      unfold isName at hw
      unfold isSg at hs
      unfold isL at hw
      simp only [Bool.or_eq_true, beq_iff_eq] at hs
      rcases hs with (rfl | rfl) | rfl <;> simp at hw
    · simp only at hw ⊢
      unfold tokOf at ht
      rw [hw] at ht
      simp at ht
      exact ht.1.symm
  · intro hw
    rcases h with ⟨c, rfl, hs, hk, _⟩ | ⟨_, ha, _⟩
    · exact hk
    · exfalso
      simp only at hw
      rcases hw with rfl | rfl | rfl <;> revert ha <;> decide
  · rcases h with ⟨c, rfl, hs, rfl, _⟩ | ⟨_, _, ht⟩
    · exact ⟨show (1 : Int) ≤ 4 by decide, show (4 : Int) ≤ 5 by decide⟩
    · unfold tokOf at ht
      split at ht
      · injection ht with ht; injection ht with a b; subst a; exact ⟨show (1 : Int) ≤ 1 by decide, show (1 : Int) ≤ 5 by decide⟩
      · split at ht
        · injection ht with ht; injection ht with a b; subst a; exact ⟨show (1 : Int) ≤ 2 by decide, show (2 : Int) ≤ 5 by decide⟩
        · cases hp : prs x with
          | none => rw [hp] at ht; cases ht
          | some v => rw [hp] at ht; injection ht with ht; injection ht with a b; subst a; exact ⟨show (1 : Int) ≤ 3 by decide, show (3 : Int) ≤ 5 by decide⟩
theorem end_okP (p : Int) : okP (5, [], 0, p) := by
  refine ⟨⟨?_, ?_, ?_⟩, ?_, ?_, ?_, ?_⟩
  · intro e; simp at e
  · intro e; simp at e
  · intro e; simp at e
  · intro e; exact absurd (show isWord [] = true from e) (by decide)
  · intro e; exact absurd (show isName [] = true from e) (by decide)
  · intro e; simp at e
  · exact ⟨show (1 : Int) ≤ 5 by decide, show (5 : Int) ≤ 5 by decide⟩
theorem lx_okP {p : Nat} {s : List UInt8} {l : List Tok} (h : lx p s = .ok l) : ∀ t ∈ l, okP t := by
  obtain ⟨ts, rfl, hts, _, _⟩ := lx_out _ s (Nat.le_refl _) p l h
  intro t ht
  rcases List.mem_append.1 ht with h1 | h1
  · exact good_okP (hts t h1).1
  · obtain rfl := List.mem_singleton.1 h1
    exact end_okP _
theorem hd_okP {ts : List Tok} (h : ∀ t ∈ ts, okP t) : okP (hdT ts) := by
  cases ts with
  | nil => exact end_okP 0
  | cons t r => exact h t (List.mem_cons_self ..)
theorem hd_cons (t : Tok) (r : List Tok) : hdT (t :: r) = t := rfl
theorem tail_okP {ts : List Tok} (h : ∀ t ∈ ts, okP t) : ∀ t ∈ ts.tail, okP t := fun t ht => h t (List.mem_of_mem_tail ht)
theorem suf_okP {a ts : List Tok} (h : ∀ t ∈ a ++ ts, okP t) : ∀ t ∈ ts, okP t := fun t ht => h t (List.mem_append_right _ ht)
/-- A sign is known by its text. -/
theorem sign_take {c : UInt8} (hc : c = 40 ∨ c = 41 ∨ c = 44) (ts : List Tok) (h : okP (hdT ts)) : takeT 4 [c] ts = if (hdT ts).2.1 = [c] then .ok (hdT ts, ts.tail) else .error (80, atT ts) := by
  unfold takeT
  by_cases e : (hdT ts).2.1 = [c]
  · have h4 : (hdT ts).1 = 4 := h.2.2.2.1 (by rw [e]; rcases hc with rfl | rfl | rfl <;> simp)
    rw [if_pos ⟨h4, .inr e⟩, if_pos e, if_neg (show ¬ ((4 : Int) = 5) by decide)]
  · rw [if_neg (fun hh => by rcases hh.2 with h' | h' <;> simp_all), if_neg e]
def numP (k m : Int) (ts : List Tok) : Told Int := if (hdT ts).1 = k ∧ (hdT ts).2.2.1 ≤ m then .ok ((hdT ts).2.2.1, ts.tail) else .error (80, atT ts)
def nameP (ts : List Tok) : Told (List UInt8) := if isName (hdT ts).2.1 = true then .ok ((hdT ts).2.1, ts.tail) else .error (80, atT ts)
inductive Pc where
  | ar | wh | na | am | pa | co
def Ex.push (x y : Ex) : Ex := .mk x.k x.n x.nm (x.l ++ [y])
def Ex.num (x : Ex) (n : Int) : Ex := .mk x.k n x.nm x.l
def Ex.name (x : Ex) (m : List UInt8) : Ex := .mk x.k x.n m x.l
/-- A piece, taken. -/
def stepP (f : Bool → List Tok → Told Ex) (p : Pc) (x : Ex) (ts : List Tok) : Told Ex :=
  match p with
  | .ar => (match f false ts with | .error e => .error e | .ok (y, r) => .ok (x.push y, r))
  | .wh => (match f true ts with | .error e => .error e | .ok (y, r) => .ok (x.push y, r))
  | .na => (match nameP ts with | .error e => .error e | .ok (m, r) => .ok (x.name m, r))
  | .am => (match numP 3 1000000000000 ts with | .error e => .error e | .ok (n, r) => .ok (x.num n, r))
  | .pa => (match numP 2 100000 ts with | .error e => .error e | .ok (n, r) => .ok (x.num n, r))
  | .co => (match numP 2 1000 ts with | .error e => .error e | .ok (n, r) => .ok (x.num n, r))
def piecesP (f : Bool → List Tok → Told Ex) : List Pc → UInt8 → Ex → List Tok → Told Ex
  | [], _, x, ts => (match takeT 4 [41] ts with | .error e => .error e | .ok (_, r) => .ok (x, r))
  | p :: ps, b, x, ts =>
    match takeT 4 [b] ts with
    | .error e => .error e
    | .ok (_, r) =>
      match stepP f p x r with
      | .error e => .error e
      | .ok (y, r) => piecesP f ps 44 y r
def pcsOf (k : Int) : List Pc := if k = 3 then [.na] else if k = 5 then [.ar, .am] else if k = 6 then [.ar, .pa] else if k = 10 then [.wh, .ar, .ar] else if k = 11 then [.co] else [.ar, .ar]
theorem num_take {k m : Int} {ts : List Tok} (h : okP (hdT ts)) (hk : k = 3 ∧ m = 1000000000000 ∨ k = 2 ∧ m = 100000) : numP k m ts = (match takeT k [] ts with | .error e => .error e | .ok (t, r) => .ok (t.2.2.1, r)) := by
  unfold numP takeT
  by_cases e : (hdT ts).1 = k
  · have hm : (hdT ts).2.2.1 ≤ m := by
      rcases hk with ⟨rfl, rfl⟩ | ⟨rfl, rfl⟩
      · exact (h.1.1 e).2
      · exact (h.1.2.1 e).2
    rw [if_pos ⟨e, hm⟩, if_pos ⟨e, .inl rfl⟩, if_neg (by omega)]
  · rw [if_neg (fun hh => e hh.1), if_neg (fun hh => e hh.1)]
theorem num_count (ts : List Tok) : numP 2 1000 ts = (if (hdT ts).2.2.1 ≤ 1000 then (match takeT 2 [] ts with | .error e => .error e | .ok (t, r) => .ok (t.2.2.1, r)) else .error (80, atT ts)) := by
  unfold numP takeT
  by_cases e : (hdT ts).1 = 2
  · by_cases h : (hdT ts).2.2.1 ≤ 1000
    · rw [if_pos ⟨e, h⟩, if_pos h, if_pos ⟨e, .inl rfl⟩, if_neg (by decide)]
    · rw [if_neg (fun hh => h hh.2), if_neg h]
  · rw [if_neg (fun hh => e hh.1)]
    split
    · rw [if_neg (fun hh => e hh.1)]
    · rfl
theorem name_take {ts : List Tok} (h : okP (hdT ts)) : nameP ts = (if isName (hdT ts).2.1 = true then (match takeT 1 [] ts with | .error e => .error e | .ok (t, r) => .ok (t.2.1, r)) else .error (80, atT ts)) := by
  unfold nameP takeT
  by_cases e : isName (hdT ts).2.1 = true
  · rw [if_pos e, if_pos e, if_pos ⟨h.2.2.1 e, .inl rfl⟩, if_neg (by decide)]
  · rw [if_neg e, if_neg e]
theorem take_rest {k : Int} {x : List UInt8} {ts r : List Tok} {t : Tok} (h : takeT k x ts = .ok (t, r)) (hk : k ≠ 5) : r = ts.tail := by
  unfold takeT at h
  split at h
  · injection h with h; injection h with a b; first | exact b.symm | (rw [if_neg hk] at b; exact b.symm)
  · cases h
theorem expr_rest {d : Nat} {c : Bool} {ts r : List Tok} {x : Ex} (ho : ∀ t ∈ ts, okP t) (h : exprT d c ts = .ok (x, r)) : ∀ t ∈ r, okP t := by
  have := expr_spec d c ts (fun t ht => (ho t ht).1)
  rw [h] at this
  obtain ⟨_, a, rfl⟩ := this
  exact suf_okP ho
/-- Piece by piece a call is what is told. -/
theorem call_pieces (d : Nat) (k : Int) (hk : k = 3 ∨ k = 5 ∨ k = 6 ∨ k = 7 ∨ k = 8 ∨ k = 9 ∨ k = 10 ∨ k = 11 ∨ k = 12) (ts : List Tok) (ho : ∀ t ∈ ts, okP t) : piecesP (exprT d) (pcsOf k) 40 (.mk k 0 [] []) ts = callT (exprT d) k ts := by
  have hab : k = 3 ∨ k = 11 ∨ (k = 5 ∨ k = 6) ∨ (k = 7 ∨ k = 8 ∨ k = 9 ∨ k = 12) ∨ k = 10 := by omega
  unfold callT
  cases h1 : takeT 4 [40] ts with
  | error e => rcases hk with rfl | rfl | rfl | rfl | rfl | rfl | rfl | rfl | rfl <;> (unfold pcsOf; simp only [Int.reduceEq, if_true, if_false, piecesP, h1])
  | ok p =>
    obtain ⟨t0, r1⟩ := p
    have o1 : ∀ t ∈ r1, okP t := by rw [take_rest h1 (by decide)]; exact tail_okP ho
    simp only
    rcases hab with rfl | rfl | hab | hab | rfl
    · unfold pcsOf restT
      simp only [Int.reduceEq, if_true, piecesP, h1, stepP, name_take (hd_okP o1), show (argsN 3).toNat = 0 from by decide, argsT]
      by_cases hh : isName (hdT r1).2.1 = true
      · simp only [hh, if_true]
        cases h2 : takeT 1 [] r1 with
        | error e => rfl
        | ok p2 =>
          simp only
          cases h3 : takeT 4 [41] p2.2 <;> rfl
      · simp only [hh, if_false, Bool.false_eq_true]
    · unfold pcsOf restT
      simp only [Int.reduceEq, if_true, if_false, piecesP, h1, stepP, num_count, show (argsN 11).toNat = 0 from by decide, argsT]
      by_cases hh : (hdT r1).2.2.1 ≤ 1000
      · simp only [hh, if_true]
        cases h2 : takeT 2 [] r1 with
        | error e => rfl
        | ok p2 =>
          simp only
          cases h3 : takeT 4 [41] p2.2 <;> rfl
      · simp only [hh, if_false, Bool.false_eq_true]
    · have e1 : (argsN k).toNat = 1 := by rcases hab with rfl | rfl <;> decide
      have e10 : decide (k = 10) = false := by rcases hab with rfl | rfl <;> decide
      rw [e1]
      simp only [argsT, if_true, e10, Bool.false_and]
      cases h2 : exprT d false r1 with
      | error e => rcases hab with rfl | rfl <;> (unfold pcsOf; simp only [Int.reduceEq, if_true, if_false, piecesP, h1, stepP, h2])
      | ok p2 =>
        obtain ⟨y, r2⟩ := p2
        have o2 := expr_rest o1 h2
        simp only
        cases h3 : takeT 4 [44] r2 with
        | error e => rcases hab with rfl | rfl <;> (unfold pcsOf restT; simp only [Int.reduceEq, if_true, if_false, piecesP, h1, stepP, h2, h3])
        | ok p3 =>
          obtain ⟨t3, r3⟩ := p3
          have o3 : ∀ t ∈ r3, okP t := by rw [take_rest h3 (by decide)]; exact tail_okP o2
          rcases hab with rfl | rfl
          · unfold pcsOf restT
            simp only [Int.reduceEq, if_true, if_false, piecesP, h1, stepP, h2, h3, num_take (hd_okP o3) (.inl ⟨rfl, rfl⟩)]
            cases h4 : takeT 3 [] r3 with
            | error e => rfl
            | ok p4 =>
              simp only
              cases h5 : takeT 4 [41] p4.2 <;> rfl
          · unfold pcsOf restT
            simp only [Int.reduceEq, if_true, if_false, piecesP, h1, stepP, h2, h3, num_take (hd_okP o3) (.inr ⟨rfl, rfl⟩)]
            cases h4 : takeT 2 [] r3 with
            | error e => rfl
            | ok p4 =>
              simp only
              cases h5 : takeT 4 [41] p4.2 <;> rfl
    · have e1 : (argsN k).toNat = 2 := by rcases hab with rfl | rfl | rfl | rfl <;> decide
      have e10 : decide (k = 10) = false := by rcases hab with rfl | rfl | rfl | rfl <;> decide
      have ep : pcsOf k = [.ar, .ar] := by rcases hab with rfl | rfl | rfl | rfl <;> rfl
      have er : ∀ ts, restT k ts = .ok ((0, []), ts) := by rcases hab with rfl | rfl | rfl | rfl <;> (intro ts; rfl)
      rw [e1, ep]
      simp only [argsT, if_true, e10, Bool.false_and, piecesP, h1, stepP, er, Nat.reduceAdd, if_neg (show ¬ ((0 : Nat) + 1 = 0) by decide), if_neg (show ¬ ((1 : Nat) = 0) by decide)]
      cases h2 : exprT d false r1 with
      | error e => rfl
      | ok p2 =>
        simp only
        cases h3 : takeT 4 [44] p2.2 with
        | error e => rfl
        | ok p3 =>
          simp only
          cases h4 : exprT d false p3.2 with
          | error e => rfl
          | ok p4 =>
            simp only
            cases h5 : takeT 4 [41] p4.2 <;> rfl
    · have e1 : (argsN 10).toNat = 3 := by decide
      have ep : pcsOf 10 = [.wh, .ar, .ar] := rfl
      have er : ∀ ts, restT 10 ts = .ok ((0, []), ts) := fun ts => rfl
      rw [e1, ep]
      simp only [argsT, if_true, piecesP, h1, stepP, er, Nat.reduceAdd, if_neg (show ¬ ((0 : Nat) + 1 = 0) by decide), if_neg (show ¬ ((1 : Nat) = 0) by decide), if_neg (show ¬ ((2 : Nat) = 0) by decide), decide_true, Bool.true_and, show decide ((1 : Nat) = 0) = false from rfl, show decide ((2 : Nat) = 0) = false from rfl]
      cases h2 : exprT d true r1 with
      | error e => rfl
      | ok p2 =>
        simp only
        cases h3 : takeT 4 [44] p2.2 with
        | error e => rfl
        | ok p3 =>
          simp only
          cases h4 : exprT d false p3.2 with
          | error e => rfl
          | ok p4 =>
            simp only
            cases h5 : takeT 4 [44] p4.2 with
            | error e => rfl
            | ok p5 =>
              simp only
              cases h6 : exprT d false p5.2 with
              | error e => rfl
              | ok p6 =>
                simp only
                cases h7 : takeT 4 [41] p6.2 <;> rfl
/-- The kind that begins with a token, by its text. -/
theorem kind_text {t : Tok} (h : okP t) (c : Bool) (h3 : t.1 = 3 → c = true) : kindT c t = kindW c t.2.1 ∨ (kindT c t = 0 ∧ isWord t.2.1 = false) := by
  unfold kindT
  rw [if_neg (fun hh => by rw [h3 hh.1] at hh; cases hh.2)]
  by_cases h1 : t.1 = 1
  · rw [if_pos h1]; exact .inl rfl
  · rw [if_neg h1]
    right
    refine ⟨rfl, ?_⟩
    cases hw : isWord t.2.1
    · rfl
    · exact absurd (h.2.1 hw) h1
theorem wordL_kind {k : Int} {c : Bool} {x : List UInt8} (h : kindW c x = k) (hk : k ≠ 0) : x = wordK k ∧ isCond k = c := by
  unfold kindW at h
  cases hf : (([1, 2, 3, 4, 5, 6, 7, 8, 9, 10, 11, 12] : List Int).find? fun k => wordK k == x && isCond k == c) with
  | none => rw [hf] at h; exact absurd h.symm hk
  | some q =>
    rw [hf] at h
    have hq : q = k := h
    have := List.find?_some hf
    simp only [Bool.and_eq_true, beq_iff_eq] at this
    rw [hq] at this
    exact ⟨this.1.symm, this.2⟩
theorem wordL_none {c : Bool} {x : List UInt8} (h : kindW c x = 0) (k : Int) (h1 : 1 ≤ k) (h2 : k ≤ 12) (hc : isCond k = c) : x ≠ wordK k := by
  rintro rfl
  unfold kindW at h
  cases hf : (([1, 2, 3, 4, 5, 6, 7, 8, 9, 10, 11, 12] : List Int).find? fun q => wordK q == wordK k && isCond q == c) with
  | none =>
    have := List.find?_eq_none.1 hf k (by simp only [List.mem_cons, List.not_mem_nil, or_false]; omega)
    simp [hc] at this
  | some q =>
    rw [hf] at h
    have hq : q = 0 := h
    have := List.mem_of_find?_eq_some hf
    rw [hq] at this
    simp at this
/-- No word begins one: none of these texts is its. -/
theorem kind_none {t : Tok} (h : okP t) (c : Bool) (h3 : t.1 = 3 → c = true) (h0 : kindT c t = 0) (k : Int) (h1 : 1 ≤ k) (h2 : k ≤ 12) (h4 : k ≠ 4) (hc : isCond k = c) : t.2.1 ≠ wordK k := by
  rcases kind_text h c h3 with e | ⟨_, e⟩
  · exact wordL_none (by rw [← e]; exact h0) k h1 h2 hc
  · rintro h'
    rw [h'] at e
    have : k = 1 ∨ k = 2 ∨ k = 3 ∨ k = 5 ∨ k = 6 ∨ k = 7 ∨ k = 8 ∨ k = 9 ∨ k = 10 ∨ k = 11 ∨ k = 12 := by omega
    revert e
    rcases this with rfl | rfl | rfl | rfl | rfl | rfl | rfl | rfl | rfl | rfl | rfl <;> decide
/-- A word begins one: its text is that word. -/
theorem kind_some {t : Tok} (h : okP t) (c : Bool) {k : Int} (hk : kindT c t = k) (h0 : k ≠ 0) (h3 : t.1 = 3 → c = true) : t.2.1 = wordK k ∧ isCond k = c := by
  rcases kind_text h c h3 with e | ⟨e, _⟩
  · exact wordL_kind (by rw [← e]; exact hk) h0
  · exact absurd (by rw [← hk, e]) h0
end Go.Proofs.Ytoajbbcjmalngaa

namespace Go.Proofs.Ytoajbbcjmalngaa
open Go.RowKit Go.Lib
set_option linter.unusedVariables false
set_option linter.unusedSimpArgs false

/-- A parse ended by a fault. -/
abbrev FLT (c p : Int) : Ending := .panicked [{ v := .iface 67 (.agg #[.int .i64 c, .int .i64 p]), recovered := false }]
def FineP (ts : List Tok) : Prop := (∀ t ∈ ts, okP t ∧ i64 t.1 ∧ i64 t.2.2.1 ∧ i64 t.2.2.2 ∧ t.2.1.length ≤ 100) ∧ ts.length ≤ 100000 ∧ ∃ us p, ts = us ++ [(5, [], 0, p)]
theorem FineP.ne {ts : List Tok} (h : FineP ts) : 0 < ts.length := by
  obtain ⟨_, _, us, p, rfl⟩ := h; simp
theorem FineP.tail {ts : List Tok} (h : FineP ts) (hn : ts.tail ≠ []) : FineP ts.tail := by
  obtain ⟨h1, h2, us, p, rfl⟩ := h
  refine ⟨fun t ht => h1 t (List.mem_of_mem_tail ht), by rw [List.length_tail]; omega, ?_⟩
  cases us with
  | nil => exact absurd rfl hn
  | cons t r => exact ⟨r, p, rfl⟩
theorem FineP.head {ts : List Tok} (h : FineP ts) : okP (hdT ts) ∧ i64 (hdT ts).1 ∧ i64 (hdT ts).2.2.1 ∧ i64 (hdT ts).2.2.2 ∧ (hdT ts).2.1.length ≤ 100 := by
  have hn := h.ne
  cases ts with
  | nil => simp at hn
  | cons t r => exact h.1 t (List.mem_cons_self ..)
theorem FineP.last {ts : List Tok} (h : FineP ts) (h5 : (hdT ts).1 ≠ 5 ∨ (hdT ts).2.1 ≠ []) : ts.tail ≠ [] := by
  obtain ⟨_, _, us, p, rfl⟩ := h
  cases us with
  | nil => simp [hdT] at h5
  | cons t r => simp
theorem FineP.oks {ts : List Tok} (h : FineP ts) : ∀ t ∈ ts, okP t := fun t ht => (h.1 t ht).1
/-- In this world the parser at g has these tokens ahead, within so many others; V: the world before it. -/
def StP (V w : World) (g : Nat) (ts : List Tok) (a : Nat) : Prop :=
  ∃ (A : Option Addr) (c : Nat), Rel V w ∧ V.heap.size ≤ g ∧ ToksAt V A ts ∧ FineP ts ∧ ts.length ≤ c ∧ c ≤ 9223372036854775807 ∧ a ≤ 100 ∧ Bk w g 70 #[.slice A ts.length c, .int .i64 a]
theorem StP.lt {V w : World} {g a : Nat} {ts : List Tok} (h : StP V w g ts a) : g < w.heap.size := by
  obtain ⟨_, _, _, _, _, _, _, _, _, hb⟩ := h; exact hb.lt
theorem StP.fine {V w : World} {g a : Nat} {ts : List Tok} (h : StP V w g ts a) : FineP ts := by
  obtain ⟨_, _, _, _, _, hf, _⟩ := h; exact hf
theorem StP.V {V w : World} {g a : Nat} {ts : List Tok} (h : StP V w g ts a) : Rel V w ∧ V.heap.size ≤ g := by
  obtain ⟨_, _, hr, hg, _⟩ := h; exact ⟨hr, hg⟩
theorem StP.rel {V w w' : World} {g a : Nat} {ts : List Tok} (h : StP V w g ts a) (hr : Rel w w') : StP V w' g ts a := by
  obtain ⟨A, c, h1, h2, h3, h4, h5, h6, h7, h8⟩ := h
  exact ⟨A, c, h1.trans hr, h2, h3, h4, h5, h6, h7, h8.rel hr⟩
theorem StP.grown {V w w' : World} {g a : Nat} {ts : List Tok} (h : StP V w g ts a) {b : Option Nat} (hg : w.grownBy w' b) (hb : some g ≠ b) (hV : ∀ k, b = some k → V.heap.size ≤ k) : StP V w' g ts a := by
  obtain ⟨A, c, h1, h2, h3, h4, h5, h6, h7, h8⟩ := h
  exact ⟨A, c, h1.grown hg hV, h2, h3, h4, h5, h6, h7, h8.grown hg hb⟩
theorem StP.around {V w : World} {g a : Nat} {ts : List Tok} (h : StP V w g ts a) (a' : Nat) (ha : a' ≤ 100) : StP V (w.setCell ⟨g, 1, none⟩ (.int .i64 a')) g ts a' ∧ w.grownBy (w.setCell ⟨g, 1, none⟩ (.int .i64 a')) (some g) := by
  obtain ⟨A, c, h1, h2, h3, h4, h5, h6, h7, h8⟩ := h
  exact ⟨⟨A, c, h1.setCell h2 _, h2, h3, h4, h5, h6, ha, h8.set_ 1 _⟩, set_grown w g 1 _⟩
theorem toks_tail {w : World} {g off : Nat} {t : Tok} {r : List Tok} (h : ToksAt w (some ⟨g, off, none⟩) (t :: r)) : ToksAt w (some ⟨g, off + 4, none⟩) r := by
  intro i hi
  obtain ⟨g', off', e, hl, a0, a1, a2, a3⟩ := h (i + 1) (by simpa using hi)
  cases e
  refine ⟨g, off + 4, rfl, hl, ?_, ?_, ?_, ?_⟩
  · rw [show off + 4 + i * 4 = off + (i + 1) * 4 by omega]; exact a0
  · rw [show off + 4 + i * 4 + 1 = off + (i + 1) * 4 + 1 by omega]; exact a1
  · rw [show off + 4 + i * 4 + 2 = off + (i + 1) * 4 + 2 by omega]; exact a2
  · rw [show off + 4 + i * 4 + 3 = off + (i + 1) * 4 + 3 by omega]; exact a3
theorem StP.step {V w : World} {g a gT off c : Nat} {t : Tok} {r : List Tok} (h1 : Rel V w) (h2 : V.heap.size ≤ g) (h3 : ToksAt V (some ⟨gT, off, none⟩) (t :: r)) (h4 : FineP (t :: r)) (h5 : (t :: r).length ≤ c) (h6 : c ≤ 9223372036854775807) (h7 : a ≤ 100) (h8 : Bk w g 70 #[.slice (some ⟨gT, off, none⟩) (t :: r).length c, .int .i64 a])
    (A : Option Addr) (n c' : Nat) (hA : r = [] ∨ A = some ⟨gT, off + 4, none⟩) (hn : n = r.length) (hc : c' = c - 1) (W : World) (hW : w.setCell ⟨g, 0, none⟩ (.slice A n c') = W) :
    (r ≠ [] → StP V W g r a) ∧ w.grownBy W (some g) ∧ ∃ S, Bk W g 70 #[S, .int .i64 a] := by
  subst hW hn hc
  refine ⟨fun hr => ?_, set_grown w g 0 _, _, h8.set_ 0 _⟩
  rcases hA with e | rfl
  · exact absurd e hr
  · exact ⟨_, _, h1.setCell h2 _, h2, toks_tail h3, h4.tail hr, by simp at h5 ⊢; omega, by omega, h7, h8.set_ 0 _⟩
theorem StP.fin {V w : World} {g a gT off c : Nat} {t : Tok} {r : List Tok} (h : Rel V w ∧ V.heap.size ≤ g ∧ ToksAt V (some ⟨gT, off, none⟩) (t :: r) ∧ FineP (t :: r) ∧ Bk w g 70 #[.slice (some ⟨gT, off, none⟩) (t :: r).length c, .int .i64 a]) (h5 : (t :: r).length ≤ c) (h6 : c ≤ 9223372036854775807) (h7 : a ≤ 100)
    (A : Option Addr) (n c' : Nat) (hA : r = [] ∨ A = some ⟨gT, off + 4, none⟩) (hn : n = r.length) (hc : c' = c - 1) (o1 o2 : Obj) :
    (¬ r = [] → StP V (((w.setCell ⟨g, 0, none⟩ (.slice A n c')).alloc o1).alloc o2) g r a) ∧ w.grownBy (((w.setCell ⟨g, 0, none⟩ (.slice A n c')).alloc o1).alloc o2) (some g) ∧ ∃ S, Bk (((w.setCell ⟨g, 0, none⟩ (.slice A n c')).alloc o1).alloc o2) g 70 #[S, .int .i64 a] := by
  obtain ⟨h1, h2, h3, h4, h8⟩ := h
  obtain ⟨k1, k2, S, k3⟩ := StP.step h1 h2 h3 h4 h5 h6 h7 h8 A n c' hA hn hc _ rfl
  have R := ((h1.setCell (p := ⟨g, 0, none⟩) h2 (.slice A n c')).self.alloc o1).alloc o2
  exact ⟨fun hr => (k1 hr).rel R, grown_trans k2 (grown_rel (some g) R), S, k3.rel R⟩
set_option maxRecDepth 100000 in
set_option maxHeartbeats 2000000 in
theorem pnext_any (V : World) (g a : Nat) (ts : List Tok) (w : World) (h : StP V w g ts a) :
    Calls Try.prog 57 #[.pointer (some ⟨g, 0, none⟩)] w fun e w' => e = .returned (TK (hdT ts)) ∧ (ts.tail ≠ [] → StP V w' g ts.tail a) ∧ w.grownBy w' (some g) ∧ ∃ S, Bk w' g 70 #[S, .int .i64 a] := by
  obtain ⟨A, c, h1, h2, h3, h4, h5, h6, h7, h8⟩ := h
  have hn := h4.ne
  cases ts with
  | nil => simp at hn
  | cons t r =>
    have hgl := h8.lt
    obtain ⟨gT, off, rfl, hb, x0, x1, x2, x3⟩ := (h3.rel h1) 0 (by simp)
    simp only [Nat.zero_mul, Nat.add_zero, List.getElem_cons_zero] at x0 x1 x2 x3
    obtain ⟨⟨c0, c1⟩, f0, f1⟩ := h8.two
    have HH := Lib.hid (And.intro h1 (And.intro h2 (And.intro h3 (And.intro h4 h8))))
    have hl1 : 1 ≤ (t :: r).length := by simp
    have HL := Lib.hid (show (t :: r).length - 1 = r.length by simp)
    have HNil := Lib.hid (show c = 1 → r = [] from fun e => by subst e; simp at h5; exact h5)
    have h5' := h5
    have H5 := Lib.hid h5'
    obtain ⟨m, hm⟩ : ∃ m, (t :: r).length = m := ⟨_, rfl⟩
    rw [hm] at c0 hl1 h5 HL
    clear h1 h2 h3 h4 h8 hm h5'
    go_enter Try.func57, Try.ntmps57
    go_wp2_with (fail)
    all_goals
      refine bodyPost_ret (v := TK t) (by simp [results, Try.results57, go_sem]) rfl ⟨rfl, ?_⟩
      first
        | exact StP.fin HH.out H5.out h6 h7 _ _ _ (.inr rfl) HL.out rfl _ _
        | exact StP.fin HH.out H5.out h6 h7 _ _ _ (.inl (HNil.out (by omega))) HL.out (by omega) _ _
end Go.Proofs.Ytoajbbcjmalngaa

namespace Go.Proofs.Ytoajbbcjmalngaa
open Go.RowKit Go.Lib
set_option linter.unusedVariables false
set_option linter.unusedSimpArgs false

theorem pwrong_any (t : Tok) (w : World) : Calls Try.prog 56 #[TK t] w fun e w' => e = .returned (.agg #[.int .i64 80, .int .i64 t.2.2.2]) ∧ w' = (w.alloc (.cells #[.int .i64 t.1, .string (B t.2.1), .int .i64 t.2.2.1, .int .i64 t.2.2.2] 56)).alloc (.cells #[.int .i64 80, .int .i64 t.2.2.2] 67) := by
  go_enter Try.func56, Try.ntmps56
  go_wp2_with (fail)
  refine bodyPost_ret (v := .agg #[.int .i64 80, .int .i64 t.2.2.2]) (by simp [results, Try.results56, go_sem]) rfl ⟨rfl, rfl⟩
/-- What a step of the parser is: it goes on, or a fault ends it. -/
def Step (V : World) (g a : Nat) (w : World) (ts : List Tok) (ok : Prop) (v : Value) (e : Ending) (w' : World) : Prop :=
  (ok → e = .returned v ∧ StP V w' g ts.tail a ∧ w.grownBy w' (some g)) ∧ (¬ ok → e = FLT 80 (atT ts) ∧ w.grownBy w' (some g))
theorem fail_grown {w w2 : World} {g : Nat} (h : w.grownBy w2 (some g)) (V : World) (hV : Rel V w2) (o1 o2 o3 : Obj) : w.grownBy (((w2.alloc o1).alloc o2).alloc o3) (some g) :=
  grown_trans h (grown_rel (some g) (((hV.self.alloc o1).alloc o2).alloc o3))
set_option maxRecDepth 100000 in
set_option maxHeartbeats 2000000 in
theorem psign_yes (V : World) (g a : Nat) (ts : List Tok) (c : List UInt8) (C : ByteArray) (hC : Hid (C = B c)) (w : World) (h : StP V w g ts a) (hc : (hdT ts).2.1 = c) (h0 : c ≠ []) :
    Calls Try.prog 68 #[.pointer (some ⟨g, 0, none⟩), .string C] w fun e w' => e = .returned (.tuple #[]) ∧ StP V w' g ts.tail a ∧ w.grownBy w' (some g) := by
  have HN := Lib.hid (pnext_any V g a ts w h)
  have HT := Lib.hid (h.fine.last (.inr (by rw [hc]; exact h0)))
  have HR := Lib.hid h.V.1
  obtain ⟨t, ht⟩ : ∃ t, hdT ts = t := ⟨_, rfl⟩
  rw [ht] at HN hc
  obtain rfl : C = B t.2.1 := by rw [hC.out, hc]
  have hb : ((B t.2.1).toList == (B t.2.1).toList) = true := by simp
  clear h ht hc hC
  go_enter Try.func68, Try.ntmps68
  go_wp2_with (go_at_call 57; (with_reducible refine HN.out.mono ?_); rintro e w2 ⟨rfl, s2, g2, _⟩; have S2 := Lib.hid s2; have G2 := Lib.hid g2; clear s2 g2)
  go_end0
  have R := (S2.out HT.out).V.1.self.alloc (.cells #[.int .i64 t.1, .string (B t.2.1), .int .i64 t.2.2.1, .int .i64 t.2.2.2] 56)
  exact ⟨rfl, (S2.out HT.out).rel R, grown_trans G2.out (grown_rel (some g) R)⟩
set_option maxRecDepth 100000 in
set_option maxHeartbeats 2000000 in
theorem psign_not (V : World) (g a : Nat) (ts : List Tok) (c : List UInt8) (C : ByteArray) (hC : Hid (C = B c)) (w : World) (h : StP V w g ts a) (hc : (hdT ts).2.1 ≠ c) :
    Calls Try.prog 68 #[.pointer (some ⟨g, 0, none⟩), .string C] w fun e w' => e = FLT 80 (atT ts) ∧ w.grownBy w' (some g) := by
  have HN := Lib.hid (pnext_any V g a ts w h)
  have HV := Lib.hid h.V
  obtain ⟨t, ht⟩ : ∃ t, hdT ts = t := ⟨_, rfl⟩
  have HA := Lib.hid (show atT ts = t.2.2.2 by unfold atT; rw [ht])
  rw [ht] at HN hc
  have hb : ((B t.2.1).toList == C.toList) = false := by rw [hC.out, B_toList, B_toList]; simpa using hc
  clear h ht hc hC
  go_enter Try.func68, Try.ntmps68
  go_wp2_with (first
    | (go_at_call 57; (with_reducible refine HN.out.mono ?_); rintro e w2 ⟨rfl, s2, g2, _⟩; have G2 := Lib.hid g2; clear s2 g2)
    | (go_at_call 56; (with_reducible refine (pwrong_any t _).mono ?_); rintro e w3 ⟨rfl, rfl⟩))
  exact ⟨rfl, by rw [HA.out], fail_grown G2.out V (HV.out.1.grown G2.out (fun k e => by cases e; exact HV.out.2)) _ _ _⟩
end Go.Proofs.Ytoajbbcjmalngaa
