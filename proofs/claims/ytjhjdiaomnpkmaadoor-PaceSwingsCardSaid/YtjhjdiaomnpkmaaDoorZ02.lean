/- A load that may be taken first, although the region writes the cell behind it: what is held of the world is asked behind those operations alone that do not wait for the load; The law's Strategy; Raw numbers as an argument, opened; Plain mathematics of layer 13: books and lists of sources. No program in this text; Plain mathematics of layer 8: a strategy of tokens. No program in this text; Plain mathematics of layer 8, second part: what is printed is scanned to an expression's tokens, and these are parsed to it. No program in this text; Plain mathematics of layer 8, third part: what comes out may be; where an error is told; what is cut off is missed at the end. No program in this text. -/
import Derived.Test.YtjhjdiaomnpkmaaDoorZL
import Derived.Test.YtjhjdiaomnpkmaaDoorZ00
import Derived.Test.YtjhjdiaomnpkmaaDoorZ01
namespace Go.Proofs.YtjhjdiaomnpkmaaDoor
open Go
set_option linter.unusedVariables false
set_option linter.unusedSimpArgs false
section
variable {P : Program} {ops : Array Oper} {Q : Exit → Act → World → Prop} {md : Region.Mode} {S : World → Prop}
/-- Does operation j wait for i itself? -/
def waitsB (md : Region.Mode) (ops : Array Oper) (j i : Nat) : Bool := ((ops[j]?).map fun o => o.after.any fun e => Region.binds md e && (e.on == i)).getD false
/-- Whatever order is picked from here on; behind what does not wait for i, S holds. -/
def wpTill (P : Program) (md : Region.Mode) (ops : Array Oper) (Q : Exit → Act → World → Prop) (S : World → Prop) (i : Nat) : Nat → Array Bool → Act → World → Prop
  | 0, listed, a, w => Region.ready md ops listed = [] ∧ Q .normal a w
  | fuel + 1, listed, a, w =>
    (Region.ready md ops listed = [] → Q .normal a w) ∧
    ∀ j ∈ Region.ready md ops listed, wpOp P ops Q j (fun a' w' => (waitsB md ops j i = false → S w') ∧ wpTill P md ops Q S i fuel (listed.setIfInBounds j true) a' w') a w
theorem any_of_till {i : Nat} : ∀ (fuel : Nat) (listed : Array Bool) (a : Act) (w : World), wpTill P md ops Q S i fuel listed a w → wpAny P md ops Q fuel listed a w
  | 0, _, _, _, h => h
  | fuel + 1, _, _, _, h => ⟨h.1, fun j hj => wpOp_mono (fun a' w' h' => any_of_till fuel _ a' w' h'.2) (h.2 j hj)⟩
theorem ready_iff {listed : Array Bool} {j : Nat} : j ∈ Region.ready md ops listed ↔ j < ops.size ∧ listed.getD j true = false ∧ ∃ o, ops[j]? = some o ∧ ∀ e ∈ o.after, Region.binds md e = true → listed.getD e.on false = true := by
  unfold Region.ready
  rw [List.mem_filter, List.mem_range]
  constructor
  · rintro ⟨h1, h2⟩
    rw [Array.getElem?_eq_getElem h1] at h2 ⊢
    simp only [Option.map_some, Option.getD_some, Bool.and_eq_true, Bool.not_eq_true', Array.all_eq_true_iff_forall_mem, Bool.or_eq_true] at h2
    refine ⟨h1, h2.1, _, rfl, fun e he hb => ?_⟩
    rcases h2.2 e he with h | h
    · rw [hb] at h; cases h
    · exact h
  · rintro ⟨h1, h2, o, ho, h3⟩
    refine ⟨h1, ?_⟩
    rw [ho]
    simp only [Option.map_some, Option.getD_some, Bool.and_eq_true, Bool.not_eq_true', Array.all_eq_true_iff_forall_mem, Bool.or_eq_true]
    refine ⟨h2, fun e he => ?_⟩
    cases hb : Region.binds md e
    · exact .inl rfl
    · exact .inr (h3 e he hb)
theorem set_get {listed : Array Bool} {i j : Nat} {d : Bool} (h : j ≠ i) : (listed.setIfInBounds i true).getD j d = listed.getD j d := by
  simp [Array.getD_eq_getD_getElem?, Array.getElem?_setIfInBounds, Ne.symm h]
theorem set_mono {listed : Array Bool} {i j : Nat} (h : listed.getD j false = true) : (listed.setIfInBounds i true).getD j false = true := by
  by_cases e : j = i
  · subst e
    have hl : j < listed.size := by
      rcases Nat.lt_or_ge j listed.size with h' | h'
      · exact h'
      · simp [Array.getD_eq_getD_getElem?, Array.getElem?_eq_none h'] at h
    simp [Array.getD_eq_getD_getElem?, Array.getElem?_setIfInBounds, hl]
  · rw [set_get e]; exact h
theorem ready_set {listed : Array Bool} {i j : Nat} (hj : j ∈ Region.ready md ops listed) (h : j ≠ i) : j ∈ Region.ready md ops (listed.setIfInBounds i true) := by
  obtain ⟨h1, h2, o, ho, h3⟩ := ready_iff.1 hj
  exact ready_iff.2 ⟨h1, by rw [set_get h]; exact h2, o, ho, fun e he hb => set_mono (h3 e he hb)⟩
theorem ready_waits {listed : Array Bool} {i j : Nat} (hi : i ∈ Region.ready md ops listed) (hj : j ∈ Region.ready md ops listed) : waitsB md ops j i = false := by
  obtain ⟨_, h2, _⟩ := ready_iff.1 hi
  obtain ⟨_, _, o, ho, h3⟩ := ready_iff.1 hj
  unfold waitsB
  rw [ho]
  simp only [Option.map_some, Option.getD_some]
  rw [Array.any_eq_false']
  intro e he hc
  simp only [Bool.and_eq_true, beq_iff_eq] at hc
  have := h3 e he hc.1
  rw [hc.2] at this
  rcases Nat.lt_or_ge i listed.size with h' | h'
  · simp [Array.getD_eq_getD_getElem?, Array.getElem?_eq_getElem h'] at this h2
    rw [this] at h2; cases h2
  · simp [Array.getD_eq_getD_getElem?, Array.getElem?_eq_none h'] at this
/-- Taken first, with S held till it comes up. -/
theorem till_first {i : Nat} {oi : Oper} {v : Value} (hi : ops[i]? = some oi) (hsel : ∀ (j : Nat) (o : Oper) cs b, ops[j]? = some o → o.op ≠ .select cs b)
    (hQ : ∀ c a w, Q (.panic c) (a.put oi.dst v) w → Q (.panic c) a w) :
    ∀ (fuel : Nat) (listed : Array Bool) (a : Act) (w : World),
      (∀ j oj, ops[j]? = some oj → j ≠ i → listed.getD j true = false → (∀ e ∈ oj.after, Region.binds md e = true → e.on ≠ i) → oi.apart ops oj = true) →
      i ∈ Region.ready md ops listed → YieldsIf P ops S oi v a → S w →
      wpTill P md ops Q S i fuel (listed.setIfInBounds i true) (a.put oi.dst v) w → wpAny P md ops Q (fuel + 1) listed a w := by
  intro fuel
  induction fuel with
  | zero =>
    intro listed a w hap hir hy hS h
    refine ⟨(fun e => by rw [e] at hir; cases hir), fun j hj => ?_⟩
    by_cases hji : j = i
    · subst hji; exact hy.wpOp hi hS (any_of_till 0 _ _ _ h)
    · have := ready_set hj hji
      rw [h.1] at this; cases this
  | succ f ih =>
    intro listed a w hap hir hy hS h
    refine ⟨(fun e => by rw [e] at hir; cases hir), fun j hj => ?_⟩
    by_cases hji : j = i
    · subst hji; exact hy.wpOp hi hS (any_of_till (f + 1) _ _ _ h)
    · have hw := ready_waits hir hj
      obtain ⟨_, hjl, oj, hoj, hjw⟩ := ready_iff.1 hj
      have hnot : ∀ e ∈ oj.after, Region.binds md e = true → e.on ≠ i := by
        intro e he hb hc
        unfold waitsB at hw
        rw [hoj] at hw
        simp only [Option.map_some, Option.getD_some] at hw
        rw [Array.any_eq_false'] at hw
        exact hw e he (by simp [hb, hc])
      have h1 := wpOp_putIf hoj (hap j oj hoj hji hjl hnot) (fun cs b => hsel i oi cs b hi) (fun cs b => hsel j oj cs b hoj) hQ hy (h.2 j (ready_set hj hji))
      refine wpOp_mono (fun a' w' h' => ?_) h1
      obtain ⟨hy', hS', ht⟩ := h'
      refine ih (listed.setIfInBounds j true) a' w' (fun q oq hq hqi hql hqe => hap q oq hq hqi ?_ hqe) (ready_set hir (Ne.symm hji)) hy' (hS' hw) ?_
      · by_cases e : q = j
        · subst e; exact hjl
        · rw [set_get e] at hql; exact hql
      · rw [Array.setIfInBounds_comm _ _ (Ne.symm hji)] at ht
        exact ht
theorem till_take {i : Nat} {oi : Oper} {v : Value} (d : Option Tmp) {fuel : Nat} {listed : Array Bool} {a : Act} {w : World} (hi : ops[i]? = some oi) (hd : oi.dst = d)
    (hs : Region.noSelect ops = true) (hf : Region.free md ops listed i = true) (hr : (Region.ready md ops listed).contains i = true)
    (hQ : ∀ c a w, Q (.panic c) (a.put d v) w → Q (.panic c) a w) (hy : YieldsIf P ops S oi v a) (hS : S w)
    (h : wpTill P md ops Q S i fuel (listed.setIfInBounds i true) (a.put d v) w) : wpAny P md ops Q (fuel + 1) listed a w := by
  subst hd
  exact till_first hi (Region.noSelect_spec hs) hQ fuel listed a w (Region.free_spec hi hf) (by simpa using hr) hy hS h
/-- What asks nothing of the world is taken first. -/
theorem any_take {i : Nat} {oi : Oper} {v : Value} (d : Option Tmp) {fuel : Nat} {listed : Array Bool} {a : Act} {w : World} (hi : ops[i]? = some oi) (hd : oi.dst = d)
    (hs : Region.noSelect ops = true) (hf : Region.free md ops listed i = true) (hr : (Region.ready md ops listed).contains i = true)
    (hQ : ∀ c a w, Q (.panic c) (a.put d v) w → Q (.panic c) a w) (hy : Yields P ops oi v a)
    (h : wpAny P md ops Q fuel (listed.setIfInBounds i true) (a.put d v) w) : wpAny P md ops Q (fuel + 1) listed a w := by
  subst hd
  exact wpAny_take hi hs hf hr hQ hy h
/-- One operation alone may come up: it does not wait for i, so S is shown behind it. -/
theorem till_one {i j : Nat} {o : Oper} {fuel : Nat} {listed : Array Bool} {a : Act} {w : World} (hr : Region.ready md ops listed = [j]) (ho : ops[j]? = some o)
    (h : ∀ K' : Act → World → Prop, Shut (∀ a w, S w → wpTill P md ops Q S i fuel (listed.setIfInBounds j true) a w → K' a w) → if Region.wanted o (yielded ops a.tmps) = true then Oper.wp P o a w K' Q else K' (a.put o.dst undef) w) : wpTill P md ops Q S i (fuel + 1) listed a w :=
  ⟨(fun h0 => by rw [hr] at h0; cases h0), fun q hq => by rw [hr, List.mem_singleton] at hq; subst hq; exact wpOp_step ho (fun K' hK => h K' (fun a w hS hW => hK a w ⟨fun _ => hS, hW⟩))⟩
/-- One operation alone may come up: it waits for i. -/
theorem till_late {i j : Nat} {o : Oper} {fuel : Nat} {listed : Array Bool} {a : Act} {w : World} (hr : Region.ready md ops listed = [j]) (ho : ops[j]? = some o) (hw : waitsB md ops j i = true)
    (h : ∀ K' : Act → World → Prop, Shut (∀ a w, wpTill P md ops Q S i fuel (listed.setIfInBounds j true) a w → K' a w) → if Region.wanted o (yielded ops a.tmps) = true then Oper.wp P o a w K' Q else K' (a.put o.dst undef) w) : wpTill P md ops Q S i (fuel + 1) listed a w :=
  ⟨(fun h0 => by rw [hr] at h0; cases h0), fun q hq => by rw [hr, List.mem_singleton] at hq; subst hq; exact wpOp_step ho (fun K' hK => h K' (fun a w hW => hK a w ⟨(fun e => by rw [hw] at e; cases e), hW⟩))⟩
theorem till_done {i : Nat} {listed : Array Bool} {a : Act} {w : World} (hr : Region.ready md ops listed = []) (h : Q .normal a w) : ∀ fuel, wpTill P md ops Q S i fuel listed a w
  | 0 => ⟨hr, h⟩
  | _ + 1 => ⟨fun _ => h, by rw [hr]; simp⟩
end
end Go.Proofs.YtjhjdiaomnpkmaaDoor

namespace Go.Proofs.YtjhjdiaomnpkmaaDoor
open Go.RowKit Go.Lib
set_option linter.unusedVariables false
set_option linter.unusedSimpArgs false
/-- Raw numbers as an argument. -/
def IntsIn (w : World) (A : Option Addr) (c : Nat) (L : List Int) : Prop := L.length ≤ c ∧ c ≤ maxLen ∧ (∀ z ∈ L, i64 z) ∧ ∀ i (h : i < L.length), ∃ a : Addr, A = some a ∧ a.block < w.heap.size ∧ w.cell? (a.add i) = some (.int .i64 L[i])
theorem IntsIn.rel {w w' : World} {A : Option Addr} {c : Nat} {L : List Int} (h : IntsIn w A c L) (hr : Rel w w') : IntsIn w' A c L := by
  obtain ⟨h1, h2, h3, h4⟩ := h
  refine ⟨h1, h2, h3, fun i hi => ?_⟩
  obtain ⟨a, e, hl, hc⟩ := h4 i hi
  have := hr.size
  exact ⟨a, e, by omega, (hr.2.cell (p := a.add i) (by rw [block_add]; exact hl)).trans hc⟩
end Go.Proofs.YtjhjdiaomnpkmaaDoor

namespace Go.Proofs.YtjhjdiaomnpkmaaDoor
open Go.RowKit Go.Lib
set_option linter.unusedVariables false
set_option linter.unusedSimpArgs false
theorem wf64 {a : Int} (h : (Lit.int .i64 a).wf = true) : i64 a := by
  have := bounds_i64 h; exact ⟨by omega, by omega⟩
end Go.Proofs.YtjhjdiaomnpkmaaDoor

namespace Go.Proofs.YtjhjdiaomnpkmaaDoor
open Go.Lib
set_option linter.unusedVariables false
set_option linter.unusedSimpArgs false
def tickF (t : Int) : Int := if t < 0 then 0 else if 1099511627776 < t then 1099511627776 else t
def laterF (t m : Int) : Int := tickF (tickF t + tickF m)
/-- Ticks. -/
theorem tick_bd (t : Int) : 0 ≤ tickF t ∧ tickF t ≤ 1099511627776 := by unfold tickF; split <;> (try split) <;> omega
end Go.Proofs.YtjhjdiaomnpkmaaDoor

namespace Go.Proofs.YtjhjdiaomnpkmaaDoor
open Go.Lib
set_option linter.unusedVariables false
set_option linter.unusedSimpArgs false
/-- What stands first; its place. -/
def hdT (ts : List Tok) : Tok := ts.headD (5, [], 0, 0)
def atT (ts : List Tok) : Int := (hdT ts).2.2.2
/-- What is told: a thing and what is left; or an error and its place. -/
abbrev Told (α : Type) := Except (Int × Int) (α × List Tok)
/-- A token of a kind, and, where one is asked for, of a text. -/
def takeT (k : Int) (x : List UInt8) (ts : List Tok) : Told Tok :=
  if (hdT ts).1 = k ∧ (x = [] ∨ (hdT ts).2.1 = x) then .ok (hdT ts, if k = 5 then ts else ts.tail) else .error (80, atT ts)
/-- The kind that has a word, a condition or not; 0: none has. -/
def kindW (c : Bool) (x : List UInt8) : Int := (([1, 2, 3, 4, 5, 6, 7, 8, 9, 10, 11, 12] : List Int).find? fun k => wordK k == x && isCond k == c).getD 0
/-- The kind of the expression that begins here; 0: none does. -/
def kindT (c : Bool) (t : Tok) : Int :=
  if t.1 = 3 ∧ c = false then 4
  else if t.1 = 1 then kindW c t.2.1
  else 0
/-- The arguments, from the i-th on. -/
def argsT (f : Bool → List Tok → Told Ex) (k : Int) : Nat → Nat → List Tok → Told (List Ex)
  | _, 0, ts => .ok ([], ts)
  | i, m + 1, ts =>
    match (if i = 0 then .ok ((5, [], 0, 0), ts) else takeT 4 [44] ts) with
    | .error e => .error e
    | .ok (_, ts) =>
      match f (decide (k = 10) && decide (i = 0)) ts with
      | .error e => .error e
      | .ok (x, ts) =>
        match argsT f k (i + 1) m ts with
        | .error e => .error e
        | .ok (l, ts) => .ok (x :: l, ts)
/-- What stands behind the arguments: a number, or a name. -/
def restT (k : Int) (ts : List Tok) : Told (Int × List UInt8) :=
  if k = 3 then
    if isName (hdT ts).2.1 then (match takeT 1 [] ts with | .error e => .error e | .ok (t, ts) => .ok ((0, t.2.1), ts)) else .error (80, atT ts)
  else if k = 5 then
    match takeT 4 [44] ts with
    | .error e => .error e
    | .ok (_, ts) => (match takeT 3 [] ts with | .error e => .error e | .ok (t, ts) => .ok ((t.2.2.1, []), ts))
  else if k = 6 then
    match takeT 4 [44] ts with
    | .error e => .error e
    | .ok (_, ts) => (match takeT 2 [] ts with | .error e => .error e | .ok (t, ts) => .ok ((t.2.2.1, []), ts))
  else if k = 11 then
    if (hdT ts).2.2.1 ≤ 1000 then (match takeT 2 [] ts with | .error e => .error e | .ok (t, ts) => .ok ((t.2.2.1, []), ts)) else .error (80, atT ts)
  else .ok ((0, []), ts)
/-- What stands behind a word: brackets, and all in them. -/
def callT (f : Bool → List Tok → Told Ex) (k : Int) (ts : List Tok) : Told Ex :=
  match takeT 4 [40] ts with
  | .error e => .error e
  | .ok (_, ts) =>
    match argsT f k 0 (argsN k).toNat ts with
    | .error e => .error e
    | .ok (l, ts) =>
      match restT k ts with
      | .error e => .error e
      | .ok ((n, nm), ts) =>
        match takeT 4 [41] ts with
        | .error e => .error e
        | .ok (_, ts) => .ok (.mk k n nm l, ts)
/-- An expression, a condition or not, where so many may still stand in one another. -/
def exprT : Nat → Bool → List Tok → Told Ex
  | 0, _, ts => .error (81, atT ts)
  | d + 1, c, ts =>
    if kindT c (hdT ts) = 0 then .error (80, atT ts)
    else if kindT c (hdT ts) = 4 then .ok (.mk 4 (hdT ts).2.2.1 [] [], ts.tail)
    else if kindT c (hdT ts) = 1 ∨ kindT c (hdT ts) = 2 then .ok (.mk (kindT c (hdT ts)) 0 [] [], ts.tail)
    else callT (exprT d) (kindT c (hdT ts)) ts.tail
theorem exprT_deep (c : Bool) (ts : List Tok) : exprT 0 c ts = .error (81, atT ts) := rfl
theorem exprT_none {d : Nat} {c : Bool} {ts : List Tok} (h : kindT c (hdT ts) = 0) : exprT (d + 1) c ts = .error (80, atT ts) := by rw [exprT, if_pos h]
theorem exprT_money {d : Nat} {c : Bool} {ts : List Tok} (h : kindT c (hdT ts) = 4) : exprT (d + 1) c ts = .ok (.mk 4 (hdT ts).2.2.1 [] [], ts.tail) := by rw [exprT, if_neg (by omega), if_pos h]
theorem exprT_leaf {d : Nat} {c : Bool} {ts : List Tok} {k : Int} (h : kindT c (hdT ts) = k) (hk : k = 1 ∨ k = 2) : exprT (d + 1) c ts = .ok (.mk k 0 [] [], ts.tail) := by
  subst h; rw [exprT, if_neg (by omega), if_neg (by omega), if_pos hk]
theorem exprT_call {d : Nat} {c : Bool} {ts : List Tok} {k : Int} (h : kindT c (hdT ts) = k) (h0 : k ≠ 0) (h4 : k ≠ 4) (h1 : ¬ (k = 1 ∨ k = 2)) : exprT (d + 1) c ts = callT (exprT d) k ts.tail := by
  subst h; rw [exprT, if_neg h0, if_neg h4, if_neg h1]
/-- A strategy: an expression, and the end. -/
def stratT (ts : List Tok) : Except (Int × Int) Ex :=
  match exprT 32 false ts with
  | .error e => .error e
  | .ok (x, ts) => (match takeT 5 [] ts with | .error e => .error e | .ok _ => .ok x)
/-- A text's. -/
def parseS (s : List UInt8) : Except (Int × Int) Ex :=
  if 2000 < s.length then .error (60, 2000) else match lx 0 s with | .error p => .error (61, (p : Int)) | .ok ts => stratT ts
/-- A token but for its place. -/
abbrev Sh := Int × List UInt8 × Int
def sh (t : Tok) : Sh := (t.1, t.2.1, t.2.2.1)
def sg (c : UInt8) : Sh := (4, [c], 0)
def tailS (k n : Int) (nm : List UInt8) : List Sh := if k = 3 then [(1, nm, 0)] else if k = 5 then [sg 44, (3, txt n, n)] else if k = 6 then [sg 44, (2, itoa n, n)] else if k = 11 then [(2, itoa n, n)] else []
mutual
/-- An expression's tokens. -/
def toks : Ex → List Sh
  | .mk k n nm l => if k = 4 then [(3, txt n, n)] else if k = 1 ∨ k = 2 then [(1, wordK k, 0)] else (1, wordK k, 0) :: sg 40 :: (tokss l ++ (tailS k n nm ++ [sg 41]))
def tokss : List Ex → List Sh
  | [] => []
  | x :: t => toks x ++ tokms t
def tokms : List Ex → List Sh
  | [] => []
  | x :: t => sg 44 :: (toks x ++ tokms t)
end
theorem toks_mk (k n : Int) (nm : List UInt8) (l : List Ex) : toks (.mk k n nm l) = if k = 4 then [(3, txt n, n)] else if k = 1 ∨ k = 2 then [(1, wordK k, 0)] else (1, wordK k, 0) :: sg 40 :: (tokss l ++ (tailS k n nm ++ [sg 41])) := by rw [toks]
theorem tokss_nil : tokss [] = [] := by rw [tokss]
theorem tokss_cons (x : Ex) (t : List Ex) : tokss (x :: t) = toks x ++ tokms t := by rw [tokss]
theorem tokms_nil : tokms [] = [] := by rw [tokms]
theorem tokms_cons (x : Ex) (t : List Ex) : tokms (x :: t) = sg 44 :: (toks x ++ tokms t) := by rw [tokms]
end Go.Proofs.YtjhjdiaomnpkmaaDoor

namespace Go.Proofs.YtjhjdiaomnpkmaaDoor
open Go.Lib
set_option linter.unusedVariables false
set_option linter.unusedSimpArgs false
/-- A text is scanned to tokens of these shapes, whatever stands behind it that is no part. -/
def Sx (a : List UInt8) (S : List Sh) : Prop := ∀ p r, stops r = true → ∃ ts, lx p (a ++ r) = pre ts (lx (p + a.length) r) ∧ ts.map sh = S
theorem Sx.append {a b : List UInt8} {n m : List Sh} (ha : Sx a n) (hb : Sx b m) (hs : ∀ r, stops r = true → stops (b ++ r) = true) : Sx (a ++ b) (n ++ m) := by
  intro p r hr
  obtain ⟨ts, e, h⟩ := ha p (b ++ r) (hs r hr)
  obtain ⟨us, e', h'⟩ := hb (p + a.length) r hr
  refine ⟨ts ++ us, ?_, by rw [List.map_append, h, h']⟩
  rw [List.append_assoc, e, e', pre_pre, List.length_append, Nat.add_assoc]
theorem Sx.nil : Sx [] [] := fun p r _ => ⟨[], by rw [pre_nil]; rfl, rfl⟩
theorem Sx.good {x : List UInt8} {k n : Int} (h : Good x k n) : Sx x [(k, x, n)] := fun p r hr => ⟨_, lx_good h p r hr, rfl⟩
theorem Sx.comma {a : List UInt8} {n : List Sh} (h : Sx a n) : Sx ([44, 32] ++ a) (sg 44 :: n) := by
  intro p r hr
  obtain ⟨ts, e, h⟩ := h (p + 1 + 1) r hr
  refine ⟨(4, [44], 0, (p : Int)) :: ts, ?_, by rw [List.map_cons, h]; rfl⟩
  have e1 := lx_sign p 44 (32 :: (a ++ r)) (by decide) (by decide)
  have e2 := lx_blank (p + 1) 32 (a ++ r) (by decide)
  show lx p (44 :: 32 :: (a ++ r)) = _
  rw [e1, e2, e, pre_pre]
  simp only [List.length_append, List.length_cons, List.length_nil, List.cons_append, List.nil_append]
  rw [show p + (a.length + 1 + 1) = p + 1 + 1 + a.length by omega]
theorem Sx.sign {c : UInt8} {a : List UInt8} {n : List Sh} (hc : isSg c = true) (h : Sx a n) : Sx ([c] ++ a) (sg c :: n) := by
  intro p r hr
  obtain ⟨ts, e, h⟩ := h (p + 1) r hr
  refine ⟨(4, [c], 0, (p : Int)) :: ts, ?_, by rw [List.map_cons, h]; rfl⟩
  have e1 := lx_sign p c (a ++ r) (sg_not hc).1 hc
  show lx p (c :: (a ++ r)) = _
  rw [e1, e, pre_pre]
  simp only [List.length_append, List.length_cons, List.length_nil, List.cons_append, List.nil_append]
  rw [show p + (a.length + 1) = p + 1 + a.length by omega]
theorem Sx.mores {l : List Ex} (h : ∀ x ∈ l, Sx (text x) (toks x)) : Sx (mores l) (tokms l) := by
  induction l with
  | nil => rw [mores_nil, tokms_nil]; exact Sx.nil
  | cons x t ih =>
    rw [mores_cons, tokms_cons]
    exact Sx.comma (Sx.append (h x (List.mem_cons_self ..)) (ih fun y hy => h y (List.mem_cons_of_mem _ hy)) fun r hr => mores_stops t hr)
theorem Sx.texts {l : List Ex} (h : ∀ x ∈ l, Sx (text x) (toks x)) : Sx (texts l) (tokss l) := by
  cases l with
  | nil => rw [texts_nil, tokss_nil]; exact Sx.nil
  | cons x t =>
    rw [texts_cons, tokss_cons]
    exact Sx.append (h x (List.mem_cons_self ..)) (Sx.mores fun y hy => h y (List.mem_cons_of_mem _ hy)) fun r hr => mores_stops t hr
theorem sx_tail {k n : Int} {nm : List UInt8} (hn : 0 ≤ n ∧ n ≤ mostN k) (hm : k = 3 → isName nm = true) : Sx (tailK k n nm) (tailS k n nm) := by
  obtain ⟨b1, b2, b3⟩ := most_le k
  unfold tailK tailS
  split
  · rename_i e; exact Sx.good (name_good (hm e))
  · split
    · exact Sx.comma (Sx.good (txt_good hn.1 (by omega)))
    · split
      · rename_i e; have := b2 (.inl e); exact Sx.comma (Sx.good (itoa_good hn.1 (by omega)))
      · split
        · rename_i e; have := b2 (.inr e); exact Sx.good (itoa_good hn.1 (by omega))
        · exact Sx.nil
theorem text_toks : ∀ (x : Ex) (d : Nat), fine d x = true → Sx (text x) (toks x) := ex_ind fun k n nm l ih d hx => by
  obtain ⟨d, rfl⟩ : ∃ e, d = e + 1 := by
    cases d with
    | zero => cases hx
    | succ d => exact ⟨d, rfl⟩
  obtain ⟨a1, a2, a3, a4, a5⟩ := fine_parts hx
  have m1 := most_le k
  have lnil : argsN k = 0 → l = [] := fun e2 => List.length_eq_zero_iff.1 (by omega)
  rw [text_mk, toks_mk]
  by_cases k4 : k = 4
  · subst k4
    rw [if_pos rfl, if_pos rfl]
    exact Sx.good (txt_good a2.1 (by omega))
  · obtain ⟨g, _, _⟩ := word_kind (by omega : 0 ≤ argsN k) k4
    rw [if_neg k4, if_neg k4]
    by_cases k12 : k = 1 ∨ k = 2
    · rw [if_pos k12, if_pos k12]
      exact Sx.good g
    · rw [if_neg k12, if_neg k12]
      refine Sx.append (n := [(1, wordK k, 0)]) (Sx.good g) (Sx.sign (by decide) ?_) (fun r _ => stops_cons (c := 40) (by decide))
      have h1 : Sx (texts l) (tokss l) := Sx.texts fun y hy => ih y hy d (fine_mem hx hy)
      have h2 : Sx (tailK k n nm ++ [41]) (tailS k n nm ++ [sg 41]) := Sx.append (sx_tail a2 a4) (by
        have := Sx.sign (c := 41) (a := []) (n := []) (by decide) Sx.nil
        exact this) (fun r _ => stops_cons (c := 41) (by decide))
      by_cases hl : l = []
      · subst hl
        rw [texts_nil, tokss_nil, List.nil_append]; exact h2
      · have hk3 : k ≠ 3 := fun e => hl (lnil (by rw [e]; decide))
        have hk11 : k ≠ 11 := fun e => hl (lnil (by rw [e]; decide))
        exact Sx.append h1 h2 fun r _ => by
          have := tail_stops k n nm r hk3 hk11
          rwa [List.append_assoc]
/-- What may be is scanned to its tokens, and the end. -/
theorem fine_lex {x : Ex} {d : Nat} (h : fine d x = true) : ∃ ts, lx 0 (text x) = .ok (ts ++ [(5, [], 0, ((text x).length : Int))]) ∧ ts.map sh = toks x := by
  obtain ⟨ts, e, hl⟩ := text_toks x d h 0 [] rfl
  rw [List.append_nil, lx_nil] at e
  exact ⟨ts, by rw [e]; simp [pre], hl⟩
theorem kindW_word {k : Int} (h1 : 1 ≤ k) (h2 : k ≤ 12) (h4 : k ≠ 4) : kindW (isCond k) (wordK k) = k := by
  have : k = 1 ∨ k = 2 ∨ k = 3 ∨ k = 5 ∨ k = 6 ∨ k = 7 ∨ k = 8 ∨ k = 9 ∨ k = 10 ∨ k = 11 ∨ k = 12 := by omega
  rcases this with rfl | rfl | rfl | rfl | rfl | rfl | rfl | rfl | rfl | rfl | rfl <;> decide
theorem kind_word {k : Int} (h1 : 1 ≤ k) (h2 : k ≤ 12) (h4 : k ≠ 4) (n p : Int) : kindT (isCond k) (1, wordK k, n, p) = k := by
  unfold kindT
  rw [if_neg (by simp), if_pos rfl]
  exact kindW_word h1 h2 h4
theorem kind_money (x : List UInt8) (n p : Int) : kindT false (3, x, n, p) = 4 := by unfold kindT; rw [if_pos ⟨rfl, rfl⟩]
theorem sh_eq {t : Tok} {k n : Int} {x : List UInt8} (h : sh t = (k, x, n)) : t = (k, x, n, t.2.2.2) := by
  obtain ⟨a, b, c, d⟩ := t
  simp only [sh, Prod.mk.injEq] at h
  obtain ⟨rfl, rfl, rfl⟩ := h; rfl
theorem map_cons' {ts : List Tok} {s : Sh} {S : List Sh} (h : ts.map sh = s :: S) : ∃ p us, ts = (s.1, s.2.1, s.2.2, p) :: us ∧ us.map sh = S := by
  cases ts with
  | nil => cases h
  | cons t us =>
    rw [List.map_cons, List.cons.injEq] at h
    exact ⟨t.2.2.2, us, by rw [sh_eq (k := s.1) (x := s.2.1) (n := s.2.2) h.1], h.2⟩
theorem map_app {ts : List Tok} {S S' : List Sh} (h : ts.map sh = S ++ S') : ∃ a b, ts = a ++ b ∧ a.map sh = S ∧ b.map sh = S' := List.map_eq_append_iff.1 h
theorem take_sign (c : UInt8) (n p : Int) (r : List Tok) : takeT 4 [c] ((4, [c], n, p) :: r) = .ok ((4, [c], n, p), r) := by
  unfold takeT hdT; simp
theorem take_any {k : Int} (hk : k ≠ 5) (x : List UInt8) (n p : Int) (r : List Tok) : takeT k [] ((k, x, n, p) :: r) = .ok ((k, x, n, p), r) := by
  unfold takeT hdT; simp [hk]
/-- Arguments that are parsed one by one are parsed. -/
theorem args_ok (f : Bool → List Tok → Told Ex) (k : Int) : ∀ (l : List Ex) (i : Nat) (ts r : List Tok), (∀ j (h : j < l.length) (a b : List Tok), a.map sh = toks l[j] → f (decide (k = 10) && decide (i + j = 0)) (a ++ b) = .ok (l[j], b)) →
    ts.map sh = (if i = 0 then tokss l else tokms l) → argsT f k i l.length (ts ++ r) = .ok (l, r) := by
  intro l
  induction l with
  | nil =>
    intro i ts r _ h
    have : ts = [] := by
      have : ts.map sh = [] := by rw [h]; split <;> rfl
      simpa using this
    subst this
    rfl
  | cons x t ih =>
    intro i ts r hf h
    have h0 := hf 0 (by simp)
    have hr := ih (i + 1)
    have hrest : ∀ us : List Tok, us.map sh = tokms t → argsT f k (i + 1) t.length (us ++ r) = .ok (t, r) := fun us hu => hr us r (fun j hj a b ha => by
      have := hf (j + 1) (by simpa using hj) a b ha
      rw [show i + (j + 1) = i + 1 + j by omega] at this
      exact this) (by rw [if_neg (by omega)]; exact hu)
    simp only [Nat.add_zero, List.getElem_cons_zero] at h0
    rw [List.length_cons]
    unfold argsT
    by_cases hi : i = 0
    · rw [if_pos hi, tokss_cons] at h
      obtain ⟨a, b, rfl, ha, hb⟩ := map_app h
      rw [if_pos hi]
      simp only
      rw [List.append_assoc, h0 a _ ha]
      simp only
      rw [hrest b hb]
    · rw [if_neg hi, tokms_cons] at h
      obtain ⟨p, us, rfl, hu⟩ := map_cons' h
      obtain ⟨a, b, rfl, ha, hb⟩ := map_app hu
      rw [if_neg hi]
      simp only [sg, List.cons_append]
      rw [take_sign]
      simp only
      rw [List.append_assoc, h0 a _ ha]
      simp only
      rw [hrest b hb]
theorem rest_ok {k n : Int} {nm : List UInt8} (hn : 0 ≤ n ∧ n ≤ mostN k) (hm : k = 3 → isName nm = true) (h3 : nm ≠ [] ↔ k = 3) (ts r : List Tok) (h : ts.map sh = tailS k n nm) (h0 : k ≠ 4) : restT k (ts ++ r) = .ok ((n, nm), r) := by
  obtain ⟨b1, b2, b3⟩ := most_le k
  unfold tailS at h
  unfold restT
  by_cases e3 : k = 3
  · rw [if_pos e3] at h ⊢
    obtain ⟨p, us, rfl, hu⟩ := map_cons' h
    obtain rfl : us = [] := by simpa using hu
    have n0 : n = 0 := by have := b3 (by omega) (by omega) (by omega) (by omega); omega
    refine (if_pos (hm e3)).trans ?_
    simp only [List.cons_append, List.nil_append]
    rw [take_any (by omega)]
    simp [n0]
  · have hnm : nm = [] := Decidable.byContradiction fun e => e3 (h3.1 e)
    rw [if_neg e3] at h ⊢
    by_cases e5 : k = 5
    · rw [if_pos e5] at h ⊢
      obtain ⟨p, us, rfl, hu⟩ := map_cons' h
      obtain ⟨q, vs, rfl, hv⟩ := map_cons' hu
      obtain rfl : vs = [] := by simpa using hv
      simp only [sg, List.cons_append, List.nil_append]
      rw [take_sign]
      simp only
      rw [take_any (by omega), hnm]
    · rw [if_neg e5] at h ⊢
      by_cases e6 : k = 6
      · rw [if_pos e6] at h ⊢
        obtain ⟨p, us, rfl, hu⟩ := map_cons' h
        obtain ⟨q, vs, rfl, hv⟩ := map_cons' hu
        obtain rfl : vs = [] := by simpa using hv
        simp only [sg, List.cons_append, List.nil_append]
        rw [take_sign]
        simp only
        rw [take_any (by omega), hnm]
      · rw [if_neg e6] at h ⊢
        by_cases e11 : k = 11
        · rw [if_pos e11] at h ⊢
          obtain ⟨p, us, rfl, hu⟩ := map_cons' h
          obtain rfl : us = [] := by simpa using hu
          have hle : n ≤ 1000 := by have := hn.2; rw [e11] at this; exact this
          refine (if_pos hle).trans ?_
          simp only [List.cons_append, List.nil_append]
          rw [take_any (by omega), hnm]
        · rw [if_neg e11] at h ⊢
          obtain rfl : ts = [] := by simpa using h
          have n0 : n = 0 := by have := b3 h0 e5 e6 e11; omega
          rw [n0, hnm]; rfl
/-- An expression's tokens are parsed to it. -/
theorem expr_ok : ∀ (x : Ex) (d : Nat) (ts r : List Tok), fine d x = true → ts.map sh = toks x → exprT d (isCond x.k) (ts ++ r) = .ok (x, r) := ex_ind fun k n nm l ih d ts r hx h => by
  obtain ⟨d, rfl⟩ : ∃ e, d = e + 1 := by
    cases d with
    | zero => cases hx
    | succ d => exact ⟨d, rfl⟩
  obtain ⟨a1, a2, a3, a4, a5⟩ := fine_parts hx
  have m1 := most_le k
  have k12 : 1 ≤ k ∧ k ≤ 12 := by
    unfold argsN at a1
    by_cases hk : k = 1 ∨ k = 2 ∨ k = 3 ∨ k = 4 ∨ k = 11
    · omega
    · rw [if_neg hk] at a1
      split at a1
      · omega
      · split at a1
        · omega
        · split at a1
          · omega
          · omega
  have lnil : argsN k = 0 → l = [] := fun e2 => List.length_eq_zero_iff.1 (by omega)
  have nnil : k ≠ 3 → nm = [] := fun e => Decidable.byContradiction fun h' => e (a3.1 h')
  rw [toks_mk] at h
  show exprT (d + 1) (isCond k) (ts ++ r) = _
  by_cases k4 : k = 4
  · subst k4
    rw [if_pos rfl] at h
    obtain ⟨p, us, rfl, hu⟩ := map_cons' h
    obtain rfl : us = [] := by simpa using hu
    rw [exprT_money (kind_money _ _ _), nnil (by decide), lnil (by decide)]
    rfl
  · rw [if_neg k4] at h
    by_cases k1 : k = 1 ∨ k = 2
    · rw [if_pos k1] at h
      obtain ⟨p, us, rfl, hu⟩ := map_cons' h
      obtain rfl : us = [] := by simpa using hu
      have n0 : n = 0 := by have := m1.2.2 k4 (by omega) (by omega) (by omega); omega
      rw [exprT_leaf (kind_word k12.1 k12.2 k4 _ _) k1, nnil (by omega), lnil (by rcases k1 with rfl | rfl <;> rfl), n0]
      rfl
    · rw [if_neg k1] at h
      obtain ⟨p, us, rfl, hu⟩ := map_cons' h
      obtain ⟨q, vs, rfl, hv⟩ := map_cons' hu
      obtain ⟨ta, tb, rfl, hta, htb⟩ := map_app hv
      obtain ⟨tt, tc, rfl, htt, htc⟩ := map_app htb
      obtain ⟨q2, ws, rfl, hw⟩ := map_cons' htc
      obtain rfl : ws = [] := by simpa using hw
      rw [exprT_call (kind_word k12.1 k12.2 k4 _ _) (by omega) k4 k1]
      unfold callT
      simp only [List.cons_append, List.tail_cons, sg]
      rw [take_sign]
      simp only
      have ha : argsT (exprT d) k 0 l.length (ta ++ (tt ++ ((4, [41], 0, q2) :: r))) = .ok (l, tt ++ ((4, [41], 0, q2) :: r)) := args_ok (exprT d) k l 0 ta _ (fun j hj a b hab => by
        have h5 := a5 j hj
        have := ih _ (List.getElem_mem hj) d a b h5.2 hab
        rw [h5.1] at this
        rw [Nat.zero_add]
        exact this) (by rw [if_pos rfl]; exact hta)
      have el : (argsN k).toNat = l.length := by omega
      rw [el, List.append_assoc, List.append_assoc]
      simp only [List.cons_append, List.nil_append]
      rw [ha]
      simp only
      rw [rest_ok a2 a4 a3 tt _ htt k4]
      simp only
      rw [take_sign]
/-- A right expression's text is parsed to it. -/
theorem parse_text {x : Ex} (h : rightX x = true) : parseS (text x) = .ok x := by
  simp only [rightX, Bool.and_eq_true, decide_eq_true_eq] at h
  obtain ⟨⟨⟨h1, h2⟩, h3⟩, h4⟩ := h
  have hc : isCond x.k = false := by simpa using h2
  obtain ⟨ts, e, hm⟩ := fine_lex h1
  unfold parseS
  rw [if_neg (by omega), e]
  simp only
  unfold stratT
  have := expr_ok x 32 ts [(5, [], 0, ((text x).length : Int))] h1 hm
  rw [hc] at this
  rw [this]
  rfl
end Go.Proofs.YtjhjdiaomnpkmaaDoor

namespace Go.Proofs.YtjhjdiaomnpkmaaDoor
open Go.Lib
set_option linter.unusedVariables false
set_option linter.unusedSimpArgs false
/-- What is told of tokens: a thing that is so, and what is left of them; or an error at one of them. -/
def Spec {α : Type} (P : α → Prop) (ts : List Tok) : Told α → Prop
  | .ok (x, r) => P x ∧ ∃ a, ts = a ++ r
  | .error (e, p) => (e = 80 ∨ e = 81) ∧ (p = 0 ∨ ∃ t ∈ ts, p = t.2.2.2)
theorem Spec.mono {α : Type} {P Q : α → Prop} {ts : List Tok} {m : Told α} (h : Spec P ts m) (hq : ∀ x, P x → Q x) : Spec Q ts m := by
  rcases m with ⟨e, p⟩ | ⟨x, r⟩
  · exact h
  · exact ⟨hq x h.1, h.2⟩
theorem Spec.up {α : Type} {P : α → Prop} {a ts : List Tok} {m : Told α} (h : Spec P ts m) : Spec P (a ++ ts) m := by
  rcases m with ⟨e, p⟩ | ⟨x, r⟩
  · obtain ⟨h1, h2⟩ := h
    refine ⟨h1, ?_⟩
    rcases h2 with h | ⟨t, ht, e⟩
    · exact .inl h
    · exact .inr ⟨t, List.mem_append_right _ ht, e⟩
  · obtain ⟨h1, b, rfl⟩ := h
    exact ⟨h1, a ++ b, by rw [List.append_assoc]⟩
theorem at_spec {α : Type} {P : α → Prop} (ts : List Tok) {e : Int} (he : e = 80 ∨ e = 81) : Spec P ts (.error (e, atT ts)) := by
  refine ⟨he, ?_⟩
  cases ts with
  | nil => exact .inl rfl
  | cons t r => exact .inr ⟨t, List.mem_cons_self .., rfl⟩
theorem take_spec (k : Int) (x : List UInt8) (ts : List Tok) (hk : k ≠ 5) : Spec (fun t => t.1 = k ∧ (x = [] ∨ t.2.1 = x) ∧ t ∈ ts) ts (takeT k x ts) := by
  unfold takeT
  split
  · rename_i h
    try rw [if_neg hk]
    cases ts with
    | nil => exact absurd h.1.symm (by unfold hdT; exact hk)
    | cons t r => exact ⟨⟨h.1, h.2, List.mem_cons_self ..⟩, [t], rfl⟩
  · exact at_spec ts (.inl rfl)
/-- A token as a scan tells it. -/
def okT (t : Tok) : Prop := (t.1 = 3 → 0 ≤ t.2.2.1 ∧ t.2.2.1 ≤ 1000000000000) ∧ (t.1 = 2 → 0 ≤ t.2.2.1 ∧ t.2.2.1 ≤ 100000) ∧ (t.1 = 1 → t.2.1 ≠ [])
theorem kind_spec {c : Bool} {t : Tok} (ho : okT t) (h : kindT c t ≠ 0) : (kindT c t = 4 ∧ t.1 = 3 ∧ c = false) ∨ (t.1 = 1 ∧ 1 ≤ kindT c t ∧ kindT c t ≤ 12 ∧ kindT c t ≠ 4 ∧ isCond (kindT c t) = c) := by
  by_cases h1 : t.1 = 3 ∧ c = false
  · left
    refine ⟨by unfold kindT; rw [if_pos h1], h1.1, h1.2⟩
  · by_cases h2 : t.1 = 1
    · have e : kindT c t = kindW c t.2.1 := by unfold kindT; rw [if_neg h1, if_pos h2]
      rw [e] at h ⊢
      right
      unfold kindW at h ⊢
      cases hf : ([1, 2, 3, 4, 5, 6, 7, 8, 9, 10, 11, 12] : List Int).find? fun k => wordK k == t.2.1 && isCond k == c with
      | none => rw [hf] at h; exact absurd rfl h
      | some k =>
        have hs := List.find?_some hf
        have hm := List.mem_of_find?_eq_some hf
        simp only [Bool.and_eq_true, beq_iff_eq] at hs
        simp only [List.mem_cons, List.not_mem_nil, or_false] at hm
        have hw := ho.2.2 h2
        refine ⟨h2, ?_, ?_, ?_, hs.2⟩
        · simp only [Option.getD_some]; omega
        · simp only [Option.getD_some]; omega
        · simp only [Option.getD_some]
          rintro rfl
          exact hw hs.1.symm
    · exact absurd (by unfold kindT; rw [if_neg h1, if_neg h2]) h
theorem args_spec {d : Nat} (f : Bool → List Tok → Told Ex) (k : Int) (hf : ∀ c ts, (∀ t ∈ ts, okT t) → Spec (fun x => fine d x = true ∧ isCond x.k = c) ts (f c ts)) : ∀ (m i : Nat) (ts : List Tok), (∀ t ∈ ts, okT t) →
    Spec (fun l => l.length = m ∧ ∀ j (h : j < l.length), isCond l[j].k = (decide (k = 10) && decide (i + j = 0)) ∧ fine d l[j] = true) ts (argsT f k i m ts) := by
  intro m
  induction m with
  | zero => intro i ts _; unfold argsT; exact ⟨⟨rfl, fun j h => absurd h (by simp)⟩, [], rfl⟩
  | succ m ih =>
    intro i ts ho
    unfold argsT
    have h0 : Spec (fun _ => True) ts (if i = 0 then (.ok ((5, [], 0, 0), ts) : Told Tok) else takeT 4 [44] ts) := by
      split
      · exact ⟨trivial, [], rfl⟩
      · exact (take_spec 4 [44] ts (by decide)).mono fun _ _ => trivial
    rcases hm : (if i = 0 then (.ok ((5, [], 0, 0), ts) : Told Tok) else takeT 4 [44] ts) with ⟨e, p⟩ | ⟨t0, r0⟩
    · rw [hm] at h0; exact h0
    · rw [hm] at h0
      obtain ⟨_, a, rfl⟩ := h0
      simp only
      have ho1 : ∀ t ∈ r0, okT t := fun t ht => ho t (List.mem_append_right _ ht)
      have h1 := hf (decide (k = 10) && decide (i = 0)) r0 ho1
      rcases hm1 : f (decide (k = 10) && decide (i = 0)) r0 with ⟨e, p⟩ | ⟨x, r1⟩
      · rw [hm1] at h1; exact Spec.up (a := a) (P := _) h1
      · rw [hm1] at h1
        obtain ⟨hx, b, rfl⟩ := h1
        simp only
        have h2 := ih (i + 1) r1 fun t ht => ho1 t (List.mem_append_right _ ht)
        rcases hm2 : argsT f k (i + 1) m r1 with ⟨e, p⟩ | ⟨l, r2⟩
        · rw [hm2] at h2; exact Spec.up (a := a) (Spec.up (a := b) h2)
        · rw [hm2] at h2
          obtain ⟨⟨hl, hl2⟩, c, rfl⟩ := h2
          refine ⟨⟨by rw [List.length_cons, hl], fun j hj => ?_⟩, a ++ (b ++ c), by simp⟩
          cases j with
          | zero => exact ⟨by simpa using hx.2, hx.1⟩
          | succ j =>
            have := hl2 j (by simpa using hj)
            rw [show i + 1 + j = i + (j + 1) by omega] at this
            exact this
theorem rest_spec {k : Int} (ts : List Tok) (ho : ∀ t ∈ ts, okT t) (h4 : k ≠ 4) : Spec (fun q => (0 ≤ q.1 ∧ q.1 ≤ mostN k) ∧ (k = 3 → isName q.2 = true) ∧ (q.2 ≠ [] ↔ k = 3)) ts (restT k ts) := by
  have two : ∀ (K : Int) (lim : Int), K ≠ 5 → k ≠ 3 → lim = mostN k → (∀ t : Tok, okT t → t.1 = K → 0 ≤ t.2.2.1 ∧ t.2.2.1 ≤ lim) →
      Spec (fun q => (0 ≤ q.1 ∧ q.1 ≤ mostN k) ∧ (k = 3 → isName q.2 = true) ∧ (q.2 ≠ [] ↔ k = 3)) ts (match takeT 4 [44] ts with | .error e => .error e | .ok (_, ts) => (match takeT K [] ts with | .error e => .error e | .ok (t, ts) => .ok ((t.2.2.1, []), ts))) := by
    intro K lim hK h3 hl hb
    have h0 := take_spec 4 [44] ts (by decide)
    rcases hm : takeT 4 [44] ts with ⟨e, p⟩ | ⟨t0, r0⟩
    · rw [hm] at h0; exact h0
    · rw [hm] at h0
      obtain ⟨_, a, rfl⟩ := h0
      simp only
      have h1 := take_spec K [] r0 hK
      rcases hm1 : takeT K [] r0 with ⟨e, p⟩ | ⟨t1, r1⟩
      · rw [hm1] at h1; exact Spec.up (a := a) (P := _) h1
      · rw [hm1] at h1
        obtain ⟨⟨hk, _, hmem⟩, b, rfl⟩ := h1
        have := hb t1 (ho t1 (List.mem_append_right _ hmem)) hk
        exact ⟨⟨by rw [← hl]; exact this, fun e => absurd e h3, by simp [h3]⟩, a ++ b, by simp⟩
  unfold restT
  split
  · rename_i e3
    subst e3
    split
    · rename_i hn
      have h1 := take_spec 1 [] ts (by decide)
      rcases hm1 : takeT 1 [] ts with ⟨e, p⟩ | ⟨t1, r1⟩
      · rw [hm1] at h1; exact h1
      · have e1 : t1 = hdT ts := by
          unfold takeT at hm1
          split at hm1
          · injection hm1 with hm1; injection hm1 with hm1; exact hm1.symm
          · cases hm1
        rw [hm1] at h1
        rw [e1]
        refine ⟨⟨⟨Int.le_refl _, (by decide : (0 : Int) ≤ mostN 3)⟩, fun _ => hn, ⟨fun _ => rfl, fun _ => (name_parts hn).1⟩⟩, h1.2⟩
    · exact at_spec ts (.inl rfl)
  · rename_i e3
    split
    · rename_i e5; subst e5; exact two 3 _ (by decide) e3 rfl fun t ht hk => ht.1 hk
    · split
      · rename_i e6; subst e6; exact two 2 _ (by decide) e3 rfl fun t ht hk => ht.2.1 hk
      · split
        · rename_i e11
          subst e11
          split
          · rename_i hle
            have h1 := take_spec 2 [] ts (by decide)
            rcases hm1 : takeT 2 [] ts with ⟨e, p⟩ | ⟨t1, r1⟩
            · rw [hm1] at h1; exact h1
            · have e1 : t1 = hdT ts := by
                unfold takeT at hm1
                split at hm1
                · injection hm1 with hm1; injection hm1 with hm1; exact hm1.symm
                · cases hm1
              rw [hm1] at h1
              obtain ⟨⟨hk, _, hmem⟩, hr⟩ := h1
              have := (ho t1 hmem).2.1 hk
              rw [← e1] at hle
              exact ⟨⟨⟨this.1, hle⟩, fun e => absurd e (by decide), by simp⟩, hr⟩
          · exact at_spec ts (.inl rfl)
        · rename_i e5 e6 e11
          refine ⟨⟨⟨Int.le_refl _, ?_⟩, fun e => absurd e e3, by simp [e3]⟩, [], rfl⟩
          rw [(most_le k).2.2 h4 e5 e6 e11]; exact Int.le_refl _
theorem argsN_pos {k : Int} (h1 : 1 ≤ k) (h2 : k ≤ 12) : 0 ≤ argsN k := by
  have : k = 1 ∨ k = 2 ∨ k = 3 ∨ k = 4 ∨ k = 5 ∨ k = 6 ∨ k = 7 ∨ k = 8 ∨ k = 9 ∨ k = 10 ∨ k = 11 ∨ k = 12 := by omega
  rcases this with rfl | rfl | rfl | rfl | rfl | rfl | rfl | rfl | rfl | rfl | rfl | rfl <;> decide
/-- What is parsed may be, and is a condition where one is asked for. -/
theorem expr_spec : ∀ (d : Nat) (c : Bool) (ts : List Tok), (∀ t ∈ ts, okT t) → Spec (fun x => fine d x = true ∧ isCond x.k = c) ts (exprT d c ts) := by
  intro d
  induction d with
  | zero => intro c ts _; rw [exprT_deep]; exact at_spec ts (.inr rfl)
  | succ d ih =>
    intro c ts ho
    cases ts with
    | nil =>
      have : kindT c (hdT []) = 0 := by unfold kindT hdT; simp
      rw [exprT_none this]; exact at_spec [] (.inl rfl)
    | cons t r =>
      have hot := ho t (List.mem_cons_self ..)
      by_cases h0 : kindT c (hdT (t :: r)) = 0
      · rw [exprT_none h0]; exact at_spec _ (.inl rfl)
      · rcases kind_spec (c := c) hot h0 with ⟨hk, ht, rfl⟩ | ⟨ht, k1, k2, k4, hc⟩
        · rw [exprT_money hk]
          have := hot.1 ht
          exact ⟨⟨fine_mk (by decide) ⟨this.1, this.2⟩ (by simp) (by simp) (fun i hi => absurd hi (by simp)), rfl⟩, [t], rfl⟩
        · obtain ⟨k, hk⟩ : ∃ k, kindT c (hdT (t :: r)) = k := ⟨_, rfl⟩
          have hk' : kindT c t = k := hk
          rw [hk'] at k1 k2 k4 hc
          by_cases k12 : k = 1 ∨ k = 2
          · rw [exprT_leaf hk k12]
            refine ⟨⟨fine_mk ?_ ⟨Int.le_refl _, ?_⟩ ?_ ?_ (fun i hi => absurd hi (by simp)), hc⟩, [t], rfl⟩
            · rcases k12 with rfl | rfl <;> rfl
            · rcases k12 with rfl | rfl <;> decide
            · rcases k12 with rfl | rfl <;> simp
            · rcases k12 with rfl | rfl <;> simp
          · rw [exprT_call hk (by omega) k4 k12]
            refine Spec.up (a := [t]) (ts := r) ?_
            have hor : ∀ t ∈ r, okT t := fun u hu => ho u (List.mem_cons_of_mem _ hu)
            rw [List.tail_cons]
            unfold callT
            have h1 := take_spec 4 [40] r (by decide)
            rcases hm1 : takeT 4 [40] r with ⟨e, p⟩ | ⟨t1, r1⟩
            · rw [hm1] at h1; exact h1
            · rw [hm1] at h1
              obtain ⟨_, a1, rfl⟩ := h1
              refine Spec.up (a := a1) ?_
              have ho1 : ∀ t ∈ r1, okT t := fun u hu => hor u (List.mem_append_right _ hu)
              simp only
              have h2 := args_spec (exprT d) k (fun c ts h => ih c ts h) (argsN k).toNat 0 r1 ho1
              rcases hm2 : argsT (exprT d) k 0 (argsN k).toNat r1 with ⟨e, p⟩ | ⟨l, r2⟩
              · rw [hm2] at h2; exact h2
              · rw [hm2] at h2
                obtain ⟨⟨hl, hl2⟩, a2, rfl⟩ := h2
                refine Spec.up (a := a2) ?_
                have ho2 : ∀ t ∈ r2, okT t := fun u hu => ho1 u (List.mem_append_right _ hu)
                simp only
                have h3 := rest_spec r2 ho2 k4
                rcases hm3 : restT k r2 with ⟨e, p⟩ | ⟨⟨n, nm⟩, r3⟩
                · rw [hm3] at h3; exact h3
                · rw [hm3] at h3
                  obtain ⟨⟨q1, q2, q3⟩, a3, rfl⟩ := h3
                  refine Spec.up (a := a3) ?_
                  simp only
                  have h4 := take_spec 4 [41] r3 (by decide)
                  rcases hm4 : takeT 4 [41] r3 with ⟨e, p⟩ | ⟨t4, r4⟩
                  · rw [hm4] at h4; exact h4
                  · rw [hm4] at h4
                    have := argsN_pos k1 k2
                    exact ⟨⟨fine_mk (by rw [hl]; omega) q1 q3 q2 fun i hi => by have := hl2 i hi; rw [Nat.zero_add] at this; exact this, hc⟩, h4.2⟩
end Go.Proofs.YtjhjdiaomnpkmaaDoor
