/- A load that may be taken first, although the region writes the cell behind it: what is held of the world is asked behind those operations alone that do not wait for the load; A drawn region that reads what it then writes: all loads may be taken first; the stores come late, one by one. -/
import Derived.Test.YtndmnlgancnbkaaZL
import Derived.Test.YtndmnlgancnbkaaZ00
import Derived.Test.YtndmnlgancnbkaaZ01
import Derived.Test.YtndmnlgancnbkaaZ02
import Derived.Test.YtndmnlgancnbkaaZ03
namespace Go.Proofs.Ytndmnlgancnbkaa
open Go
set_option linter.unusedVariables false
set_option linter.unusedSimpArgs false
section
variable {P : Program} {ops : Array Oper} {Q : Exit → Act → World → Prop} {md : Region.Mode} {S : World → Prop}
/-- Does operation j wait for i itself? -/
def waitsB (md : Region.Mode) (ops : Array Oper) (j i : Nat) : Bool := ((ops[j]?).map fun o => o.after.any fun e => Region.binds md e && (e.on == i)).getD false
/-- Whatever order is picked from here on; behind what does not wait for i, S holds. -/
def wpTill (P : Program) (md : Region.Mode) (ops : Array Oper) (Q : Exit → Act → World → Prop) (S : World → Prop) (i : Nat) : Nat → Array Bool → Act → World → Prop
  | 0, listed, a, w => Region.ready md ops listed = [] ∧ Q .normal a w
  | fuel + 1, listed, a, w =>
    (Region.ready md ops listed = [] → Q .normal a w) ∧
    ∀ j ∈ Region.ready md ops listed, wpOp P ops Q j (fun a' w' => (waitsB md ops j i = false → S w') ∧ wpTill P md ops Q S i fuel (listed.setIfInBounds j true) a' w') a w
theorem any_of_till {i : Nat} : ∀ (fuel : Nat) (listed : Array Bool) (a : Act) (w : World), wpTill P md ops Q S i fuel listed a w → wpAny P md ops Q fuel listed a w
  | 0, _, _, _, h => h
  | fuel + 1, _, _, _, h => ⟨h.1, fun j hj => wpOp_mono (fun a' w' h' => any_of_till fuel _ a' w' h'.2) (h.2 j hj)⟩
theorem ready_iff {listed : Array Bool} {j : Nat} : j ∈ Region.ready md ops listed ↔ j < ops.size ∧ listed.getD j true = false ∧ ∃ o, ops[j]? = some o ∧ ∀ e ∈ o.after, Region.binds md e = true → listed.getD e.on false = true := by
  unfold Region.ready
  rw [List.mem_filter, List.mem_range]
  constructor
  · rintro ⟨h1, h2⟩
    rw [Array.getElem?_eq_getElem h1] at h2 ⊢
    simp only [Option.map_some, Option.getD_some, Bool.and_eq_true, Bool.not_eq_true', Array.all_eq_true_iff_forall_mem, Bool.or_eq_true] at h2
    refine ⟨h1, h2.1, _, rfl, fun e he hb => ?_⟩
    rcases h2.2 e he with h | h
    · rw [hb] at h; cases h
    · exact h
  · rintro ⟨h1, h2, o, ho, h3⟩
    refine ⟨h1, ?_⟩
    rw [ho]
    simp only [Option.map_some, Option.getD_some, Bool.and_eq_true, Bool.not_eq_true', Array.all_eq_true_iff_forall_mem, Bool.or_eq_true]
    refine ⟨h2, fun e he => ?_⟩
    cases hb : Region.binds md e
    · exact .inl rfl
    · exact .inr (h3 e he hb)
theorem set_get {listed : Array Bool} {i j : Nat} {d : Bool} (h : j ≠ i) : (listed.setIfInBounds i true).getD j d = listed.getD j d := by
  simp [Array.getD_eq_getD_getElem?, Array.getElem?_setIfInBounds, Ne.symm h]
theorem set_mono {listed : Array Bool} {i j : Nat} (h : listed.getD j false = true) : (listed.setIfInBounds i true).getD j false = true := by
  by_cases e : j = i
  · subst e
    have hl : j < listed.size := by
      rcases Nat.lt_or_ge j listed.size with h' | h'
      · exact h'
      · simp [Array.getD_eq_getD_getElem?, Array.getElem?_eq_none h'] at h
    simp [Array.getD_eq_getD_getElem?, Array.getElem?_setIfInBounds, hl]
  · rw [set_get e]; exact h
theorem ready_set {listed : Array Bool} {i j : Nat} (hj : j ∈ Region.ready md ops listed) (h : j ≠ i) : j ∈ Region.ready md ops (listed.setIfInBounds i true) := by
  obtain ⟨h1, h2, o, ho, h3⟩ := ready_iff.1 hj
  exact ready_iff.2 ⟨h1, by rw [set_get h]; exact h2, o, ho, fun e he hb => set_mono (h3 e he hb)⟩
theorem ready_waits {listed : Array Bool} {i j : Nat} (hi : i ∈ Region.ready md ops listed) (hj : j ∈ Region.ready md ops listed) : waitsB md ops j i = false := by
  obtain ⟨_, h2, _⟩ := ready_iff.1 hi
  obtain ⟨_, _, o, ho, h3⟩ := ready_iff.1 hj
  unfold waitsB
  rw [ho]
  simp only [Option.map_some, Option.getD_some]
  rw [Array.any_eq_false']
  intro e he hc
  simp only [Bool.and_eq_true, beq_iff_eq] at hc
  have := h3 e he hc.1
  rw [hc.2] at this
  rcases Nat.lt_or_ge i listed.size with h' | h'
  · simp [Array.getD_eq_getD_getElem?, Array.getElem?_eq_getElem h'] at this h2
    rw [this] at h2; cases h2
  · simp [Array.getD_eq_getD_getElem?, Array.getElem?_eq_none h'] at this
/-- Taken first, with S held till it comes up. -/
theorem till_first {i : Nat} {oi : Oper} {v : Value} (hi : ops[i]? = some oi) (hsel : ∀ (j : Nat) (o : Oper) cs b, ops[j]? = some o → o.op ≠ .select cs b)
    (hQ : ∀ c a w, Q (.panic c) (a.put oi.dst v) w → Q (.panic c) a w) :
    ∀ (fuel : Nat) (listed : Array Bool) (a : Act) (w : World),
      (∀ j oj, ops[j]? = some oj → j ≠ i → listed.getD j true = false → (∀ e ∈ oj.after, Region.binds md e = true → e.on ≠ i) → oi.apart ops oj = true) →
      i ∈ Region.ready md ops listed → YieldsIf P ops S oi v a → S w →
      wpTill P md ops Q S i fuel (listed.setIfInBounds i true) (a.put oi.dst v) w → wpAny P md ops Q (fuel + 1) listed a w := by
  intro fuel
  induction fuel with
  | zero =>
    intro listed a w hap hir hy hS h
    refine ⟨(fun e => by rw [e] at hir; cases hir), fun j hj => ?_⟩
    by_cases hji : j = i
    · subst hji; exact hy.wpOp hi hS (any_of_till 0 _ _ _ h)
    · have := ready_set hj hji
      rw [h.1] at this; cases this
  | succ f ih =>
    intro listed a w hap hir hy hS h
    refine ⟨(fun e => by rw [e] at hir; cases hir), fun j hj => ?_⟩
    by_cases hji : j = i
    · subst hji; exact hy.wpOp hi hS (any_of_till (f + 1) _ _ _ h)
    · have hw := ready_waits hir hj
      obtain ⟨_, hjl, oj, hoj, hjw⟩ := ready_iff.1 hj
      have hnot : ∀ e ∈ oj.after, Region.binds md e = true → e.on ≠ i := by
        intro e he hb hc
        unfold waitsB at hw
        rw [hoj] at hw
        simp only [Option.map_some, Option.getD_some] at hw
        rw [Array.any_eq_false'] at hw
        exact hw e he (by simp [hb, hc])
      have h1 := wpOp_putIf hoj (hap j oj hoj hji hjl hnot) (fun cs b => hsel i oi cs b hi) (fun cs b => hsel j oj cs b hoj) hQ hy (h.2 j (ready_set hj hji))
      refine wpOp_mono (fun a' w' h' => ?_) h1
      obtain ⟨hy', hS', ht⟩ := h'
      refine ih (listed.setIfInBounds j true) a' w' (fun q oq hq hqi hql hqe => hap q oq hq hqi ?_ hqe) (ready_set hir (Ne.symm hji)) hy' (hS' hw) ?_
      · by_cases e : q = j
        · subst e; exact hjl
        · rw [set_get e] at hql; exact hql
      · rw [Array.setIfInBounds_comm _ _ (Ne.symm hji)] at ht
        exact ht
theorem till_take {i : Nat} {oi : Oper} {v : Value} (d : Option Tmp) {fuel : Nat} {listed : Array Bool} {a : Act} {w : World} (hi : ops[i]? = some oi) (hd : oi.dst = d)
    (hs : Region.noSelect ops = true) (hf : Region.free md ops listed i = true) (hr : (Region.ready md ops listed).contains i = true)
    (hQ : ∀ c a w, Q (.panic c) (a.put d v) w → Q (.panic c) a w) (hy : YieldsIf P ops S oi v a) (hS : S w)
    (h : wpTill P md ops Q S i fuel (listed.setIfInBounds i true) (a.put d v) w) : wpAny P md ops Q (fuel + 1) listed a w := by
  subst hd
  exact till_first hi (Region.noSelect_spec hs) hQ fuel listed a w (Region.free_spec hi hf) (by simpa using hr) hy hS h
/-- What asks nothing of the world is taken first. -/
theorem any_take {i : Nat} {oi : Oper} {v : Value} (d : Option Tmp) {fuel : Nat} {listed : Array Bool} {a : Act} {w : World} (hi : ops[i]? = some oi) (hd : oi.dst = d)
    (hs : Region.noSelect ops = true) (hf : Region.free md ops listed i = true) (hr : (Region.ready md ops listed).contains i = true)
    (hQ : ∀ c a w, Q (.panic c) (a.put d v) w → Q (.panic c) a w) (hy : Yields P ops oi v a)
    (h : wpAny P md ops Q fuel (listed.setIfInBounds i true) (a.put d v) w) : wpAny P md ops Q (fuel + 1) listed a w := by
  subst hd
  exact wpAny_take hi hs hf hr hQ hy h
/-- One operation alone may come up: it does not wait for i, so S is shown behind it. -/
theorem till_one {i j : Nat} {o : Oper} {fuel : Nat} {listed : Array Bool} {a : Act} {w : World} (hr : Region.ready md ops listed = [j]) (ho : ops[j]? = some o)
    (h : ∀ K' : Act → World → Prop, Shut (∀ a w, S w → wpTill P md ops Q S i fuel (listed.setIfInBounds j true) a w → K' a w) → if Region.wanted o (yielded ops a.tmps) = true then Oper.wp P o a w K' Q else K' (a.put o.dst undef) w) : wpTill P md ops Q S i (fuel + 1) listed a w :=
  ⟨(fun h0 => by rw [hr] at h0; cases h0), fun q hq => by rw [hr, List.mem_singleton] at hq; subst hq; exact wpOp_step ho (fun K' hK => h K' (fun a w hS hW => hK a w ⟨fun _ => hS, hW⟩))⟩
/-- One operation alone may come up: it waits for i. -/
theorem till_late {i j : Nat} {o : Oper} {fuel : Nat} {listed : Array Bool} {a : Act} {w : World} (hr : Region.ready md ops listed = [j]) (ho : ops[j]? = some o) (hw : waitsB md ops j i = true)
    (h : ∀ K' : Act → World → Prop, Shut (∀ a w, wpTill P md ops Q S i fuel (listed.setIfInBounds j true) a w → K' a w) → if Region.wanted o (yielded ops a.tmps) = true then Oper.wp P o a w K' Q else K' (a.put o.dst undef) w) : wpTill P md ops Q S i (fuel + 1) listed a w :=
  ⟨(fun h0 => by rw [hr] at h0; cases h0), fun q hq => by rw [hr, List.mem_singleton] at hq; subst hq; exact wpOp_step ho (fun K' hK => h K' (fun a w hW => hK a w ⟨(fun e => by rw [hw] at e; cases e), hW⟩))⟩
theorem till_done {i : Nat} {listed : Array Bool} {a : Act} {w : World} (hr : Region.ready md ops listed = []) (h : Q .normal a w) : ∀ fuel, wpTill P md ops Q S i fuel listed a w
  | 0 => ⟨hr, h⟩
  | _ + 1 => ⟨fun _ => h, by rw [hr]; simp⟩
end
end Go.Proofs.Ytndmnlgancnbkaa

namespace Go.Proofs.Ytndmnlgancnbkaa
open Go
set_option linter.unusedVariables false
set_option linter.unusedSimpArgs false
section
variable {P : Program} {ops : Array Oper} {Q : Exit → Act → World → Prop} {md : Region.Mode} {S : World → Prop} {late : Nat → Bool}
/-- Whatever order is picked from here on; behind what is not late, S holds. -/
def wpLate (P : Program) (md : Region.Mode) (ops : Array Oper) (Q : Exit → Act → World → Prop) (S : World → Prop) (late : Nat → Bool) : Nat → Array Bool → Act → World → Prop
  | 0, listed, a, w => Region.ready md ops listed = [] ∧ Q .normal a w
  | fuel + 1, listed, a, w =>
    (Region.ready md ops listed = [] → Q .normal a w) ∧
    ∀ j ∈ Region.ready md ops listed, wpOp P ops Q j (fun a' w' => (late j = false → S w') ∧ wpLate P md ops Q S late fuel (listed.setIfInBounds j true) a' w') a w
theorem any_of_late : ∀ (fuel : Nat) (listed : Array Bool) (a : Act) (w : World), wpLate P md ops Q S late fuel listed a w → wpAny P md ops Q fuel listed a w
  | 0, _, _, _, h => h
  | fuel + 1, _, _, _, h => ⟨h.1, fun j hj => wpOp_mono (fun a' w' h' => any_of_late fuel _ a' w' h'.2) (h.2 j hj)⟩
theorem late_first {T : World → Prop} {i : Nat} {oi : Oper} {v : Value} (hi : ops[i]? = some oi) (hsel : ∀ (j : Nat) (o : Oper) cs b, ops[j]? = some o → o.op ≠ .select cs b)
    (hQ : ∀ c a w, Q (.panic c) (a.put oi.dst v) w → Q (.panic c) a w) (U : Nat → Prop) (hT : ∀ j w, U j → waitsB md ops j i = false → (late j = false → S w) → T w) (hST : ∀ w, T w → late i = false → S w) :
    ∀ (fuel : Nat) (listed : Array Bool) (a : Act) (w : World),
      (∀ j oj, ops[j]? = some oj → j ≠ i → listed.getD j true = false → (∀ e ∈ oj.after, Region.binds md e = true → e.on ≠ i) → oi.apart ops oj = true) → (∀ j, listed.getD j true = false → U j) →
      i ∈ Region.ready md ops listed → YieldsIf P ops T oi v a → T w →
      wpLate P md ops Q S late fuel (listed.setIfInBounds i true) (a.put oi.dst v) w → wpLate P md ops Q S late (fuel + 1) listed a w := by
  intro fuel
  induction fuel with
  | zero =>
    intro listed a w hap hU hir hy hS h
    refine ⟨(fun e => by rw [e] at hir; cases hir), fun j hj => ?_⟩
    by_cases hji : j = i
    · subst hji; exact hy.wpOp hi hS ⟨hST w hS, h⟩
    · have := ready_set hj hji
      rw [h.1] at this; cases this
  | succ f ih =>
    intro listed a w hap hU hir hy hS h
    refine ⟨(fun e => by rw [e] at hir; cases hir), fun j hj => ?_⟩
    by_cases hji : j = i
    · subst hji; exact hy.wpOp hi hS ⟨hST w hS, h⟩
    · have hw := ready_waits hir hj
      obtain ⟨_, hjl, oj, hoj, hjw⟩ := ready_iff.1 hj
      have hnot : ∀ e ∈ oj.after, Region.binds md e = true → e.on ≠ i := by
        intro e he hb hc
        unfold waitsB at hw
        rw [hoj] at hw
        simp only [Option.map_some, Option.getD_some] at hw
        rw [Array.any_eq_false'] at hw
        exact hw e he (by simp [hb, hc])
      have h1 := wpOp_putIf hoj (hap j oj hoj hji hjl hnot) (fun cs b => hsel i oi cs b hi) (fun cs b => hsel j oj cs b hoj) hQ hy (h.2 j (ready_set hj hji))
      refine wpOp_mono (fun a' w' h' => ?_) h1
      obtain ⟨hy', hS', ht⟩ := h'
      have unl : ∀ q, (listed.setIfInBounds j true).getD q true = false → listed.getD q true = false := fun q hql => by
        by_cases e : q = j
        · subst e; exact hjl
        · rw [set_get e] at hql; exact hql
      refine ⟨hS', ih (listed.setIfInBounds j true) a' w' (fun q oq hq hqi hql hqe => hap q oq hq hqi (unl q hql) hqe) (fun q hql => hU q (unl q hql)) (ready_set hir (Ne.symm hji)) hy' (hT j w' (hU j hjl) hw hS') ?_⟩
      · rw [Array.setIfInBounds_comm _ _ (Ne.symm hji)] at ht
        exact ht
/-- A load is taken first: whatever is late, and not done yet, waits for it. -/
theorem late_load {i : Nat} {oi : Oper} {v : Value} (d : Option Tmp) {fuel : Nat} {listed : Array Bool} {a : Act} {w : World} (hi : ops[i]? = some oi) (hd : oi.dst = d)
    (hs : Region.noSelect ops = true) (hf : Region.free md ops listed i = true) (hr : (Region.ready md ops listed).contains i = true)
    (hQ : ∀ c a w, Q (.panic c) (a.put d v) w → Q (.panic c) a w) (hw : ((List.range listed.size).all fun j => listed.getD j true || (!late j || waitsB md ops j i)) = true) (hy : YieldsIf P ops S oi v a) (hS : S w)
    (h : wpLate P md ops Q S late fuel (listed.setIfInBounds i true) (a.put d v) w) : wpLate P md ops Q S late (fuel + 1) listed a w := by
  subst hd
  refine late_first (T := S) hi (Region.noSelect_spec hs) hQ (fun j => listed.getD j true = false) (fun j w hu hj hl => hl ?_) (fun w h _ => h) fuel listed a w (Region.free_spec hi hf) (fun _ h => h) (by simpa using hr) hy hS h
  have hjs : j < listed.size := by
    rcases Nat.lt_or_ge j listed.size with hjs | hjs
    · exact hjs
    · rw [Array.getD_eq_getD_getElem?, Array.getElem?_eq_none hjs] at hu; cases hu
  have h1 := List.all_eq_true.1 hw j (List.mem_range.2 hjs)
  rw [hu, hj] at h1
  cases hlj : late j with
  | false => rfl
  | true => rw [hlj] at h1; cases h1
/-- What asks nothing of the world is taken first. -/
theorem late_pure {i : Nat} {oi : Oper} {v : Value} (d : Option Tmp) {fuel : Nat} {listed : Array Bool} {a : Act} {w : World} (hi : ops[i]? = some oi) (hd : oi.dst = d)
    (hs : Region.noSelect ops = true) (hf : Region.free md ops listed i = true) (hr : (Region.ready md ops listed).contains i = true)
    (hQ : ∀ c a w, Q (.panic c) (a.put d v) w → Q (.panic c) a w) (hli : late i = true) (hy : YieldsIf P ops (fun _ => True) oi v a)
    (h : wpLate P md ops Q S late fuel (listed.setIfInBounds i true) (a.put d v) w) : wpLate P md ops Q S late (fuel + 1) listed a w := by
  subst hd
  exact late_first (T := fun _ => True) hi (Region.noSelect_spec hs) hQ (fun _ => True) (fun j w _ hj hl => trivial) (fun w _ q => by rw [hli] at q; cases q) fuel listed a w (Region.free_spec hi hf) (fun _ _ => trivial) (by simpa using hr) hy trivial h
theorem late_one {j : Nat} {o : Oper} {fuel : Nat} {listed : Array Bool} {a : Act} {w : World} (hr : Region.ready md ops listed = [j]) (ho : ops[j]? = some o) (hl : late j = true)
    (h : ∀ K' : Act → World → Prop, Shut (∀ a w, wpLate P md ops Q S late fuel (listed.setIfInBounds j true) a w → K' a w) → if Region.wanted o (yielded ops a.tmps) = true then Oper.wp P o a w K' Q else K' (a.put o.dst undef) w) : wpLate P md ops Q S late (fuel + 1) listed a w :=
  ⟨(fun h0 => by rw [hr] at h0; cases h0), fun q hq => by rw [hr, List.mem_singleton] at hq; subst hq; exact wpOp_step ho (fun K' hK => h K' (fun a w hW => hK a w ⟨(fun e => by rw [hl] at e; cases e), hW⟩))⟩
theorem late_done {listed : Array Bool} {a : Act} {w : World} (hr : Region.ready md ops listed = []) (h : Q .normal a w) : ∀ fuel, wpLate P md ops Q S late fuel listed a w
  | 0 => ⟨hr, h⟩
  | _ + 1 => ⟨fun _ => h, by rw [hr]; simp⟩
end
end Go.Proofs.Ytndmnlgancnbkaa
