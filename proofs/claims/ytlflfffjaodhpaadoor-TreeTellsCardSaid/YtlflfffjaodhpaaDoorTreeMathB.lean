/- Plain mathematics of layer 7, second part: unlike right expressions have unlike texts; what is printed is scanned. No program in this text. -/
import Derived.Test.YtlflfffjaodhpaaDoorTreeMath
namespace Go.Proofs.YtlflfffjaodhpaaDoor
open Go.Lib
set_option linter.unusedVariables false
set_option linter.unusedSimpArgs false

theorem fine_eq (d : Nat) (k n : Int) (nm : List UInt8) (l : List Ex) : fine (d + 1) (.mk k n nm l) = (decide (argsN k = (l.length : Int)) && decide (0 ≤ n ∧ n ≤ mostN k) && (decide (nm ≠ []) == decide (k = 3)) && (decide (k ≠ 3) || isName nm) &&
    (l.zipIdx).all fun p => (isCond p.1.k == (decide (k = 10) && decide (p.2 = 0))) && fine d p.1) := rfl
/-- What may be, by itself: the shape of one expression, and of all in it. -/
theorem fine_parts {d : Nat} {k n : Int} {nm : List UInt8} {l : List Ex} (h : fine (d + 1) (.mk k n nm l) = true) :
    argsN k = (l.length : Int) ∧ (0 ≤ n ∧ n ≤ mostN k) ∧ (nm ≠ [] ↔ k = 3) ∧ (k = 3 → isName nm = true) ∧ ∀ i (hi : i < l.length), isCond l[i].k = (decide (k = 10) && decide (i = 0)) ∧ fine d l[i] = true := by
  rw [fine_eq] at h
  simp only [Bool.and_eq_true, decide_eq_true_eq, List.all_eq_true, beq_iff_eq, Bool.or_eq_true, decide_eq_decide] at h
  obtain ⟨⟨⟨⟨h1, h2⟩, h3⟩, h4⟩, h5⟩ := h
  refine ⟨h1, h2, h3, fun e => h4.resolve_left (by simpa using e), fun i hi => ?_⟩
  have := h5 (l[i], i) (by rw [List.mem_iff_getElem]; exact ⟨i, by simpa using hi, by simp⟩)
  exact this
theorem fine_mk {d : Nat} {k n : Int} {nm : List UInt8} {l : List Ex} (h1 : argsN k = (l.length : Int)) (h2 : 0 ≤ n ∧ n ≤ mostN k) (h3 : nm ≠ [] ↔ k = 3) (h4 : k = 3 → isName nm = true)
    (h5 : ∀ i (hi : i < l.length), isCond l[i].k = (decide (k = 10) && decide (i = 0)) ∧ fine d l[i] = true) : fine (d + 1) (.mk k n nm l) = true := by
  rw [fine_eq]
  simp only [Bool.and_eq_true, decide_eq_true_eq, List.all_eq_true, beq_iff_eq, Bool.or_eq_true, decide_eq_decide]
  refine ⟨⟨⟨⟨h1, h2⟩, h3⟩, ?_⟩, ?_⟩
  · by_cases e : k = 3
    · exact .inr (h4 e)
    · exact .inl e
  · rintro ⟨y, i⟩ hy
    obtain ⟨j, hj, e⟩ := List.mem_iff_getElem.1 hy
    simp at hj e
    obtain ⟨rfl, rfl⟩ := e
    exact h5 j hj
theorem fine_mem {d : Nat} {k n : Int} {nm : List UInt8} {l : List Ex} (h : fine (d + 1) (.mk k n nm l) = true) {y : Ex} (hy : y ∈ l) : fine d y = true := by
  obtain ⟨i, hi, rfl⟩ := List.mem_iff_getElem.1 hy
  exact ((fine_parts h).2.2.2.2 i hi).2
theorem fine_deep : ∀ (x : Ex) (d : Nat), fine d x = true → deep x ≤ d := ex_ind fun k n nm l ih d h => by
  cases d with
  | zero => cases h
  | succ d =>
    rw [deep_mk]
    have : deeps l ≤ d := by
      have hm : ∀ y ∈ l, deep y ≤ d := fun y hy => ih y hy d (fine_mem h hy)
      clear h ih
      induction l with
      | nil => rw [deeps_nil]; omega
      | cons y t ih2 =>
        rw [deeps_cons]
        have h1 := hm y (List.mem_cons_self ..)
        have h2 := ih2 fun z hz => hm z (List.mem_cons_of_mem _ hz)
        omega
    omega
/-- What may be within more may be within less, if it is not too deep. -/
theorem fine_less : ∀ (x : Ex) (d e : Nat), fine d x = true → deep x ≤ e → fine e x = true := ex_ind fun k n nm l ih d e h he => by
  rw [deep_mk] at he
  cases d with
  | zero => cases h
  | succ d =>
    cases e with
    | zero => omega
    | succ e =>
      obtain ⟨h1, h2, h3, h4, h5⟩ := fine_parts h
      exact fine_mk h1 h2 h3 h4 fun i hi => ⟨(h5 i hi).1, ih _ (List.getElem_mem hi) d e (h5 i hi).2 (by have := deep_mem (List.getElem_mem hi); omega)⟩
theorem name_parts {x : List UInt8} (h : isName x = true) : x ≠ [] ∧ x.all isPt = true ∧ x.length ≤ 12 ∧ ∃ c t, x = c :: t ∧ isL c = true := by
  simp only [isName, Bool.and_eq_true, decide_eq_true_eq] at h
  obtain ⟨⟨⟨⟨h1, h2⟩, h3⟩, _⟩, h4⟩ := h
  refine ⟨h1, ?_, h2, ?_⟩
  · rw [List.all_eq_true] at h4 ⊢
    intro c hc
    have := h4 c hc
    simp only [isPt, this, Bool.true_or]
  · cases x with
    | nil => exact absurd rfl h1
    | cons c t => exact ⟨c, t, rfl, by simpa using h3⟩
theorem name_good {x : List UInt8} (h : isName x = true) : Good x 1 0 := by
  obtain ⟨h1, h2, _⟩ := name_parts h
  refine .inr ⟨h1, h2, ?_⟩
  unfold tokOf; rw [if_pos (by simp [h])]
theorem txt_pos {n : Int} (h : 0 ≤ n) (h' : n ≤ 1000000000000) : txt n = pos n.toNat := by
  unfold txt; rw [rt_yes (by omega) (by omega), if_pos rfl, if_neg (by omega), show n.natAbs = n.toNat by omega]
theorem itoa_pos {n : Int} (h : 0 ≤ n) : itoa n = decDigits n.toNat := by unfold itoa; rw [if_neg (by omega)]
theorem txt_good {n : Int} (h : 0 ≤ n) (h' : n ≤ 1000000000000) : Good (txt n) 3 n := by
  rw [txt_pos h h']
  have := good_money n.toNat (by omega)
  rwa [show ((n.toNat : Nat) : Int) = n by omega] at this
theorem itoa_good {n : Int} (h : 0 ≤ n) (h' : n ≤ 100000) : Good (itoa n) 2 n := by
  rw [itoa_pos h]
  have := good_count n.toNat (by omega)
  rwa [show ((n.toNat : Nat) : Int) = n by omega] at this
theorem txt_head {n : Int} (h : 0 ≤ n) (h' : n ≤ 1000000000000) : ∃ c t, txt n = c :: t ∧ isD c = true := by
  obtain ⟨c, t, e, hc⟩ := dd_cons (n.toNat / 100)
  rw [txt_pos h h']
  exact ⟨c, _, by unfold pos; rw [e]; rfl, hc⟩
theorem good_pt {x : List UInt8} {k n : Int} (h : Good x k n) (hk : k ≠ 4) : x ≠ [] ∧ x.all isPt = true := by
  rcases h with ⟨_, _, _, e, _⟩ | ⟨h1, h2, _⟩
  · exact absurd e hk
  · exact ⟨h1, h2⟩
theorem itoa_inj {a b : Int} (ha : 0 ≤ a ∧ a ≤ 100000) (hb : 0 ≤ b ∧ b ≤ 100000) (h : itoa a = itoa b) : a = b := by
  rw [itoa_pos ha.1, itoa_pos hb.1] at h
  have h1 := cnt_dd a.toNat 100000
  have h2 := cnt_dd b.toNat 100000
  rw [if_pos (by omega)] at h1 h2
  rw [h, h2] at h1
  omega
/-- Two texts that begin with parts, and go on with none: parts and rest are the same. -/
theorem split_pt {a b r r' : List UInt8} (ha : a.all isPt = true) (hb : b.all isPt = true) (hr : stops r = true) (hr' : stops r' = true) (h : a ++ r = b ++ r') : a = b ∧ r = r' := by
  have h1 := take_run ha hr
  have h2 := take_run hb hr'
  rw [h] at h1
  exact ⟨h1.1.symm.trans h2.1, h1.2.symm.trans h2.2⟩
/-- A kind's word. -/
theorem word_kind {k : Int} (h : 0 ≤ argsN k) (h4 : k ≠ 4) : Good (wordK k) 1 0 ∧ (∃ c t, wordK k = c :: t ∧ isL c = true) ∧ (wordK k).length ≤ 6 := by
  have hk : k = 1 ∨ k = 2 ∨ k = 3 ∨ k = 5 ∨ k = 6 ∨ k = 7 ∨ k = 8 ∨ k = 9 ∨ k = 10 ∨ k = 11 ∨ k = 12 := by
    unfold argsN at h
    split at h
    · omega
    · split at h
      · omega
      · split at h
        · omega
        · split at h <;> omega
  rcases hk with rfl | rfl | rfl | rfl | rfl | rfl | rfl | rfl | rfl | rfl | rfl
  all_goals exact ⟨good_word (by decide), ⟨_, _, rfl, by decide⟩, by decide⟩
theorem word_inj {k k' : Int} (h : 0 ≤ argsN k) (h' : 0 ≤ argsN k') (h4 : k ≠ 4) (h4' : k' ≠ 4) (e : wordK k = wordK k') : k = k' := by
  have kinds : ∀ k : Int, 0 ≤ argsN k → k ≠ 4 → k = 1 ∨ k = 2 ∨ k = 3 ∨ k = 5 ∨ k = 6 ∨ k = 7 ∨ k = 8 ∨ k = 9 ∨ k = 10 ∨ k = 11 ∨ k = 12 := fun k h h4 => by
    unfold argsN at h
    split at h
    · omega
    · split at h
      · omega
      · split at h
        · omega
        · split at h <;> omega
  rcases kinds k h h4 with rfl | rfl | rfl | rfl | rfl | rfl | rfl | rfl | rfl | rfl | rfl <;> rcases kinds k' h' h4' with rfl | rfl | rfl | rfl | rfl | rfl | rfl | rfl | rfl | rfl | rfl <;> first | rfl | (revert e; decide)
theorem stops_cons {c : UInt8} {t : List UInt8} (h : isPt c = false) : stops (c :: t) = true := by simp [stops, h]
theorem mores_stops (l : List Ex) {r : List UInt8} (hr : stops r = true) : stops (mores l ++ r) = true := by
  cases l with
  | nil => rw [mores_nil]; exact hr
  | cons x t => rw [mores_cons]; exact stops_cons (c := 44) (by decide)
theorem tail_stops (k n : Int) (nm r : List UInt8) (h : k ≠ 3) (h' : k ≠ 11) : stops (tailK k n nm ++ ([41] ++ r)) = true := by
  unfold tailK
  rw [if_neg h]
  split
  · exact stops_cons (c := 44) (by decide)
  · split
    · exact stops_cons (c := 44) (by decide)
    · exact stops_cons (c := 41) (by decide)
/-- Texts of as many arguments, one behind the other. -/
theorem mores_inj {l l' : List Ex} (hl : l.length = l'.length) (hi : ∀ x ∈ l, ∀ y ∈ l', ∀ r r', stops r = true → stops r' = true → text x ++ r = text y ++ r' → x = y ∧ r = r') {r r' : List UInt8} (hr : stops r = true) (hr' : stops r' = true)
    (h : mores l ++ r = mores l' ++ r') : l = l' ∧ r = r' := by
  induction l generalizing l' with
  | nil =>
    cases l' with
    | nil => rw [mores_nil] at h; exact ⟨rfl, h⟩
    | cons y t => simp at hl
  | cons x s ih =>
    cases l' with
    | nil => simp at hl
    | cons y t =>
      rw [mores_cons, mores_cons] at h
      simp only [List.cons_append, List.nil_append, List.append_assoc, List.cons.injEq, true_and] at h
      obtain ⟨e, h⟩ := hi x (List.mem_cons_self ..) y (List.mem_cons_self ..) _ _ (mores_stops s hr) (mores_stops t hr') h
      obtain ⟨e2, h⟩ := ih (by simpa using hl) (fun a ha b hb => hi a (List.mem_cons_of_mem _ ha) b (List.mem_cons_of_mem _ hb)) h
      exact ⟨by rw [e, e2], h⟩
theorem texts_inj {l l' : List Ex} (hl : l.length = l'.length) (hi : ∀ x ∈ l, ∀ y ∈ l', ∀ r r', stops r = true → stops r' = true → text x ++ r = text y ++ r' → x = y ∧ r = r') {r r' : List UInt8} (hr : l ≠ [] → stops r = true) (hr' : l ≠ [] → stops r' = true)
    (h : texts l ++ r = texts l' ++ r') : l = l' ∧ r = r' := by
  cases l with
  | nil =>
    cases l' with
    | nil => rw [texts_nil] at h; exact ⟨rfl, h⟩
    | cons y t => simp at hl
  | cons x s =>
    cases l' with
    | nil => simp at hl
    | cons y t =>
      have hr := hr (by simp)
      have hr' := hr' (by simp)
      rw [texts_cons, texts_cons, List.append_assoc, List.append_assoc] at h
      obtain ⟨e, h⟩ := hi x (List.mem_cons_self ..) y (List.mem_cons_self ..) _ _ (mores_stops s hr) (mores_stops t hr') h
      obtain ⟨e2, h⟩ := mores_inj (by simpa using hl) (fun a ha b hb => hi a (List.mem_cons_of_mem _ ha) b (List.mem_cons_of_mem _ hb)) hr hr' h
      exact ⟨by rw [e, e2], h⟩
theorem most_le (k : Int) : mostN k ≤ 1000000000000 ∧ (k = 6 ∨ k = 11 → mostN k ≤ 100000) ∧ (k ≠ 4 → k ≠ 5 → k ≠ 6 → k ≠ 11 → mostN k = 0) := by
  unfold mostN
  refine ⟨?_, fun h => ?_, fun h1 h2 h3 h4 => ?_⟩
  · split
    · omega
    · split
      · omega
      · split <;> omega
  · rcases h with rfl | rfl <;> decide
  · rw [if_neg (by omega), if_neg h3, if_neg h4]
/-- What stands behind the arguments, up to the bracket. -/
theorem tail_inj {k n n' : Int} {nm nm' r r' : List UInt8} (hn : 0 ≤ n ∧ n ≤ mostN k) (hn' : 0 ≤ n' ∧ n' ≤ mostN k) (h3 : nm ≠ [] ↔ k = 3) (h3' : nm' ≠ [] ↔ k = 3) (hm : k = 3 → isName nm = true) (hm' : k = 3 → isName nm' = true) (h4 : k ≠ 4)
    (h : tailK k n nm ++ ([41] ++ r) = tailK k n' nm' ++ ([41] ++ r')) : n = n' ∧ nm = nm' ∧ r = r' := by
  obtain ⟨b1, b2, b3⟩ := most_le k
  have hs : ∀ r : List UInt8, stops ([41] ++ r) = true := fun r => stops_cons (c := 41) (by decide)
  by_cases k3 : k = 3
  · subst k3
    have e0 : mostN 3 = 0 := by decide
    have := split_pt (name_parts (hm rfl)).2.1 (name_parts (hm' rfl)).2.1 (hs r) (hs r') h
    exact ⟨by omega, this.1, by simpa using this.2⟩
  · have en : nm = [] := by
      by_cases e : nm = []
      · exact e
      · exact absurd (h3.1 e) k3
    have en' : nm' = [] := by
      by_cases e : nm' = []
      · exact e
      · exact absurd (h3'.1 e) k3
    by_cases k5 : k = 5
    · subst k5
      have h : txt n ++ ([41] ++ r) = txt n' ++ ([41] ++ r') := by
        have : [44, 32] ++ (txt n ++ ([41] ++ r)) = [44, 32] ++ (txt n' ++ ([41] ++ r')) := h
        simpa using this
      have q := split_pt (good_pt (txt_good hn.1 (by omega)) (by omega)).2 (good_pt (txt_good hn'.1 (by omega)) (by omega)).2 (hs r) (hs r') h
      exact ⟨txt_inj (rt_yes (by omega) (by omega)) (rt_yes (by omega) (by omega)) q.1, by rw [en, en'], by simpa using q.2⟩
    · by_cases k6 : k = 6
      · subst k6
        have bb := b2 (.inl rfl)
        have h : itoa n ++ ([41] ++ r) = itoa n' ++ ([41] ++ r') := by
          have : [44, 32] ++ (itoa n ++ ([41] ++ r)) = [44, 32] ++ (itoa n' ++ ([41] ++ r')) := h
          simpa using this
        have q := split_pt (good_pt (itoa_good hn.1 (by omega)) (by omega)).2 (good_pt (itoa_good hn'.1 (by omega)) (by omega)).2 (hs r) (hs r') h
        exact ⟨itoa_inj (by omega) (by omega) q.1, by rw [en, en'], by simpa using q.2⟩
      · by_cases k11 : k = 11
        · subst k11
          have bb := b2 (.inr rfl)
          have h : itoa n ++ ([41] ++ r) = itoa n' ++ ([41] ++ r') := h
          have q := split_pt (good_pt (itoa_good hn.1 (by omega)) (by omega)).2 (good_pt (itoa_good hn'.1 (by omega)) (by omega)).2 (hs r) (hs r') h
          exact ⟨itoa_inj (by omega) (by omega) q.1, by rw [en, en'], by simpa using q.2⟩
        · have := b3 h4 k5 k6 k11
          have e : tailK k n nm = tailK k n' nm' := by unfold tailK; rw [if_neg k3, if_neg k5, if_neg k6, if_neg k11, if_neg k3, if_neg k5, if_neg k6, if_neg k11]
          rw [e] at h
          have h := List.append_cancel_left h
          exact ⟨by omega, by rw [en, en'], by simpa using h⟩
/-- Unlike right expressions have unlike texts, none of which goes on as another one. -/
theorem text_inj : ∀ (x y : Ex) (d d' : Nat), fine d x = true → fine d' y = true → ∀ r r', stops r = true → stops r' = true → text x ++ r = text y ++ r' → x = y ∧ r = r' := ex_ind fun k n nm l ih y d d' hx hy r r' hr hr' h => by
  obtain ⟨d, rfl⟩ : ∃ e, d = e + 1 := by
    cases d with
    | zero => cases hx
    | succ d => exact ⟨d, rfl⟩
  obtain ⟨d', rfl⟩ : ∃ e, d' = e + 1 := by
    cases d' with
    | zero => cases hy
    | succ d => exact ⟨d, rfl⟩
  cases y with
  | mk k' n' nm' l' =>
    obtain ⟨a1, a2, a3, a4, a5⟩ := fine_parts hx
    obtain ⟨b1, b2, b3, b4, b5⟩ := fine_parts hy
    have m1 := most_le k
    have m2 := most_le k'
    have nil_of : ∀ {j : Int} {m : List UInt8}, (m ≠ [] ↔ j = 3) → j ≠ 3 → m = [] := fun hj h3 => by
      rename_i j m
      by_cases e : m = []
      · exact e
      · exact absurd (hj.1 e) h3
    have lnil : ∀ {j : Int} {m : List Ex}, argsN j = (m.length : Int) → argsN j = 0 → m = [] := fun e1 e2 => List.length_eq_zero_iff.1 (by omega)
    rw [text_mk, text_mk] at h
    by_cases k4 : k = 4
    · subst k4
      by_cases k4' : k' = 4
      · subst k4'
        rw [if_pos rfl, if_pos rfl] at h
        have q := split_pt (good_pt (txt_good a2.1 (by omega)) (by omega)).2 (good_pt (txt_good b2.1 (by omega)) (by omega)).2 hr hr' h
        have e1 := txt_inj (rt_yes (by omega) (by omega)) (rt_yes (by omega) (by omega)) q.1
        rw [e1, nil_of a3 (by omega), nil_of b3 (by omega), lnil a1 (by decide), lnil b1 (by decide)]
        exact ⟨rfl, q.2⟩
      · obtain ⟨c, t, e, hc⟩ := txt_head a2.1 (by omega : n ≤ 1000000000000)
        obtain ⟨_, ⟨c', t', e', hc'⟩, _⟩ := word_kind (by omega : 0 ≤ argsN k') k4'
        rw [if_pos rfl, if_neg k4', e, e'] at h
        have : c = c' := by split at h <;> (simp at h; exact h.1)
        subst this
        rw [isL_D hc] at hc'; cases hc'
    · by_cases k4' : k' = 4
      · subst k4'
        obtain ⟨c, t, e, hc⟩ := txt_head b2.1 (by omega : n' ≤ 1000000000000)
        obtain ⟨_, ⟨c', t', e', hc'⟩, _⟩ := word_kind (by omega : 0 ≤ argsN k) k4
        rw [if_neg k4, if_pos rfl, e, e'] at h
        have : c' = c := by split at h <;> (simp at h; exact h.1)
        subst this
        rw [isL_D hc] at hc'; cases hc'
      · obtain ⟨g, _, _⟩ := word_kind (by omega : 0 ≤ argsN k) k4
        obtain ⟨g', _, _⟩ := word_kind (by omega : 0 ≤ argsN k') k4'
        rw [if_neg k4, if_neg k4'] at h
        have hb : ∀ (z w : List UInt8), stops ([40] ++ z ++ w) = true := fun z w => stops_cons (c := 40) (by decide)
        have key : wordK k = wordK k' ∧ (if k = 1 ∨ k = 2 then [] else [40] ++ (texts l ++ (tailK k n nm ++ [41]))) ++ r = (if k' = 1 ∨ k' = 2 then [] else [40] ++ (texts l' ++ (tailK k' n' nm' ++ [41]))) ++ r' := by
          have form : ∀ (j : Int) (z s : List UInt8), (if j = 1 ∨ j = 2 then wordK j else wordK j ++ z) ++ s = wordK j ++ ((if j = 1 ∨ j = 2 then [] else z) ++ s) := fun j z s => by split <;> simp
          rw [form, form] at h
          refine split_pt (good_pt g (by omega)).2 (good_pt g' (by omega)).2 ?_ ?_ h
          · split
            · exact hr
            · exact hb _ _
          · split
            · exact hr'
            · exact hb _ _
        obtain ⟨ew, h⟩ := key
        have ek := word_inj (by omega) (by omega) k4 k4' ew
        subst ek
        by_cases k12 : k = 1 ∨ k = 2
        · rw [if_pos k12, if_pos k12] at h
          have e0 : argsN k = 0 := by rcases k12 with rfl | rfl <;> decide
          have e1 := m1.2.2 k4 (by omega) (by omega) (by omega)
          rw [nil_of a3 (by omega), nil_of b3 (by omega), lnil a1 e0, lnil b1 e0, show n = n' by omega]
          exact ⟨rfl, h⟩
        · rw [if_neg k12, if_neg k12] at h
          simp only [List.append_assoc] at h
          have h := List.append_cancel_left h
          have ts : ∀ {m : List Ex} (n : Int) (nm r : List UInt8), argsN k = (m.length : Int) → m ≠ [] → stops (tailK k n nm ++ ([41] ++ r)) = true := fun n nm r e1 e2 => tail_stops k n nm r (fun e => e2 (lnil e1 (by rw [e]; decide))) (fun e => e2 (lnil e1 (by rw [e]; decide)))
          have hlen : l.length = l'.length := by omega
          obtain ⟨el, h⟩ := texts_inj hlen (fun x hx' y hy' => ih x hx' y d d' (fine_mem hx hx') (fine_mem hy hy')) (fun e => ts n nm r a1 e) (fun e => ts n' nm' r' a1 e) h
          obtain ⟨en, em, h⟩ := tail_inj a2 b2 a3 b3 a4 b4 k4 h
          rw [el, en, em]
          exact ⟨rfl, h⟩
end Go.Proofs.YtlflfffjaodhpaaDoor
