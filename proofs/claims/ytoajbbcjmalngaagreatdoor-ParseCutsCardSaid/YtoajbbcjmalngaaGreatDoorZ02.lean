/- Plain mathematics of layer 7, second part: unlike right expressions have unlike texts; what is printed is scanned. No program in this text; Plain mathematics of layer 7, third part: what is printed is scanned; how long a text is. No program in this text; Plain mathematics of layer 7, fourth part: what the law makes of raw numbers; Expressions in memory, and the law's source of raw numbers. -/
import Derived.Test.YtoajbbcjmalngaaGreatDoorZ01
import Derived.Test.YtoajbbcjmalngaaGreatDoorZ00
import Derived.IntWalk
namespace Go.Proofs.YtoajbbcjmalngaaGreatDoor
open Go.Lib
set_option linter.unusedVariables false
set_option linter.unusedSimpArgs false

theorem fine_eq (d : Nat) (k n : Int) (nm : List UInt8) (l : List Ex) : fine (d + 1) (.mk k n nm l) = (decide (argsN k = (l.length : Int)) && decide (0 ≤ n ∧ n ≤ mostN k) && (decide (nm ≠ []) == decide (k = 3)) && (decide (k ≠ 3) || isName nm) &&
    (l.zipIdx).all fun p => (isCond p.1.k == (decide (k = 10) && decide (p.2 = 0))) && fine d p.1) := rfl
/-- What may be, by itself: the shape of one expression, and of all in it. -/
theorem fine_parts {d : Nat} {k n : Int} {nm : List UInt8} {l : List Ex} (h : fine (d + 1) (.mk k n nm l) = true) :
    argsN k = (l.length : Int) ∧ (0 ≤ n ∧ n ≤ mostN k) ∧ (nm ≠ [] ↔ k = 3) ∧ (k = 3 → isName nm = true) ∧ ∀ i (hi : i < l.length), isCond l[i].k = (decide (k = 10) && decide (i = 0)) ∧ fine d l[i] = true := by
  rw [fine_eq] at h
  simp only [Bool.and_eq_true, decide_eq_true_eq, List.all_eq_true, beq_iff_eq, Bool.or_eq_true, decide_eq_decide] at h
  obtain ⟨⟨⟨⟨h1, h2⟩, h3⟩, h4⟩, h5⟩ := h
  refine ⟨h1, h2, h3, fun e => h4.resolve_left (by simpa using e), fun i hi => ?_⟩
  have := h5 (l[i], i) (by rw [List.mem_iff_getElem]; exact ⟨i, by simpa using hi, by simp⟩)
  exact this
theorem fine_mk {d : Nat} {k n : Int} {nm : List UInt8} {l : List Ex} (h1 : argsN k = (l.length : Int)) (h2 : 0 ≤ n ∧ n ≤ mostN k) (h3 : nm ≠ [] ↔ k = 3) (h4 : k = 3 → isName nm = true)
    (h5 : ∀ i (hi : i < l.length), isCond l[i].k = (decide (k = 10) && decide (i = 0)) ∧ fine d l[i] = true) : fine (d + 1) (.mk k n nm l) = true := by
  rw [fine_eq]
  simp only [Bool.and_eq_true, decide_eq_true_eq, List.all_eq_true, beq_iff_eq, Bool.or_eq_true, decide_eq_decide]
  refine ⟨⟨⟨⟨h1, h2⟩, h3⟩, ?_⟩, ?_⟩
  · by_cases e : k = 3
    · exact .inr (h4 e)
    · exact .inl e
  · rintro ⟨y, i⟩ hy
    obtain ⟨j, hj, e⟩ := List.mem_iff_getElem.1 hy
    simp at hj e
    obtain ⟨rfl, rfl⟩ := e
    exact h5 j hj
theorem fine_mem {d : Nat} {k n : Int} {nm : List UInt8} {l : List Ex} (h : fine (d + 1) (.mk k n nm l) = true) {y : Ex} (hy : y ∈ l) : fine d y = true := by
  obtain ⟨i, hi, rfl⟩ := List.mem_iff_getElem.1 hy
  exact ((fine_parts h).2.2.2.2 i hi).2
theorem fine_deep : ∀ (x : Ex) (d : Nat), fine d x = true → deep x ≤ d := ex_ind fun k n nm l ih d h => by
  cases d with
  | zero => cases h
  | succ d =>
    rw [deep_mk]
    have : deeps l ≤ d := by
      have hm : ∀ y ∈ l, deep y ≤ d := fun y hy => ih y hy d (fine_mem h hy)
      clear h ih
      induction l with
      | nil => rw [deeps_nil]; omega
      | cons y t ih2 =>
        rw [deeps_cons]
        have h1 := hm y (List.mem_cons_self ..)
        have h2 := ih2 fun z hz => hm z (List.mem_cons_of_mem _ hz)
        omega
    omega
/-- What may be within more may be within less, if it is not too deep. -/
theorem fine_less : ∀ (x : Ex) (d e : Nat), fine d x = true → deep x ≤ e → fine e x = true := ex_ind fun k n nm l ih d e h he => by
  rw [deep_mk] at he
  cases d with
  | zero => cases h
  | succ d =>
    cases e with
    | zero => omega
    | succ e =>
      obtain ⟨h1, h2, h3, h4, h5⟩ := fine_parts h
      exact fine_mk h1 h2 h3 h4 fun i hi => ⟨(h5 i hi).1, ih _ (List.getElem_mem hi) d e (h5 i hi).2 (by have := deep_mem (List.getElem_mem hi); omega)⟩
theorem name_parts {x : List UInt8} (h : isName x = true) : x ≠ [] ∧ x.all isPt = true ∧ x.length ≤ 12 ∧ ∃ c t, x = c :: t ∧ isL c = true := by
  simp only [isName, Bool.and_eq_true, decide_eq_true_eq] at h
  obtain ⟨⟨⟨⟨h1, h2⟩, h3⟩, _⟩, h4⟩ := h
  refine ⟨h1, ?_, h2, ?_⟩
  · rw [List.all_eq_true] at h4 ⊢
    intro c hc
    have := h4 c hc
    simp only [isPt, this, Bool.true_or]
  · cases x with
    | nil => exact absurd rfl h1
    | cons c t => exact ⟨c, t, rfl, by simpa using h3⟩
theorem name_good {x : List UInt8} (h : isName x = true) : Good x 1 0 := by
  obtain ⟨h1, h2, _⟩ := name_parts h
  refine .inr ⟨h1, h2, ?_⟩
  unfold tokOf; rw [if_pos (by simp [h])]
theorem txt_pos {n : Int} (h : 0 ≤ n) (h' : n ≤ 1000000000000) : txt n = pos n.toNat := by
  unfold txt; rw [rt_yes (by omega) (by omega), if_pos rfl, if_neg (by omega), show n.natAbs = n.toNat by omega]
theorem itoa_pos {n : Int} (h : 0 ≤ n) : itoa n = decDigits n.toNat := by unfold itoa; rw [if_neg (by omega)]
theorem txt_good {n : Int} (h : 0 ≤ n) (h' : n ≤ 1000000000000) : Good (txt n) 3 n := by
  rw [txt_pos h h']
  have := good_money n.toNat (by omega)
  rwa [show ((n.toNat : Nat) : Int) = n by omega] at this
theorem itoa_good {n : Int} (h : 0 ≤ n) (h' : n ≤ 100000) : Good (itoa n) 2 n := by
  rw [itoa_pos h]
  have := good_count n.toNat (by omega)
  rwa [show ((n.toNat : Nat) : Int) = n by omega] at this
theorem txt_head {n : Int} (h : 0 ≤ n) (h' : n ≤ 1000000000000) : ∃ c t, txt n = c :: t ∧ isD c = true := by
  obtain ⟨c, t, e, hc⟩ := dd_cons (n.toNat / 100)
  rw [txt_pos h h']
  exact ⟨c, _, by unfold pos; rw [e]; rfl, hc⟩
theorem good_pt {x : List UInt8} {k n : Int} (h : Good x k n) (hk : k ≠ 4) : x ≠ [] ∧ x.all isPt = true := by
  rcases h with ⟨_, _, _, e, _⟩ | ⟨h1, h2, _⟩
  · exact absurd e hk
  · exact ⟨h1, h2⟩
theorem itoa_inj {a b : Int} (ha : 0 ≤ a ∧ a ≤ 100000) (hb : 0 ≤ b ∧ b ≤ 100000) (h : itoa a = itoa b) : a = b := by
  rw [itoa_pos ha.1, itoa_pos hb.1] at h
  have h1 := cnt_dd a.toNat 100000
  have h2 := cnt_dd b.toNat 100000
  rw [if_pos (by omega)] at h1 h2
  rw [h, h2] at h1
  omega
/-- Two texts that begin with parts, and go on with none: parts and rest are the same. -/
theorem split_pt {a b r r' : List UInt8} (ha : a.all isPt = true) (hb : b.all isPt = true) (hr : stops r = true) (hr' : stops r' = true) (h : a ++ r = b ++ r') : a = b ∧ r = r' := by
  have h1 := take_run ha hr
  have h2 := take_run hb hr'
  rw [h] at h1
  exact ⟨h1.1.symm.trans h2.1, h1.2.symm.trans h2.2⟩
/-- A kind's word. -/
theorem word_kind {k : Int} (h : 0 ≤ argsN k) (h4 : k ≠ 4) : Good (wordK k) 1 0 ∧ (∃ c t, wordK k = c :: t ∧ isL c = true) ∧ (wordK k).length ≤ 6 := by
  have hk : k = 1 ∨ k = 2 ∨ k = 3 ∨ k = 5 ∨ k = 6 ∨ k = 7 ∨ k = 8 ∨ k = 9 ∨ k = 10 ∨ k = 11 ∨ k = 12 := by
    unfold argsN at h
    split at h
    · omega
    · split at h
      · omega
      · split at h
        · omega
        · split at h <;> omega
  rcases hk with rfl | rfl | rfl | rfl | rfl | rfl | rfl | rfl | rfl | rfl | rfl
  all_goals exact ⟨good_word (by decide), ⟨_, _, rfl, by decide⟩, by decide⟩
theorem word_inj {k k' : Int} (h : 0 ≤ argsN k) (h' : 0 ≤ argsN k') (h4 : k ≠ 4) (h4' : k' ≠ 4) (e : wordK k = wordK k') : k = k' := by
  have kinds : ∀ k : Int, 0 ≤ argsN k → k ≠ 4 → k = 1 ∨ k = 2 ∨ k = 3 ∨ k = 5 ∨ k = 6 ∨ k = 7 ∨ k = 8 ∨ k = 9 ∨ k = 10 ∨ k = 11 ∨ k = 12 := fun k h h4 => by
    unfold argsN at h
    split at h
    · omega
    · split at h
      · omega
      · split at h
        · omega
        · split at h <;> omega
  rcases kinds k h h4 with rfl | rfl | rfl | rfl | rfl | rfl | rfl | rfl | rfl | rfl | rfl <;> rcases kinds k' h' h4' with rfl | rfl | rfl | rfl | rfl | rfl | rfl | rfl | rfl | rfl | rfl <;> first | rfl | (revert e; decide)
theorem stops_cons {c : UInt8} {t : List UInt8} (h : isPt c = false) : stops (c :: t) = true := by simp [stops, h]
theorem mores_stops (l : List Ex) {r : List UInt8} (hr : stops r = true) : stops (mores l ++ r) = true := by
  cases l with
  | nil => rw [mores_nil]; exact hr
  | cons x t => rw [mores_cons]; exact stops_cons (c := 44) (by decide)
theorem tail_stops (k n : Int) (nm r : List UInt8) (h : k ≠ 3) (h' : k ≠ 11) : stops (tailK k n nm ++ ([41] ++ r)) = true := by
  unfold tailK
  rw [if_neg h]
  split
  · exact stops_cons (c := 44) (by decide)
  · split
    · exact stops_cons (c := 44) (by decide)
    · exact stops_cons (c := 41) (by decide)
/-- Texts of as many arguments, one behind the other. -/
theorem mores_inj {l l' : List Ex} (hl : l.length = l'.length) (hi : ∀ x ∈ l, ∀ y ∈ l', ∀ r r', stops r = true → stops r' = true → text x ++ r = text y ++ r' → x = y ∧ r = r') {r r' : List UInt8} (hr : stops r = true) (hr' : stops r' = true)
    (h : mores l ++ r = mores l' ++ r') : l = l' ∧ r = r' := by
  induction l generalizing l' with
  | nil =>
    cases l' with
    | nil => rw [mores_nil] at h; exact ⟨rfl, h⟩
    | cons y t => simp at hl
  | cons x s ih =>
    cases l' with
    | nil => simp at hl
    | cons y t =>
      rw [mores_cons, mores_cons] at h
      simp only [List.cons_append, List.nil_append, List.append_assoc, List.cons.injEq, true_and] at h
      obtain ⟨e, h⟩ := hi x (List.mem_cons_self ..) y (List.mem_cons_self ..) _ _ (mores_stops s hr) (mores_stops t hr') h
      obtain ⟨e2, h⟩ := ih (by simpa using hl) (fun a ha b hb => hi a (List.mem_cons_of_mem _ ha) b (List.mem_cons_of_mem _ hb)) h
      exact ⟨by rw [e, e2], h⟩
theorem texts_inj {l l' : List Ex} (hl : l.length = l'.length) (hi : ∀ x ∈ l, ∀ y ∈ l', ∀ r r', stops r = true → stops r' = true → text x ++ r = text y ++ r' → x = y ∧ r = r') {r r' : List UInt8} (hr : l ≠ [] → stops r = true) (hr' : l ≠ [] → stops r' = true)
    (h : texts l ++ r = texts l' ++ r') : l = l' ∧ r = r' := by
  cases l with
  | nil =>
    cases l' with
    | nil => rw [texts_nil] at h; exact ⟨rfl, h⟩
    | cons y t => simp at hl
  | cons x s =>
    cases l' with
    | nil => simp at hl
    | cons y t =>
      have hr := hr (by simp)
      have hr' := hr' (by simp)
      rw [texts_cons, texts_cons, List.append_assoc, List.append_assoc] at h
      obtain ⟨e, h⟩ := hi x (List.mem_cons_self ..) y (List.mem_cons_self ..) _ _ (mores_stops s hr) (mores_stops t hr') h
      obtain ⟨e2, h⟩ := mores_inj (by simpa using hl) (fun a ha b hb => hi a (List.mem_cons_of_mem _ ha) b (List.mem_cons_of_mem _ hb)) hr hr' h
      exact ⟨by rw [e, e2], h⟩
theorem most_le (k : Int) : mostN k ≤ 1000000000000 ∧ (k = 6 ∨ k = 11 → mostN k ≤ 100000) ∧ (k ≠ 4 → k ≠ 5 → k ≠ 6 → k ≠ 11 → mostN k = 0) := by
  unfold mostN
  refine ⟨?_, fun h => ?_, fun h1 h2 h3 h4 => ?_⟩
  · split
    · omega
    · split
      · omega
      · split <;> omega
  · rcases h with rfl | rfl <;> decide
  · rw [if_neg (by omega), if_neg h3, if_neg h4]
/-- What stands behind the arguments, up to the bracket. -/
theorem tail_inj {k n n' : Int} {nm nm' r r' : List UInt8} (hn : 0 ≤ n ∧ n ≤ mostN k) (hn' : 0 ≤ n' ∧ n' ≤ mostN k) (h3 : nm ≠ [] ↔ k = 3) (h3' : nm' ≠ [] ↔ k = 3) (hm : k = 3 → isName nm = true) (hm' : k = 3 → isName nm' = true) (h4 : k ≠ 4)
    (h : tailK k n nm ++ ([41] ++ r) = tailK k n' nm' ++ ([41] ++ r')) : n = n' ∧ nm = nm' ∧ r = r' := by
  obtain ⟨b1, b2, b3⟩ := most_le k
  have hs : ∀ r : List UInt8, stops ([41] ++ r) = true := fun r => stops_cons (c := 41) (by decide)
  by_cases k3 : k = 3
  · subst k3
    have e0 : mostN 3 = 0 := by decide
    have := split_pt (name_parts (hm rfl)).2.1 (name_parts (hm' rfl)).2.1 (hs r) (hs r') h
    exact ⟨by omega, this.1, by simpa using this.2⟩
  · have en : nm = [] := by
      by_cases e : nm = []
      · exact e
      · exact absurd (h3.1 e) k3
    have en' : nm' = [] := by
      by_cases e : nm' = []
      · exact e
      · exact absurd (h3'.1 e) k3
    by_cases k5 : k = 5
    · subst k5
      have h : txt n ++ ([41] ++ r) = txt n' ++ ([41] ++ r') := by
        have : [44, 32] ++ (txt n ++ ([41] ++ r)) = [44, 32] ++ (txt n' ++ ([41] ++ r')) := h
        simpa using this
      have q := split_pt (good_pt (txt_good hn.1 (by omega)) (by omega)).2 (good_pt (txt_good hn'.1 (by omega)) (by omega)).2 (hs r) (hs r') h
      exact ⟨txt_inj (rt_yes (by omega) (by omega)) (rt_yes (by omega) (by omega)) q.1, by rw [en, en'], by simpa using q.2⟩
    · by_cases k6 : k = 6
      · subst k6
        have bb := b2 (.inl rfl)
        have h : itoa n ++ ([41] ++ r) = itoa n' ++ ([41] ++ r') := by
          have : [44, 32] ++ (itoa n ++ ([41] ++ r)) = [44, 32] ++ (itoa n' ++ ([41] ++ r')) := h
          simpa using this
        have q := split_pt (good_pt (itoa_good hn.1 (by omega)) (by omega)).2 (good_pt (itoa_good hn'.1 (by omega)) (by omega)).2 (hs r) (hs r') h
        exact ⟨itoa_inj (by omega) (by omega) q.1, by rw [en, en'], by simpa using q.2⟩
      · by_cases k11 : k = 11
        · subst k11
          have bb := b2 (.inr rfl)
          have h : itoa n ++ ([41] ++ r) = itoa n' ++ ([41] ++ r') := h
          have q := split_pt (good_pt (itoa_good hn.1 (by omega)) (by omega)).2 (good_pt (itoa_good hn'.1 (by omega)) (by omega)).2 (hs r) (hs r') h
          exact ⟨itoa_inj (by omega) (by omega) q.1, by rw [en, en'], by simpa using q.2⟩
        · have := b3 h4 k5 k6 k11
          have e : tailK k n nm = tailK k n' nm' := by unfold tailK; rw [if_neg k3, if_neg k5, if_neg k6, if_neg k11, if_neg k3, if_neg k5, if_neg k6, if_neg k11]
          rw [e] at h
          have h := List.append_cancel_left h
          exact ⟨by omega, by rw [en, en'], by simpa using h⟩
/-- Unlike right expressions have unlike texts, none of which goes on as another one. -/
theorem text_inj : ∀ (x y : Ex) (d d' : Nat), fine d x = true → fine d' y = true → ∀ r r', stops r = true → stops r' = true → text x ++ r = text y ++ r' → x = y ∧ r = r' := ex_ind fun k n nm l ih y d d' hx hy r r' hr hr' h => by
  obtain ⟨d, rfl⟩ : ∃ e, d = e + 1 := by
    cases d with
    | zero => cases hx
    | succ d => exact ⟨d, rfl⟩
  obtain ⟨d', rfl⟩ : ∃ e, d' = e + 1 := by
    cases d' with
    | zero => cases hy
    | succ d => exact ⟨d, rfl⟩
  cases y with
  | mk k' n' nm' l' =>
    obtain ⟨a1, a2, a3, a4, a5⟩ := fine_parts hx
    obtain ⟨b1, b2, b3, b4, b5⟩ := fine_parts hy
    have m1 := most_le k
    have m2 := most_le k'
    have nil_of : ∀ {j : Int} {m : List UInt8}, (m ≠ [] ↔ j = 3) → j ≠ 3 → m = [] := fun hj h3 => by
      rename_i j m
      by_cases e : m = []
      · exact e
      · exact absurd (hj.1 e) h3
    have lnil : ∀ {j : Int} {m : List Ex}, argsN j = (m.length : Int) → argsN j = 0 → m = [] := fun e1 e2 => List.length_eq_zero_iff.1 (by omega)
    rw [text_mk, text_mk] at h
    by_cases k4 : k = 4
    · subst k4
      by_cases k4' : k' = 4
      · subst k4'
        rw [if_pos rfl, if_pos rfl] at h
        have q := split_pt (good_pt (txt_good a2.1 (by omega)) (by omega)).2 (good_pt (txt_good b2.1 (by omega)) (by omega)).2 hr hr' h
        have e1 := txt_inj (rt_yes (by omega) (by omega)) (rt_yes (by omega) (by omega)) q.1
        rw [e1, nil_of a3 (by omega), nil_of b3 (by omega), lnil a1 (by decide), lnil b1 (by decide)]
        exact ⟨rfl, q.2⟩
      · obtain ⟨c, t, e, hc⟩ := txt_head a2.1 (by omega : n ≤ 1000000000000)
        obtain ⟨_, ⟨c', t', e', hc'⟩, _⟩ := word_kind (by omega : 0 ≤ argsN k') k4'
        rw [if_pos rfl, if_neg k4', e, e'] at h
        have : c = c' := by split at h <;> (simp at h; exact h.1)
        subst this
        rw [isL_D hc] at hc'; cases hc'
    · by_cases k4' : k' = 4
      · subst k4'
        obtain ⟨c, t, e, hc⟩ := txt_head b2.1 (by omega : n' ≤ 1000000000000)
        obtain ⟨_, ⟨c', t', e', hc'⟩, _⟩ := word_kind (by omega : 0 ≤ argsN k) k4
        rw [if_neg k4, if_pos rfl, e, e'] at h
        have : c' = c := by split at h <;> (simp at h; exact h.1)
        subst this
        rw [isL_D hc] at hc'; cases hc'
      · obtain ⟨g, _, _⟩ := word_kind (by omega : 0 ≤ argsN k) k4
        obtain ⟨g', _, _⟩ := word_kind (by omega : 0 ≤ argsN k') k4'
        rw [if_neg k4, if_neg k4'] at h
        have hb : ∀ (z w : List UInt8), stops ([40] ++ z ++ w) = true := fun z w => stops_cons (c := 40) (by decide)
        have key : wordK k = wordK k' ∧ (if k = 1 ∨ k = 2 then [] else [40] ++ (texts l ++ (tailK k n nm ++ [41]))) ++ r = (if k' = 1 ∨ k' = 2 then [] else [40] ++ (texts l' ++ (tailK k' n' nm' ++ [41]))) ++ r' := by
          have form : ∀ (j : Int) (z s : List UInt8), (if j = 1 ∨ j = 2 then wordK j else wordK j ++ z) ++ s = wordK j ++ ((if j = 1 ∨ j = 2 then [] else z) ++ s) := fun j z s => by split <;> simp
          rw [form, form] at h
          refine split_pt (good_pt g (by omega)).2 (good_pt g' (by omega)).2 ?_ ?_ h
          · split
            · exact hr
            · exact hb _ _
          · split
            · exact hr'
            · exact hb _ _
        obtain ⟨ew, h⟩ := key
        have ek := word_inj (by omega) (by omega) k4 k4' ew
        subst ek
        by_cases k12 : k = 1 ∨ k = 2
        · rw [if_pos k12, if_pos k12] at h
          have e0 : argsN k = 0 := by rcases k12 with rfl | rfl <;> decide
          have e1 := m1.2.2 k4 (by omega) (by omega) (by omega)
          rw [nil_of a3 (by omega), nil_of b3 (by omega), lnil a1 e0, lnil b1 e0, show n = n' by omega]
          exact ⟨rfl, h⟩
        · rw [if_neg k12, if_neg k12] at h
          simp only [List.append_assoc] at h
          have h := List.append_cancel_left h
          have ts : ∀ {m : List Ex} (n : Int) (nm r : List UInt8), argsN k = (m.length : Int) → m ≠ [] → stops (tailK k n nm ++ ([41] ++ r)) = true := fun n nm r e1 e2 => tail_stops k n nm r (fun e => e2 (lnil e1 (by rw [e]; decide))) (fun e => e2 (lnil e1 (by rw [e]; decide)))
          have hlen : l.length = l'.length := by omega
          obtain ⟨el, h⟩ := texts_inj hlen (fun x hx' y hy' => ih x hx' y d d' (fine_mem hx hx') (fine_mem hy hy')) (fun e => ts n nm r a1 e) (fun e => ts n' nm' r' a1 e) h
          obtain ⟨en, em, h⟩ := tail_inj a2 b2 a3 b3 a4 b4 k4 h
          rw [el, en, em]
          exact ⟨rfl, h⟩
end Go.Proofs.YtoajbbcjmalngaaGreatDoor

namespace Go.Proofs.YtoajbbcjmalngaaGreatDoor
open Go.Lib
set_option linter.unusedVariables false
set_option linter.unusedSimpArgs false

/-- A text is scanned to at least n tokens, whatever stands behind it that is no part. -/
def Sc (a : List UInt8) (n : Nat) : Prop := ∀ p r, stops r = true → ∃ ts, lx p (a ++ r) = pre ts (lx (p + a.length) r) ∧ n ≤ ts.length
theorem Sc.append {a b : List UInt8} {n m : Nat} (ha : Sc a n) (hb : Sc b m) (hs : ∀ r, stops r = true → stops (b ++ r) = true) : Sc (a ++ b) (n + m) := by
  intro p r hr
  obtain ⟨ts, e, h⟩ := ha p (b ++ r) (hs r hr)
  obtain ⟨us, e', h'⟩ := hb (p + a.length) r hr
  refine ⟨ts ++ us, ?_, by rw [List.length_append]; omega⟩
  rw [List.append_assoc, e, e', pre_pre, List.length_append, Nat.add_assoc]
theorem Sc.nil : Sc [] 0 := fun p r _ => ⟨[], by rw [pre_nil]; rfl, Nat.zero_le _⟩
theorem Sc.good {x : List UInt8} {k n : Int} (h : Good x k n) : Sc x 1 := fun p r hr => ⟨_, lx_good h p r hr, Nat.le_refl _⟩
theorem Sc.comma {a : List UInt8} {n : Nat} (h : Sc a n) : Sc ([44, 32] ++ a) n := by
  intro p r hr
  obtain ⟨ts, e, h⟩ := h (p + 1 + 1) r hr
  refine ⟨(4, [44], 0, (p : Int)) :: ts, ?_, by simp; omega⟩
  have e1 := lx_sign p 44 (32 :: (a ++ r)) (by decide) (by decide)
  have e2 := lx_blank (p + 1) 32 (a ++ r) (by decide)
  show lx p (44 :: 32 :: (a ++ r)) = _
  rw [e1, e2, e, pre_pre]
  simp only [List.length_append, List.length_cons, List.length_nil, List.cons_append, List.nil_append]
  rw [show p + (a.length + 1 + 1) = p + 1 + 1 + a.length by omega]
theorem Sc.sign {c : UInt8} {a : List UInt8} {n : Nat} (hc : isSg c = true) (h : ∀ p r, stops r = true → ∃ ts, lx p (a ++ r) = pre ts (lx (p + a.length) r) ∧ n ≤ ts.length) : Sc ([c] ++ a) n := by
  intro p r hr
  obtain ⟨ts, e, h⟩ := h (p + 1) r hr
  refine ⟨(4, [c], 0, (p : Int)) :: ts, ?_, by simp; omega⟩
  have e1 := lx_sign p c (a ++ r) (sg_not hc).1 hc
  show lx p (c :: (a ++ r)) = _
  rw [e1, e, pre_pre]
  simp only [List.length_append, List.length_cons, List.length_nil, List.cons_append, List.nil_append]
  rw [show p + (a.length + 1) = p + 1 + a.length by omega]
theorem Sc.mores {l : List Ex} (h : ∀ x ∈ l, Sc (text x) (size x)) : Sc (mores l) (sizes l) := by
  induction l with
  | nil => rw [mores_nil, sizes_nil]; exact Sc.nil
  | cons x t ih =>
    rw [mores_cons, sizes_cons]
    exact Sc.comma (Sc.append (h x (List.mem_cons_self ..)) (ih fun y hy => h y (List.mem_cons_of_mem _ hy)) fun r hr => mores_stops t hr)
theorem Sc.texts {l : List Ex} (h : ∀ x ∈ l, Sc (text x) (size x)) : Sc (texts l) (sizes l) := by
  cases l with
  | nil => rw [texts_nil, sizes_nil]; exact Sc.nil
  | cons x t =>
    rw [texts_cons, sizes_cons]
    exact Sc.append (h x (List.mem_cons_self ..)) (Sc.mores fun y hy => h y (List.mem_cons_of_mem _ hy)) fun r hr => mores_stops t hr
theorem sc_tail {k n : Int} {nm : List UInt8} (hn : 0 ≤ n ∧ n ≤ mostN k) (hm : k = 3 → isName nm = true) : Sc (tailK k n nm) 0 := by
  obtain ⟨b1, b2, b3⟩ := most_le k
  have wk : ∀ {a : List UInt8} {n : Nat}, Sc a n → Sc a 0 := fun h p r hr => by
    obtain ⟨ts, e, _⟩ := h p r hr
    exact ⟨ts, e, Nat.zero_le _⟩
  unfold tailK
  split
  · rename_i e; exact wk (Sc.good (name_good (hm e)))
  · split
    · exact wk (Sc.comma (Sc.good (txt_good hn.1 (by omega))))
    · split
      · rename_i e; have := b2 (.inl e); exact wk (Sc.comma (Sc.good (itoa_good hn.1 (by omega))))
      · split
        · rename_i e; have := b2 (.inr e); exact wk (Sc.good (itoa_good hn.1 (by omega)))
        · exact Sc.nil
theorem text_scans : ∀ (x : Ex) (d : Nat), fine d x = true → Sc (text x) (size x) := ex_ind fun k n nm l ih d hx => by
  obtain ⟨d, rfl⟩ : ∃ e, d = e + 1 := by
    cases d with
    | zero => cases hx
    | succ d => exact ⟨d, rfl⟩
  obtain ⟨a1, a2, a3, a4, a5⟩ := fine_parts hx
  have m1 := most_le k
  have lnil : argsN k = 0 → l = [] := fun e2 => List.length_eq_zero_iff.1 (by omega)
  rw [text_mk, size_mk]
  by_cases k4 : k = 4
  · subst k4
    rw [if_pos rfl, lnil (by decide), sizes_nil]
    exact Sc.good (txt_good a2.1 (by omega))
  · obtain ⟨g, _, _⟩ := word_kind (by omega : 0 ≤ argsN k) k4
    rw [if_neg k4]
    by_cases k12 : k = 1 ∨ k = 2
    · rw [if_pos k12, lnil (by rcases k12 with rfl | rfl <;> decide), sizes_nil]
      exact Sc.good g
    · rw [if_neg k12]
      refine Sc.append (Sc.good g) (Sc.sign (by decide) ?_) (fun r _ => stops_cons (c := 40) (by decide))
      have h1 : Sc (texts l) (sizes l) := Sc.texts fun y hy => ih y hy d (fine_mem hx hy)
      have h2 : Sc (tailK k n nm ++ [41]) 0 := Sc.append (n := 0) (m := 0) (sc_tail a2 a4) (by
        have := Sc.sign (c := 41) (a := []) (n := 0) (by decide) (fun p r hr => ⟨[], by rw [pre_nil]; rfl, Nat.zero_le _⟩)
        exact this) (fun r _ => stops_cons (c := 41) (by decide))
      by_cases hl : l = []
      · subst hl
        rw [texts_nil, sizes_nil, List.nil_append]; exact h2
      · have hk3 : k ≠ 3 := fun e => hl (lnil (by rw [e]; decide))
        have hk11 : k ≠ 11 := fun e => hl (lnil (by rw [e]; decide))
        have := Sc.append h1 h2 fun r _ => by
          have := tail_stops k n nm r hk3 hk11
          rwa [List.append_assoc]
        exact this
/-- What is printed is scanned to more tokens than it has expressions. -/
theorem right_scans {x : Ex} (h : rightX x = true) : ∃ ts, lx 0 (text x) = .ok ts ∧ size x < ts.length := by
  simp only [rightX, Bool.and_eq_true] at h
  obtain ⟨ts, e, hl⟩ := text_scans x 32 h.1.1.1 0 [] rfl
  rw [List.append_nil, lx_nil] at e
  exact ⟨_, e, by rw [List.length_append]; simp; omega⟩
theorem txt_len (n : Int) : (txt n).length ≤ 43 := by
  unfold txt
  split
  · rename_i h
    have hb := rt_iff.1 h
    have h1 : (pos n.natAbs).length ≤ 42 := by
      unfold pos
      have a1 := dd_len 14 (n.natAbs / 100) (by have : n.natAbs ≤ 1000000000000 := by omega
                                                have e : (10 : Nat) ^ 14 = 100000000000000 := by decide
                                                omega) (by omega)
      have a2 := dd_len 1 (n.natAbs / 10 % 10) (by omega) (by omega)
      have a3 := dd_len 1 (n.natAbs % 10) (by omega) (by omega)
      simp only [List.length_append, List.length_cons, List.length_nil]
      omega
    split
    · simp; omega
    · omega
  · simp
theorem itoa_len {n : Int} (h : 0 ≤ n) (h' : n ≤ 1000000000000) : (itoa n).length ≤ 14 := by
  rw [itoa_pos h]
  exact dd_len 14 n.toNat (by have e : (10 : Nat) ^ 14 = 100000000000000 := by decide
                              omega) (by omega)
theorem mores_len {l : List Ex} (h : ∀ x ∈ l, (text x).length ≤ 60 * size x) : (mores l).length ≤ 60 * sizes l + 2 * l.length := by
  induction l with
  | nil => rw [mores_nil]; simp
  | cons x t ih =>
    have h1 := h x (List.mem_cons_self ..)
    have h2 := ih fun y hy => h y (List.mem_cons_of_mem _ hy)
    rw [mores_cons, sizes_cons]
    simp only [List.length_append, List.length_cons, List.length_nil]
    omega
theorem texts_len {l : List Ex} (h : ∀ x ∈ l, (text x).length ≤ 60 * size x) : (texts l).length ≤ 60 * sizes l + 2 * l.length := by
  cases l with
  | nil => rw [texts_nil]; simp
  | cons x t =>
    have h1 := h x (List.mem_cons_self ..)
    have h2 := mores_len fun y hy => h y (List.mem_cons_of_mem _ hy)
    rw [texts_cons, sizes_cons]
    simp only [List.length_append, List.length_cons]
    omega
theorem args_le (k : Int) : argsN k ≤ 3 := by
  unfold argsN
  split
  · omega
  · split
    · omega
    · split
      · omega
      · split <;> omega
theorem tail_len {k n : Int} {nm : List UInt8} (hn : 0 ≤ n ∧ n ≤ mostN k) (hm : k = 3 → isName nm = true) : (tailK k n nm).length ≤ 45 := by
  obtain ⟨b1, b2, b3⟩ := most_le k
  unfold tailK
  split
  · rename_i e; have := (name_parts (hm e)).2.2.1; omega
  · split
    · have := txt_len n; simp; omega
    · split
      · have := itoa_len hn.1 (by omega : n ≤ 1000000000000); simp; omega
      · split
        · have := itoa_len hn.1 (by omega : n ≤ 1000000000000); omega
        · simp
theorem text_len : ∀ (x : Ex) (d : Nat), fine d x = true → (text x).length ≤ 60 * size x := ex_ind fun k n nm l ih d hx => by
  obtain ⟨d, rfl⟩ : ∃ e, d = e + 1 := by
    cases d with
    | zero => cases hx
    | succ d => exact ⟨d, rfl⟩
  obtain ⟨a1, a2, a3, a4, a5⟩ := fine_parts hx
  have h1 := texts_len (l := l) fun y hy => ih y hy d (fine_mem hx hy)
  have h2 := tail_len a2 a4
  have h3 := args_le k
  have h4 := txt_len n
  rw [text_mk, size_mk]
  split
  · omega
  · rename_i k4
    obtain ⟨_, _, g⟩ := word_kind (by omega : 0 ≤ argsN k) k4
    split
    · omega
    · simp only [List.length_append, List.length_cons, List.length_nil]
      omega
theorem text_more : ∀ (x : Ex) (d : Nat), fine d x = true → size x ≤ (text x).length := ex_ind fun k n nm l ih d hx => by
  obtain ⟨d, rfl⟩ : ∃ e, d = e + 1 := by
    cases d with
    | zero => cases hx
    | succ d => exact ⟨d, rfl⟩
  obtain ⟨a1, a2, a3, a4, a5⟩ := fine_parts hx
  have lnil : argsN k = 0 → l = [] := fun e2 => List.length_eq_zero_iff.1 (by omega)
  have hm : ∀ l : List Ex, (∀ x ∈ l, size x ≤ (text x).length) → sizes l ≤ (mores l).length := by
    intro l
    induction l with
    | nil => intro _; rw [sizes_nil]; omega
    | cons x t ih2 =>
      intro h
      have h1 := h x (List.mem_cons_self ..)
      have h2 := ih2 fun y hy => h y (List.mem_cons_of_mem _ hy)
      rw [mores_cons, sizes_cons]
      simp only [List.length_append, List.length_cons, List.length_nil]
      omega
  have ht : sizes l ≤ (texts l).length := by
    cases l with
    | nil => rw [sizes_nil]; omega
    | cons x t =>
      have h1 := ih x (List.mem_cons_self ..) d (fine_mem hx (List.mem_cons_self ..))
      have h2 := hm t fun y hy => ih y (List.mem_cons_of_mem _ hy) d (fine_mem hx (List.mem_cons_of_mem _ hy))
      rw [texts_cons, sizes_cons]
      simp only [List.length_append]
      omega
  have m1 := most_le k
  rw [text_mk, size_mk]
  split
  · rename_i k4
    subst k4
    rw [lnil (by decide), sizes_nil]
    obtain ⟨c, t, e, _⟩ := txt_head a2.1 (by omega : n ≤ 1000000000000)
    rw [e]; simp
  · rename_i k4
    obtain ⟨_, ⟨c, t, e, _⟩, _⟩ := word_kind (by omega : 0 ≤ argsN k) k4
    split
    · rename_i k12
      rw [lnil (by rcases k12 with rfl | rfl <;> decide), sizes_nil, e]; simp
    · rw [e]
      simp only [List.length_append, List.length_cons, List.length_nil]
      omega
end Go.Proofs.YtoajbbcjmalngaaGreatDoor

namespace Go.Proofs.YtoajbbcjmalngaaGreatDoor
open Go.RowKit Go.Lib
set_option linter.unusedVariables false
set_option linter.unusedSimpArgs false

/-- One number of the raw ones, below n; 0 behind the last one. -/
def nx (n : Int) : List Int → Int × List Int
  | [] => (0, [])
  | c :: t => (pk c n, t)
theorem nx_bd (n : Int) (h : 0 < n) (L : List Int) : 0 ≤ (nx n L).1 ∧ (nx n L).1 < n := by
  cases L with
  | nil => exact ⟨Int.le_refl _, h⟩
  | cons c t => exact pk_bd c n h
/-- The first i arguments of a kind, made one behind the other. -/
def upto (f : Bool → List Int → Ex × List Int) (k : Int) : Nat → List Int → List Ex × List Int
  | 0, L => ([], L)
  | i + 1, L => ((upto f k i L).1 ++ [(f (decide (k = 10) && decide (i = 0)) (upto f k i L).2).1], (f (decide (k = 10) && decide (i = 0)) (upto f k i L).2).2)
/-- The kind that is picked. -/
def kindOf (d : Nat) (v : Int) : Int := if d = 0 then 1 + (1 + v) % 4 else 1 + v
/-- Numbers and name, behind the arguments. -/
def fill (k : Int) (a : List Ex × List Int) : Ex × List Int :=
  if k = 3 then (.mk k 0 (sellerL (pk (nx 60 a.2).1 60)) a.1, (nx 60 a.2).2)
  else if k = 4 ∨ k = 5 then (.mk k (nx 3000 a.2).1 [] a.1, (nx 3000 a.2).2)
  else if k = 6 then (.mk k (nx 12000 a.2).1 [] a.1, (nx 12000 a.2).2)
  else (.mk k 0 [] a.1, a.2)
def gen : Nat → Bool → List Int → Ex × List Int
  | 0, _, L => (.mk 0 0 [] [], L)
  | d + 1, true, L =>
    if d = 0 then (.mk 11 (nx 7 L).1 [] [], (nx 7 L).2)
    else if (nx 2 L).1 = 0 then (.mk 11 (nx 7 (nx 2 L).2).1 [] [], (nx 7 (nx 2 L).2).2)
    else (.mk 12 0 [] [(gen d false (nx 2 L).2).1, (gen d false (gen d false (nx 2 L).2).2).1], (gen d false (gen d false (nx 2 L).2).2).2)
  | d + 1, false, L => fill (kindOf d (nx 10 L).1) (upto (gen d) (kindOf d (nx 10 L).1) (argsN (kindOf d (nx 10 L).1)).toNat (nx 10 L).2)
/-- A strategy of raw numbers. -/
def strat (L : List Int) : Ex := (gen 5 false (L.take 100)).1
theorem upto_len (f : Bool → List Int → Ex × List Int) (k : Int) (i : Nat) (L : List Int) : (upto f k i L).1.length = i := by
  induction i with
  | zero => rfl
  | succ i ih => simp only [upto, List.length_append, List.length_cons, List.length_nil]; omega
theorem upto_all {P : Nat → Ex → Prop} (f : Bool → List Int → Ex × List Int) (k : Int) (i : Nat) (L : List Int) (h : ∀ j < i, ∀ L, P j (f (decide (k = 10) && decide (j = 0)) L).1) : ∀ j (hj : j < (upto f k i L).1.length), P j ((upto f k i L).1[j]) := by
  induction i with
  | zero => intro j hj; simp [upto] at hj
  | succ i ih =>
    intro j hj
    have hl := upto_len f k i L
    simp only [upto] at hj ⊢
    rcases Nat.lt_or_ge j (upto f k i L).1.length with h1 | h1
    · rw [List.getElem_append_left h1]
      exact ih (fun j hj L => h j (by omega) L) j h1
    · rw [List.length_append, List.length_cons, List.length_nil] at hj
      obtain rfl : j = i := by omega
      rw [List.getElem_append_right h1]
      simp only [hl, Nat.sub_self, List.getElem_cons_zero]
      exact h j (by omega) _
theorem kind_bd (d : Nat) (L : List Int) : 1 ≤ kindOf d (nx 10 L).1 ∧ kindOf d (nx 10 L).1 ≤ 10 ∧ (d = 0 → kindOf d (nx 10 L).1 ≤ 4) := by
  have := nx_bd 10 (by omega) L
  unfold kindOf
  split
  · refine ⟨?_, ?_, fun _ => ?_⟩ <;> omega
  · refine ⟨?_, ?_, fun h => absurd h ‹_›⟩ <;> omega
theorem seller_name (u : Int) (h0 : 0 ≤ u) (h1 : u < 60) : isName (sellerL u) = true := by
  rw [seller_eq u h0 h1]
  have : ∀ i : Fin 60, isName ((theNames.getD (i.val % 6) []) ++ [UInt8.ofNat (48 + i.val / 6)]) = true := by decide
  exact this ⟨u.toNat, by omega⟩
theorem pk_id {u n : Int} (h0 : 0 ≤ u) (h1 : u < n) : pk u n = u := by
  unfold pk; rw [if_neg (by omega)]; exact Int.emod_eq_of_lt h0 h1
theorem args_nat {k : Int} (h1 : 1 ≤ k) (h2 : k ≤ 12) : argsN k = ((argsN k).toNat : Int) := by
  have : 0 ≤ argsN k := by
    unfold argsN
    split
    · omega
    · split
      · omega
      · split
        · omega
        · split <;> omega
  omega
/-- What is made may be, is a condition just where one is asked for, and is so deep at the most. -/
theorem gen_fine : ∀ (d : Nat) (c : Bool) (L : List Int), fine (d + 1) (gen (d + 1) c L).1 = true ∧ isCond (gen (d + 1) c L).1.k = c := by
  intro d
  induction d with
  | zero =>
    intro c L
    cases c with
    | true =>
      have := nx_bd 7 (by omega) L
      simp only [gen, if_pos]
      exact ⟨fine_mk (by decide) ⟨by omega, by show _ ≤ (1000 : Int); omega⟩ (by simp) (by simp) (fun i hi => absurd hi (by simp)), rfl⟩
    | false =>
      obtain ⟨b1, b2, b3⟩ := kind_bd 0 L
      obtain ⟨k, hk⟩ : ∃ k, kindOf 0 (nx 10 L).1 = k := ⟨_, rfl⟩
      simp only [gen]
      rw [hk] at b1 b2 b3 ⊢
      have b4 := b3 rfl
      have a0 : argsN k = 0 := by
        have : k = 1 ∨ k = 2 ∨ k = 3 ∨ k = 4 := by omega
        rcases this with rfl | rfl | rfl | rfl <;> decide
      rw [a0]
      have n60 := nx_bd 60 (by omega) (nx 10 L).2
      have n3 := nx_bd 3000 (by omega) (nx 10 L).2
      have : k = 1 ∨ k = 2 ∨ k = 3 ∨ k = 4 := by omega
      rcases this with rfl | rfl | rfl | rfl
      · exact ⟨fine_mk (show argsN 1 = ((0 : Nat) : Int) by decide) (by decide) (by simp) (by simp) (fun i hi => absurd hi (by simp [upto])), rfl⟩
      · exact ⟨fine_mk (show argsN 2 = ((0 : Nat) : Int) by decide) (by decide) (by simp) (by simp) (fun i hi => absurd hi (by simp [upto])), rfl⟩
      · have hn := seller_name (pk (nx 60 (nx 10 L).2).1 60) (by rw [pk_id n60.1 n60.2]; omega) (by rw [pk_id n60.1 n60.2]; omega)
        exact ⟨fine_mk (show argsN 3 = ((0 : Nat) : Int) by decide) (by decide) (by simp only [iff_true]; exact (name_parts hn).1) (fun _ => hn) (fun i hi => absurd hi (by simp [upto])), rfl⟩
      · exact ⟨fine_mk (show argsN 4 = ((0 : Nat) : Int) by decide) ⟨n3.1, Int.le_of_lt (Int.lt_trans n3.2 (by decide))⟩ (by simp) (by simp) (fun i hi => absurd hi (by simp [upto])), rfl⟩
  | succ d ih =>
    intro c L
    cases c with
    | true =>
      have h7 := nx_bd 7 (by omega) (nx 2 L).2
      rw [gen]
      rw [if_neg (by omega)]
      split
      · exact ⟨fine_mk (by decide) ⟨by omega, by show _ ≤ (1000 : Int); omega⟩ (by simp) (by simp) (fun i hi => absurd hi (by simp)), rfl⟩
      · refine ⟨fine_mk (show argsN 12 = ((2 : Nat) : Int) by decide) (by decide) (by simp) (by simp) (fun i hi => ?_), rfl⟩
        have q1 := ih false (nx 2 L).2
        have q2 := ih false (gen (d + 1) false (nx 2 L).2).2
        have : i = 0 ∨ i = 1 := by simp at hi; omega
        rcases this with rfl | rfl
        · exact ⟨q1.2, q1.1⟩
        · exact ⟨q2.2, q2.1⟩
    | false =>
      obtain ⟨b1, b2, _⟩ := kind_bd (d + 1) L
      obtain ⟨k, hk⟩ : ∃ k, kindOf (d + 1) (nx 10 L).1 = k := ⟨_, rfl⟩
      obtain ⟨a, ha⟩ : ∃ a, upto (gen (d + 1)) k (argsN k).toNat (nx 10 L).2 = a := ⟨_, rfl⟩
      rw [gen, hk]
      rw [hk] at b1 b2
      have hl : argsN k = (a.1.length : Int) := by rw [← ha, upto_len]; exact args_nat b1 (by omega)
      have hall : ∀ i (hi : i < a.1.length), isCond a.1[i].k = (decide (k = 10) && decide (i = 0)) ∧ fine (d + 1) a.1[i] = true := by
        subst ha
        exact upto_all (P := fun i x => isCond x.k = (decide (k = 10) && decide (i = 0)) ∧ fine (d + 1) x = true) (gen (d + 1)) k (argsN k).toNat (nx 10 L).2 fun j _ L => ⟨(ih _ L).2, (ih _ L).1⟩
      rw [ha]
      have n60 := nx_bd 60 (by omega) a.2
      have n3 := nx_bd 3000 (by omega) a.2
      have n12 := nx_bd 12000 (by omega) a.2
      have hc : isCond k = false := by unfold isCond; simp; omega
      unfold fill
      split
      · rename_i e
        subst e
        have hn := seller_name (pk (nx 60 a.2).1 60) (by rw [pk_id n60.1 n60.2]; omega) (by rw [pk_id n60.1 n60.2]; omega)
        exact ⟨fine_mk hl (by decide) (by simp only [iff_true]; exact (name_parts hn).1) (fun _ => hn) hall, rfl⟩
      · rename_i e3
        split
        · rename_i e
          refine ⟨fine_mk hl ⟨n3.1, ?_⟩ (by simp [e3]) (fun h => absurd h e3) hall, hc⟩
          rcases e with rfl | rfl <;> exact Int.le_of_lt (Int.lt_trans n3.2 (by decide))
        · split
          · rename_i e
            subst e
            exact ⟨fine_mk hl ⟨n12.1, Int.le_of_lt (Int.lt_trans n12.2 (by decide))⟩ (by simp) (by simp) hall, hc⟩
          · refine ⟨fine_mk hl ⟨Int.le_refl _, ?_⟩ (by simp [e3]) (fun h => absurd h e3) hall, hc⟩
            unfold mostN
            split
            · omega
            · split
              · omega
              · first | (split <;> omega) | omega
/-- How large what may be, so deep, is at the most. -/
theorem fine_size : ∀ (d : Nat) (x : Ex), fine d x = true → size x ≤ 4 ^ d := by
  intro d
  induction d with
  | zero => intro x h; cases h
  | succ d ih =>
    intro x h
    cases x with
    | mk k n nm l =>
      obtain ⟨h1, _, _, _, h5⟩ := fine_parts h
      have h3 := args_le k
      have hs : ∀ l : List Ex, (∀ x ∈ l, size x ≤ 4 ^ d) → sizes l ≤ l.length * 4 ^ d := by
        intro l
        induction l with
        | nil => intro _; rw [sizes_nil]; omega
        | cons y t ih2 =>
          intro hh
          have e1 := hh y (List.mem_cons_self ..)
          have e2 := ih2 fun z hz => hh z (List.mem_cons_of_mem _ hz)
          rw [sizes_cons, List.length_cons, Nat.add_mul, Nat.one_mul]; omega
      have := hs l fun y hy => ih y (fine_mem h hy)
      have h4 : l.length * 4 ^ d ≤ 3 * 4 ^ d := Nat.mul_le_mul_right _ (by omega)
      have h6 : 1 ≤ 4 ^ d := Nat.one_le_pow _ _ (by omega)
      rw [size_mk, Nat.pow_succ]
      omega
theorem strat_fine (L : List Int) : fine 5 (strat L) = true ∧ isCond (strat L).k = false := gen_fine 4 false _
theorem strat_size (L : List Int) : size (strat L) ≤ 1024 := fine_size 5 _ (strat_fine L).1
theorem strat_deep (L : List Int) : deep (strat L) ≤ 5 := fine_deep _ 5 (strat_fine L).1
theorem strat_right (L : List Int) : rightX (strat L) = decide ((text (strat L)).length ≤ 2000) := by
  obtain ⟨h1, h2⟩ := strat_fine L
  have h3 := fine_less _ 5 32 h1 (by have := strat_deep L; omega)
  have h4 := strat_size L
  unfold rightX
  rw [h3, h2, decide_eq_true (by omega : size (strat L) ≤ 2000)]; rfl
end Go.Proofs.YtoajbbcjmalngaaGreatDoor

namespace Go.Proofs.YtoajbbcjmalngaaGreatDoor
open Go.RowKit Go.Lib
set_option linter.unusedVariables false
set_option linter.unusedSimpArgs false

/-- An expression as its row holds it: kind, number, name, and the slice of its arguments. -/
abbrev El := Int × Int × List UInt8 × Option Addr × Nat × Nat
abbrev EV (e : El) : Value := .agg #[.int .i64 e.1, .int .i64 e.2.1, .string (B e.2.2.1), .slice e.2.2.2.1 e.2.2.2.2.1 e.2.2.2.2.2]
def cellsE (e : El) : List Value := [.int .i64 e.1, .int .i64 e.2.1, .string (B e.2.2.1), .slice e.2.2.2.1 e.2.2.2.2.1 e.2.2.2.2.2]
def cellsEs (es : List El) : List Value := es.flatMap cellsE
theorem cellsEs_snoc (es : List El) (e : El) : cellsEs (es ++ [e]) = cellsEs es ++ cellsE e := by simp [cellsEs]
theorem cellsEs_at (es : List El) (i : Nat) (h : i < es.length) :
    (cellsEs es)[i * 4]? = some (.int .i64 es[i].1) ∧ (cellsEs es)[i * 4 + 1]? = some (.int .i64 es[i].2.1) ∧ (cellsEs es)[i * 4 + 2]? = some (.string (B es[i].2.2.1)) ∧ (cellsEs es)[i * 4 + 3]? = some (.slice es[i].2.2.2.1 es[i].2.2.2.2.1 es[i].2.2.2.2.2) := by
  induction es generalizing i with
  | nil => simp at h
  | cons e t ih =>
    have hc : cellsEs (e :: t) = cellsE e ++ cellsEs t := rfl
    cases i with
    | zero => rw [hc]; exact ⟨rfl, rfl, rfl, rfl⟩
    | succ i =>
      obtain ⟨h1, h2, h3, h4⟩ := ih i (by simpa using h)
      have l4 : (cellsE e).length = 4 := rfl
      refine ⟨?_, ?_, ?_, ?_⟩
      · rw [hc, List.getElem?_append_right (by omega), show (i + 1) * 4 - (cellsE e).length = i * 4 by omega]; exact h1
      · rw [hc, List.getElem?_append_right (by omega), show (i + 1) * 4 + 1 - (cellsE e).length = i * 4 + 1 by omega]; exact h2
      · rw [hc, List.getElem?_append_right (by omega), show (i + 1) * 4 + 2 - (cellsE e).length = i * 4 + 2 by omega]; exact h3
      · rw [hc, List.getElem?_append_right (by omega), show (i + 1) * 4 + 3 - (cellsE e).length = i * 4 + 3 by omega]; exact h4
/-- The cells from A on are these; their block is one of S. -/
def RowE (S : Nat → Prop) (w : World) (A : Option Addr) (es : List El) : Prop :=
  ∀ i (h : i < es.length), ∃ (g off : Nat), A = some ⟨g, off, none⟩ ∧ g < w.heap.size ∧ S g ∧ w.cell? ⟨g, off + i * 4, none⟩ = some (.int .i64 es[i].1) ∧ w.cell? ⟨g, off + i * 4 + 1, none⟩ = some (.int .i64 es[i].2.1) ∧
    w.cell? ⟨g, off + i * 4 + 2, none⟩ = some (.string (B es[i].2.2.1)) ∧ w.cell? ⟨g, off + i * 4 + 3, none⟩ = some (.slice es[i].2.2.2.1 es[i].2.2.2.2.1 es[i].2.2.2.2.2)
theorem RowE.mono {S S' : Nat → Prop} {w w' : World} {A : Option Addr} {es : List El} (h : RowE S w A es) (hs : w.heap.size ≤ w'.heap.size) (hm : ∀ g, S g → g < w.heap.size → S' g ∧ w'.heap[g]? = w.heap[g]?) : RowE S' w' A es := by
  intro i hi
  obtain ⟨g, off, e, hl, hS, h0, h1, h2, h3⟩ := h i hi
  obtain ⟨hS', hb⟩ := hm g hS hl
  have hk : ∀ j, w'.cell? ⟨g, j, none⟩ = w.cell? ⟨g, j, none⟩ := fun j => World.cell?_of_block (a := ⟨g, j, none⟩) hb
  exact ⟨g, off, e, by omega, hS', by rw [hk]; exact h0, by rw [hk]; exact h1, by rw [hk]; exact h2, by rw [hk]; exact h3⟩
def i64 (n : Int) : Prop := -9223372036854775808 ≤ n ∧ n ≤ 9223372036854775807
/-- In this world an element is this expression. -/
inductive ExAt (S : Nat → Prop) (w : World) : El → Ex → Prop where
  | mk (k n : Int) (nm : List UInt8) (A : Option Addr) (c : Nat) (l : List Ex) (es : List El) (hk : i64 k) (hn : i64 n) (hm : nm.length ≤ 100) (hl : es.length = l.length) (hrow : RowE S w A es)
      (hsub : ∀ i (h : i < es.length) (h' : i < l.length), ExAt S w es[i] l[i]) : ExAt S w (k, n, nm, A, l.length, c) (.mk k n nm l)
theorem ExAt.mono {S S' : Nat → Prop} {w w' : World} (hs : w.heap.size ≤ w'.heap.size) (hm : ∀ g, S g → g < w.heap.size → S' g ∧ w'.heap[g]? = w.heap[g]?) {e : El} {x : Ex} (h : ExAt S w e x) : ExAt S' w' e x := by
  induction h with
  | mk k n nm A c l es hk hn hm' hl hrow hsub ih => exact .mk k n nm A c l es hk hn hm' hl (hrow.mono hs hm) ih
theorem ExAt.rel {S : Nat → Prop} {w w' : World} {e : El} {x : Ex} (h : ExAt S w e x) (hr : Rel w w') : ExAt S w' e x := h.mono hr.size fun g hS hl => ⟨hS, hr.2.block g hl⟩
theorem ExAt.weak {S S' : Nat → Prop} {w : World} {e : El} {x : Ex} (h : ExAt S w e x) (hm : ∀ g, S g → S' g) : ExAt S' w e x := h.mono (Nat.le_refl _) fun g hS _ => ⟨hm g hS, rfl⟩
/-- What an element is, opened. -/
theorem ExAt.open {S : Nat → Prop} {w : World} {k n : Int} {nm : List UInt8} {l : List Ex} {e : El} (h : ExAt S w e (.mk k n nm l)) : ∃ A c es, e = (k, n, nm, A, l.length, c) ∧ i64 k ∧ i64 n ∧ nm.length ≤ 100 ∧ es.length = l.length ∧ RowE S w A es ∧ ∀ i (h : i < es.length) (h' : i < l.length), ExAt S w es[i] l[i] := by
  cases h with
  | mk k n nm A c l es hk hn hm hl hrow hsub => exact ⟨A, c, es, rfl, hk, hn, hm, hl, hrow, hsub⟩
theorem RowE.nil (S : Nat → Prop) (w : World) (A : Option Addr) : RowE S w A [] := fun i h => absurd h (by simp)
theorem ExAt.leaf (S : Nat → Prop) (w : World) (k n : Int) (nm : List UInt8) (A : Option Addr) (c : Nat) (hk : i64 k) (hn : i64 n) (hm : nm.length ≤ 100) : ExAt S w (k, n, nm, A, 0, c) (.mk k n nm []) :=
  .mk k n nm A c [] [] hk hn hm rfl (RowE.nil _ _ _) fun i h => absurd h (by simp)
theorem ExAt.grown {S S' : Nat → Prop} {w w' : World} {b : Option Nat} {e : El} {x : Ex} (h : ExAt S w e x) (hg : w.grownBy w' b) (hS : ∀ k, S k → S' k ∧ some k ≠ b) : ExAt S' w' e x := h.mono hg.size fun k hk hl => ⟨(hS k hk).1, hg.block k hl (hS k hk).2⟩
theorem RowE.of_bk {S : Nat → Prop} {w : World} {g : Nat} {es : List El} (h : Bk w g 26 (cellsEs es).toArray) (hS : S g) : RowE S w (some ⟨g, 0, none⟩) es := by
  intro i hi
  obtain ⟨c0, c1, c2, c3⟩ := cellsEs_at es i hi
  refine ⟨g, 0, rfl, h.lt, hS, ?_, ?_, ?_, ?_⟩
  · rw [Nat.zero_add, h.cell, List.getElem?_toArray]; exact c0
  · rw [Nat.zero_add, h.cell, List.getElem?_toArray]; exact c1
  · rw [Nat.zero_add, h.cell, List.getElem?_toArray]; exact c2
  · rw [Nat.zero_add, h.cell, List.getElem?_toArray]; exact c3
theorem ExAt.two {S : Nat → Prop} {w : World} {k n : Int} {nm : List UInt8} {g c : Nat} {a b : El} {x y : Ex} (hk : i64 k) (hn : i64 n) (hm : nm.length ≤ 100) (h : Bk w g 26 (cellsEs [a, b]).toArray) (hS : S g) (hx : ExAt S w a x) (hy : ExAt S w b y) :
    ExAt S w (k, n, nm, some ⟨g, 0, none⟩, 2, c) (.mk k n nm [x, y]) :=
  .mk k n nm _ c [x, y] [a, b] hk hn hm rfl (RowE.of_bk h hS) fun i h h' => by
    match i, h, h' with
    | 0, _, _ => exact hx
    | 1, _, _ => exact hy
/-- A slice of expressions of the call's own. -/
def ElsOwn (w : World) (base : Nat) (v : Value) (es : List El) : Prop := w.ownsRow base 26 4 v es.length (cellsEs es)
theorem ElsOwn.row {w : World} {base : Nat} {v : Value} {es : List El} (h : ElsOwn w base v es) : w.ownsRow base 26 4 v es.length (cellsEs es) := h
theorem ElsOwn.nil (w : World) (base : Nat) : ElsOwn w base (.slice none 0 0) [] := World.ownsRow_nil _ _ _ _
theorem ElsOwn.toks {S : Nat → Prop} {w : World} {base : Nat} {A : Option Addr} {n c : Nat} {es : List El} (h : ElsOwn w base (.slice A n c) es) (hn : n = es.length) (hS : ∀ j, (Value.slice A n c).ownBlock = some j → S j) : RowE S w A es := by
  intro i hi
  have h : w.ownsRow base 26 4 (.slice A n c) es.length (cellsEs es) := h
  rcases h.2 with ⟨h0, h1⟩ | ⟨g, cap, cur, hv, hb, hh, _⟩
  · omega
  · have hA : A = some ⟨g, 0, none⟩ := by injection hv
    obtain ⟨c0, c1, c2, c3⟩ := cellsEs_at es i hi
    have hc := h.cells (g := g) (by rw [hA]; rfl)
    have q0 := hc _ _ c0
    have q1 := hc _ _ c1
    have q2 := hc _ _ c2
    have q3 := hc _ _ c3
    rw [addr_at] at q0 q1 q2 q3
    refine ⟨g, 0, hA, Bk.lt (t := 26) hh, hS g (by rw [hA]; rfl), ?_, ?_, ?_, ?_⟩
    · exact q0
    · rw [Nat.add_assoc]; exact q1
    · rw [Nat.add_assoc]; exact q2
    · rw [Nat.add_assoc]; exact q3
theorem ElsOwn.more {w1 : World} {base g cap : Nat} {es : List El} {e : El}
    (hown1 : w1.ownsRow base 26 4 (.slice (some ⟨g, 0, none⟩) (es.length + 1) cap) (es.length + 1) (cellsEs es ++ cellsE e)) : ElsOwn w1 base (.slice (some ⟨g, 0, none⟩) (es.length + 1) cap) (es ++ [e]) := by
  unfold ElsOwn
  rw [cellsEs_snoc, show (es ++ [e]).length = es.length + 1 by simp]; exact hown1
theorem ex_info : (Tryz.prog.info? 26).map (fun i => (i.zero, i.size, i.bytes)) = some (some (.agg #[.int .i64 0, .int .i64 0, .string ⟨#[]⟩, .slice none 0 0]), 4, 56) := by kernel_rfl
theorem cellsE_one (e : El) : ∀ u ∈ cellsE e, u.oneCell' = true := by
  intro u hu
  simp only [cellsE, List.mem_cons, List.not_mem_nil, or_false] at hu
  rcases hu with rfl | rfl | rfl | rfl <;> rfl
/-- The source at g has these raw numbers left. -/
def SrcAt (w : World) (g : Nat) (L : List Int) : Prop :=
  ∃ (A : Option Addr) (c : Nat), Bk w g 51 #[.slice A L.length c] ∧ L.length ≤ c ∧ c ≤ maxLen ∧ (∀ z ∈ L, i64 z) ∧ ∀ i (h : i < L.length), ∃ a : Addr, A = some a ∧ a.block < g ∧ w.cell? (a.add i) = some (.int .i64 L[i])
theorem SrcAt.grown {w w' : World} {g : Nat} {L : List Int} (h : SrcAt w g L) {b : Option Nat} (hg : w.grownBy w' b) (hb : ∀ k, b = some k → g < k) : SrcAt w' g L := by
  obtain ⟨A, c, hbk, h1, h2, h3, h4⟩ := h
  have hgl := hbk.lt
  refine ⟨A, c, hbk.grown hg (fun e => by have := hb g e.symm; omega), h1, h2, h3, fun i hi => ?_⟩
  obtain ⟨a, e, hl, hc⟩ := h4 i hi
  refine ⟨a, e, hl, ?_⟩
  have hk : w'.heap[(a.add i).block]? = w.heap[(a.add i).block]? := by rw [block_add]; exact hg.block _ (by omega) (fun e => by have := hb _ e.symm; omega)
  exact (World.cell?_of_block hk).trans hc
theorem grown_rel {w w' : World} (r : Option Nat) (h : Rel w w') : w.grownBy w' r := ⟨h.2.os, h.2.tape, h.2.output, h.2.size, fun k hk _ => h.2.block k hk⟩
theorem SrcAt.rel {w w' : World} {g : Nat} {L : List Int} (h : SrcAt w g L) (hr : Rel w w') : SrcAt w' g L := h.grown (grown_rel none hr) (fun k e => by cases e)
theorem grown_trans {w w' w'' : World} {r : Option Nat} (h : w.grownBy w' r) (h' : w'.grownBy w'' r) : w.grownBy w'' r :=
  ⟨h'.os.trans h.os, h'.tape.trans h.tape, h'.output.trans h.output, Nat.le_trans h.size h'.size, fun k hk hn => (h'.block k (Nat.lt_of_lt_of_le hk h.size) hn).trans (h.block k hk hn)⟩
theorem grown_of {w w' w'' : World} {r : Option Nat} (h : w.grownBy w' r) {b : Option Nat} (h' : w'.grownBy w'' b) (hb : ∀ k, b = some k → w.heap.size ≤ k) : w.grownBy w'' r :=
  ⟨h'.os.trans h.os, h'.tape.trans h.tape, h'.output.trans h.output, Nat.le_trans h.size h'.size, fun k hk hn => (h'.block k (Nat.lt_of_lt_of_le hk h.size) (fun e => by have := hb k e.symm; omega)).trans (h.block k hk hn)⟩
theorem set_grown (w : World) (b i : Nat) (v : Value) : w.grownBy (w.setCell ⟨b, i, none⟩ v) (some b) :=
  ⟨rfl, rfl, rfl, by rw [World.size_setCell]; exact Nat.le_refl _, fun k _ hk => Below.heap_setCell w ⟨b, i, none⟩ v k (fun e => hk (by rw [e]))⟩
theorem put4_grown (w : World) (b : Nat) (x y z u : Value) : w.grownBy ((((w.setCell ⟨b, 0, none⟩ x).setCell ⟨b, 1, none⟩ y).setCell ⟨b, 2, none⟩ z).setCell ⟨b, 3, none⟩ u) (some b) :=
  grown_trans (grown_trans (grown_trans (set_grown w b 0 x) (set_grown _ b 1 y)) (set_grown _ b 2 z)) (set_grown _ b 3 u)
theorem SrcAt.lt {w : World} {g : Nat} {L : List Int} (h : SrcAt w g L) : g < w.heap.size := by
  obtain ⟨_, _, hb, _⟩ := h; exact hb.lt
theorem pk_as (c n y : Int) (h : Hid (pk c n = y)) (hc : -9223372036854775808 ≤ c) (hc' : c ≤ 9223372036854775807) (hn : 0 < n) (hn' : n ≤ 9223372036854775807) (w : World) :
    Calls Tryz.prog 57 #[.int .i64 c, .int .i64 n] w fun e w' => e = .returned (.int .i64 y) ∧ w = w' := by
  rw [← h.out]
  by_cases h : c < 0
  all_goals
    go_enter Tryz.func57, Tryz.ntmps57
    go_wp2
    all_goals
      go_ret
      exact ⟨ret_int (by unfold pk; split <;> first | rfl | omega), rfl⟩
theorem addr_zero (a : Addr) : a.add 0 = a := by
  obtain ⟨b, o, p⟩ := a
  cases p <;> simp [Addr.add]
theorem add_next (a : Addr) (n : Nat) : a.add (n + 1) = ⟨(a.add n).block, (a.add n).off + 1, none⟩ := by
  unfold Addr.add
  by_cases h : n = 0
  · subst h; simp
  · simp [h]; omega
theorem src_next {w : World} {g : Nat} {z : Int} {t : List Int} {a : Addr} {c : Nat} (hb : Bk w g 51 #[.slice (some a) (z :: t).length c]) (h3 : ∀ z' ∈ z :: t, i64 z')
    (h4 : ∀ i (h : i < (z :: t).length), ∃ a' : Addr, some a = some a' ∧ a'.block < g ∧ w.cell? (a'.add i) = some (.int .i64 (z :: t)[i])) (a' : Addr) (c' : Nat) (hA : t = [] ∨ a' = a.add 1) (hc : t.length ≤ c') (hc' : c' ≤ maxLen) :
    SrcAt (w.setCell ⟨g, 0, none⟩ (.slice (some a') t.length c')) g t ∧ w.grownBy (w.setCell ⟨g, 0, none⟩ (.slice (some a') t.length c')) (some g) ∧ (w.setCell ⟨g, 0, none⟩ (.slice (some a') t.length c')).heap.size = w.heap.size := by
  refine ⟨⟨some a', c', hb.set_ 0 _, hc, hc', fun z' hz => h3 z' (List.mem_cons_of_mem _ hz), fun i hi => ?_⟩, ⟨rfl, rfl, rfl, by rw [World.size_setCell]; exact Nat.le_refl _, fun k _ hk => Below.heap_setCell w ⟨g, 0, none⟩ _ k (fun e => hk (by rw [e]))⟩, World.size_setCell ..⟩
  have hi' : i + 1 < (z :: t).length := by simpa using hi
  obtain ⟨b, e, hl, hcell⟩ := h4 (i + 1) hi'
  cases e
  rcases hA with rfl | rfl
  · simp at hi
  · refine ⟨_, rfl, by rw [block_add]; exact hl, ?_⟩
    rw [Addr.add_add, Nat.add_comm 1 i]
    have hk : (w.setCell ⟨g, 0, none⟩ (.slice (some (a.add 1)) t.length c')).heap[(a.add (i + 1)).block]? = w.heap[(a.add (i + 1)).block]? := Below.heap_setCell w ⟨g, 0, none⟩ _ _ (by rw [block_add]; simp only; omega)
    rw [World.cell?_of_block hk]
    exact hcell
set_option maxHeartbeats 1000000 in
theorem next_any (g : Nat) (L : List Int) (n : Int) (hn : 0 < n) (hn' : n ≤ 9223372036854775807) (w : World) (h : SrcAt w g L) :
    Calls Tryz.prog 35 #[.pointer (some ⟨g, 0, none⟩), .int .i64 n] w fun e w' => e = .returned (.int .i64 (nx n L).1) ∧ SrcAt w' g (nx n L).2 ∧ w.grownBy w' (some g) ∧ w'.heap.size = w.heap.size := by
  obtain ⟨A, c, hb, h1, h2, h3, h4⟩ := h
  have c0 := hb.cell 0
  have f0 := hb.frozen 0
  have HB := Lib.hid hb
  have H4 := Lib.hid h4
  have HG : Hid (w.grownBy w (some g)) := Lib.hid ⟨rfl, rfl, rfl, Nat.le_refl _, fun _ _ _ => rfl⟩
  simp only [List.getElem?_toArray, List.getElem?_cons_zero] at c0
  clear hb h4
  cases L with
  | nil =>
    have H3 := Lib.hid h3
    clear h3
    go_enter Tryz.func35, Tryz.ntmps35
    go_wp2_with (fail)
    go_ret
    exact ⟨rfl, ⟨A, c, HB.out, h1, h2, H3.out, H4.out⟩, HG.out, rfl⟩
  | cons z t =>
    obtain ⟨a, rfl, hl, hc⟩ := H4.out 0 (by simp)
    have hne : a.block ≠ g := by omega
    obtain ⟨y, hy⟩ : ∃ y, pk z n = y := ⟨_, rfl⟩
    have HY := Lib.hid hy
    have hz := h3 z (List.mem_cons_self ..)
    have H3 := Lib.hid h3
    rw [addr_zero] at hc
    have HA1 := Lib.hid (show (⟨a.block, a.off + 1, none⟩ : Addr) = a.add 1 by rw [add_next a 0, addr_zero])
    have z0 := hz.1
    have z1 := hz.2
    simp only [List.length_cons, List.getElem_cons_zero] at h1 hc c0
    clear hy hz h3
    go_enter Tryz.func35, Tryz.ntmps35
    go_wp2_with (go_at_call 57; (with_reducible refine (pk_as z n y HY z0 z1 hn hn' _).mono ?_); rintro e w' ⟨rfl, rfl⟩)
    all_goals
      go_ret
      refine ⟨ret_int HY.out.symm, ?_⟩
      first
        | exact src_next HB.out H3.out H4.out _ _ (.inr HA1.out) (by omega) (by omega)
        | exact src_next HB.out H3.out H4.out _ _ (.inl (List.length_eq_zero_iff.1 (by omega))) (by omega) (by omega)
end Go.Proofs.YtoajbbcjmalngaaGreatDoor
