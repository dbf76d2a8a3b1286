/- Plain mathematics of layer 16: where in a row a key's item is; what the landed heap's moves do to a row. No program in this text; The base: texts as lists, the relation of worlds, the law's pick and numerals (no listed tables at this seat); Blocks that are known whole, rows of the call's own, and what is kept of them; Rows of structs in memory, of any number of cells: to be read, as an argument, of the call's own (cl: an element's cells, k of them; T: the elements' type); Layer 16: what one thing owns in memory, and what is kept of all others; Layer 16: a map from keys to places, in memory; Tokens in memory, pairs of raw numbers; which tokens are the same; Plain mathematics of layer 7: expressions, their texts, sizes and depths. No program in this text. -/
import Derived.Test.YtndmnlgancnbkaaZL
import Derived.Test.YtndmnlgancnbkaaZ00
namespace Go.Proofs.Ytndmnlgancnbkaa
open Go.Lib
set_option linter.unusedVariables false
set_option linter.unusedSimpArgs false
/-- The place of a key's item. -/
def posf (l : List It) (k : Int) : Option Int := ((List.range l.length).find? fun i => decide ((atI l i).1 = k)).map fun i => (i : Int)
def upf (f : Int → Option Int) (k v : Int) : Int → Option Int := fun x => if x = k then some v else f x
def dlf (f : Int → Option Int) (k : Int) : Int → Option Int := fun x => if x = k then none else f x
def Dst (l : List It) : Prop := ∀ i j, i < l.length → j < l.length → (atI l i).1 = (atI l j).1 → i = j
theorem pos_none {l : List It} {k : Int} (h : ∀ i, i < l.length → (atI l i).1 ≠ k) : posf l k = none := by
  unfold posf
  rw [List.find?_eq_none.2 (fun i hi => by rw [decide_eq_true_eq]; exact h i (List.mem_range.1 hi))]
  rfl
theorem pos_some {l : List It} (hd : Dst l) {k : Int} {i : Nat} (hi : i < l.length) (hk : (atI l i).1 = k) : posf l k = some (i : Int) := by
  unfold posf
  cases hf : (List.range l.length).find? fun i => decide ((atI l i).1 = k) with
  | none => exact absurd hk (by have := List.find?_eq_none.1 hf i (List.mem_range.2 hi); simpa using this)
  | some j =>
    have h1 := List.find?_some hf
    have h2 := List.mem_range.1 (List.mem_of_find?_eq_some hf)
    rw [decide_eq_true_eq] at h1
    rw [hd j i h2 hi (by rw [h1, hk])]
    rfl
theorem pos_inv {l : List It} {k v : Int} (h : posf l k = some v) : ∃ i : Nat, v = (i : Int) ∧ i < l.length ∧ (atI l i).1 = k := by
  unfold posf at h
  cases hf : (List.range l.length).find? fun i => decide ((atI l i).1 = k) with
  | none => rw [hf] at h; cases h
  | some j =>
    rw [hf] at h
    have h1 := List.find?_some hf
    have h2 := List.mem_range.1 (List.mem_of_find?_eq_some hf)
    rw [decide_eq_true_eq] at h1
    injection h with h
    exact ⟨j, h.symm, h2, h1⟩
theorem pos_ways (l : List It) (k : Int) : (∃ i, i < l.length ∧ (atI l i).1 = k) ∨ (∀ i, i < l.length → (atI l i).1 ≠ k) := by
  by_cases h : ∃ i, i < l.length ∧ (atI l i).1 = k
  · exact .inl h
  · exact .inr fun i hi hk => h ⟨i, hi, hk⟩
/-- Two rows with the same keys at the same places. -/
theorem pos_same {l l' : List It} (hl : l'.length = l.length) (h : ∀ i, i < l.length → (atI l' i).1 = (atI l i).1) : posf l' = posf l := by
  funext k
  unfold posf
  rw [hl]
  have e : ∀ i ∈ List.range l.length, (decide ((atI l' i).1 = k)) = decide ((atI l i).1 = k) := fun i hi => by rw [h i (List.mem_range.1 hi)]
  rw [show (List.range l.length).find? (fun i => decide ((atI l' i).1 = k)) = (List.range l.length).find? (fun i => decide ((atI l i).1 = k)) from by
    generalize List.range l.length = R at e ⊢
    induction R with
    | nil => rfl
    | cons x t ih =>
      rw [List.find?_cons, List.find?_cons, e x (List.mem_cons_self ..), ih (fun i hi => e i (List.mem_cons_of_mem _ hi))]]
theorem dst_swp {l : List It} (hd : Dst l) {i j : Nat} (hi : i < l.length) (hj : j < l.length) : Dst (swpI l i j) := by
  intro a b ha hb e
  rw [swp_len] at ha hb
  rw [at_swp hi hj, at_swp hi hj] at e
  have q := hd
  split at e <;> split at e <;> (try split at e) <;> (try split at e)
  all_goals
    first
    | omega
    | (have := q _ _ hi hi e; omega)
    | (have := q _ _ hi hj e; omega)
    | (have := q _ _ hj hi e; omega)
    | (have := q _ _ hj hj e; omega)
    | (have := q _ _ hi hb e; omega)
    | (have := q _ _ hj hb e; omega)
    | (have := q _ _ ha hi e; omega)
    | (have := q _ _ ha hj e; omega)
    | (have := q _ _ ha hb e; omega)
theorem at_swp_i {l : List It} {i j : Nat} (hi : i < l.length) (hj : j < l.length) : atI (swpI l i j) i = atI l j := by
  rw [at_swp hi hj]
  by_cases e : i = j
  · rw [if_pos e, e]
  · rw [if_neg e, if_pos rfl]
theorem at_swp_j {l : List It} {i j : Nat} (hi : i < l.length) (hj : j < l.length) : atI (swpI l i j) j = atI l i := by rw [at_swp hi hj, if_pos rfl]
theorem pos_swp {l : List It} (hd : Dst l) {i j : Nat} (hi : i < l.length) (hj : j < l.length) : upf (upf (posf l) (atI l j).1 i) (atI l i).1 j = posf (swpI l i j) := by
  have hd' := dst_swp hd hi hj
  funext k
  unfold upf
  by_cases e1 : k = (atI l i).1
  · rw [if_pos e1, pos_some hd' (i := j) (by rw [swp_len]; exact hj) (by rw [at_swp_j hi hj, e1])]
  · rw [if_neg e1]
    by_cases e2 : k = (atI l j).1
    · rw [if_pos e2, pos_some hd' (i := i) (by rw [swp_len]; exact hi) (by rw [at_swp_i hi hj, e2])]
    · rw [if_neg e2]
      rcases pos_ways l k with ⟨q, hq, hk⟩ | hn
      · have n1 : q ≠ i := fun e => e1 (by rw [← hk, e])
        have n2 : q ≠ j := fun e => e2 (by rw [← hk, e])
        rw [pos_some hd hq hk, pos_some hd' (i := q) (by rw [swp_len]; exact hq) (by rw [at_swp hi hj, if_neg n2, if_neg n1]; exact hk)]
      · rw [pos_none hn, pos_none (fun q hq => by
          rw [swp_len] at hq
          rw [at_swp hi hj]
          split
          · exact hn i hi
          · split
            · exact hn j hj
            · exact hn q hq)]
theorem pos_snoc {l : List It} (hd : Dst l) {x : It} (hn : ∀ i, i < l.length → (atI l i).1 ≠ x.1) : upf (posf l) x.1 l.length = posf (l ++ [x]) ∧ Dst (l ++ [x]) := by
  have hx : atI (l ++ [x]) l.length = x := by rw [at_get (by simp)]; simp
  have hd' : Dst (l ++ [x]) := by
    intro a b ha hb e
    rw [List.length_append, List.length_singleton] at ha hb
    by_cases h1 : a < l.length <;> by_cases h2 : b < l.length
    · rw [at_append _ h1, at_append _ h2] at e; exact hd a b h1 h2 e
    · have : b = l.length := by omega
      subst this
      rw [at_append _ h1, hx] at e
      exact absurd e (hn a h1)
    · have : a = l.length := by omega
      subst this
      rw [at_append _ h2, hx] at e
      exact absurd e.symm (hn b h2)
    · omega
  refine ⟨?_, hd'⟩
  funext k
  unfold upf
  by_cases e : k = x.1
  · rw [if_pos e, pos_some hd' (i := l.length) (by simp) (by rw [hx, e])]
  · rw [if_neg e]
    rcases pos_ways l k with ⟨q, hq, hk⟩ | hw
    · rw [pos_some hd hq hk, pos_some hd' (i := q) (by simp; omega) (by rw [at_append _ hq]; exact hk)]
    · rw [pos_none hw, pos_none (fun q hq => by
        rw [List.length_append, List.length_singleton] at hq
        by_cases h1 : q < l.length
        · rw [at_append _ h1]; exact hw q h1
        · have : q = l.length := by omega
          subst this
          rw [hx]; exact fun e' => e e'.symm)]
theorem at_take {l : List It} {n i : Nat} (h : i < n) (hl : i < l.length) : atI (l.take n) i = atI l i := by
  rw [at_get (by rw [List.length_take]; omega), at_get hl, List.getElem_take]
theorem dst_take {l : List It} (hd : Dst l) (n : Nat) : Dst (l.take n) := by
  intro a b ha hb e
  rw [List.length_take] at ha hb
  rw [at_take (by omega) (by omega), at_take (by omega) (by omega)] at e
  exact hd a b (by omega) (by omega) e
theorem pos_take {l : List It} (hd : Dst l) {n : Nat} (hn : n + 1 = l.length) : dlf (posf l) (atI l n).1 = posf (l.take n) := by
  have hd' := dst_take hd n
  funext k
  unfold dlf
  by_cases e : k = (atI l n).1
  · rw [if_pos e, pos_none]
    intro i hi hk
    rw [List.length_take] at hi
    rw [at_take (by omega) (by omega), e] at hk
    have := hd i n (by omega) (by omega) hk
    omega
  · rw [if_neg e]
    rcases pos_ways l k with ⟨q, hq, hk⟩ | hw
    · have : q ≠ n := fun h => e (by rw [← hk, h])
      rw [pos_some hd hq hk, pos_some hd' (i := q) (by rw [List.length_take]; omega) (by rw [at_take (by omega) hq]; exact hk)]
    · rw [pos_none hw, pos_none (fun q hq => by
        rw [List.length_take] at hq
        rw [at_take (by omega) (by omega)]
        exact hw q (by omega))]
theorem pos_set {l : List It} {i : Nat} (hi : i < l.length) (x : It) (hx : x.1 = (atI l i).1) : posf (l.set i x) = posf l :=
  pos_same (List.length_set ..) fun j _ => by
    rw [at_set hi]
    split
    · rename_i e; rw [hx, e]
    · rfl
theorem Rowed.dst {l L : List It} (h : Rowed l L) : Dst l := h.one
/-- A key's place, told by the items. -/
theorem pos_has {l L : List It} (h : Rowed l L) (k : Int) : (posf l k).isSome = hasH L k := by
  rw [Bool.eq_iff_iff, has_iff]
  constructor
  · intro hs
    obtain ⟨v, hv⟩ := Option.isSome_iff_exists.1 hs
    obtain ⟨i, _, hi, hk⟩ := pos_inv hv
    exact ⟨_, (h.mem _).1 (at_mem hi), hk⟩
  · rintro ⟨x, hx, hk⟩
    obtain ⟨i, hi, e⟩ := mem_at ((h.mem x).2 hx)
    rw [pos_some h.one hi (by rw [e]; exact hk)]
    rfl
theorem rowed_snoc {l L : List It} (h : Rowed l L) {x : It} (hn : hasH L x.1 = false) : Rowed (l ++ [x]) (insH L x) := by
  refine ⟨ins_srt h.srt hn, by rw [List.length_append, ins_len, h.len]; rfl, fun z => ?_, (pos_snoc h.one fun i hi e => ?_).2⟩
  · rw [List.mem_append, List.mem_singleton, ins_mem, h.mem z]
    exact Or.comm
  · have : hasH L x.1 = true := has_iff.2 ⟨_, (h.mem _).1 (at_mem hi), e⟩
    rw [hn] at this; cases this
theorem rowed_take {l L : List It} (h : Rowed l L) {n : Nat} (hn : n + 1 = l.length) : Rowed (l.take n) (remH L (atI l n).1) := by
  have hm : ∀ z, z ∈ l.take n ↔ z ∈ remH L (atI l n).1 := fun z => by
    rw [rem_mem, ← h.mem z]
    constructor
    · intro hz
      obtain ⟨i, hi, e⟩ := mem_at hz
      rw [List.length_take] at hi
      rw [at_take (by omega) (by omega)] at e
      refine ⟨by rw [← e]; exact at_mem (by omega), fun hk => ?_⟩
      rw [← e] at hk
      have := h.one i n (by omega) (by omega) hk
      omega
    · rintro ⟨hz, hk⟩
      obtain ⟨i, hi, e⟩ := mem_at hz
      have hne : i ≠ n := fun q => hk (by rw [← e, q])
      have hin : i < n := by omega
      rw [← e, ← at_take hin hi]
      exact at_mem (by rw [List.length_take]; omega)
  refine ⟨rem_srt h.srt _, ?_, hm, dst_take h.one n⟩
  have h1 : (l.take n).length = n := by rw [List.length_take]; omega
  have hx : atI l n ∈ L := (h.mem _).1 (at_mem (by omega))
  have h2 := rem_len h.srt hx
  rw [h1]
  have := h.len
  omega
theorem rowed_set {l L : List It} (h : Rowed l L) {i : Nat} (hi : i < l.length) (k p : Int) (hk : (atI l i).1 = k) : Rowed (l.set i (k, p)) (chgH L k p) := by
  have hh : hasH L k = true := has_iff.2 ⟨_, (h.mem _).1 (at_mem hi), hk⟩
  refine ⟨chg_srt h.srt k p, by rw [List.length_set, chg_len]; exact h.len, fun z => ?_, fun a b ha hb e => ?_⟩
  · rw [chg_mem h.srt]
    constructor
    · intro hz
      obtain ⟨j, hj, e⟩ := mem_at hz
      rw [List.length_set] at hj
      rw [at_set hi] at e
      by_cases q : j = i
      · rw [if_pos q] at e; exact .inl ⟨e.symm, hh⟩
      · rw [if_neg q] at e
        refine .inr ⟨by rw [← e]; exact (h.mem _).1 (at_mem hj), fun hk' => q (h.one j i hj hi ?_)⟩
        rw [e, hk', hk]
    · rintro (⟨rfl, _⟩ | ⟨hz, hne⟩)
      · have : atI (l.set i (k, p)) i = (k, p) := by rw [at_set hi, if_pos rfl]
        have hm := at_mem (l := l.set i (k, p)) (i := i) (by rw [List.length_set]; exact hi)
        rw [this] at hm
        exact hm
      · obtain ⟨j, hj, e⟩ := mem_at ((h.mem z).2 hz)
        have q : j ≠ i := fun q => hne (by rw [← e, q]; exact hk)
        have : atI (l.set i (k, p)) j = z := by rw [at_set hi, if_neg q]; exact e
        have hm := at_mem (l := l.set i (k, p)) (i := j) (by rw [List.length_set]; exact hj)
        rw [this] at hm
        exact hm
  · rw [List.length_set] at ha hb
    rw [at_set hi, at_set hi] at e
    have q := h.one
    split at e <;> split at e
    · omega
    · rename_i e1 e2; exact absurd (q i b hi hb (by rw [hk]; exact e)) (fun x => e2 x.symm)
    · rename_i e1 e2; exact absurd (q a i ha hi (by rw [hk]; exact e)) e1
    · exact q a b ha hb e
/-- Ordered, but for the one at i, which may stand wrong either way. -/
def OrdAt (l : List It) (i : Nat) : Prop := (∀ j, 0 < j → j < l.length → j ≠ i → parN j ≠ i → noU (atI l (parN j)) (atI l j)) ∧ (0 < i → ∀ j, 0 < j → j < l.length → parN j = i → noU (atI l (parN i)) (atI l j))
theorem OrdUp.any {l : List It} {i : Nat} (h : OrdUp l i) : OrdAt l i := ⟨fun j a b c _ => h.1 j a b c, h.2⟩
theorem any_up {l : List It} {i : Nat} (h : OrdAt l i) (h0 : 0 < i) (hu : urgH (atI l i) (atI l (parN i))) : OrdUp l i := by
  refine ⟨fun j j0 hj hne => ?_, h.2⟩
  by_cases e : parN j = i
  · rw [e]; exact noU_trans (urg_no hu) (h.2 h0 j j0 hj e)
  · exact h.1 j j0 hj hne e
theorem any_dn {l : List It} {i : Nat} (h : OrdAt l i) (hn : i = 0 ∨ noU (atI l (parN i)) (atI l i)) : OrdDn l i := by
  refine ⟨fun j j0 hj hne => ?_, h.2⟩
  by_cases e : j = i
  · subst e
    rcases hn with q | q
    · omega
    · exact q
  · exact h.1 j j0 hj e hne
theorem set_any {l : List It} (h : OrdH l) {i : Nat} (hi : i < l.length) (x : It) : OrdAt (l.set i x) i := by
  refine ⟨fun j j0 hj hne hnp => ?_, fun i0 j j0 hj e => ?_⟩
  · rw [List.length_set] at hj
    rw [at_set hi, at_set hi, if_neg hne, if_neg hnp]
    exact h j j0 hj
  · rw [List.length_set] at hj
    have hp := par_lt j0
    have hp2 := par_lt i0
    rw [at_set hi, at_set hi, if_neg (by omega), if_neg (by omega)]
    have h1 := h j j0 hj
    rw [e] at h1
    exact noU_trans (h i i0 hi) h1
/-- The last one put in the place of one that is taken. -/
theorem take_any {l : List It} (h : OrdH l) {i n : Nat} (hn : n + 1 = l.length) (hi : i < n) : OrdAt ((swpI l i n).take n) i := by
  have e : ∀ k, k < n → atI ((swpI l i n).take n) k = atI (l.set i (atI l n)) k := fun k hk => by
    rw [at_take hk (by rw [swp_len]; omega), at_swp (by omega) (by omega), if_neg (by omega), at_set (by omega)]
  have hl : ((swpI l i n).take n).length = n := by rw [List.length_take, swp_len]; omega
  have h2 := set_any h (show i < l.length by omega) (atI l n)
  refine ⟨fun j j0 hj hne hnp => ?_, fun i0 j j0 hj ep => ?_⟩
  · rw [hl] at hj
    have hp := par_lt j0
    rw [e _ (by omega), e _ hj]
    exact h2.1 j j0 (by rw [List.length_set]; omega) hne hnp
  · rw [hl] at hj
    have hp := par_lt j0
    have hp2 := par_lt i0
    rw [e _ (by omega), e _ hj]
    exact h2.2 i0 j j0 (by rw [List.length_set]; omega) ep
/-- .. where the last is the one that is taken. -/
theorem take_last {l : List It} (h : OrdH l) {n : Nat} (hn : n + 1 = l.length) : (swpI l n n).take n = l.take n := by
  refine List.ext_getElem (by rw [List.length_take, List.length_take, swp_len]) fun k h1 h2 => ?_
  rw [List.length_take] at h2
  have := at_swp (l := l) (i := n) (j := n) (by omega) (by omega) k
  rw [if_neg (by omega), if_neg (by omega), at_get (by rw [swp_len]; omega), at_get (by omega)] at this
  rw [List.getElem_take, List.getElem_take]
  exact this
def urgB (x y : It) : Bool := decide (y.2 < x.2 ∨ y.2 = x.2 ∧ x.1 < y.1)
theorem urgB_iff {x y : It} : urgB x y = true ↔ urgH x y := by unfold urgB urgH; rw [decide_eq_true_eq]
theorem urgB_not {x y : It} (h : urgB x y = false) : noU y x := by
  unfold noU; intro hh; rw [urgB_iff.2 hh] at h; cases h
theorem urgH_trans {x y z : It} (h : urgH x y) (h' : urgH y z) : urgH x z := by unfold urgH at *; omega
/-- The most urgent of i and the first k of its two children. -/
def firstN (l : List It) (i : Nat) : Nat → Nat
  | 0 => i
  | k + 1 => if urgB (atI l (2 * i + 1 + k)) (atI l (firstN l i k)) then 2 * i + 1 + k else firstN l i k
theorem first_is (l : List It) (i : Nat) : ∀ k, k ≤ 2 → (firstN l i k = i ∨ (parN (firstN l i k) = i ∧ 0 < firstN l i k ∧ firstN l i k < 2 * i + 1 + k ∧ urgH (atI l (firstN l i k)) (atI l i)))
      ∧ noU (atI l (firstN l i k)) (atI l i) ∧ ∀ j, 2 * i + 1 ≤ j → j < 2 * i + 1 + k → noU (atI l (firstN l i k)) (atI l j) := by
  intro k
  induction k with
  | zero => intro _; exact ⟨.inl rfl, noU_refl _, fun j a b => by omega⟩
  | succ k ih =>
    intro hk
    obtain ⟨h1, h2, h3⟩ := ih (by omega)
    unfold firstN
    by_cases hu : urgB (atI l (2 * i + 1 + k)) (atI l (firstN l i k)) = true
    · rw [if_pos hu]
      have hu' := urgB_iff.1 hu
      have hn := urg_no hu'
      refine ⟨.inr ⟨by unfold parN; omega, by omega, by omega, ?_⟩, noU_trans hn h2, fun j a b => ?_⟩
      · rcases h1 with e | ⟨_, _, _, e⟩
        · rw [e] at hu'; exact hu'
        · exact urgH_trans hu' e
      · by_cases e : j = 2 * i + 1 + k
        · rw [e]; exact noU_refl _
        · exact noU_trans hn (h3 j a (by omega))
    · rw [if_neg hu]
      rw [Bool.not_eq_true] at hu
      refine ⟨?_, h2, fun j a b => ?_⟩
      · rcases h1 with e | ⟨e1, e2, e3, e4⟩
        · exact .inl e
        · exact .inr ⟨e1, e2, by omega, e4⟩
      · by_cases e : j = 2 * i + 1 + k
        · rw [e]; exact urgB_not hu
        · exact h3 j a (by omega)
/-- How many children one has. -/
def kidsN (l : List It) (i : Nat) : Nat := min 2 (l.length - (2 * i + 1))
def firstF (l : List It) (i : Nat) : Nat := firstN l i (kidsN l i)
theorem firstF_is (l : List It) (i : Nat) (hi : i < l.length) : (firstF l i = i ∨ (parN (firstF l i) = i ∧ 0 < firstF l i ∧ firstF l i < l.length ∧ urgH (atI l (firstF l i)) (atI l i)))
      ∧ firstF l i < l.length ∧ ∀ j, 0 < j → j < l.length → parN j = i → noU (atI l (firstF l i)) (atI l j) := by
  obtain ⟨h1, h2, h3⟩ := first_is l i (kidsN l i) (by unfold kidsN; omega)
  have hf : firstF l i = firstN l i (kidsN l i) := rfl
  rw [hf]
  have hk : kidsN l i = min 2 (l.length - (2 * i + 1)) := rfl
  refine ⟨?_, ?_, fun j j0 hj hp => h3 j ?_ ?_⟩
  · rcases h1 with e | ⟨e1, e2, e3, e4⟩
    · exact .inl e
    · exact .inr ⟨e1, e2, by unfold parN at e1; omega, e4⟩
  · rcases h1 with e | ⟨e1, e2, e3, e4⟩
    · omega
    · unfold parN at e1; omega
  · unfold parN at hp; omega
  · unfold parN at hp; omega
theorem first_stop {l : List It} {i : Nat} (hi : i < l.length) (h : OrdDn l i) (he : firstF l i = i) : OrdH l := by
  obtain ⟨_, _, h3⟩ := firstF_is l i hi
  rw [he] at h3
  exact dn_done h h3
theorem first_go {l : List It} {i : Nat} (hi : i < l.length) (h : OrdDn l i) (he : firstF l i ≠ i) : i < firstF l i ∧ firstF l i < l.length ∧ OrdDn (swpI l i (firstF l i)) (firstF l i) := by
  obtain ⟨h1, h2, h3⟩ := firstF_is l i hi
  rcases h1 with e | ⟨e1, e2, e3, e4⟩
  · exact absurd e he
  · have := par_lt e2
    exact ⟨by omega, h2, dn_step h e2 h2 e1 h3 e4⟩
end Go.Proofs.Ytndmnlgancnbkaa

namespace Go.Proofs.Ytndmnlgancnbkaa
open Go.RowKit Go.Lib
set_option linter.unusedVariables false
set_option linter.unusedSimpArgs false
def B (l : List UInt8) : ByteArray := ⟨l.toArray⟩
def pk (c n : Int) : Int := if c < 0 then -((c + 1).tmod n) else c % n
def Tab (_ : World) : Prop := True
def Rel (w0 w : World) : Prop := Tab w0 ∧ Below w0.heap.size w0 w
theorem Rel.self {w0 w : World} (_ : Rel w0 w) : Rel w w := ⟨trivial, Below.refl _ _⟩
theorem Rel.trans {w0 w w' : World} (h : Rel w0 w) (h' : Rel w w') : Rel w0 w' := ⟨h.1, h.2.trans (h'.2.mono h.2.size)⟩
theorem Rel.size {w0 w : World} (h : Rel w0 w) : w0.heap.size ≤ w.heap.size := h.2.size
theorem Rel.start {w : World} (h : Tab w) : Rel w w := ⟨h, Below.refl _ _⟩
theorem Rel.step {w0 w w' : World} (h : Rel w0 w) (hb : Below w.heap.size w w') : Rel w0 w' := ⟨h.1, h.2.trans (hb.mono h.2.size)⟩
theorem Rel.alloc {w0 w : World} (h : Rel w0 w) (o : Obj) : Rel w0 (w.alloc o) := ⟨h.1, h.2.alloc h.2.size o⟩
theorem Rel.drew {w0 w : World} (h : Rel w0 w) : Rel w0 w.drew := ⟨h.1, h.2.drew⟩
theorem Rel.drewN {w0 w : World} (h : Rel w0 w) (n : Nat) : Rel w0 (w.drewN n) := ⟨h.1, ⟨h.2.os, h.2.tape, h.2.output, h.2.size, h.2.block⟩⟩
theorem Rel.setCell {w0 w : World} (h : Rel w0 w) {p : Addr} (hp : w0.heap.size ≤ p.block) (u : Value) : Rel w0 (w.setCell p u) := ⟨h.1, h.2.setCell hp u⟩
theorem Rel.grow {w0 w : World} (h : Rel w0 w) (os : Array Obj) : Rel w0 (Sort.grow w os) := by
  refine h.step ⟨rfl, rfl, rfl, ?_, fun k hk => ?_⟩
  · show w.heap.size ≤ (w.heap ++ os).size
    rw [Array.size_append]; omega
  · show (w.heap ++ os)[k]? = w.heap[k]?
    rw [Array.getElem?_append_left hk]
theorem ret_int {k : IntKind} {a b : Int} (h : a = b) : Ending.returned (.int k a) = .returned (.int k b) := by rw [h]
theorem tdt (p n : Int) (hn : 0 < n) : n * p.tdiv n + p.tmod n = p ∧ (0 ≤ p → 0 ≤ p.tmod n) ∧ (p ≤ 0 → p.tmod n ≤ 0) ∧ p.tmod n < n ∧ -n < p.tmod n := by
  refine ⟨Int.mul_tdiv_add_tmod p n, fun h => Int.tmod_nonneg n h, fun h => ?_, Int.tmod_lt_of_pos p hn, ?_⟩
  · have := Int.tmod_nonneg n (a := -p) (by omega)
    rw [Int.neg_tmod] at this; omega
  · have := Int.tmod_lt_of_pos (-p) hn
    rw [Int.neg_tmod] at this; omega
theorem pk_bd (c n : Int) (hn : 0 < n) : 0 ≤ pk c n ∧ pk c n < n := by
  unfold pk
  split
  · have := tdt (c + 1) n hn; omega
  · exact ⟨Int.emod_nonneg c (by omega), Int.emod_lt_of_pos c hn⟩
end Go.Proofs.Ytndmnlgancnbkaa

namespace Go.Proofs.Ytndmnlgancnbkaa
open Go.RowKit Go.Lib
set_option linter.unusedVariables false
set_option linter.unusedSimpArgs false
theorem blk_of_cell {w : World} {a : Addr} {v : Value} (h : w.cell? a = some v) : a.block < w.heap.size := by
  rcases Nat.lt_or_ge a.block w.heap.size with hn | hn
  · exact hn
  · simp [World.cell?, Array.getElem?_eq_none hn] at h
theorem block_add (a : Addr) (n : Nat) : (a.add n).block = a.block := by unfold Addr.add; split <;> rfl
/-- Block g is just these cells, none of them frozen. -/
def Bk (w : World) (g : Nat) (t : TypeId) (cs : Array Value) : Prop := w.heap[g]? = some (.cells cs t (0, 0))
theorem Bk.lt {w : World} {g : Nat} {t : TypeId} {cs : Array Value} (h : Bk w g t cs) : g < w.heap.size := by
  rcases Nat.lt_or_ge g w.heap.size with h' | h'
  · exact h'
  · unfold Bk at h; rw [Array.getElem?_eq_none h'] at h; cases h
theorem Bk.cell {w : World} {g : Nat} {t : TypeId} {cs : Array Value} (h : Bk w g t cs) (i : Nat) : w.cell? ⟨g, i, none⟩ = cs[i]? := cell_of_row w g i cs t (0, 0) h
theorem Bk.frozen {w : World} {g : Nat} {t : TypeId} {cs : Array Value} (h : Bk w g t cs) (i : Nat) : w.frozen? ⟨g, i, none⟩ = false := by
  unfold Bk at h; simp [World.frozen?, h]
theorem Bk.new (w : World) (t : TypeId) (cs : Array Value) : Bk (w.alloc (.cells cs t)) w.heap.size t cs := heap_alloc_new w _
theorem Bk.alloc {w : World} {g : Nat} {t : TypeId} {cs : Array Value} (h : Bk w g t cs) (o : Obj) : Bk (w.alloc o) g t cs := (Below.heap_alloc w o g h.lt).trans h
theorem Bk.set_ {w : World} {g : Nat} {t : TypeId} {cs : Array Value} (h : Bk w g t cs) (i : Nat) (u : Value) : Bk (w.setCell ⟨g, i, none⟩ u) g t (cs.setIfInBounds i u) := by
  unfold Bk at h ⊢
  simp [World.setCell, Array.getElem?_modify, h]
theorem Bk.far {w : World} {g : Nat} {t : TypeId} {cs : Array Value} (h : Bk w g t cs) {p : Addr} (hp : g ≠ p.block) (u : Value) : Bk (w.setCell p u) g t cs := (Below.heap_setCell w p u g hp).trans h
theorem Bk.rel {w w' : World} {g : Nat} {t : TypeId} {cs : Array Value} (h : Bk w g t cs) (hr : Rel w w') : Bk w' g t cs := (hr.2.block g h.lt).trans h
theorem Bk.grown {w w' : World} {g : Nat} {t : TypeId} {cs : Array Value} (h : Bk w g t cs) {row : Option Nat} (hb : w.grownBy w' row) (hg : some g ≠ row) : Bk w' g t cs := (hb.block g h.lt hg).trans h
theorem Bk.drew {w : World} {g : Nat} {t : TypeId} {cs : Array Value} (h : Bk w g t cs) : Bk w.drew g t cs := h
theorem Bk.ne {w : World} {g g' : Nat} {t t' : TypeId} {cs cs' : Array Value} (h : Bk w g t cs) (h' : Bk w g' t' cs') (hne : t ≠ t') : g ≠ g' := by
  rintro rfl
  unfold Bk at h h'
  rw [h] at h'
  injection h' with h'
  injection h' with _ ht
  exact hne ht
theorem own_ne {w : World} {base : Nat} {e : TypeId} {size n : Nat} {v : Value} {xs : List Value} {g : Nat} {t : TypeId} {cs : Array Value} (h : w.ownsRow base e size v n xs) (hg : Bk w g t cs) (hne : e ≠ t) : some g ≠ v.ownBlock := by
  rcases h.2 with ⟨rfl, _⟩ | ⟨g', cap, cur, rfl, _, hh, _⟩
  · simp [Value.ownBlock]
  · intro he
    have : g = g' := by simpa [Value.ownBlock] using he
    subst this
    exact Bk.ne (t := e) hh hg hne rfl
theorem Rel.grown {w0 w w' : World} (h : Rel w0 w) {row : Option Nat} (hg : w.grownBy w' row) (hr : ∀ k, row = some k → w0.heap.size ≤ k) : Rel w0 w' := ⟨h.1, Below.grown h.2 hg h.2.size hr⟩
theorem own_rel {w w' : World} {base : Nat} {e : TypeId} {size n : Nat} {v : Value} {xs : List Value} (h : w.ownsRow base e size v n xs) (hr : Rel w w') : w'.ownsRow base e size v n xs :=
  h.kept (row := none) ⟨hr.2.os, hr.2.tape, hr.2.output, hr.2.size, fun k hk _ => hr.2.block k hk⟩ (by cases v.ownBlock <;> simp)
theorem own_set {w : World} {base : Nat} {e : TypeId} {size n : Nat} {v : Value} {xs : List Value} (h : w.ownsRow base e size v n xs) {p : Addr} (hp : some p.block ≠ v.ownBlock) (u : Value) : (w.setCell p u).ownsRow base e size v n xs :=
  h.kept (row := some p.block) ⟨rfl, rfl, rfl, by simp, fun k hk hne => Below.heap_setCell w p u k (fun e => hne (by rw [e]))⟩ (by
    cases hv : v.ownBlock with
    | none => exact .inl rfl
    | some k => exact .inr (by rw [hv] at hp; exact Ne.symm hp))
/-- What a value that owns a row looks like. -/
theorem own_slice {w : World} {base : Nat} {e : TypeId} {size n : Nat} {v : Value} {xs : List Value} (h : w.ownsRow base e size v n xs) : ∃ A c, v = .slice A n c ∧ c ≤ maxLen := by
  rcases h.2 with ⟨rfl, rfl⟩ | ⟨g, cap, cur, rfl, _, _, _, hm, _⟩
  · exact ⟨none, 0, rfl, Nat.zero_le _⟩
  · exact ⟨_, cap, rfl, hm⟩
theorem own_zero {w : World} {base : Nat} {e : TypeId} {size n : Nat} {v : Value} {xs : List Value} (h : w.ownsRow base e size v n xs) : w.ownsRow 0 e size v n xs := by
  refine ⟨h.1, ?_⟩
  rcases h.2 with h0 | ⟨g, cap, cur, hv, _, hr⟩
  · exact .inl h0
  · exact .inr ⟨g, cap, cur, hv, Nat.zero_le _, hr⟩
theorem addr_at (g off k : Nat) : (⟨g, off, none⟩ : Addr).add k = ⟨g, off + k, none⟩ := by unfold Addr.add; split <;> simp_all
theorem Bk.two {w : World} {g : Nat} {t : TypeId} {x y : Value} (h : Bk w g t #[x, y]) :
    (w.cell? ⟨g, 0, none⟩ = some x ∧ w.cell? ⟨g, 1, none⟩ = some y) ∧ (w.frozen? ⟨g, 0, none⟩ = false ∧ w.frozen? ⟨g, 1, none⟩ = false) :=
  ⟨⟨h.cell 0, h.cell 1⟩, ⟨h.frozen 0, h.frozen 1⟩⟩
theorem Bk.put {w : World} {g : Nat} {t : TypeId} {x y : Value} (h : Bk w g t #[x, y]) (a b : Value) : Bk ((w.setCell ⟨g, 0, none⟩ a).setCell ⟨g, 1, none⟩ b) g t #[a, b] :=
  (h.set_ 0 a).set_ 1 b
end Go.Proofs.Ytndmnlgancnbkaa

namespace Go.Proofs.Ytndmnlgancnbkaa
open Go.RowKit Go.Lib
set_option linter.unusedVariables false
set_option linter.unusedSimpArgs false
section
variable {α : Type} {cl : α → List Value} {k : Nat}
theorem flat_len (hk : ∀ x, (cl x).length = k) (xs : List α) : (xs.flatMap cl).length = xs.length * k := by
  induction xs with
  | nil => simp
  | cons e t ih => rw [List.flatMap_cons, List.length_append, ih, hk, List.length_cons, Nat.succ_mul]; omega
theorem flat_at (hk : ∀ x, (cl x).length = k) (xs : List α) (i : Nat) (h : i < xs.length) (j : Nat) (hj : j < k) : (xs.flatMap cl)[i * k + j]? = (cl xs[i])[j]? := by
  induction xs generalizing i with
  | nil => simp at h
  | cons e t ih =>
    rw [List.flatMap_cons]
    cases i with
    | zero => rw [Nat.zero_mul, Nat.zero_add, List.getElem?_append_left (by rw [hk]; exact hj)]; rfl
    | succ i =>
      rw [List.getElem?_append_right (by rw [hk, Nat.succ_mul]; omega), hk, show (i + 1) * k + j - k = i * k + j by rw [Nat.succ_mul]; omega]
      exact ih i (by simpa using h)
/-- The cells from A on are these elements'. -/
def RowAt (cl : α → List Value) (k : Nat) (w : World) (A : Option Addr) (xs : List α) : Prop :=
  ∀ i (h : i < xs.length), ∃ (g off : Nat), A = some ⟨g, off, none⟩ ∧ g < w.heap.size ∧ ∀ j, j < k → w.cell? ⟨g, off + i * k + j, none⟩ = (cl xs[i])[j]?
theorem RowAt.nil (w : World) (A : Option Addr) : RowAt cl k w A [] := fun i h => absurd h (by simp)
theorem RowAt.below {w w' : World} {A : Option Addr} {xs : List α} (h : RowAt cl k w A xs) (hb : Below w.heap.size w w') : RowAt cl k w' A xs := by
  intro i hi
  obtain ⟨g, off, e, hl, h0⟩ := h i hi
  exact ⟨g, off, e, by have := hb.size; omega, fun j hj => (hb.cell (p := ⟨g, off + i * k + j, none⟩) hl).trans (h0 j hj)⟩
theorem RowAt.rel {w w' : World} {A : Option Addr} {xs : List α} (h : RowAt cl k w A xs) (hr : Rel w w') : RowAt cl k w' A xs := h.below hr.2
theorem RowAt.take {w : World} {A : Option Addr} {xs : List α} (h : RowAt cl k w A xs) (n : Nat) : RowAt cl k w A (xs.take n) := by
  intro i hi
  rw [List.length_take] at hi
  obtain ⟨g, off, e, hl, h0⟩ := h i (by omega)
  exact ⟨g, off, e, hl, fun j hj => by rw [List.getElem_take]; exact h0 j hj⟩
theorem RowAt.from {w : World} {g off : Nat} {xs : List α} (h : RowAt cl k w (some ⟨g, off, none⟩) xs) (n : Nat) : RowAt cl k w (some ⟨g, off + n * k, none⟩) (xs.drop n) := by
  intro i hi
  rw [List.length_drop] at hi
  obtain ⟨g', off', e, hl, h0⟩ := h (n + i) (by omega)
  injection e with e
  injection e with e1 e2
  subst e1; subst e2
  refine ⟨g, off + n * k, rfl, hl, fun j hj => ?_⟩
  rw [List.getElem_drop, show off + n * k + i * k + j = off + (n + i) * k + j by rw [Nat.add_mul]; omega]
  exact h0 j hj
theorem RowAt.of_bk (hk : ∀ x, (cl x).length = k) {T : TypeId} {w : World} {g : Nat} {xs : List α} (h : Bk w g T (xs.flatMap cl).toArray) : RowAt cl k w (some ⟨g, 0, none⟩) xs := by
  intro i hi
  refine ⟨g, 0, rfl, h.lt, fun j hj => ?_⟩
  rw [Nat.zero_add, h.cell, List.getElem?_toArray, flat_at hk xs i hi j hj]
/-- A row of the call's own. -/
def RowOwn (T : TypeId) (cl : α → List Value) (k : Nat) (w : World) (base : Nat) (v : Value) (xs : List α) : Prop := w.ownsRow base T k v xs.length (xs.flatMap cl)
theorem RowOwn.row {T : TypeId} {w : World} {base : Nat} {v : Value} {xs : List α} (h : RowOwn T cl k w base v xs) : w.ownsRow base T k v xs.length (xs.flatMap cl) := h
theorem RowOwn.nil (T : TypeId) (w : World) (base : Nat) : RowOwn T cl k w base (.slice none 0 0) [] := World.ownsRow_nil _ _ _ _
theorem RowOwn.rel {T : TypeId} {w w' : World} {base : Nat} {v : Value} {xs : List α} (h : RowOwn T cl k w base v xs) (hr : Rel w w') : RowOwn T cl k w' base v xs := own_rel h hr
theorem RowOwn.slice_of {T : TypeId} {w : World} {base : Nat} {v : Value} {xs : List α} (h : RowOwn T cl k w base v xs) : ∃ A c, v = .slice A xs.length c ∧ c ≤ maxLen := own_slice h.row
theorem RowOwn.at {T : TypeId} (hk : ∀ x, (cl x).length = k) {w : World} {base : Nat} {A : Option Addr} {n c : Nat} {xs : List α} (h : RowOwn T cl k w base (.slice A n c) xs) (hn : n = xs.length) : RowAt cl k w A xs := by
  intro i hi
  rcases h.2 with ⟨h0, h1⟩ | ⟨g, cap, cur, hv, hb, hh, _⟩
  · omega
  · have hA : A = some ⟨g, 0, none⟩ := by injection hv
    have hc := h.row.cells (g := g) (by rw [hA]; rfl)
    refine ⟨g, 0, hA, Bk.lt (t := T) hh, fun j hj => ?_⟩
    have hlt : j < (cl xs[i]).length := by rw [hk]; exact hj
    have e := flat_at hk xs i hi j hj
    rw [List.getElem?_eq_getElem hlt] at e ⊢
    have q := hc _ _ e
    rw [addr_at, Nat.zero_add] at q
    rw [Nat.zero_add]; exact q
theorem flat_snoc (xs : List α) (x : α) : (xs ++ [x]).flatMap cl = xs.flatMap cl ++ cl x := by simp
/-- Behind an append of one. -/
theorem RowOwn.more {T : TypeId} {w1 : World} {base g cap n : Nat} {xs : List α} {x : α} (hn : xs.length = n) (h : w1.ownsRow base T k (.slice (some ⟨g, 0, none⟩) (n + 1) cap) (n + 1) (xs.flatMap cl ++ cl x)) : RowOwn T cl k w1 base (.slice (some ⟨g, 0, none⟩) (n + 1) cap) (xs ++ [x]) := by
  subst hn
  unfold RowOwn
  rw [flat_snoc, show (xs ++ [x]).length = xs.length + 1 by simp]; exact h
/-- Behind a copy onto nothing: append(nil, xs...). -/
theorem RowOwn.copied {T : TypeId} {w1 : World} {base g cap n : Nat} {xs : List α} (hn : xs.length = n) (h : w1.ownsRow base T k (.slice (some ⟨g, 0, none⟩) (0 + n) cap) (0 + n) ([] ++ xs.flatMap cl)) : RowOwn T cl k w1 base (.slice (some ⟨g, 0, none⟩) n cap) xs := by
  subst hn
  rw [Nat.zero_add, List.nil_append] at h
  exact h
end
end Go.Proofs.Ytndmnlgancnbkaa

namespace Go.Proofs.Ytndmnlgancnbkaa
open Go.RowKit Go.Lib
set_option linter.unusedVariables false
set_option linter.unusedSimpArgs false
/-- All blocks but those of S are as they were. -/
structure Ke (S : Nat → Prop) (w w' : World) : Prop where
  os : w'.os = w.os
  tape : w'.tape = w.tape
  output : w'.output = w.output
  size : w.heap.size ≤ w'.heap.size
  block : ∀ k, k < w.heap.size → ¬ S k → w'.heap[k]? = w.heap[k]?
section
variable {S S' : Nat → Prop} {w0 w w' w'' : World}
theorem Ke.refl (S : Nat → Prop) (w : World) : Ke S w w := ⟨rfl, rfl, rfl, Nat.le_refl _, fun _ _ _ => rfl⟩
theorem Ke.of_rel (h : Rel w w') : Ke S w w' := ⟨h.2.os, h.2.tape, h.2.output, h.2.size, fun k hk _ => h.2.block k hk⟩
/-- S grows by new blocks alone. -/
def Gr (w : World) (S S' : Nat → Prop) : Prop := ∀ k, S' k → S k ∨ w.heap.size ≤ k
theorem Gr.refl (w : World) (S : Nat → Prop) : Gr w S S := fun _ h => .inl h
theorem Gr.trans {S'' : Nat → Prop} (hs : w.heap.size ≤ w'.heap.size) (h : Gr w S S') (h' : Gr w' S' S'') : Gr w S S'' := fun k hk => by
  rcases h' k hk with q | q
  · exact h k q
  · exact .inr (Nat.le_trans hs q)
theorem Ke.trans (h : Ke S w w') (hg : Gr w S S') (h' : Ke S' w' w'') : Ke S w w'' :=
  ⟨h'.os.trans h.os, h'.tape.trans h.tape, h'.output.trans h.output, Nat.le_trans h.size h'.size, fun k hk hn =>
    (h'.block k (Nat.lt_of_lt_of_le hk h.size) (fun e => (hg k e).elim hn (fun q => Nat.not_le_of_lt hk q))).trans (h.block k hk hn)⟩
theorem Ke.rel (h : Ke S w w') (hr : Rel w0 w) (hS : ∀ k, S k → w0.heap.size ≤ k) : Rel w0 w' :=
  ⟨hr.1, ⟨h.os.trans hr.2.os, h.tape.trans hr.2.tape, h.output.trans hr.2.output, Nat.le_trans hr.2.size h.size, fun k hk =>
    (h.block k (Nat.lt_of_lt_of_le hk hr.2.size) (fun e => Nat.not_le_of_lt hk (hS k e))).trans (hr.2.block k hk)⟩⟩
theorem Ke.bk (h : Ke S w w') {g : Nat} {t : TypeId} {cs : Array Value} (hb : Bk w g t cs) (hg : ¬ S g) : Bk w' g t cs := (h.block g hb.lt hg).trans hb
/-- A row that is not of S. -/
theorem Ke.row (h : Ke S w w') {α : Type} {cl : α → List Value} {k : Nat} {A : Option Addr} {xs : List α} (hr : RowAt cl k w A xs) (hA : ∀ a, A = some a → ¬ S a.block) : RowAt cl k w' A xs := by
  intro i hi
  obtain ⟨g, off, e, hl, hc⟩ := hr i hi
  have hb := h.block g hl (hA _ e)
  refine ⟨g, off, e, Nat.lt_of_lt_of_le hl h.size, fun j hj => ?_⟩
  rw [World.cell?_of_block (w := w) (a := ⟨g, off + i * k + j, none⟩) hb]
  exact hc j hj
end
abbrev clH (x : It) : List Value := [.int .i64 x.1, .int .i64 x.2]
theorem clH_len (x : It) : (clH x).length = 2 := rfl
theorem clH_one (x : It) : ∀ u ∈ clH x, u.oneCell' = true := by
  intro u hu
  simp only [clH, List.mem_cons, List.not_mem_nil, or_false] at hu
  rcases hu with rfl | rfl <;> rfl
/-- The item that is told; nothing: zeros. -/
def itH (o : Option It) : It := o.getD (0, 0)
end Go.Proofs.Ytndmnlgancnbkaa

namespace Go.Proofs.Ytndmnlgancnbkaa
open Go.RowKit Go.Lib
open Go.Maps (Keyed IsMap)
set_option linter.unusedVariables false
set_option linter.unusedSimpArgs false
/-- How a value is told as a datum: as itself. -/
def HeldV (v : Value) : Option (DataW Value × List MemPlace) := some (.held v, [])
def vI (x : Int) : Value := .int .i64 x
/-- Block b is a map of n entries: f. -/
def PlAt (w : World) (b : Nat) (f : Int → Option Int) (n : Nat) : Prop :=
  ∃ D : DataW Value, w.ownsMap Try.prog 3 HeldV b n D ∧ Maps.size D = n ∧ ∀ k : Int, Maps.has D (.int .i64 k) = (f k).isSome ∧ ∀ z, D.atKey (.int .i64 k) z = match f k with | some v => .held (vI v) | none => z
theorem int_key : Keyed Try.prog 3 := Maps.int_keyed Try.underlying3
theorem key_lit (k : Int) : WideAt.IsKeyLit (.int .i64 k) := by simp [WideAt.IsKeyLit]
theorem PlAt.made (w : World) : PlAt (w.alloc (.map #[] 0)) w.heap.size (posf []) 0 :=
  ⟨_, World.ownsMap_made _ _ _ _, rfl, fun _ => ⟨rfl, fun _ => rfl⟩⟩
theorem PlAt.lt {w : World} {b n : Nat} {f : Int → Option Int} (h : PlAt w b f n) : b < w.heap.size := by obtain ⟨D, h, _⟩ := h; exact h.lt
theorem PlAt.blk {w w' : World} {b n : Nat} {f : Int → Option Int} (h : PlAt w b f n) (hb : w'.heap[b]? = w.heap[b]?) : PlAt w' b f n := by
  obtain ⟨D, ⟨es, clock, h1, h2⟩, h3⟩ := h
  exact ⟨D, ⟨es, clock, hb.trans h1, h2⟩, h3⟩
theorem PlAt.rel {w w' : World} {b n : Nat} {f : Int → Option Int} (h : PlAt w b f n) (hr : Rel w w') : PlAt w' b f n := h.blk (hr.2.block b h.lt)
theorem PlAt.alloc {w : World} {b n : Nat} {f : Int → Option Int} (h : PlAt w b f n) (o : Obj) : PlAt (w.alloc o) b f n := h.blk (Below.heap_alloc w o b h.lt)
theorem PlAt.drew {w : World} {b n : Nat} {f : Int → Option Int} (h : PlAt w b f n) : PlAt w.drew b f n := h
theorem PlAt.set {w : World} {b n : Nat} {f : Int → Option Int} (h : PlAt w b f n) {p : Addr} (hp : b ≠ p.block) (u : Value) : PlAt (w.setCell p u) b f n := h.blk (Below.heap_setCell w p u b hp)
theorem PlAt.ne {w : World} {b n g : Nat} {f : Int → Option Int} {t : TypeId} {cs : Array Value} (h : PlAt w b f n) (hb : Bk w g t cs) : b ≠ g := by
  obtain ⟨D, ⟨es, clock, hm, _⟩, _⟩ := h
  rintro rfl
  unfold Bk at hb
  rw [hb] at hm; cases hm
theorem PlAt.ne_own {w : World} {b n : Nat} {f : Int → Option Int} (h : PlAt w b f n) {base : Nat} {e : TypeId} {size k : Nat} {v : Value} {xs : List Value} (ho : w.ownsRow base e size v k xs) : some b ≠ v.ownBlock := by
  rcases ho.2 with ⟨rfl, _⟩ | ⟨g', cap, cur, rfl, _, hh, _⟩
  · simp [Value.ownBlock]
  · intro he
    have : b = g' := by simpa [Value.ownBlock] using he
    exact h.ne (show Bk w g' e cur from hh) this
theorem PlAt.put {w : World} {b n : Nat} {f : Int → Option Int} (h : PlAt w b f n) (hn : n < maxLen) {k v : Int} (hk : (Lit.int .i64 k).wf = true) :
    ∃ w', (Instr.mapUpdate 75 (.map (some b)) (.int .i64 k) (.int .i64 v)).run Try.prog w = .ok () w' ∧ PlAt w' b (upf f k v) (if (f k).isSome then n else n + 1) ∧ w.grownBy w' (some b) := by
  obtain ⟨D, h, hs, h2⟩ := h
  obtain ⟨w', h3, h4, h5⟩ := h.update (e := 3) (t := 75) (d := .held (vI v)) (ps := []) int_key Try.underlying75 hn (Maps.keyOf_int_mk Try.underlying3 hk) rfl
  have hsz : Maps.size (D.put (.int .i64 k) (.held (vI v))) = if (f k).isSome then n else n + 1 := by
    rw [Maps.size_put (h.tidy int_key), (h2 k).1, hs]
  refine ⟨w', h3, ⟨_, ?_, hsz, fun j => ?_⟩, h5⟩
  · obtain ⟨es, clock, a1, a2, a3, a4⟩ := h4
    refine ⟨es, clock, a1, a2, ?_, a4⟩
    rw [← hsz, a4]
    rw [Maps.size_eq, Go.length_read]
    exact Nat.le_refl _
  · unfold upf
    by_cases e : j = k
    · subst e
      rw [if_pos rfl]
      exact ⟨by rw [Maps.has_put_same h.isMap (key_lit _)]; rfl, fun z => Maps.atKey_put_same h.isMap (key_lit _) _ _⟩
    · rw [if_neg e]
      have hne : (Lit.int .i64 j) ≠ .int .i64 k := fun h => e (by injection h)
      exact ⟨by rw [Maps.has_put_other hne]; exact (h2 j).1, fun z => by rw [Maps.atKey_put_other hne]; exact (h2 j).2 z⟩
theorem PlAt.del {w : World} {b n : Nat} {f : Int → Option Int} (h : PlAt w b f n) {k : Int} (hk : (Lit.int .i64 k).wf = true) (hh : (f k).isSome = true) (ty : TypeId) :
    ∃ w', (Builtin.delete_ #[75, 3] ty #[.map (some b), .int .i64 k]).run Try.prog w = .ok (.tuple #[]) w' ∧ PlAt w' b (dlf f k) (n - 1) ∧ w.grownBy w' (some b) := by
  obtain ⟨D, h, hs, h2⟩ := h
  obtain ⟨w', h3, h4, h5⟩ := h.drop (e := 3) (t := 75) int_key Try.underlying75 (Maps.keyOf_int_mk Try.underlying3 hk) ty
  have hsz : Maps.size (D.del (.int .i64 k)) = n - 1 := by
    have := Maps.size_del (h.tidy int_key) (k := .int .i64 k)
    rw [(h2 k).1, hh, if_pos rfl] at this
    omega
  refine ⟨w', h3, ⟨_, ?_, hsz, fun j => ?_⟩, h5.grown⟩
  · obtain ⟨es, clock, a1, a2, a3, a4⟩ := h4
    refine ⟨es, clock, a1, a2, ?_, a4⟩
    rw [← hsz, a4]
    rw [Maps.size_eq, Go.length_read]
    exact Nat.le_refl _
  · unfold dlf
    by_cases e : j = k
    · subst e
      rw [if_pos rfl]
      exact ⟨by rw [Maps.has_del_same]; rfl, fun z => Maps.atKey_del_same z⟩
    · rw [if_neg e]
      have hne : (Lit.int .i64 j) ≠ .int .i64 k := fun h => e (by injection h)
      exact ⟨by rw [Maps.has_del_other hne]; exact (h2 j).1, fun z => by rw [Maps.atKey_del_other hne]; exact (h2 j).2 z⟩
set_option maxRecDepth 100000 in
theorem PlAt.look {w : World} {b n : Nat} {f : Int → Option Int} (h : PlAt w b f n) {k : Int} (hk : (Lit.int .i64 k).wf = true) :
    (Instr.lookup 75 (.map (some b)) (.int .i64 k) true).run Try.prog w = .ok (.tuple #[.int .i64 ((f k).getD 0), .bool (f k).isSome]) w := by
  obtain ⟨D, h, hs, h2⟩ := h
  obtain ⟨v, ps, h3, h4⟩ := h.look_ok (e := 3) (t := 75) (z := .int .i64 0) (zd := .held (.int .i64 0)) (zp := []) int_key Try.underlying75 rfl rfl (Maps.keyOf_int_mk Try.underlying3 hk)
  rw [h3, (h2 k).1]
  rw [(h2 k).2] at h4
  unfold HeldV at h4
  cases hl : f k with
  | none => rw [hl] at h4; have h5 := congrArg Prod.fst (Option.some.inj h4); rw [DataW.held.inj h5]; rfl
  | some u => rw [hl] at h4; have h5 := congrArg Prod.fst (Option.some.inj h4); rw [DataW.held.inj h5]; rfl
/-- 'm[k] = v' and 'delete(m, k)', at the operation. -/
theorem wp_place (w : World) {ops : Array Oper} {rest : List Oper} {o : Oper} {a : Act} {Q : Exit → Act → World → Prop}
    (hg : o.guard = none) (m x v : Operand) (hop : o.op = Op.mapUpdate 75 m x v) (b n : Nat) (f : Int → Option Int)
    (hm : a.eval m = .map (some b)) (hown : PlAt w b f n) (hn : n < maxLen) (k y : Int) (hx : a.eval x = .int .i64 k) (hwk : (Lit.int .i64 k).wf = true) (hv : a.eval v = .int .i64 y)
    (hK : ∀ w', PlAt w' b (upf f k y) (if (f k).isSome then n else n + 1) → w.grownBy w' (some b) → wpList Try.prog ops Q rest (a.put o.dst undef) w') :
    wpList Try.prog ops Q (o :: rest) a w := by
  refine wpList_plain hg fun K' hK' => ?_
  obtain ⟨w', hrun, r1, r2⟩ := hown.put hn (v := y) hwk
  unfold Oper.wp
  simp [execOp, hop, hm, hx, hv, hrun, Result.andThen]
  exact hK' _ _ (hK w' r1 r2)
theorem wp_unplace (w : World) {ops : Array Oper} {rest : List Oper} {o : Oper} {a : Act} {Q : Exit → Act → World → Prop}
    (hg : o.guard = none) (m x : Operand) (hop : o.op = Op.call { callee := Callee.builtin Builtin.delete, args := #[m, x], argTypes := #[75, 3] }) (b n : Nat) (f : Int → Option Int)
    (hm : a.eval m = .map (some b)) (hown : PlAt w b f n) (k : Int) (hx : a.eval x = .int .i64 k) (hwk : (Lit.int .i64 k).wf = true) (hh : (f k).isSome = true)
    (hK : ∀ w', PlAt w' b (dlf f k) (n - 1) → w.grownBy w' (some b) → wpList Try.prog ops Q rest (a.put o.dst (.tuple #[])) w') :
    wpList Try.prog ops Q (o :: rest) a w := by
  refine wpList_plain hg fun K' hK' => ?_
  obtain ⟨w', hrun, r1, r2⟩ := hown.del hwk hh o.type
  unfold Oper.wp
  simp [execOp, hop, resolve, invoke, builtin, hm, hx, hrun, Result.andThen]
  exact hK' _ _ (hK w' r1 r2)
end Go.Proofs.Ytndmnlgancnbkaa

namespace Go.Proofs.Ytndmnlgancnbkaa
open Go.RowKit Go.Lib
set_option linter.unusedVariables false
set_option linter.unusedSimpArgs false
def cells4 (t : Tok) : List Value := [.int .i64 t.1, .string (B t.2.1), .int .i64 t.2.2.1, .int .i64 t.2.2.2]
def cellsOf (ts : List Tok) : List Value := ts.flatMap cells4
/-- The cells from A on are these tokens. -/
def ToksAt (w : World) (A : Option Addr) (ts : List Tok) : Prop :=
  ∀ i (h : i < ts.length), ∃ (g off : Nat), A = some ⟨g, off, none⟩ ∧ g < w.heap.size ∧ w.cell? ⟨g, off + i * 4, none⟩ = some (.int .i64 ts[i].1) ∧ w.cell? ⟨g, off + i * 4 + 1, none⟩ = some (.string (B ts[i].2.1)) ∧
    w.cell? ⟨g, off + i * 4 + 2, none⟩ = some (.int .i64 ts[i].2.2.1) ∧ w.cell? ⟨g, off + i * 4 + 3, none⟩ = some (.int .i64 ts[i].2.2.2)
theorem ToksAt.nil (w : World) (A : Option Addr) : ToksAt w A [] := fun i h => absurd h (by simp)
theorem ToksAt.below {w w' : World} {A : Option Addr} {ts : List Tok} (h : ToksAt w A ts) (hb : Below w.heap.size w w') : ToksAt w' A ts := by
  intro i hi
  obtain ⟨g, off, e, hl, h0, h1, h2, h3⟩ := h i hi
  have hk : ∀ j, w'.cell? ⟨g, j, none⟩ = w.cell? ⟨g, j, none⟩ := fun j => hb.cell (p := ⟨g, j, none⟩) hl
  exact ⟨g, off, e, by have := hb.size; omega, by rw [hk]; exact h0, by rw [hk]; exact h1, by rw [hk]; exact h2, by rw [hk]; exact h3⟩
theorem ToksAt.rel {w w' : World} {A : Option Addr} {ts : List Tok} (h : ToksAt w A ts) (hr : Rel w w') : ToksAt w' A ts := h.below hr.2
/-- The cells from A on are these pairs of numbers. -/
def PairsAt (w : World) (A : Option Addr) (zs : List (Int × Int)) : Prop :=
  ∀ i (h : i < zs.length), ∃ (a : Addr), A = some a ∧ a.block < w.heap.size ∧ w.cell? (a.add (i * 2)) = some (.int .i64 zs[i].1) ∧ w.cell? (a.add (i * 2 + 1)) = some (.int .i64 zs[i].2)
theorem PairsAt.below {w w' : World} {A : Option Addr} {zs : List (Int × Int)} (h : PairsAt w A zs) (hb : Below w.heap.size w w') : PairsAt w' A zs := by
  intro i hi
  obtain ⟨a, e, hl, h0, h1⟩ := h i hi
  have hk : ∀ j, w'.cell? (a.add j) = w.cell? (a.add j) := fun j => hb.cell (p := a.add j) (by rw [block_add]; exact hl)
  exact ⟨a, e, by have := hb.size; omega, by rw [hk]; exact h0, by rw [hk]; exact h1⟩
theorem PairsAt.rel {w w' : World} {A : Option Addr} {zs : List (Int × Int)} (h : PairsAt w A zs) (hr : Rel w w') : PairsAt w' A zs := h.below hr.2
end Go.Proofs.Ytndmnlgancnbkaa

namespace Go.Proofs.Ytndmnlgancnbkaa
open Go.Lib
set_option linter.unusedVariables false
set_option linter.unusedSimpArgs false
/-- An expression: kind, number, name, arguments. -/
inductive Ex where
  | mk (k n : Int) (nm : List UInt8) (l : List Ex)
def Ex.k : Ex → Int | .mk k _ _ _ => k
def Ex.n : Ex → Int | .mk _ n _ _ => n
def Ex.nm : Ex → List UInt8 | .mk _ _ nm _ => nm
def Ex.l : Ex → List Ex | .mk _ _ _ l => l
mutual
def size : Ex → Nat
  | .mk _ _ _ l => 1 + sizes l
def sizes : List Ex → Nat
  | [] => 0
  | x :: t => size x + sizes t
end
end Go.Proofs.Ytndmnlgancnbkaa
