/- Plain mathematics of layer 7, fourth part: what the law makes of raw numbers. -/
import Derived.Test.YtlflfffjaodhpaaDoorTreeMathC
import Derived.Test.YtlflfffjaodhpaaDoorLexBase
namespace Go.Proofs.YtlflfffjaodhpaaDoor
open Go.RowKit Go.Lib
set_option linter.unusedVariables false
set_option linter.unusedSimpArgs false

/-- One number of the raw ones, below n; 0 behind the last one. -/
def nx (n : Int) : List Int → Int × List Int
  | [] => (0, [])
  | c :: t => (pk c n, t)
theorem nx_bd (n : Int) (h : 0 < n) (L : List Int) : 0 ≤ (nx n L).1 ∧ (nx n L).1 < n := by
  cases L with
  | nil => exact ⟨Int.le_refl _, h⟩
  | cons c t => exact pk_bd c n h
/-- The first i arguments of a kind, made one behind the other. -/
def upto (f : Bool → List Int → Ex × List Int) (k : Int) : Nat → List Int → List Ex × List Int
  | 0, L => ([], L)
  | i + 1, L => ((upto f k i L).1 ++ [(f (decide (k = 10) && decide (i = 0)) (upto f k i L).2).1], (f (decide (k = 10) && decide (i = 0)) (upto f k i L).2).2)
/-- The kind that is picked. -/
def kindOf (d : Nat) (v : Int) : Int := if d = 0 then 1 + (1 + v) % 4 else 1 + v
/-- Numbers and name, behind the arguments. -/
def fill (k : Int) (a : List Ex × List Int) : Ex × List Int :=
  if k = 3 then (.mk k 0 (sellerL (pk (nx 60 a.2).1 60)) a.1, (nx 60 a.2).2)
  else if k = 4 ∨ k = 5 then (.mk k (nx 3000 a.2).1 [] a.1, (nx 3000 a.2).2)
  else if k = 6 then (.mk k (nx 12000 a.2).1 [] a.1, (nx 12000 a.2).2)
  else (.mk k 0 [] a.1, a.2)
def gen : Nat → Bool → List Int → Ex × List Int
  | 0, _, L => (.mk 0 0 [] [], L)
  | d + 1, true, L =>
    if d = 0 then (.mk 11 (nx 7 L).1 [] [], (nx 7 L).2)
    else if (nx 2 L).1 = 0 then (.mk 11 (nx 7 (nx 2 L).2).1 [] [], (nx 7 (nx 2 L).2).2)
    else (.mk 12 0 [] [(gen d false (nx 2 L).2).1, (gen d false (gen d false (nx 2 L).2).2).1], (gen d false (gen d false (nx 2 L).2).2).2)
  | d + 1, false, L => fill (kindOf d (nx 10 L).1) (upto (gen d) (kindOf d (nx 10 L).1) (argsN (kindOf d (nx 10 L).1)).toNat (nx 10 L).2)
/-- A strategy of raw numbers. -/
def strat (L : List Int) : Ex := (gen 5 false (L.take 100)).1
theorem upto_len (f : Bool → List Int → Ex × List Int) (k : Int) (i : Nat) (L : List Int) : (upto f k i L).1.length = i := by
  induction i with
  | zero => rfl
  | succ i ih => simp only [upto, List.length_append, List.length_cons, List.length_nil]; omega
theorem upto_all {P : Nat → Ex → Prop} (f : Bool → List Int → Ex × List Int) (k : Int) (i : Nat) (L : List Int) (h : ∀ j < i, ∀ L, P j (f (decide (k = 10) && decide (j = 0)) L).1) : ∀ j (hj : j < (upto f k i L).1.length), P j ((upto f k i L).1[j]) := by
  induction i with
  | zero => intro j hj; simp [upto] at hj
  | succ i ih =>
    intro j hj
    have hl := upto_len f k i L
    simp only [upto] at hj ⊢
    rcases Nat.lt_or_ge j (upto f k i L).1.length with h1 | h1
    · rw [List.getElem_append_left h1]
      exact ih (fun j hj L => h j (by omega) L) j h1
    · rw [List.length_append, List.length_cons, List.length_nil] at hj
      obtain rfl : j = i := by omega
      rw [List.getElem_append_right h1]
      simp only [hl, Nat.sub_self, List.getElem_cons_zero]
      exact h j (by omega) _
theorem kind_bd (d : Nat) (L : List Int) : 1 ≤ kindOf d (nx 10 L).1 ∧ kindOf d (nx 10 L).1 ≤ 10 ∧ (d = 0 → kindOf d (nx 10 L).1 ≤ 4) := by
  have := nx_bd 10 (by omega) L
  unfold kindOf
  split
  · refine ⟨?_, ?_, fun _ => ?_⟩ <;> omega
  · refine ⟨?_, ?_, fun h => absurd h ‹_›⟩ <;> omega
theorem seller_name (u : Int) (h0 : 0 ≤ u) (h1 : u < 60) : isName (sellerL u) = true := by
  rw [seller_eq u h0 h1]
  have : ∀ i : Fin 60, isName ((theNames.getD (i.val % 6) []) ++ [UInt8.ofNat (48 + i.val / 6)]) = true := by decide
  exact this ⟨u.toNat, by omega⟩
theorem pk_id {u n : Int} (h0 : 0 ≤ u) (h1 : u < n) : pk u n = u := by
  unfold pk; rw [if_neg (by omega)]; exact Int.emod_eq_of_lt h0 h1
theorem args_nat {k : Int} (h1 : 1 ≤ k) (h2 : k ≤ 12) : argsN k = ((argsN k).toNat : Int) := by
  have : 0 ≤ argsN k := by
    unfold argsN
    split
    · omega
    · split
      · omega
      · split
        · omega
        · split <;> omega
  omega
/-- What is made may be, is a condition just where one is asked for, and is so deep at the most. -/
theorem gen_fine : ∀ (d : Nat) (c : Bool) (L : List Int), fine (d + 1) (gen (d + 1) c L).1 = true ∧ isCond (gen (d + 1) c L).1.k = c := by
  intro d
  induction d with
  | zero =>
    intro c L
    cases c with
    | true =>
      have := nx_bd 7 (by omega) L
      simp only [gen, if_pos]
      exact ⟨fine_mk (by decide) ⟨by omega, by show _ ≤ (1000 : Int); omega⟩ (by simp) (by simp) (fun i hi => absurd hi (by simp)), rfl⟩
    | false =>
      obtain ⟨b1, b2, b3⟩ := kind_bd 0 L
      obtain ⟨k, hk⟩ : ∃ k, kindOf 0 (nx 10 L).1 = k := ⟨_, rfl⟩
      simp only [gen]
      rw [hk] at b1 b2 b3 ⊢
      have b4 := b3 rfl
      have a0 : argsN k = 0 := by
        have : k = 1 ∨ k = 2 ∨ k = 3 ∨ k = 4 := by omega
        rcases this with rfl | rfl | rfl | rfl <;> decide
      rw [a0]
      have n60 := nx_bd 60 (by omega) (nx 10 L).2
      have n3 := nx_bd 3000 (by omega) (nx 10 L).2
      have : k = 1 ∨ k = 2 ∨ k = 3 ∨ k = 4 := by omega
      rcases this with rfl | rfl | rfl | rfl
      · exact ⟨fine_mk (show argsN 1 = ((0 : Nat) : Int) by decide) (by decide) (by simp) (by simp) (fun i hi => absurd hi (by simp [upto])), rfl⟩
      · exact ⟨fine_mk (show argsN 2 = ((0 : Nat) : Int) by decide) (by decide) (by simp) (by simp) (fun i hi => absurd hi (by simp [upto])), rfl⟩
      · have hn := seller_name (pk (nx 60 (nx 10 L).2).1 60) (by rw [pk_id n60.1 n60.2]; omega) (by rw [pk_id n60.1 n60.2]; omega)
        exact ⟨fine_mk (show argsN 3 = ((0 : Nat) : Int) by decide) (by decide) (by simp only [iff_true]; exact (name_parts hn).1) (fun _ => hn) (fun i hi => absurd hi (by simp [upto])), rfl⟩
      · exact ⟨fine_mk (show argsN 4 = ((0 : Nat) : Int) by decide) ⟨n3.1, Int.le_of_lt (Int.lt_trans n3.2 (by decide))⟩ (by simp) (by simp) (fun i hi => absurd hi (by simp [upto])), rfl⟩
  | succ d ih =>
    intro c L
    cases c with
    | true =>
      have h7 := nx_bd 7 (by omega) (nx 2 L).2
      rw [gen]
      rw [if_neg (by omega)]
      split
      · exact ⟨fine_mk (by decide) ⟨by omega, by show _ ≤ (1000 : Int); omega⟩ (by simp) (by simp) (fun i hi => absurd hi (by simp)), rfl⟩
      · refine ⟨fine_mk (show argsN 12 = ((2 : Nat) : Int) by decide) (by decide) (by simp) (by simp) (fun i hi => ?_), rfl⟩
        have q1 := ih false (nx 2 L).2
        have q2 := ih false (gen (d + 1) false (nx 2 L).2).2
        have : i = 0 ∨ i = 1 := by simp at hi; omega
        rcases this with rfl | rfl
        · exact ⟨q1.2, q1.1⟩
        · exact ⟨q2.2, q2.1⟩
    | false =>
      obtain ⟨b1, b2, _⟩ := kind_bd (d + 1) L
      obtain ⟨k, hk⟩ : ∃ k, kindOf (d + 1) (nx 10 L).1 = k := ⟨_, rfl⟩
      obtain ⟨a, ha⟩ : ∃ a, upto (gen (d + 1)) k (argsN k).toNat (nx 10 L).2 = a := ⟨_, rfl⟩
      rw [gen, hk]
      rw [hk] at b1 b2
      have hl : argsN k = (a.1.length : Int) := by rw [← ha, upto_len]; exact args_nat b1 (by omega)
      have hall : ∀ i (hi : i < a.1.length), isCond a.1[i].k = (decide (k = 10) && decide (i = 0)) ∧ fine (d + 1) a.1[i] = true := by
        subst ha
        exact upto_all (P := fun i x => isCond x.k = (decide (k = 10) && decide (i = 0)) ∧ fine (d + 1) x = true) (gen (d + 1)) k (argsN k).toNat (nx 10 L).2 fun j _ L => ⟨(ih _ L).2, (ih _ L).1⟩
      rw [ha]
      have n60 := nx_bd 60 (by omega) a.2
      have n3 := nx_bd 3000 (by omega) a.2
      have n12 := nx_bd 12000 (by omega) a.2
      have hc : isCond k = false := by unfold isCond; simp; omega
      unfold fill
      split
      · rename_i e
        subst e
        have hn := seller_name (pk (nx 60 a.2).1 60) (by rw [pk_id n60.1 n60.2]; omega) (by rw [pk_id n60.1 n60.2]; omega)
        exact ⟨fine_mk hl (by decide) (by simp only [iff_true]; exact (name_parts hn).1) (fun _ => hn) hall, rfl⟩
      · rename_i e3
        split
        · rename_i e
          refine ⟨fine_mk hl ⟨n3.1, ?_⟩ (by simp [e3]) (fun h => absurd h e3) hall, hc⟩
          rcases e with rfl | rfl <;> exact Int.le_of_lt (Int.lt_trans n3.2 (by decide))
        · split
          · rename_i e
            subst e
            exact ⟨fine_mk hl ⟨n12.1, Int.le_of_lt (Int.lt_trans n12.2 (by decide))⟩ (by simp) (by simp) hall, hc⟩
          · refine ⟨fine_mk hl ⟨Int.le_refl _, ?_⟩ (by simp [e3]) (fun h => absurd h e3) hall, hc⟩
            unfold mostN
            split
            · omega
            · split
              · omega
              · first | (split <;> omega) | omega
/-- How large what may be, so deep, is at the most. -/
theorem fine_size : ∀ (d : Nat) (x : Ex), fine d x = true → size x ≤ 4 ^ d := by
  intro d
  induction d with
  | zero => intro x h; cases h
  | succ d ih =>
    intro x h
    cases x with
    | mk k n nm l =>
      obtain ⟨h1, _, _, _, h5⟩ := fine_parts h
      have h3 := args_le k
      have hs : ∀ l : List Ex, (∀ x ∈ l, size x ≤ 4 ^ d) → sizes l ≤ l.length * 4 ^ d := by
        intro l
        induction l with
        | nil => intro _; rw [sizes_nil]; omega
        | cons y t ih2 =>
          intro hh
          have e1 := hh y (List.mem_cons_self ..)
          have e2 := ih2 fun z hz => hh z (List.mem_cons_of_mem _ hz)
          rw [sizes_cons, List.length_cons, Nat.add_mul, Nat.one_mul]; omega
      have := hs l fun y hy => ih y (fine_mem h hy)
      have h4 : l.length * 4 ^ d ≤ 3 * 4 ^ d := Nat.mul_le_mul_right _ (by omega)
      have h6 : 1 ≤ 4 ^ d := Nat.one_le_pow _ _ (by omega)
      rw [size_mk, Nat.pow_succ]
      omega
theorem strat_fine (L : List Int) : fine 5 (strat L) = true ∧ isCond (strat L).k = false := gen_fine 4 false _
theorem strat_size (L : List Int) : size (strat L) ≤ 1024 := fine_size 5 _ (strat_fine L).1
theorem strat_deep (L : List Int) : deep (strat L) ≤ 5 := fine_deep _ 5 (strat_fine L).1
theorem strat_right (L : List Int) : rightX (strat L) = decide ((text (strat L)).length ≤ 2000) := by
  obtain ⟨h1, h2⟩ := strat_fine L
  have h3 := fine_less _ 5 32 h1 (by have := strat_deep L; omega)
  have h4 := strat_size L
  unfold rightX
  rw [h3, h2, decide_eq_true (by omega : size (strat L) ≤ 2000)]; rfl
end Go.Proofs.YtlflfffjaodhpaaDoor
