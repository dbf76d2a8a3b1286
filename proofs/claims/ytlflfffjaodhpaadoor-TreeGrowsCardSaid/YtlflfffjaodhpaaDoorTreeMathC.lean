/- Plain mathematics of layer 7, third part: what is printed is scanned; how long a text is. No program in this text. -/
import Derived.Test.YtlflfffjaodhpaaDoorTreeMathB
namespace Go.Proofs.YtlflfffjaodhpaaDoor
open Go.Lib
set_option linter.unusedVariables false
set_option linter.unusedSimpArgs false

/-- A text is scanned to at least n tokens, whatever stands behind it that is no part. -/
def Sc (a : List UInt8) (n : Nat) : Prop := ∀ p r, stops r = true → ∃ ts, lx p (a ++ r) = pre ts (lx (p + a.length) r) ∧ n ≤ ts.length
theorem Sc.append {a b : List UInt8} {n m : Nat} (ha : Sc a n) (hb : Sc b m) (hs : ∀ r, stops r = true → stops (b ++ r) = true) : Sc (a ++ b) (n + m) := by
  intro p r hr
  obtain ⟨ts, e, h⟩ := ha p (b ++ r) (hs r hr)
  obtain ⟨us, e', h'⟩ := hb (p + a.length) r hr
  refine ⟨ts ++ us, ?_, by rw [List.length_append]; omega⟩
  rw [List.append_assoc, e, e', pre_pre, List.length_append, Nat.add_assoc]
theorem Sc.nil : Sc [] 0 := fun p r _ => ⟨[], by rw [pre_nil]; rfl, Nat.zero_le _⟩
theorem Sc.good {x : List UInt8} {k n : Int} (h : Good x k n) : Sc x 1 := fun p r hr => ⟨_, lx_good h p r hr, Nat.le_refl _⟩
theorem Sc.comma {a : List UInt8} {n : Nat} (h : Sc a n) : Sc ([44, 32] ++ a) n := by
  intro p r hr
  obtain ⟨ts, e, h⟩ := h (p + 1 + 1) r hr
  refine ⟨(4, [44], 0, (p : Int)) :: ts, ?_, by simp; omega⟩
  have e1 := lx_sign p 44 (32 :: (a ++ r)) (by decide) (by decide)
  have e2 := lx_blank (p + 1) 32 (a ++ r) (by decide)
  show lx p (44 :: 32 :: (a ++ r)) = _
  rw [e1, e2, e, pre_pre]
  simp only [List.length_append, List.length_cons, List.length_nil, List.cons_append, List.nil_append]
  rw [show p + (a.length + 1 + 1) = p + 1 + 1 + a.length by omega]
theorem Sc.sign {c : UInt8} {a : List UInt8} {n : Nat} (hc : isSg c = true) (h : ∀ p r, stops r = true → ∃ ts, lx p (a ++ r) = pre ts (lx (p + a.length) r) ∧ n ≤ ts.length) : Sc ([c] ++ a) n := by
  intro p r hr
  obtain ⟨ts, e, h⟩ := h (p + 1) r hr
  refine ⟨(4, [c], 0, (p : Int)) :: ts, ?_, by simp; omega⟩
  have e1 := lx_sign p c (a ++ r) (sg_not hc).1 hc
  show lx p (c :: (a ++ r)) = _
  rw [e1, e, pre_pre]
  simp only [List.length_append, List.length_cons, List.length_nil, List.cons_append, List.nil_append]
  rw [show p + (a.length + 1) = p + 1 + a.length by omega]
theorem Sc.mores {l : List Ex} (h : ∀ x ∈ l, Sc (text x) (size x)) : Sc (mores l) (sizes l) := by
  induction l with
  | nil => rw [mores_nil, sizes_nil]; exact Sc.nil
  | cons x t ih =>
    rw [mores_cons, sizes_cons]
    exact Sc.comma (Sc.append (h x (List.mem_cons_self ..)) (ih fun y hy => h y (List.mem_cons_of_mem _ hy)) fun r hr => mores_stops t hr)
theorem Sc.texts {l : List Ex} (h : ∀ x ∈ l, Sc (text x) (size x)) : Sc (texts l) (sizes l) := by
  cases l with
  | nil => rw [texts_nil, sizes_nil]; exact Sc.nil
  | cons x t =>
    rw [texts_cons, sizes_cons]
    exact Sc.append (h x (List.mem_cons_self ..)) (Sc.mores fun y hy => h y (List.mem_cons_of_mem _ hy)) fun r hr => mores_stops t hr
theorem sc_tail {k n : Int} {nm : List UInt8} (hn : 0 ≤ n ∧ n ≤ mostN k) (hm : k = 3 → isName nm = true) : Sc (tailK k n nm) 0 := by
  obtain ⟨b1, b2, b3⟩ := most_le k
  have wk : ∀ {a : List UInt8} {n : Nat}, Sc a n → Sc a 0 := fun h p r hr => by
    obtain ⟨ts, e, _⟩ := h p r hr
    exact ⟨ts, e, Nat.zero_le _⟩
  unfold tailK
  split
  · rename_i e; exact wk (Sc.good (name_good (hm e)))
  · split
    · exact wk (Sc.comma (Sc.good (txt_good hn.1 (by omega))))
    · split
      · rename_i e; have := b2 (.inl e); exact wk (Sc.comma (Sc.good (itoa_good hn.1 (by omega))))
      · split
        · rename_i e; have := b2 (.inr e); exact wk (Sc.good (itoa_good hn.1 (by omega)))
        · exact Sc.nil
theorem text_scans : ∀ (x : Ex) (d : Nat), fine d x = true → Sc (text x) (size x) := ex_ind fun k n nm l ih d hx => by
  obtain ⟨d, rfl⟩ : ∃ e, d = e + 1 := by
    cases d with
    | zero => cases hx
    | succ d => exact ⟨d, rfl⟩
  obtain ⟨a1, a2, a3, a4, a5⟩ := fine_parts hx
  have m1 := most_le k
  have lnil : argsN k = 0 → l = [] := fun e2 => List.length_eq_zero_iff.1 (by omega)
  rw [text_mk, size_mk]
  by_cases k4 : k = 4
  · subst k4
    rw [if_pos rfl, lnil (by decide), sizes_nil]
    exact Sc.good (txt_good a2.1 (by omega))
  · obtain ⟨g, _, _⟩ := word_kind (by omega : 0 ≤ argsN k) k4
    rw [if_neg k4]
    by_cases k12 : k = 1 ∨ k = 2
    · rw [if_pos k12, lnil (by rcases k12 with rfl | rfl <;> decide), sizes_nil]
      exact Sc.good g
    · rw [if_neg k12]
      refine Sc.append (Sc.good g) (Sc.sign (by decide) ?_) (fun r _ => stops_cons (c := 40) (by decide))
      have h1 : Sc (texts l) (sizes l) := Sc.texts fun y hy => ih y hy d (fine_mem hx hy)
      have h2 : Sc (tailK k n nm ++ [41]) 0 := Sc.append (n := 0) (m := 0) (sc_tail a2 a4) (by
        have := Sc.sign (c := 41) (a := []) (n := 0) (by decide) (fun p r hr => ⟨[], by rw [pre_nil]; rfl, Nat.zero_le _⟩)
        exact this) (fun r _ => stops_cons (c := 41) (by decide))
      by_cases hl : l = []
      · subst hl
        rw [texts_nil, sizes_nil, List.nil_append]; exact h2
      · have hk3 : k ≠ 3 := fun e => hl (lnil (by rw [e]; decide))
        have hk11 : k ≠ 11 := fun e => hl (lnil (by rw [e]; decide))
        have := Sc.append h1 h2 fun r _ => by
          have := tail_stops k n nm r hk3 hk11
          rwa [List.append_assoc]
        exact this
/-- What is printed is scanned to more tokens than it has expressions. -/
theorem right_scans {x : Ex} (h : rightX x = true) : ∃ ts, lx 0 (text x) = .ok ts ∧ size x < ts.length := by
  simp only [rightX, Bool.and_eq_true] at h
  obtain ⟨ts, e, hl⟩ := text_scans x 32 h.1.1.1 0 [] rfl
  rw [List.append_nil, lx_nil] at e
  exact ⟨_, e, by rw [List.length_append]; simp; omega⟩
theorem txt_len (n : Int) : (txt n).length ≤ 43 := by
  unfold txt
  split
  · rename_i h
    have hb := rt_iff.1 h
    have h1 : (pos n.natAbs).length ≤ 42 := by
      unfold pos
      have a1 := dd_len 14 (n.natAbs / 100) (by have : n.natAbs ≤ 1000000000000 := by omega
                                                have e : (10 : Nat) ^ 14 = 100000000000000 := by decide
                                                omega) (by omega)
      have a2 := dd_len 1 (n.natAbs / 10 % 10) (by omega) (by omega)
      have a3 := dd_len 1 (n.natAbs % 10) (by omega) (by omega)
      simp only [List.length_append, List.length_cons, List.length_nil]
      omega
    split
    · simp; omega
    · omega
  · simp
theorem itoa_len {n : Int} (h : 0 ≤ n) (h' : n ≤ 1000000000000) : (itoa n).length ≤ 14 := by
  rw [itoa_pos h]
  exact dd_len 14 n.toNat (by have e : (10 : Nat) ^ 14 = 100000000000000 := by decide
                              omega) (by omega)
theorem mores_len {l : List Ex} (h : ∀ x ∈ l, (text x).length ≤ 60 * size x) : (mores l).length ≤ 60 * sizes l + 2 * l.length := by
  induction l with
  | nil => rw [mores_nil]; simp
  | cons x t ih =>
    have h1 := h x (List.mem_cons_self ..)
    have h2 := ih fun y hy => h y (List.mem_cons_of_mem _ hy)
    rw [mores_cons, sizes_cons]
    simp only [List.length_append, List.length_cons, List.length_nil]
    omega
theorem texts_len {l : List Ex} (h : ∀ x ∈ l, (text x).length ≤ 60 * size x) : (texts l).length ≤ 60 * sizes l + 2 * l.length := by
  cases l with
  | nil => rw [texts_nil]; simp
  | cons x t =>
    have h1 := h x (List.mem_cons_self ..)
    have h2 := mores_len fun y hy => h y (List.mem_cons_of_mem _ hy)
    rw [texts_cons, sizes_cons]
    simp only [List.length_append, List.length_cons]
    omega
theorem args_le (k : Int) : argsN k ≤ 3 := by
  unfold argsN
  split
  · omega
  · split
    · omega
    · split
      · omega
      · split <;> omega
theorem tail_len {k n : Int} {nm : List UInt8} (hn : 0 ≤ n ∧ n ≤ mostN k) (hm : k = 3 → isName nm = true) : (tailK k n nm).length ≤ 45 := by
  obtain ⟨b1, b2, b3⟩ := most_le k
  unfold tailK
  split
  · rename_i e; have := (name_parts (hm e)).2.2.1; omega
  · split
    · have := txt_len n; simp; omega
    · split
      · have := itoa_len hn.1 (by omega : n ≤ 1000000000000); simp; omega
      · split
        · have := itoa_len hn.1 (by omega : n ≤ 1000000000000); omega
        · simp
theorem text_len : ∀ (x : Ex) (d : Nat), fine d x = true → (text x).length ≤ 60 * size x := ex_ind fun k n nm l ih d hx => by
  obtain ⟨d, rfl⟩ : ∃ e, d = e + 1 := by
    cases d with
    | zero => cases hx
    | succ d => exact ⟨d, rfl⟩
  obtain ⟨a1, a2, a3, a4, a5⟩ := fine_parts hx
  have h1 := texts_len (l := l) fun y hy => ih y hy d (fine_mem hx hy)
  have h2 := tail_len a2 a4
  have h3 := args_le k
  have h4 := txt_len n
  rw [text_mk, size_mk]
  split
  · omega
  · rename_i k4
    obtain ⟨_, _, g⟩ := word_kind (by omega : 0 ≤ argsN k) k4
    split
    · omega
    · simp only [List.length_append, List.length_cons, List.length_nil]
      omega
theorem text_more : ∀ (x : Ex) (d : Nat), fine d x = true → size x ≤ (text x).length := ex_ind fun k n nm l ih d hx => by
  obtain ⟨d, rfl⟩ : ∃ e, d = e + 1 := by
    cases d with
    | zero => cases hx
    | succ d => exact ⟨d, rfl⟩
  obtain ⟨a1, a2, a3, a4, a5⟩ := fine_parts hx
  have lnil : argsN k = 0 → l = [] := fun e2 => List.length_eq_zero_iff.1 (by omega)
  have hm : ∀ l : List Ex, (∀ x ∈ l, size x ≤ (text x).length) → sizes l ≤ (mores l).length := by
    intro l
    induction l with
    | nil => intro _; rw [sizes_nil]; omega
    | cons x t ih2 =>
      intro h
      have h1 := h x (List.mem_cons_self ..)
      have h2 := ih2 fun y hy => h y (List.mem_cons_of_mem _ hy)
      rw [mores_cons, sizes_cons]
      simp only [List.length_append, List.length_cons, List.length_nil]
      omega
  have ht : sizes l ≤ (texts l).length := by
    cases l with
    | nil => rw [sizes_nil]; omega
    | cons x t =>
      have h1 := ih x (List.mem_cons_self ..) d (fine_mem hx (List.mem_cons_self ..))
      have h2 := hm t fun y hy => ih y (List.mem_cons_of_mem _ hy) d (fine_mem hx (List.mem_cons_of_mem _ hy))
      rw [texts_cons, sizes_cons]
      simp only [List.length_append]
      omega
  have m1 := most_le k
  rw [text_mk, size_mk]
  split
  · rename_i k4
    subst k4
    rw [lnil (by decide), sizes_nil]
    obtain ⟨c, t, e, _⟩ := txt_head a2.1 (by omega : n ≤ 1000000000000)
    rw [e]; simp
  · rename_i k4
    obtain ⟨_, ⟨c, t, e, _⟩, _⟩ := word_kind (by omega : 0 ≤ argsN k) k4
    split
    · rename_i k12
      rw [lnil (by rcases k12 with rfl | rfl <;> decide), sizes_nil, e]; simp
    · rw [e]
      simp only [List.length_append, List.length_cons, List.length_nil]
      omega
end Go.Proofs.YtlflfffjaodhpaaDoor
