/- Plain mathematics of layer 7: expressions, their texts, sizes and depths. No program in this text. -/
import Derived.Test.YtlflfffjaodhpaaDoorLexMathB
namespace Go.Proofs.YtlflfffjaodhpaaDoor
open Go.Lib
set_option linter.unusedVariables false
set_option linter.unusedSimpArgs false

/-- An expression: kind, number, name, arguments. -/
inductive Ex where
  | mk (k n : Int) (nm : List UInt8) (l : List Ex)
def Ex.k : Ex → Int | .mk k _ _ _ => k
def Ex.n : Ex → Int | .mk _ n _ _ => n
def Ex.nm : Ex → List UInt8 | .mk _ _ nm _ => nm
def Ex.l : Ex → List Ex | .mk _ _ _ l => l
mutual
def size : Ex → Nat
  | .mk _ _ _ l => 1 + sizes l
def sizes : List Ex → Nat
  | [] => 0
  | x :: t => size x + sizes t
end
mutual
def deep : Ex → Nat
  | .mk _ _ _ l => deeps l + 1
def deeps : List Ex → Nat
  | [] => 0
  | x :: t => max (deep x) (deeps t)
end
theorem size_mk (k n : Int) (nm : List UInt8) (l : List Ex) : size (.mk k n nm l) = 1 + sizes l := by rw [size]
theorem sizes_nil : sizes [] = 0 := by rw [sizes]
theorem sizes_cons (x : Ex) (t : List Ex) : sizes (x :: t) = size x + sizes t := by rw [sizes]
theorem deep_mk (k n : Int) (nm : List UInt8) (l : List Ex) : deep (.mk k n nm l) = deeps l + 1 := by rw [deep]
theorem deeps_nil : deeps [] = 0 := by rw [deeps]
theorem deeps_cons (x : Ex) (t : List Ex) : deeps (x :: t) = max (deep x) (deeps t) := by rw [deeps]
theorem size_mem {x : Ex} {l : List Ex} (h : x ∈ l) : size x ≤ sizes l := by
  induction l with
  | nil => cases h
  | cons y t ih =>
    rw [sizes_cons]
    rcases List.mem_cons.1 h with rfl | h
    · omega
    · have := ih h; omega
theorem deep_mem {x : Ex} {l : List Ex} (h : x ∈ l) : deep x ≤ deeps l := by
  induction l with
  | nil => cases h
  | cons y t ih =>
    rw [deeps_cons]
    rcases List.mem_cons.1 h with rfl | h
    · omega
    · have := ih h; omega
theorem size_pos (x : Ex) : 1 ≤ size x := by cases x; rw [size_mk]; omega
theorem sizes_append (a b : List Ex) : sizes (a ++ b) = sizes a + sizes b := by
  induction a with
  | nil => simp [sizes_nil]
  | cons x t ih => rw [List.cons_append, sizes_cons, sizes_cons, ih]; omega
theorem deeps_append (a b : List Ex) : deeps (a ++ b) = max (deeps a) (deeps b) := by
  induction a with
  | nil => simp [deeps_nil]
  | cons x t ih => rw [List.cons_append, deeps_cons, deeps_cons, ih]; omega
/-- What holds of an expression if it holds of all its arguments. -/
theorem ex_ind {P : Ex → Prop} (h : ∀ k n nm l, (∀ x ∈ l, P x) → P (.mk k n nm l)) : ∀ x, P x := by
  have : ∀ m x, size x ≤ m → P x := by
    intro m
    induction m with
    | zero => intro x hx; have := size_pos x; omega
    | succ m ih =>
      intro x hx
      cases x with
      | mk k n nm l =>
        rw [size_mk] at hx
        exact h k n nm l fun y hy => ih y (by have := size_mem hy; omega)
  exact fun x => this _ x (Nat.le_refl _)
theorem deep_le_size : ∀ x, deep x ≤ size x := ex_ind fun k n nm l ih => by
  rw [deep_mk, size_mk]
  have : deeps l ≤ sizes l := by
    clear k n nm
    induction l with
    | nil => rw [deeps_nil]; omega
    | cons y t ih2 =>
      have h1 := ih y (List.mem_cons_self ..)
      have h2 := ih2 fun z hz => ih z (List.mem_cons_of_mem _ hz)
      rw [deeps_cons, sizes_cons]; omega
  omega
/-- Are two the same? -/
def sameN : Nat → Ex → Ex → Bool
  | 0, _, _ => false
  | d + 1, x, y => decide (x.k = y.k) && decide (x.n = y.n) && decide (x.nm = y.nm) && decide (x.l.length = y.l.length) && (x.l.zip y.l).all fun p => sameN d p.1 p.2
theorem zip_eq {a b : List Ex} (hl : a.length = b.length) (h : ∀ p ∈ a.zip b, p.1 = p.2) : a = b := by
  induction a generalizing b with
  | nil => cases b with
    | nil => rfl
    | cons y t => simp at hl
  | cons x s ih =>
    cases b with
    | nil => simp at hl
    | cons y t =>
      have e := h (x, y) (by simp)
      simp only at e
      rw [e, ih (by simpa using hl) fun p hp => h p (by simp [hp])]
theorem zip_self {a : List Ex} : ∀ p ∈ a.zip a, p.1 ∈ a ∧ p.1 = p.2 := by
  induction a with
  | nil => intro p hp; cases hp
  | cons x s ih =>
    intro p hp
    simp only [List.zip_cons_cons, List.mem_cons] at hp
    rcases hp with rfl | hp
    · exact ⟨List.mem_cons_self .., rfl⟩
    · exact ⟨List.mem_cons_of_mem _ (ih p hp).1, (ih p hp).2⟩
theorem same_eq : ∀ (d : Nat) (x y : Ex), sameN d x y = true → x = y := by
  intro d
  induction d with
  | zero => intro x y h; cases h
  | succ d ih =>
    intro x y h
    cases x with
    | mk k n nm l =>
      cases y with
      | mk k' n' nm' l' =>
        simp only [sameN, Bool.and_eq_true, List.all_eq_true] at h
        obtain ⟨⟨⟨⟨h1, h2⟩, h3⟩, h4⟩, h⟩ := h
        have e1 : k = k' := of_decide_eq_true h1
        have e2 : n = n' := of_decide_eq_true h2
        have e3 : nm = nm' := of_decide_eq_true h3
        have e4 : l.length = l'.length := of_decide_eq_true h4
        have e5 : l = l' := zip_eq e4 fun p hp => ih _ _ (h p hp)
        rw [e1, e2, e3, e5]
theorem same_refl : ∀ (x : Ex) (d : Nat), deep x ≤ d → sameN d x x = true := ex_ind fun k n nm l ih d hd => by
  rw [deep_mk] at hd
  cases d with
  | zero => omega
  | succ d =>
    simp only [sameN, Bool.and_eq_true, List.all_eq_true]
    refine ⟨⟨⟨⟨by simp, by simp⟩, by simp⟩, by simp⟩, fun p hp => ?_⟩
    obtain ⟨h1, h2⟩ := zip_self (a := l) p hp
    rw [← h2]
    exact ih _ h1 d (by have := deep_mem h1; omega)
/-- How many arguments a kind has; whether it is a condition; its greatest number; its word. -/
def argsN (k : Int) : Int := if k = 1 ∨ k = 2 ∨ k = 3 ∨ k = 4 ∨ k = 11 then 0 else if k = 5 ∨ k = 6 then 1 else if k = 7 ∨ k = 8 ∨ k = 9 ∨ k = 12 then 2 else if k = 10 then 3 else -1
def isCond (k : Int) : Bool := k == 11 || k == 12
def mostN (k : Int) : Int := if k = 4 ∨ k = 5 then 1000000000000 else if k = 6 then 100000 else if k = 11 then 1000 else 0
def wordK (k : Int) : List UInt8 :=
  if k = 1 then [108,111,119,101,115,116] else if k = 2 then [115,101,99,111,110,100] else if k = 3 then [102,114,111,109] else if k = 5 then [108,101,115,115] else if k = 6 then [99,117,116] else if k = 7 then [109,105,110] else if k = 8 then [109,97,120]
  else if k = 9 then [101,108,115,101] else if k = 10 then [105,102] else if k = 11 then [109,111,114,101] else if k = 12 then [97,98,111,118,101] else []
/-- May an expression be, but for how long its text is, within so many? -/
def fine : Nat → Ex → Bool
  | 0, _ => false
  | d + 1, x => decide (argsN x.k = (x.l.length : Int)) && decide (0 ≤ x.n ∧ x.n ≤ mostN x.k) && (decide (x.nm ≠ []) == decide (x.k = 3)) && (decide (x.k ≠ 3) || isName x.nm) &&
    (x.l.zipIdx).all fun p => (isCond p.1.k == (decide (x.k = 10) && decide (p.2 = 0))) && fine d p.1
def tailK (k n : Int) (nm : List UInt8) : List UInt8 := if k = 3 then nm else if k = 5 then [44, 32] ++ txt n else if k = 6 then [44, 32] ++ itoa n else if k = 11 then itoa n else []
mutual
def text : Ex → List UInt8
  | .mk k n nm l => if k = 4 then txt n else if k = 1 ∨ k = 2 then wordK k else wordK k ++ ([40] ++ (texts l ++ (tailK k n nm ++ [41])))
def texts : List Ex → List UInt8
  | [] => []
  | x :: t => text x ++ mores t
def mores : List Ex → List UInt8
  | [] => []
  | x :: t => [44, 32] ++ (text x ++ mores t)
end
theorem text_mk (k n : Int) (nm : List UInt8) (l : List Ex) : text (.mk k n nm l) = if k = 4 then txt n else if k = 1 ∨ k = 2 then wordK k else wordK k ++ ([40] ++ (texts l ++ (tailK k n nm ++ [41]))) := by rw [text]
theorem texts_nil : texts [] = [] := by rw [texts]
theorem texts_cons (x : Ex) (t : List Ex) : texts (x :: t) = text x ++ mores t := by rw [texts]
theorem mores_nil : mores [] = [] := by rw [mores]
theorem mores_cons (x : Ex) (t : List Ex) : mores (x :: t) = [44, 32] ++ (text x ++ mores t) := by rw [mores]
/-- May an expression be a strategy? -/
def rightX (x : Ex) : Bool := fine 32 x && !isCond x.k && decide (size x ≤ 2000) && decide ((text x).length ≤ 2000)
end Go.Proofs.YtlflfffjaodhpaaDoor
