/- Plain mathematics of layer 6: words, names, tokens, and what of a text is scanned. No program in this text; Plain mathematics of layer 12: lines of feeds, and their texts. No program in this text; Tokens in memory, pairs of raw numbers; which tokens are the same; What is scanned: the document's own Lex; Plain mathematics of layer 6, third part: what is told one token behind the other, up to an error. No program in this text; Plain mathematics of FeedField: five fields with one that may not be; four of them; six. No program in this text. -/
import Derived.Test.YtkpgplafcoabnaaDoorZL
import Derived.Test.YtkpgplafcoabnaaDoorZ00
import Derived.Test.YtkpgplafcoabnaaDoorZ01
import Derived.Test.YtkpgplafcoabnaaDoorZ03
import Derived.Test.YtkpgplafcoabnaaDoorZ14
namespace Go.Proofs.YtkpgplafcoabnaaDoor
open Go.Lib
set_option linter.unusedVariables false
set_option linter.unusedSimpArgs false
theorem lx_bad (p : Nat) (c : UInt8) (t : List UInt8) (h : isBl c = false) (h' : isSg c = false) (hn : tokOf ((c :: t).takeWhile isPt) = none) : lx p (c :: t) = .error p := by
  rw [lx, if_neg (by rw [h]; simp), if_neg (by rw [h']; simp)]
  split
  · rfl
  · rename_i h2; rw [hn] at h2; cases h2
end Go.Proofs.YtkpgplafcoabnaaDoor

namespace Go.Proofs.YtkpgplafcoabnaaDoor
open Go.Lib
set_option linter.unusedVariables false
set_option linter.unusedSimpArgs false
/-- Five fields, with one that may not be; more of them, and fewer. -/
theorem dec_five {a b c d e : List UInt8} (ha : (32 : UInt8) ∉ a) (hb : (32 : UInt8) ∉ b) (hc : (32 : UInt8) ∉ c) (hd : (32 : UInt8) ∉ d) (he : (32 : UInt8) ∉ e) (hl : (joinF [a, b, c, d, e]).length ≤ 100) :
    decF (joinF [a, b, c, d, e]) = match firstF 0 [a, b, c, d, e] with | some i => .error (112, i) | none => .ok (a, seqF b, c, d, priceF e) := by
  unfold decF
  rw [if_neg (by omega)]
  have : fieldsF (joinF [a, b, c, d, e]) = [a, b, c, d, e] := by
    show fieldsF (a ++ 32 :: (b ++ 32 :: (c ++ 32 :: (d ++ 32 :: e)))) = _
    rw [fields_app ha, fields_app hb, fields_app hc, fields_app hd, fields_one he]
  rw [this] <;> rfl
theorem fields_of_join : ∀ {l : List (List UInt8)}, l ≠ [] → (∀ x ∈ l, (32 : UInt8) ∉ x) → fieldsF (joinF l) = l := by
  intro l
  induction l with
  | nil => intro h; exact absurd rfl h
  | cons x r ih =>
    intro _ hx
    cases r with
    | nil => exact fields_one (hx x (by simp))
    | cons y r =>
      show fieldsF (x ++ 32 :: joinF (y :: r)) = _
      rw [fields_app (hx x (by simp)), ih (by simp) (fun z hz => hx z (List.mem_cons_of_mem _ hz))]
theorem dec_many {l : List (List UInt8)} (hn : l ≠ []) (h : ∀ x ∈ l, (32 : UInt8) ∉ x) (h5 : l.length ≠ 5) (hl : (joinF l).length ≤ 100) : decF (joinF l) = .error (111, 0) := by
  unfold decF
  rw [if_neg (by omega), fields_of_join hn h]
  match l, h5 with
  | [], _ => rfl
  | [_], _ => rfl
  | [_, _], _ => rfl
  | [_, _, _], _ => rfl
  | [_, _, _, _], _ => rfl
  | [_, _, _, _, _], h => exact absurd rfl h
  | _ :: _ :: _ :: _ :: _ :: _ :: _, _ => rfl
end Go.Proofs.YtkpgplafcoabnaaDoor

namespace Go.Proofs.YtkpgplafcoabnaaDoor
open Go.RowKit Go.Lib
set_option linter.unusedVariables false
set_option linter.unusedSimpArgs false
theorem Bk.four {w : World} {g : Nat} {t : TypeId} {x y z u : Value} (h : Bk w g t #[x, y, z, u]) :
    (w.cell? ⟨g, 0, none⟩ = some x ∧ w.cell? ⟨g, 1, none⟩ = some y ∧ w.cell? ⟨g, 2, none⟩ = some z ∧ w.cell? ⟨g, 3, none⟩ = some u) ∧ (w.frozen? ⟨g, 0, none⟩ = false ∧ w.frozen? ⟨g, 1, none⟩ = false ∧ w.frozen? ⟨g, 2, none⟩ = false ∧ w.frozen? ⟨g, 3, none⟩ = false) :=
  ⟨⟨h.cell 0, h.cell 1, h.cell 2, h.cell 3⟩, ⟨h.frozen 0, h.frozen 1, h.frozen 2, h.frozen 3⟩⟩
end Go.Proofs.YtkpgplafcoabnaaDoor

namespace Go.Proofs.YtkpgplafcoabnaaDoor
open Go.RowKit Go.Lib
set_option linter.unusedVariables false
set_option linter.unusedSimpArgs false
theorem drop_cons (s : ByteArray) (p : Nat) (h : p < s.size) : s.data.toList.drop p = (s[p]'h) :: s.data.toList.drop (p + 1) := by
  have el : s.data.toList.length = s.size := by simp
  rw [List.drop_eq_getElem_cons (by omega)]; rfl
theorem At.bad {s : ByteArray} {p : Nat} {ts : List Tok} {x : List UInt8} (h : At s.data.toList p ts) (hp : p < s.size) (hb : isBl (s[p]'hp) = false) (hg : isSg (s[p]'hp) = false)
    (hx : (s.data.toList.drop p).takeWhile isPt = x) (ht : tokOf x = none) : lx 0 s.data.toList = .error p := by
  rw [h.1]
  have e := drop_cons s p hp
  rw [e] at hx
  rw [e, lx_bad _ _ _ hb hg (by rw [hx]; exact ht)]; rfl
end Go.Proofs.YtkpgplafcoabnaaDoor

namespace Go.Proofs.YtkpgplafcoabnaaDoor
open Go.Lib
set_option linter.unusedVariables false
set_option linter.unusedSimpArgs false
theorem lxP_bad (p : Nat) (c : UInt8) (t : List UInt8) (h : isBl c = false) (h' : isSg c = false) (hn : tokOf ((c :: t).takeWhile isPt) = none) : lxP p (c :: t) = ([], some p) := by
  rw [lxP, if_neg (by rw [h]; simp), if_neg (by rw [h']; simp)]
  split
  · rfl
  · rename_i h2; rw [hn] at h2; cases h2
theorem AtP.bad {l : List UInt8} {p : Nat} {ts : List Tok} {c : UInt8} {t x : List UInt8} (h : AtP l p ts) (hp : l.drop p = c :: t) (hb : isBl c = false) (hg : isSg c = false)
    (hx : (l.drop p).takeWhile isPt = x) (ht : tokOf x = none) : lxP 0 l = (ts, some p) := by
  rw [hp] at hx
  rw [h.1, hp, lxP_bad _ _ _ hb hg (by rw [hx]; exact ht)]; simp
end Go.Proofs.YtkpgplafcoabnaaDoor

namespace Go.Proofs.YtkpgplafcoabnaaDoor
open Go.Lib
set_option linter.unusedVariables false
set_option linter.unusedSimpArgs false
def namB : List (List UInt8) := [[], [65], [57, 97], [105, 102], [97, 98, 99, 100, 101, 102, 103, 104, 105, 106, 107, 108, 109], [97, 46, 98]]
def seqB : List (List UInt8) := [[48], [], [45, 49], [48, 55], [49, 48, 48, 48, 48, 48, 48, 48, 48, 48, 48, 48, 49], [49, 46, 53]]
def priB : List (List UInt8) := [[48, 46, 48, 48], [], [45, 49, 46, 48, 48], [49], [71, 111, 110, 101], [49, 48, 48, 48, 48, 48, 48, 48, 48, 48, 48, 46, 48, 49]]
def fsF (f : Fd) : List (List UInt8) := [f.1, [55], f.2.2.1, f.2.2.2.1, priceT f.2.2.2.2]
def badF (m : Nat) : List (List UInt8) := [namB.getD m [], seqB.getD m [], namB.getD m [], namB.getD m [], priB.getD m []]
def gF (f : Fd) (m k : Nat) : List (List UInt8) := (fsF f).set k ((badF m).getD k [])
set_option maxRecDepth 100000 in
theorem nam_bad (m : Nat) (h : m < 6) : isName (namB.getD m []) = false ∧ (32 : UInt8) ∉ namB.getD m [] ∧ (namB.getD m []).length ≤ 16 := by
  have : ∀ i : Fin 6, isName (namB.getD i.val []) = false ∧ (32 : UInt8) ∉ namB.getD i.val [] ∧ (namB.getD i.val []).length ≤ 16 := by decide
  exact this ⟨m, h⟩
set_option maxRecDepth 100000 in
theorem seq_bad (m : Nat) (h : m < 6) : okF 1 (seqB.getD m []) = false ∧ (32 : UInt8) ∉ seqB.getD m [] ∧ (seqB.getD m []).length ≤ 16 := by
  have : ∀ i : Fin 6, okF 1 (seqB.getD i.val []) = false ∧ (32 : UInt8) ∉ seqB.getD i.val [] ∧ (seqB.getD i.val []).length ≤ 16 := by decide
  exact this ⟨m, h⟩
set_option maxRecDepth 100000 in
theorem pri_bad (m : Nat) (h : m < 6) : okF 4 (priB.getD m []) = false ∧ (32 : UInt8) ∉ priB.getD m [] ∧ (priB.getD m []).length ≤ 16 := by
  have : ∀ i : Fin 6, okF 4 (priB.getD i.val []) = false ∧ (32 : UInt8) ∉ priB.getD i.val [] ∧ (priB.getD i.val []).length ≤ 16 := by decide
  exact this ⟨m, h⟩
theorem bad_bad (m k : Nat) (h : m < 6) (hk : k < 5) : okF k ((badF m).getD k []) = false ∧ (32 : UInt8) ∉ (badF m).getD k [] ∧ ((badF m).getD k []).length ≤ 16 := by
  have ways : k = 0 ∨ k = 1 ∨ k = 2 ∨ k = 3 ∨ k = 4 := by omega
  rcases ways with rfl | rfl | rfl | rfl | rfl
  · exact nam_bad m h
  · exact seq_bad m h
  · exact nam_bad m h
  · exact nam_bad m h
  · exact pri_bad m h
theorem name_ne {x : List UInt8} (h : isName x = true) : x ≠ [] := fun e => by rw [e] at h; cases h
theorem txt_ne {p : Int} (h : 0 ≤ p) (h' : p ≤ 1000000000000) : priceT p ≠ [] := fun e => by
  have := price_txt h h'
  rw [e] at this
  have h2 : priceF [] = -1 := by decide
  omega
set_option maxRecDepth 100000 in
theorem seven_ok : okF 1 [55] = true := by decide
theorem fs_ok {f : Fd} (h : rightF f = true) (k : Nat) (hk : k < 5) : okF k ((fsF f).getD k []) = true ∧ (32 : UInt8) ∉ (fsF f).getD k [] ∧ ((fsF f).getD k []).length ≤ 16 ∧ (fsF f).getD k [] ≠ [] := by
  obtain ⟨h1, h2, h3, h4, h5⟩ := rightF_iff.1 h
  have ways : k = 0 ∨ k = 1 ∨ k = 2 ∨ k = 3 ∨ k = 4 := by omega
  rcases ways with rfl | rfl | rfl | rfl | rfl
  · exact ⟨h1, name_clean h1, by have := name_len h1; show f.1.length ≤ 16; omega, name_ne h1⟩
  · exact ⟨seven_ok, by show (32 : UInt8) ∉ [55]; decide, by show [(55 : UInt8)].length ≤ 16; decide, by show [(55 : UInt8)] ≠ []; decide⟩
  · exact ⟨h2, name_clean h2, by have := name_len h2; show f.2.2.1.length ≤ 16; omega, name_ne h2⟩
  · exact ⟨h3, name_clean h3, by have := name_len h3; show f.2.2.2.1.length ≤ 16; omega, name_ne h3⟩
  · refine ⟨?_, price_clean h5.1 h5.2, price_len h5.1 h5.2, txt_ne h5.1 h5.2⟩
    show okF 4 (priceT f.2.2.2.2) = true
    unfold okF
    rw [if_neg (by decide), if_pos rfl, price_txt h5.1 h5.2]
    exact decide_eq_true h5.1
theorem g_at (f : Fd) (m k i : Nat) (hi : i < 5) : (gF f m k).getD i [] = if i = k then (badF m).getD k [] else (fsF f).getD i [] := by
  unfold gF
  rw [List.getD_eq_getElem?_getD, List.getElem?_set]
  have hl : (fsF f).length = 5 := rfl
  by_cases h : k = i
  · rw [if_pos h, if_pos (by omega), if_pos h.symm, h]; rfl
  · rw [if_neg h, if_neg (fun e => h e.symm), ← List.getD_eq_getElem?_getD]
theorem g_clean {f : Fd} (h : rightF f = true) (m k : Nat) (hm : m < 6) (hk : k < 5) (i : Nat) (hi : i < 5) : (32 : UInt8) ∉ (gF f m k).getD i [] ∧ ((gF f m k).getD i []).length ≤ 16 := by
  rw [g_at f m k i hi]
  split
  · exact (bad_bad m k hm hk).2
  · exact ⟨(fs_ok h i hi).2.1, (fs_ok h i hi).2.2.1⟩
theorem five_as {l : List (List UInt8)} (h : l.length = 5) : l = [l.getD 0 [], l.getD 1 [], l.getD 2 [], l.getD 3 [], l.getD 4 []] := by
  match l, h with
  | [a, b, c, d, e], _ => rfl
theorem g_len (f : Fd) (m k : Nat) : (gF f m k).length = 5 := by unfold gF; rw [List.length_set]; rfl
theorem join5_len {a b c d e : List UInt8} (ha : a.length ≤ 16) (hb : b.length ≤ 16) (hc : c.length ≤ 16) (hd : d.length ≤ 16) (he : e.length ≤ 16) : (joinF [a, b, c, d, e]).length ≤ 84 := by
  show (a ++ 32 :: (b ++ 32 :: (c ++ 32 :: (d ++ 32 :: e)))).length ≤ 84
  simp only [List.length_append, List.length_cons]
  omega
theorem dec_join {f : Fd} (h : rightF f = true) (m k : Nat) (hm : m < 6) (hk : k < 5) : decF (joinF (gF f m k)) = .error (112, (k : Int)) := by
  have c := fun i hi => g_clean h m k hm hk i hi
  rw [five_as (g_len f m k)]
  rw [dec_five (c 0 (by omega)).1 (c 1 (by omega)).1 (c 2 (by omega)).1 (c 3 (by omega)).1 (c 4 (by omega)).1 (by have := join5_len (c 0 (by omega)).2 (c 1 (by omega)).2 (c 2 (by omega)).2 (c 3 (by omega)).2 (c 4 (by omega)).2; omega)]
  have ok : ∀ i, i < 5 → i ≠ k → okF i ((gF f m k).getD i []) = true := fun i hi hn => by rw [g_at f m k i hi, if_neg hn]; exact (fs_ok h i hi).1
  have bad : okF k ((gF f m k).getD k []) = false := by rw [g_at f m k k hk, if_pos rfl]; exact (bad_bad m k hm hk).1
  have e : firstF 0 [(gF f m k).getD 0 [], (gF f m k).getD 1 [], (gF f m k).getD 2 [], (gF f m k).getD 3 [], (gF f m k).getD 4 []] = some k := by
    simp only [firstF]
    have ways : k = 0 ∨ k = 1 ∨ k = 2 ∨ k = 3 ∨ k = 4 := by omega
    rcases ways with rfl | rfl | rfl | rfl | rfl
    · rw [bad]; rfl
    · rw [ok 0 (by omega) (by omega), bad]; rfl
    · rw [ok 0 (by omega) (by omega), ok 1 (by omega) (by omega), bad]; rfl
    · rw [ok 0 (by omega) (by omega), ok 1 (by omega) (by omega), ok 2 (by omega) (by omega), bad]; rfl
    · rw [ok 0 (by omega) (by omega), ok 1 (by omega) (by omega), ok 2 (by omega) (by omega), ok 3 (by omega) (by omega), bad]; rfl
  rw [e]
theorem join_more {l : List (List UInt8)} (h : l ≠ []) (x : List UInt8) : joinF (l ++ [x]) = joinF l ++ 32 :: x := by
  induction l with
  | nil => exact absurd rfl h
  | cons a t ih =>
    cases t with
    | nil => rfl
    | cons b r => rw [List.cons_append, join_cons a (by simp), join_cons a (by simp), ih (by simp), List.append_assoc]; rfl
theorem dec_more {f : Fd} (h : rightF f = true) (m k : Nat) (hm : m < 6) (hk : k < 5) : decF (joinF (gF f m k) ++ [32, 120]) = .error (111, 0) := by
  have c := fun i hi => g_clean h m k hm hk i hi
  have hl := g_len f m k
  have e : joinF (gF f m k) ++ [32, 120] = joinF (gF f m k ++ [[120]]) := (join_more (by intro e; rw [e] at hl; cases hl) [120]).symm
  rw [e]
  refine dec_many (by simp) ?_ (by rw [List.length_append, hl]; decide) ?_
  · intro x hx
    rcases List.mem_append.1 hx with hx | hx
    · obtain ⟨i, hi, rfl⟩ := List.getElem_of_mem hx
      have := (c i (by omega)).1
      rwa [List.getD_eq_getElem?_getD, List.getElem?_eq_getElem hi, Option.getD_some] at this
    · rw [List.mem_singleton.1 hx]; decide
  · rw [← e, five_as hl]
    have := join5_len (c 0 (by omega)).2 (c 1 (by omega)).2 (c 2 (by omega)).2 (c 3 (by omega)).2 (c 4 (by omega)).2
    rw [List.length_append]
    simp only [List.length_cons, List.length_nil]
    omega
/-- The text so far. -/
def jnF (G : Nat → List UInt8) : Nat → List UInt8
  | 0 => []
  | i + 1 => (if 0 < i then jnF G i ++ [32] else jnF G i) ++ G i
/-- The text of the fields but for one, so far. -/
def fwF (F : Nat → List UInt8) (k : Nat) : Nat → List UInt8
  | 0 => []
  | i + 1 => if i = k then fwF F k i else (if fwF F k i = [] then fwF F k i else fwF F k i ++ [32]) ++ F i
theorem jn_len (G : Nat → List UInt8) (h : ∀ i, i < 5 → (G i).length ≤ 16) : ∀ i, i ≤ 5 → (jnF G i).length ≤ 17 * i := by
  intro i
  induction i with
  | zero => intro _; exact Nat.le_refl _
  | succ i ih =>
    intro hi
    have h1 := ih (by omega)
    have h2 := h i (by omega)
    rw [jnF, List.length_append]
    split
    · rw [List.length_append, List.length_singleton]; omega
    · omega
theorem fw_len (F : Nat → List UInt8) (k : Nat) (h : ∀ i, i < 5 → (F i).length ≤ 16) : ∀ i, i ≤ 5 → (fwF F k i).length ≤ 17 * i := by
  intro i
  induction i with
  | zero => intro _; exact Nat.le_refl _
  | succ i ih =>
    intro hi
    have h1 := ih (by omega)
    have h2 := h i (by omega)
    rw [fwF]
    split
    · omega
    · rw [List.length_append]
      split
      · omega
      · rw [List.length_append, List.length_singleton]; omega
theorem jn_all (l : List (List UInt8)) (h : l.length = 5) : jnF (fun i => l.getD i []) 5 = joinF l := by
  match l, h with
  | [a, b, c, d, e], _ => simp [jnF, joinF]
theorem fw_dec {f : Fd} (h : rightF f = true) (k : Nat) (hk : k < 5) : decF (fwF (fun i => (fsF f).getD i []) k 5) = .error (111, 0) := by
  have c := fun i hi => fs_ok h i hi
  obtain ⟨F, hF⟩ : ∃ F, F = fun i => (fsF f).getD i [] := ⟨_, rfl⟩
  have hne : ∀ i, i < 5 → F i ≠ [] := fun i hi => by rw [hF]; exact (c i hi).2.2.2
  have hcl : ∀ i, i < 5 → (32 : UInt8) ∉ F i := fun i hi => by rw [hF]; exact (c i hi).2.1
  have hln : ∀ i, i < 5 → (F i).length ≤ 16 := fun i hi => by rw [hF]; exact (c i hi).2.2.1
  rw [← hF]
  have four : ∀ a b c d : Nat, a < 5 → b < 5 → c < 5 → d < 5 → decF (joinF [F a, F b, F c, F d]) = .error (111, 0) := fun a b c d ha hb hc hd => by
    refine dec_many (by simp) ?_ (by simp) ?_
    · intro x hx
      simp only [List.mem_cons, List.not_mem_nil, or_false] at hx
      rcases hx with rfl | rfl | rfl | rfl
      · exact hcl a ha
      · exact hcl b hb
      · exact hcl c hc
      · exact hcl d hd
    · show (F a ++ 32 :: (F b ++ 32 :: (F c ++ 32 :: F d))).length ≤ 100
      have := hln a ha; have := hln b hb; have := hln c hc; have := hln d hd
      simp only [List.length_append, List.length_cons]
      omega
  have ways : k = 0 ∨ k = 1 ∨ k = 2 ∨ k = 3 ∨ k = 4 := by omega
  have n0 := hne 0 (by omega); have n1 := hne 1 (by omega)
  rcases ways with rfl | rfl | rfl | rfl | rfl
  · have e : fwF F 0 5 = joinF [F 1, F 2, F 3, F 4] := by simp [fwF, joinF, n0, n1]
    rw [e]; exact four 1 2 3 4 (by omega) (by omega) (by omega) (by omega)
  · have e : fwF F 1 5 = joinF [F 0, F 2, F 3, F 4] := by simp [fwF, joinF, n0, n1]
    rw [e]; exact four 0 2 3 4 (by omega) (by omega) (by omega) (by omega)
  · have e : fwF F 2 5 = joinF [F 0, F 1, F 3, F 4] := by simp [fwF, joinF, n0, n1]
    rw [e]; exact four 0 1 3 4 (by omega) (by omega) (by omega) (by omega)
  · have e : fwF F 3 5 = joinF [F 0, F 1, F 2, F 4] := by simp [fwF, joinF, n0, n1]
    rw [e]; exact four 0 1 2 4 (by omega) (by omega) (by omega) (by omega)
  · have e : fwF F 4 5 = joinF [F 0, F 1, F 2, F 3] := by simp [fwF, joinF, n0, n1]
    rw [e]; exact four 0 1 2 3 (by omega) (by omega) (by omega) (by omega)
/-- The last field, and where it begins. -/
theorem text_last (f : Fd) : ∃ A : List UInt8, textF f = A ++ 32 :: priceT f.2.2.2.2 := ⟨f.1 ++ 32 :: (itoa f.2.1 ++ 32 :: (f.2.2.1 ++ 32 :: f.2.2.2.1)), by unfold textF; simp⟩
end Go.Proofs.YtkpgplafcoabnaaDoor
