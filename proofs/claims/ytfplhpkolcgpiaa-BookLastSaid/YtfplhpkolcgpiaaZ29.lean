/- Plain mathematics of layer 13: books and lists of sources. No program in this text; The base: texts as lists, the relation of worlds, the law's pick and numerals (no listed tables at this seat); Plain mathematics of layer 7, second part: unlike right expressions have unlike texts; what is printed is scanned. No program in this text; Plain mathematics of layer 9: what strategies tell. No program in this text; Offers in memory: to be read, and of the call's own; The document's own answers of layer 9: the price at a place (rank); which offers may be (Right). -/
import Derived.Test.YtfplhpkolcgpiaaZL
import Derived.Test.YtfplhpkolcgpiaaZ00
import Derived.Test.YtfplhpkolcgpiaaZ01
import Derived.Test.YtfplhpkolcgpiaaZ07
import Derived.Test.YtfplhpkolcgpiaaZ18
import Derived.Test.YtfplhpkolcgpiaaZ22
namespace Go.Proofs.Ytfplhpkolcgpiaa
open Go.Lib
set_option linter.unusedVariables false
set_option linter.unusedSimpArgs false
/-- How many slots a seller has. -/
def manyB (b : List Sl) (s : List UInt8) : Nat := b.countP fun x => decide (x.1 = s)
theorem many_one {b : List Sl} (h : oneB b) (s : List UInt8) : manyB b s = if hasB b s then 1 else 0 := by
  unfold oneB at h
  unfold manyB hasB
  induction b with
  | nil => rfl
  | cons z r ih =>
    rw [List.map_cons, List.nodup_cons] at h
    have hr := ih h.2
    rw [List.countP_cons, List.any_cons, hr]
    by_cases e : z.1 = s
    · have hn : (r.any fun x => decide (x.1 = s)) = false := by
        rw [Bool.eq_false_iff]
        intro ha
        obtain ⟨x, hx, hxs⟩ := List.any_eq_true.1 ha
        exact h.1 (List.mem_map.2 ⟨x, hx, by rw [of_decide_eq_true hxs, e]⟩)
      rw [hn, decide_eq_true e]; rfl
    · rw [decide_eq_false e, Bool.false_or]; simp
theorem drop_len {b : List Sl} (h : oneB b) (s : List UInt8) : (dropB b s).length + manyB b s = b.length := by
  rw [drop_filter h]
  unfold manyB
  have := List.length_eq_countP_add_countP (fun x : Sl => decide (x.1 = s)) (l := b)
  rw [← List.countP_eq_length_filter]
  have e : b.countP (fun x : Sl => decide (x.1 ≠ s)) = b.countP fun x => !decide (x.1 = s) := by
    congr 1; funext x; simp
  rw [e]
  have e2 : b.countP (fun x : Sl => !decide (x.1 = s)) = b.countP (fun a => decide ¬(decide (a.1 = s)) = true) := by
    congr 1; funext x; simp
  omega
end Go.Proofs.Ytfplhpkolcgpiaa

namespace Go.Proofs.Ytfplhpkolcgpiaa
open Go.RowKit Go.Lib
set_option linter.unusedVariables false
set_option linter.unusedSimpArgs false
theorem Rel.tab {w0 w : World} (_ : Rel w0 w) : Tab w := trivial
end Go.Proofs.Ytfplhpkolcgpiaa

namespace Go.Proofs.Ytfplhpkolcgpiaa
open Go.Lib
set_option linter.unusedVariables false
set_option linter.unusedSimpArgs false
theorem name_parts {x : List UInt8} (h : isName x = true) : x ≠ [] ∧ x.all isPt = true ∧ x.length ≤ 12 ∧ ∃ c t, x = c :: t ∧ isL c = true := by
  simp only [isName, Bool.and_eq_true, decide_eq_true_eq] at h
  obtain ⟨⟨⟨⟨h1, h2⟩, h3⟩, _⟩, h4⟩ := h
  refine ⟨h1, ?_, h2, ?_⟩
  · rw [List.all_eq_true] at h4 ⊢
    intro c hc
    have := h4 c hc
    simp only [isPt, this, Bool.true_or]
  · cases x with
    | nil => exact absurd rfl h1
    | cons c t => exact ⟨c, t, rfl, by simpa using h3⟩
end Go.Proofs.Ytfplhpkolcgpiaa

namespace Go.Proofs.Ytfplhpkolcgpiaa
open Go.Lib
set_option linter.unusedVariables false
set_option linter.unusedSimpArgs false
def offOk (o : Of) : Bool := isName o.1 && decide (1 ≤ o.2 ∧ o.2 ≤ 1000000000000)
/-- Unlike from all ahead of it. -/
def fresh (l : List Of) (i : Nat) (s : List UInt8) : Bool := (l.take i).all fun o => decide (o.1 ≠ s)
def offsTo (l : List Of) : Nat → Bool
  | 0 => true
  | i + 1 => offsTo l i && (match l[i]? with | some o => offOk o && fresh l i o.1 | none => true)
/-- May offers be? -/
def offsOk (l : List Of) : Bool := decide (l.length ≤ 8) && offsTo l l.length
theorem offsTo_iff {l : List Of} : ∀ {n : Nat}, n ≤ l.length → (offsTo l n = true ↔ ∀ i (h : i < l.length), i < n → offOk l[i] = true ∧ ∀ k (hk : k < l.length), k < i → l[k].1 ≠ l[i].1) := by
  intro n
  induction n with
  | zero => intro _; exact ⟨fun _ i _ h => absurd h (by omega), fun _ => rfl⟩
  | succ n ih =>
    intro hn
    have hl : n < l.length := by omega
    rw [offsTo, List.getElem?_eq_getElem hl, Bool.and_eq_true, ih (by omega)]
    simp only [Bool.and_eq_true, fresh, List.all_eq_true, decide_eq_true_eq]
    constructor
    · rintro ⟨h1, h2, h3⟩ i hi hin
      by_cases e : i = n
      · subst e
        refine ⟨h2, fun k hk hki => h3 l[k] ?_⟩
        rw [List.mem_iff_getElem]
        exact ⟨k, by rw [List.length_take]; omega, by rw [List.getElem_take]⟩
      · exact h1 i hi (by omega)
    · intro h
      refine ⟨fun i hi hin => h i hi (by omega), (h n hl (by omega)).1, fun o ho => ?_⟩
      obtain ⟨k, hk, rfl⟩ := List.mem_iff_getElem.1 ho
      rw [List.length_take] at hk
      rw [List.getElem_take]
      exact (h n hl (by omega)).2 k (by omega) (by omega)
theorem offs_iff {l : List Of} : offsOk l = true ↔ l.length ≤ 8 ∧ ∀ i (h : i < l.length), offOk l[i] = true ∧ ∀ k (hk : k < l.length), k < i → l[k].1 ≠ l[i].1 := by
  unfold offsOk
  rw [Bool.and_eq_true, decide_eq_true_eq, offsTo_iff (Nat.le_refl _)]
  exact ⟨fun h => ⟨h.1, fun i hi => h.2 i hi hi⟩, fun h => ⟨h.1, fun i hi _ => h.2 i hi⟩⟩
end Go.Proofs.Ytfplhpkolcgpiaa

namespace Go.Proofs.Ytfplhpkolcgpiaa
open Go.RowKit Go.Lib
set_option linter.unusedVariables false
set_option linter.unusedSimpArgs false
theorem offs_fit {l : List Of} (h : offsOk l = true) : OffsFit l := fun o ho => by
  obtain ⟨i, hi, rfl⟩ := List.mem_iff_getElem.1 ho
  have := ((offs_iff.1 h).2 i hi).1
  unfold offOk at this
  simp only [Bool.and_eq_true, decide_eq_true_eq] at this
  have hn := (name_parts this.1).2.2.1
  exact ⟨by omega, by omega, by omega⟩
end Go.Proofs.Ytfplhpkolcgpiaa

namespace Go.Proofs.Ytfplhpkolcgpiaa
open Go.RowKit Go.Lib
set_option linter.unusedVariables false
set_option linter.unusedSimpArgs false
theorem offs_at {w wr : World} {A : Option Addr} {os : List Of} (h : OffsAt w A os) (hr : Rel w wr) (j : Nat) (hj : j < os.length) :
    ∃ (g off : Nat) (s : List UInt8) (p : Int), A = some ⟨g, off, none⟩ ∧ wr.cell? ⟨g, off + j * 2, none⟩ = some (.string (B s)) ∧ wr.cell? ⟨g, off + j * 2 + 1, none⟩ = some (.int .i64 p) ∧ os[j] = (s, p) := by
  obtain ⟨g, off, e, _, h0, h1⟩ := (h.rel hr) j hj
  exact ⟨g, off, os[j].1, os[j].2, e, h0, h1, rfl⟩
end Go.Proofs.Ytfplhpkolcgpiaa
