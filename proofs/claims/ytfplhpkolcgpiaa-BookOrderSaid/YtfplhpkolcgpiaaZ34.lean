/- Plain mathematics of layer 13: books and lists of sources. No program in this text. -/
import Derived.Test.YtfplhpkolcgpiaaZL
import Derived.Test.YtfplhpkolcgpiaaZ00
namespace Go.Proofs.Ytfplhpkolcgpiaa
open Go.Lib
set_option linter.unusedVariables false
set_option linter.unusedSimpArgs false
theorem drop_back {b : List Sl} {s : List UInt8} (h : hasB b s = false) (p k : Int) : dropB (b ++ [(s, p, k)]) s = b := by
  induction b with
  | nil => rw [List.nil_append, dropB, if_pos rfl]
  | cons z r ih =>
    have hz : z.1 ≠ s := hasB_no h z (List.mem_cons_self ..)
    rw [List.cons_append, dropB, if_neg hz, ih]
    unfold hasB at h ⊢
    rw [List.any_cons, decide_eq_false hz, Bool.false_or] at h
    exact h
end Go.Proofs.Ytfplhpkolcgpiaa
