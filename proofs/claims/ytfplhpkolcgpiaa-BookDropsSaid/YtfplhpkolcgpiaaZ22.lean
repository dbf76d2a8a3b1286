/- Plain mathematics of layer 13: books and lists of sources. No program in this text. -/
import Derived.Test.YtfplhpkolcgpiaaZL
import Derived.Test.YtfplhpkolcgpiaaZ00
namespace Go.Proofs.Ytfplhpkolcgpiaa
open Go.Lib
set_option linter.unusedVariables false
set_option linter.unusedSimpArgs false
/-- With no seller twice a drop leaves out all of one. -/
theorem drop_filter {b : List Sl} (h : oneB b) (s : List UInt8) : dropB b s = b.filter fun x => decide (x.1 ≠ s) := by
  unfold oneB at h
  induction b with
  | nil => rfl
  | cons z r ih =>
    rw [List.map_cons, List.nodup_cons] at h
    rw [dropB]
    split
    · rename_i e
      rw [List.filter_cons_of_neg (by simpa using e)]
      refine (List.filter_eq_self.2 fun x hx => ?_).symm
      exact decide_eq_true fun e2 => h.1 (List.mem_map.2 ⟨x, hx, by rw [e2, e]⟩)
    · rename_i e
      rw [List.filter_cons_of_pos (by simpa using e), ih h.2]
end Go.Proofs.Ytfplhpkolcgpiaa
