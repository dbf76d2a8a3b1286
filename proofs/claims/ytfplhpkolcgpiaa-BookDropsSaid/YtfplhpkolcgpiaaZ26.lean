/- Plain mathematics of layer 13: books and lists of sources. No program in this text. -/
import Derived.Test.YtfplhpkolcgpiaaZL
import Derived.Test.YtfplhpkolcgpiaaZ00
import Derived.Test.YtfplhpkolcgpiaaZ22
namespace Go.Proofs.Ytfplhpkolcgpiaa
open Go.Lib
set_option linter.unusedVariables false
set_option linter.unusedSimpArgs false
theorem drop_twice {b : List Sl} (h : oneB b) (s : List UInt8) : dropB (dropB b s) s = dropB b s := by
  refine drop_none ?_
  rw [drop_filter h]
  rw [Bool.eq_false_iff]
  intro ha
  obtain ⟨x, hx, e⟩ := hasB_iff.1 ha
  exact of_decide_eq_true (List.mem_filter.1 hx).2 e
end Go.Proofs.Ytfplhpkolcgpiaa
