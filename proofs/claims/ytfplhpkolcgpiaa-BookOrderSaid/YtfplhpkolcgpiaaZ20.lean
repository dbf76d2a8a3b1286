/- The law of layer 13 on time: with more time less is left. -/
import Derived.Test.YtfplhpkolcgpiaaZL
import Derived.Test.YtfplhpkolcgpiaaZ00
import Derived.Test.YtfplhpkolcgpiaaZ01
import Derived.Test.YtfplhpkolcgpiaaZ17
namespace Go.Proofs.Ytfplhpkolcgpiaa
open Go.RowKit Go.Lib
set_option linter.unusedVariables false
set_option linter.unusedSimpArgs false
theorem same_at {w0 W : World} {A A' : Option Addr} {c c' : Nat} {b : List Sl} (h : Hid (SlArg w0 A' c' b)) (h2 : Hid (SlArg W A c b)) (hr : Hid (Rel w0 W)) : Calls Try.prog 16 #[.slice A b.length c, .slice A' b.length c'] W fun e w' => e = .returned (.bool true) ∧ Hid (Rel W w') :=
  (rsame13_any b b A A' c c' W hr.out.self h2.out.2.2.2.2 (h.out.rel hr.out).2.2.2.2 (by have := h.out.2.2.1; omega) (by have := h.out.2.2.1; omega)).mono fun e w' ⟨he, hr2⟩ => ⟨by rw [he, decide_eq_true rfl], Lib.hid hr2⟩
end Go.Proofs.Ytfplhpkolcgpiaa
