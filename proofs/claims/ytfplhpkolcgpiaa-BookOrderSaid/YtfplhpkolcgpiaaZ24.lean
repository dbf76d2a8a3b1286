/- The law of layer 13 on drops, walked. -/
import Derived.Test.YtfplhpkolcgpiaaZL
import Derived.Test.YtfplhpkolcgpiaaZ00
import Derived.Test.YtfplhpkolcgpiaaZ01
import Derived.Test.YtfplhpkolcgpiaaZ20
namespace Go.Proofs.Ytfplhpkolcgpiaa
open Go.RowKit Go.Lib
set_option linter.unusedVariables false
set_option linter.unusedSimpArgs false
theorem has_next {b : List Sl} {s : List UInt8} {j : Nat} (h : j < b.length) : hasB (b.take (j + 1)) s = (hasB (b.take j) s || decide (b[j].1 = s)) := by
  unfold hasB
  rw [take_next h, List.any_append]; simp
theorem same_of {w0 W : World} {A A' : Option Addr} {c c' : Nat} {b : List Sl} (n : Nat) (hn : b.length = n) (h : SlArg w0 A' c' b) (h2 : SlArg W A c b) (hr : Rel w0 W) : Calls Try.prog 16 #[.slice A n c, .slice A' n c'] W fun e w' => e = .returned (.bool true) ∧ Hid (Rel W w') := by
  have h := same_at (Lib.hid h) (Lib.hid h2) (Lib.hid hr)
  rwa [hn] at h
end Go.Proofs.Ytfplhpkolcgpiaa
