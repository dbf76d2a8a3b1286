/- Plain mathematics of layer 9: what strategies tell. No program in this text. -/
import Derived.Test.YtfplhpkolcgpiaaZL
import Derived.Test.YtfplhpkolcgpiaaZ01
namespace Go.Proofs.Ytfplhpkolcgpiaa
open Go.Lib
set_option linter.unusedVariables false
set_option linter.unusedSimpArgs false
def exNone : Ex := .mk 0 0 [] []
def arg (x : Ex) (i : Nat) : Ex := (x.l[i]?).getD exNone
end Go.Proofs.Ytfplhpkolcgpiaa
