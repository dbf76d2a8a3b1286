/- What the landed package lex tells: all that the laws' walks ask of it. -/
import Derived.Test.YtodeelbgonkdfaaLexMain
import Derived.Test.YtodeelbgonkdfaaLexAwake
namespace Go.Proofs.Ytodeelbgonkdfaa
open Go.RowKit Go.Lib
set_option linter.unusedVariables false
set_option linter.unusedSimpArgs false

theorem allOk : AllOk := ⟨fun s hs w0 w hr => lex_any s hs w0 w hr, fun s hs w0 w hr => lname_any s hs w0 w hr, fun s _ w0 w hr => lword_any s w0 w hr⟩
end Go.Proofs.Ytodeelbgonkdfaa
