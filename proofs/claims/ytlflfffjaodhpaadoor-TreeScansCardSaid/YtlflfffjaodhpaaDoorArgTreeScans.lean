/- TreeScans's walk for its card, over what the program was shown to tell. -/
import Derived.Test.YtlflfffjaodhpaaDoorArgInts
import Derived.Test.YtlflfffjaodhpaaDoorTreeLawB
import Derived.Test.YtlflfffjaodhpaaDoorTreeLeafG
import Derived.Test.YtlflfffjaodhpaaDoorLexMain
namespace Go.Proofs.YtlflfffjaodhpaaDoor
open Go.RowKit Go.Lib
set_option linter.unusedVariables false
set_option linter.unusedSimpArgs false

theorem lexOk : LexOk := fun s hs w0 w hr => lex_any s hs w0 w hr
theorem TreeScans_walk (a0 : Option Addr) (len0 cap0 : Nat) (z0 : List Int) (w : World) (w0 : IsRow .i64 w a0 len0 cap0 z0) (hT : Tab w) :
    Calls Tryd.prog 5 #[.slice a0 len0 cap0] w fun e w' => e = .returned (.bool true) ∧ Below w.heap.size w w' := by
  obtain ⟨L0, rfl, i0⟩ := ints_of w0
  exact (TreeScans_at treeOk lexOk a0 cap0 L0 w (Rel.start hT) i0).mono fun e w' h => ⟨h.1, h.2.2⟩
end Go.Proofs.YtlflfffjaodhpaaDoor
