/- PaceSwings's walk for its card, over what the program was shown to tell. -/
import Derived.Test.YtjhjdiaomnpkmaaDoorZ00
import Derived.Test.YtjhjdiaomnpkmaaDoorZ01
import Derived.Test.YtjhjdiaomnpkmaaDoorZ02
import Derived.Test.YtjhjdiaomnpkmaaDoorZ09
import Derived.Test.YtjhjdiaomnpkmaaDoorZ23
namespace Go.Proofs.YtjhjdiaomnpkmaaDoor
open Go.RowKit Go.Lib
set_option linter.unusedVariables false
set_option linter.unusedSimpArgs false

theorem PaceSwings_walk (a0 a1 a2 : Int) (w : World) (w0 : (Lit.int .i64 a0).wf = true) (w1 : (Lit.int .i64 a1).wf = true) (w2 : (Lit.int .i64 a2).wf = true) (hT : Tab w) :
    Calls Tryd.prog 3 #[.int .i64 a0, .int .i64 a1, .int .i64 a2] w fun e w' => e = .returned (.bool true) ∧ Below w.heap.size w w' := by
  exact (PaceSwings_at paceOk15 a0 a1 a2 (wf64 w0) (wf64 w1) (wf64 w2) w (Rel.start hT)).mono fun e w' h => ⟨h.1, h.2.2⟩
end Go.Proofs.YtjhjdiaomnpkmaaDoor
