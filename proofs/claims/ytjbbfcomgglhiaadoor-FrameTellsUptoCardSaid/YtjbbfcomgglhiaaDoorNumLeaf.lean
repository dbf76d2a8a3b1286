/- The contract of the program's Number, over the library's own Itoa. -/
import Derived.Test.YtjbbfcomgglhiaaDoorBaseLeaf
import Derived.Test.YtjbbfcomgglhiaaDoorShelf
namespace Go.Proofs.YtjbbfcomgglhiaaDoor
open Go.RowKit Go.Lib
set_option linter.unusedVariables false
set_option linter.unusedSimpArgs false

theorem num_any (n : Int) (h0 : -9223372036854775808 ≤ n) (h1 : n ≤ 9223372036854775807) (w0 w : World) (hr : Rel w0 w) :
    Calls Tryd.prog 30 #[.int .i64 n] w fun e w' => e = .returned (.string (num n)) ∧ Rel w0 w' := by
  go_enter Tryd.func30, Tryd.ntmps30
  go_wp2_with ((go_at_call 38; refine (Tryd.strconv_Itoa _ h0 h1 _ hr.tab.1).mono ?_; rintro e w' ⟨rfl, k, os, rfl⟩))
  go_ret
  exact ⟨rfl, (hr.drewN k).grow os⟩
end Go.Proofs.YtjbbfcomgglhiaaDoor
