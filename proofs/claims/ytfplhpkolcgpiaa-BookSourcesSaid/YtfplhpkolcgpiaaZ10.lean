/- The law of layer 13 on lines that come twice. -/
import Derived.Test.YtfplhpkolcgpiaaZL
import Derived.Test.YtfplhpkolcgpiaaZ00
import Derived.Test.YtfplhpkolcgpiaaZ01
namespace Go.Proofs.Ytfplhpkolcgpiaa
open Go.RowKit Go.Lib
set_option linter.unusedVariables false
set_option linter.unusedSimpArgs false
theorem sel_at {z : Int} {S : ByteArray} (h : B (sellerL (pk z 60)) = S) (hz : in64 z) (W : World) (hr : Rel W W) : Calls Try.prog 12 #[.int .i64 z] W fun e w' => e = .returned (.string S) ∧ Hid (Rel W w') := by
  rw [← h]
  exact (seller_any z hz.1 hz.2 W W hr).mono fun e w' ⟨he, h⟩ => ⟨he, Lib.hid h⟩
end Go.Proofs.Ytfplhpkolcgpiaa
