/- The statement's walk over what the program was shown to tell: FrameAgain. -/
import Derived.Test.YtjbbfcomgglhiaaDoorFrameLaws
import Derived.Test.YtjbbfcomgglhiaaDoorFrameLawF
namespace Go.Proofs.YtjbbfcomgglhiaaDoor
open Go.RowKit
open Go.Lib hiding intOf
set_option linter.unusedVariables false
set_option linter.unusedSimpArgs false

theorem FrameAgain_walk (a0 : ByteArray) (a1 : Option Addr) (n1 c1 : Nat) (z1 : List (List Int)) (a2 : Option Addr) (n2 c2 : Nat) (z2 : List ByteArray) (a3 : Int) (a4 : ByteArray) (w : World) (s0 : a0.size ≤ 1048576) (w1 : RowsIn w a1 n1 z1) (w2 : StrsIn w a2 n2 z2) (w3 : (Lit.int .i64 a3).wf = true) (s4 : a4.size ≤ 1048576) (hT : Tab w) :
    Calls Tryd.prog 9 #[.string a0, .slice a1 n1 c1, .slice a2 n2 c2, .int .i64 a3, .string a4] w fun e w' => e = .returned (.bool true) ∧ Below w.heap.size w w' := by
  obtain ⟨rfl, l1, b1, x1⟩ := w1
  obtain ⟨rfl, l2, b2, x2⟩ := w2
  exact FrameAgain_at awakeOk encOk scanOk a0 s0 a1 a2 c1 c2 z1 z2 l1 l2 (Lib.hid b1) (Lib.hid b2) a3 (wf64 w3).1 (wf64 w3).2 a4 s4 w (Rel.start hT) (Lib.hid x1) (Lib.hid x2)
end Go.Proofs.YtjbbfcomgglhiaaDoor
