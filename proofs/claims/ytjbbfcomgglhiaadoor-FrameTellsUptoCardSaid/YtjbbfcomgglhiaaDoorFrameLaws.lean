/- The statements' walks over what the program was shown to tell: FrameBack, FrameTorn, FrameWrong, FrameUnlike. -/
import Derived.Test.YtjbbfcomgglhiaaDoorScanLeaf
import Derived.Test.YtjbbfcomgglhiaaDoorFrameAwake
import Derived.Test.YtjbbfcomgglhiaaDoorFrameLawC
import Derived.Test.YtjbbfcomgglhiaaDoorFrameLawD
import Derived.Test.YtjbbfcomgglhiaaDoorFrameLawE
import Derived.Test.YtjbbfcomgglhiaaDoorArgsLeaf
namespace Go.Proofs.YtjbbfcomgglhiaaDoor
open Go.RowKit
open Go.Lib hiding intOf
set_option linter.unusedVariables false
set_option linter.unusedSimpArgs false

theorem encOk : EncOk := fun k A cap xs t hl ht w0 w hr hx => enc_any k A cap xs t hl ht w0 w hr hx
theorem scanOk : ScanOk := fun s hs w0 w hr => scan_any s hs w0 w hr
theorem rightOk : RightOk := fun k A cap xs t hl ht w0 w hr hx => right_any k A cap xs t hl ht w0 w hr hx
theorem awakeOk : AwakeOk := awake_any encOk scanOk rightOk
theorem FrameBack_walk (a0 : Option Addr) (n0 c0 : Nat) (z0 : List (List Int)) (a1 : Option Addr) (n1 c1 : Nat) (z1 : List ByteArray) (w : World) (w0 : RowsIn w a0 n0 z0) (w1 : StrsIn w a1 n1 z1) (hT : Tab w) :
    Calls Tryd.prog 4 #[.slice a0 n0 c0, .slice a1 n1 c1] w fun e w' => e = .returned (.bool true) ∧ Below w.heap.size w w' := by
  obtain ⟨rfl, l0, b0, x0⟩ := w0
  obtain ⟨rfl, l1, b1, x1⟩ := w1
  exact FrameBack_at awakeOk encOk scanOk a0 a1 c0 c1 z0 z1 l0 l1 (Lib.hid b0) (Lib.hid b1) w (Rel.start hT) (Lib.hid x0) (Lib.hid x1)
theorem FrameUnlike_walk (a0 : Option Addr) (n0 c0 : Nat) (z0 : List (List Int)) (a1 : Option Addr) (n1 c1 : Nat) (z1 : List ByteArray) (w : World) (w0 : RowsIn w a0 n0 z0) (w1 : StrsIn w a1 n1 z1) (hT : Tab w) :
    Calls Tryd.prog 7 #[.slice a0 n0 c0, .slice a1 n1 c1] w fun e w' => e = .returned (.bool true) ∧ Below w.heap.size w w' := by
  obtain ⟨rfl, l0, b0, x0⟩ := w0
  obtain ⟨rfl, l1, b1, x1⟩ := w1
  exact FrameUnlike_at awakeOk encOk a0 a1 c0 c1 z0 z1 l0 l1 (Lib.hid b0) (Lib.hid b1) w (Rel.start hT) (Lib.hid x0) (Lib.hid x1)
theorem FrameTorn_walk (a0 : Option Addr) (n0 c0 : Nat) (z0 : List (List Int)) (a1 : Option Addr) (n1 c1 : Nat) (z1 : List ByteArray) (a2 : Int) (w : World) (w0 : RowsIn w a0 n0 z0) (w1 : StrsIn w a1 n1 z1) (w2 : (Lit.int .i64 a2).wf = true) (hT : Tab w) :
    Calls Tryd.prog 5 #[.slice a0 n0 c0, .slice a1 n1 c1, .int .i64 a2] w fun e w' => e = .returned (.bool true) ∧ Below w.heap.size w w' := by
  obtain ⟨rfl, l0, b0, x0⟩ := w0
  obtain ⟨rfl, l1, b1, x1⟩ := w1
  exact FrameTorn_at awakeOk encOk scanOk a0 a1 c0 c1 z0 z1 l0 l1 (Lib.hid b0) (Lib.hid b1) a2 (wf64 w2).1 (wf64 w2).2 w (Rel.start hT) (Lib.hid x0) (Lib.hid x1)
theorem FrameWrong_walk (a0 : Option Addr) (n0 c0 : Nat) (z0 : List (List Int)) (a1 : Option Addr) (n1 c1 : Nat) (z1 : List ByteArray) (a2 a3 a4 : Int) (w : World) (w0 : RowsIn w a0 n0 z0) (w1 : StrsIn w a1 n1 z1) (w2 : (Lit.int .i64 a2).wf = true) (w3 : (Lit.int .i64 a3).wf = true) (w4 : (Lit.int .i64 a4).wf = true) (hT : Tab w) :
    Calls Tryd.prog 6 #[.slice a0 n0 c0, .slice a1 n1 c1, .int .i64 a2, .int .i64 a3, .int .i64 a4] w fun e w' => e = .returned (.bool true) ∧ Below w.heap.size w w' := by
  obtain ⟨rfl, l0, b0, x0⟩ := w0
  obtain ⟨rfl, l1, b1, x1⟩ := w1
  exact FrameWrong_at awakeOk encOk scanOk a0 a1 c0 c1 z0 z1 l0 l1 (Lib.hid b0) (Lib.hid b1) a2 a3 a4 (wf64 w2).1 (wf64 w2).2 (wf64 w3).1 (wf64 w3).2 (wf64 w4).1 (wf64 w4).2 w (Rel.start hT) (Lib.hid x0) (Lib.hid x1)
theorem FrameJoined_walk (a0 : Option Addr) (n0 c0 : Nat) (z0 : List (List Int)) (a1 : Option Addr) (n1 c1 : Nat) (z1 : List ByteArray) (a2 : ByteArray) (w : World) (w0 : RowsIn w a0 n0 z0) (w1 : StrsIn w a1 n1 z1) (s2 : a2.size ≤ 1048576) (hT : Tab w) :
    Calls Tryd.prog 8 #[.slice a0 n0 c0, .slice a1 n1 c1, .string a2] w fun e w' => e = .returned (.bool true) ∧ Below w.heap.size w w' := by
  obtain ⟨rfl, l0, b0, x0⟩ := w0
  obtain ⟨rfl, l1, b1, x1⟩ := w1
  exact FrameJoined_at awakeOk encOk scanOk a0 a1 c0 c1 z0 z1 l0 l1 (Lib.hid b0) (Lib.hid b1) a2 s2 w (Rel.start hT) (Lib.hid x0) (Lib.hid x1)
end Go.Proofs.YtjbbfcomgglhiaaDoor
