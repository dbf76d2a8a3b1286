/- Raw triples, raw pairs, books and lists of sources as arguments, opened; the seven walks for the shell. -/
import Derived.Test.YtfplhpkolcgpiaaZL
import Derived.Test.YtfplhpkolcgpiaaZ00
import Derived.Test.YtfplhpkolcgpiaaZ01
import Derived.Test.YtfplhpkolcgpiaaZ07
import Derived.Test.YtfplhpkolcgpiaaZ08
import Derived.Test.YtfplhpkolcgpiaaZ42
namespace Go.Proofs.Ytfplhpkolcgpiaa
open Go.RowKit Go.ChangeShapes Go.WideShapes
open Go.Lib
set_option linter.unusedVariables false
set_option linter.unusedSimpArgs false
theorem BookTells_walk (a0 : Option Addr) (len0 cap0 : Nat) (z0 : List Tr) (a1 : Option Addr) (len1 cap1 : Nat) (z1 : List Sl) (a2 : ByteArray) (a3 a4 : Int) (w : World) (w0 : TripsIn w a0 len0 z0) (w1 : len1 = z1.length ∧ SlArg w a1 cap1 z1) (w2 : a2.size ≤ 140737488351232) (w3 : (Lit.int .i64 a3).wf = true) (w4 : (Lit.int .i64 a4).wf = true) :
    Calls Try.prog 3 #[.slice a0 len0 cap0, .slice a1 len1 cap1, .string a2, .int .i64 a3, .int .i64 a4] w fun e w' => e = .returned (.bool true) ∧ Below w.heap.size w w' := by
  obtain rfl := w0.1.symm
  obtain ⟨rfl, w1⟩ := w1
  have hz : a2.data.toList.length ≤ 9223372036854775807 := by have h : a2.data.toList.length = a2.size := (by simp); omega
  exact (booktells_any bookProOk a0 cap0 z0 a1 cap1 z1 a2.data.toList a2 (B_of a2) hz a3 a4 w (Rel.start trivial) w0 w1 (wf64K w3) (wf64K w4)).mono fun e w' h => ⟨h.1, h.2.2⟩
end Go.Proofs.Ytfplhpkolcgpiaa
