/- A disk as an argument, opened; the five walks over what the program was shown to tell ('diskOk', of the seat's own text). -/
import Derived.Test.YthpekleafafmkaaDiskLawB
import Derived.Test.YthpekleafafmkaaDiskLawC
import Derived.Test.YthpekleafafmkaaDiskLawD
import Derived.Test.YthpekleafafmkaaDiskLawE
import Derived.Test.YthpekleafafmkaaDiskLeaf
import Derived.Lib.SmallJoins
import Derived.ShutString
import Derived.Test.YthpekleafafmkaaRows
namespace Go.Proofs.Ythpekleafafmkaa
open Go.RowKit Go.ChangeShapes Go.WideShapes
open Go.Lib
set_option linter.unusedVariables false
set_option linter.unusedSimpArgs false

section
variable {H : Type} {enc : TypeId × Value → H} {w : World} {base : Nat} {held : Bool}
theorem max63 {t : ByteArray} (h : t.size ≤ maxLen) : t.size ≤ 9223372036854775807 := by unfold maxLen at h; omega
set_option maxRecDepth 100000 in
theorem disk_open {r : Reach} {b0 : Nat} {v : Value} {d : DataW H} {p : List MemPlace} (hv : Value.okWide Try.prog w r b0 23 v) (h : DataW.Trod enc Try.prog w base (fun _ => true) held 23 v d p) :
    ∃ (s t : ByteArray), v = .agg #[.string s, .string t] ∧ s.size ≤ 9223372036854775807 ∧ t.size ≤ 9223372036854775807 := by
  obtain ⟨v0, v1, y0, y1, m, rfl, rfl, rfl, h0, h1⟩ := Joins.open_agg2 Try.underlying23 (by kernel_rfl) (by kernel_rfl) hv h
  obtain ⟨s, e0, _, hs⟩ := DataW.trod_string Try.underlying9 h0
  obtain ⟨t, e1, _, ht⟩ := DataW.trod_string Try.underlying9 h1
  obtain rfl : v0 = .string s := by simpa using e0
  obtain rfl : v1 = .string t := by simpa using e1
  exact ⟨s, t, rfl, max63 hs, max63 ht⟩
end
theorem DiskTells_walk (s0 t0 : ByteArray) (a1 : ByteArray) (a2 : Int) (w : World) (w0 : s0.size ≤ 9223372036854775807 ∧ t0.size ≤ 9223372036854775807) (w1 : a1.size ≤ 9223372036854775807) (w2 : (Lit.int .i64 a2).wf = true) :
    Calls Try.prog 3 #[.agg #[.string s0, .string t0], .string a1, .int .i64 a2] w fun e w' => e = .returned (.bool true) ∧ Below w.heap.size w w' := DiskTells_at diskOk s0 t0 a1 a2 w0.1 w0.2 w1 w2 w (Rel.start trivial)
theorem DiskTorn_walk (s0 t0 : ByteArray) (a1 a2 : Int) (w : World) (w0 : s0.size ≤ 9223372036854775807 ∧ t0.size ≤ 9223372036854775807) (w1 : (Lit.int .i64 a1).wf = true) (w2 : (Lit.int .i64 a2).wf = true) :
    Calls Try.prog 4 #[.agg #[.string s0, .string t0], .int .i64 a1, .int .i64 a2] w fun e w' => e = .returned (.bool true) ∧ Below w.heap.size w w' := DiskTorn_at diskOk s0 t0 a1 a2 w0.1 w0.2 w1 w2 w (Rel.start trivial)
theorem DiskFull_walk (a0 : Int) (a1 : ByteArray) (w : World) (w0 : (Lit.int .i64 a0).wf = true) (w1 : a1.size ≤ 9223372036854775807) :
    Calls Try.prog 5 #[.int .i64 a0, .string a1] w fun e w' => e = .returned (.bool true) ∧ Below w.heap.size w w' := DiskFull_at diskOk a0 a1 w0 w1 w (Rel.start trivial)
theorem DiskCuts_walk (s0 t0 : ByteArray) (a1 a2 : Int) (a3 : ByteArray) (w : World) (w0 : s0.size ≤ 9223372036854775807 ∧ t0.size ≤ 9223372036854775807) (w1 : (Lit.int .i64 a1).wf = true) (w2 : (Lit.int .i64 a2).wf = true) (w3 : a3.size ≤ 9223372036854775807) :
    Calls Try.prog 6 #[.agg #[.string s0, .string t0], .int .i64 a1, .int .i64 a2, .string a3] w fun e w' => e = .returned (.bool true) ∧ Below w.heap.size w w' := DiskCuts_at diskOk s0 t0 a1 a2 a3 w0.1 w0.2 w1 w2 w3 w (Rel.start trivial)
theorem DiskSteps_walk (a0 a1 a2 : ByteArray) (a3 : Int) (w : World) (w0 : a0.size ≤ 9223372036854775807) (w1 : a1.size ≤ 9223372036854775807) (w2 : a2.size ≤ 9223372036854775807) (w3 : (Lit.int .i64 a3).wf = true) :
    Calls Try.prog 7 #[.string a0, .string a1, .string a2, .int .i64 a3] w fun e w' => e = .returned (.bool true) ∧ Below w.heap.size w w' := DiskSteps_at diskOk a0 a1 a2 a3 w0 w1 w2 w3 w (Rel.start trivial)
end Go.Proofs.Ythpekleafafmkaa
