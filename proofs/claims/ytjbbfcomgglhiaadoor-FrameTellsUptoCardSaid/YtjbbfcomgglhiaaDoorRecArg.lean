/- A record as an argument, opened; the statement's walk over what the program was shown to tell: FrameTells. -/
import Derived.Test.YtjbbfcomgglhiaaDoorFrameLaws
import Derived.Test.YtjbbfcomgglhiaaDoorFrameLawG
import Derived.Lib.SmallJoins
namespace Go.Proofs.YtjbbfcomgglhiaaDoor
open Go.RowKit Go.ChangeShapes Go.WideShapes
open Go.Lib hiding intOf
set_option linter.unusedVariables false
set_option linter.unusedSimpArgs false

section
variable {H : Type} {enc : TypeId × Value → H} {w : World} {base : Nat} {held : Bool}
set_option maxRecDepth 100000 in
theorem rec_open {r : Reach} {b0 : Nat} {v : Value} {d : DataW H} {p : List MemPlace} (hv : Value.okWide Tryd.prog w r b0 24 v) (h : DataW.Trod enc Tryd.prog w base (fun _ => true) held 24 v d p) :
    ∃ (k : Int) (A : Option Addr) (n c : Nat) (t : ByteArray) (zs : List Int), v = .agg #[.int .i64 k, .slice A n c, .string t] ∧ zs.length = n ∧ zs.length ≤ 9223372036854775807 ∧ t.size ≤ 9223372036854775807 ∧ IntsAt w A zs := by
  obtain ⟨v0, v1, v2, y0, y1, y2, m, rfl, rfl, rfl, h0, h1, h2⟩ := Joins.open_agg3 Tryd.underlying24 (by kernel_rfl) (by kernel_rfl) hv h
  obtain ⟨k, e0, _, _⟩ := DataW.trod_int Tryd.underlying3 h0
  obtain ⟨t, e2, _, ht⟩ := DataW.trod_string Tryd.underlying9 h2
  obtain ⟨A, n, c, e1⟩ := Joins.slice_form Tryd.underlying22 h1
  obtain rfl : v0 = .int .i64 k := by simpa using e0
  obtain rfl : v2 = .string t := by simpa using e2
  obtain rfl : v1 = .slice A n c := by simpa using e1
  obtain ⟨zs, q1, q2, _, q4⟩ := ints_open h1
  exact ⟨k, A, n, c, t, zs, rfl, q1, q2, max63 ht, q4⟩
end
theorem FrameTells_walk (k0 : Int) (a0 : Option Addr) (n0 c0 : Nat) (t0 : ByteArray) (z0 : List Int) (a1 : Option Addr) (n1 c1 : Nat) (z1 : List (List Int)) (a2 : Option Addr) (n2 c2 : Nat) (z2 : List ByteArray) (a3 : ByteArray) (a4 : Int) (a5 : ByteArray) (w : World)
    (w0 : z0.length = n0 ∧ z0.length ≤ 9223372036854775807 ∧ t0.size ≤ 9223372036854775807 ∧ IntsAt w a0 z0) (w1 : RowsIn w a1 n1 z1) (w2 : StrsIn w a2 n2 z2) (s3 : a3.size ≤ 1048576) (w4 : (Lit.int .i64 a4).wf = true) (s5 : a5.size ≤ 1048576) (hT : Tab w) :
    Calls Tryd.prog 3 #[.agg #[.int .i64 k0, .slice a0 n0 c0, .string t0], .slice a1 n1 c1, .slice a2 n2 c2, .string a3, .int .i64 a4, .string a5] w fun e w' => e = .returned (.bool true) ∧ Below w.heap.size w w' := by
  obtain ⟨rfl, l0, lt0, x0⟩ := w0
  obtain ⟨rfl, l1, b1, x1⟩ := w1
  obtain ⟨rfl, l2, b2, x2⟩ := w2
  exact FrameTells_at awakeOk encOk scanOk rightOk k0 a0 c0 z0 t0 l0 lt0 a1 a2 c1 c2 z1 z2 l1 l2 (Lib.hid b1) (Lib.hid b2) a3 s3 a4 (wf64 w4).1 (wf64 w4).2 a5 s5 w (Rel.start hT) (Lib.hid x0) (Lib.hid x1) (Lib.hid x2)
end Go.Proofs.YtjbbfcomgglhiaaDoor
