/- ParseDeep's walk for its proof, over what the program was shown to tell. -/
import Derived.Test.YtoajbbcjmalngaaZ36
import Derived.Test.YtoajbbcjmalngaaZ37
import Derived.Test.YtoajbbcjmalngaaZ06
import Derived.Test.YtoajbbcjmalngaaRows
namespace Go.Proofs.Ytoajbbcjmalngaa
open Go.RowKit Go.Lib
set_option linter.unusedVariables false
set_option linter.unusedSimpArgs false

theorem ParseDeep_at (HP : ParseOk) (n kind cut : Int) (n0 : -9223372036854775808 ≤ n) (n1 : n ≤ 9223372036854775807) (k0 : -9223372036854775808 ≤ kind) (k1 : kind ≤ 9223372036854775807) (c0 : -9223372036854775808 ≤ cut) (c1 : cut ≤ 9223372036854775807) (w : World) (hr : Rel w w) :
    Calls Try.prog 4 #[.int .i64 n, .int .i64 kind, .int .i64 cut] w fun e w' => e = .returned (.bool true) ∧ Rel w w' := by
  have b1 := pk_bd kind 3 (by omega)
  have b2 := pk_bd n 5 (by omega)
  obtain ⟨j, hj⟩ : ∃ j : Nat, pk kind 3 = (j : Int) := ⟨(pk kind 3).toNat, by omega⟩
  obtain ⟨k, hk⟩ : ∃ k : Nat, 30 + pk n 5 = (k : Int) := ⟨(30 + pk n 5).toNat, by omega⟩
  have hj3 : j < 3 := by omega
  have hk34 : k ≤ 34 := by omega
  have hjs : j = 0 ∨ j = 1 ∨ j = 2 := by omega
  rcases hjs with e | e | e
  · have hks : k ≤ 32 ∨ k = 33 ∨ k = 34 := by omega
    rcases hks with f | f | f
    · exact deep_way0 HP n kind cut n0 n1 k0 k1 c0 c1 j k hj hk hj3 e f w hr
    · exact deep_way1 HP n kind cut n0 n1 k0 k1 c0 c1 j k hj hk hj3 e f w hr
    · exact deep_way2 HP n kind cut n0 n1 k0 k1 c0 c1 j k hj hk hj3 e f w hr
  · have hks : k ≤ 32 ∨ k = 33 ∨ k = 34 := by omega
    rcases hks with f | f | f
    · exact deep_way3 HP n kind cut n0 n1 k0 k1 c0 c1 j k hj hk hj3 e f w hr
    · exact deep_way4 HP n kind cut n0 n1 k0 k1 c0 c1 j k hj hk hj3 e f w hr
    · exact deep_way5 HP n kind cut n0 n1 k0 k1 c0 c1 j k hj hk hj3 e f w hr
  · have hks : k ≤ 31 ∨ k = 32 ∨ k = 33 ∨ k = 34 := by omega
    rcases hks with f | f | f | f
    · exact deep_way6 HP n kind cut n0 n1 k0 k1 c0 c1 j k hj hk hj3 e f w hr
    · exact deep_way7 HP n kind cut n0 n1 k0 k1 c0 c1 j k hj hk hj3 e f w hr
    · exact deep_way8 HP n kind cut n0 n1 k0 k1 c0 c1 j k hj hk hj3 e f w hr
    · exact deep_way9 HP n kind cut n0 n1 k0 k1 c0 c1 j k hj hk hj3 e f w hr
theorem ParseDeep_walk (a0 a1 a2 : Int) (w : World) (w0 : (Lit.int .i64 a0).wf = true) (w1 : (Lit.int .i64 a1).wf = true) (w2 : (Lit.int .i64 a2).wf = true) :
    Calls Try.prog 4 #[.int .i64 a0, .int .i64 a1, .int .i64 a2] w fun e w' => e = .returned (.bool true) ∧ Below w.heap.size w w' :=
  (ParseDeep_at parseOk a0 a1 a2 (wf64 w0).1 (wf64 w0).2 (wf64 w1).1 (wf64 w1).2 (wf64 w2).1 (wf64 w2).2 w ⟨trivial, Below.refl _ _⟩).mono fun e w' h => ⟨h.1, h.2.2⟩
end Go.Proofs.Ytoajbbcjmalngaa
