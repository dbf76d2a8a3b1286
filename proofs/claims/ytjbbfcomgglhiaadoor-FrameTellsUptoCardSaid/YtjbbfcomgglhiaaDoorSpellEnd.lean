/- How spelled ends. -/
import Derived.Test.YtjbbfcomgglhiaaDoorSpellLeaf
namespace Go.Proofs.YtjbbfcomgglhiaaDoor
open Go.RowKit
open Go.Lib hiding intOf
set_option linter.unusedVariables false
set_option linter.unusedSimpArgs false
attribute [local go_sem] Oper.semAt_some

theorem spell_end {W : World} {rb D : Nat} {K : Int} {A : Option Addr} {n c : Nat} {tx : ByteArray} {ok : Bool} {R : Ending → World → Prop} {a : Act} (h2 : a.tmps.getD 2 undef = .pointer (some ⟨rb, 0, none⟩)) (h3 : a.tmps.getD 3 undef = .pointer (some ⟨rb + 1, 0, none⟩))
    (hd : a.defers = [{ target := .collected D, args := #[] }]) (hD : rb + 1 < D) (hK : W.heap[D]? = some (.deferred (some []))) (hb : Bk W rb 24 #[.int .i64 K, .slice A n c, .string tx]) (hc : Boxed W (rb + 1) 4 (.bool ok))
    (hR : R (.returned (.tuple #[.agg #[.int .i64 K, .slice A n c, .string tx], .bool ok])) (W.putObj D (.deferred none))) : bodyPostM Fence.wide 6 Tryd.prog Tryd.f40 R .ret a W := by
  show LeavesInM Fence.wide 6 Tryd.prog Tryd.f40 a.tmps R a.defers .returning W
  rw [hd]
  refine ⟨by simp, .inl ⟨_, _, rfl, run_takeDeferred hK, ?_⟩⟩
  obtain ⟨⟨c0, c1, c2⟩, _⟩ := Bk.three (show Bk (W.putObj D (.deferred none)) rb 24 #[.int .i64 K, .slice A n c, .string tx] from (put_ne W D rb _ (by omega)).trans hb)
  have c3 := Boxed.cell (show Boxed (W.putObj D (.deferred none)) (rb + 1) 4 (.bool ok) from (put_ne W D (rb + 1) _ (by omega)).trans hc)
  have h2' : a.tmps[2]?.getD undef = .pointer (some ⟨rb, 0, none⟩) := by simpa using h2
  have h3' : a.tmps[3]?.getD undef = .pointer (some ⟨rb + 1, 0, none⟩) := by simpa using h3
  refine ⟨_, ?_, hR⟩
  simp [results, Tryd.f40, go_sem, h2', h3', c0, c1, c2, c3]
end Go.Proofs.YtjbbfcomgglhiaaDoor
