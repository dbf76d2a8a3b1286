/- Plain mathematics of layer 16: items by their keys, rising; the most urgent one. No program in this text; Layer 16: two rows compared; what is removed is gone, all others stay. -/
import Derived.Test.YtminmcledbfchaaZL
import Derived.Test.YtminmcledbfchaaZ00
import Derived.Test.YtminmcledbfchaaZ01
import Derived.Test.YtminmcledbfchaaZ06
namespace Go.Proofs.Ytminmcledbfchaa
open Go.Lib
set_option linter.unusedVariables false
set_option linter.unusedSimpArgs false
theorem rem_none {L : List It} {k : Int} (h : hasH L k = false) : remH L k = L := by
  unfold remH
  rw [List.filter_eq_self]
  intro z hz
  refine decide_eq_true fun e => ?_
  have : hasH L k = true := has_iff.2 ⟨z, hz, e⟩
  rw [h] at this; cases this
/-- What was removed and is put again is there again. -/
theorem ins_rem {L : List It} (h : Srt L) {x : It} (hx : x ∈ L) : insH (remH L x.1) x = L := by
  have hn : hasH (remH L x.1) x.1 = false := by
    cases hh : hasH (remH L x.1) x.1 with
    | false => rfl
    | true => obtain ⟨y, hy, e⟩ := has_iff.1 hh; exact absurd e (rem_mem.1 hy).2
  refine srt_ext (ins_srt (rem_srt h _) hn) h fun z => ?_
  rw [ins_mem, rem_mem]
  constructor
  · rintro (rfl | ⟨q, _⟩)
    · exact hx
    · exact q
  · intro hz
    by_cases e : z.1 = x.1
    · exact .inl (srt_key h hz hx e)
    · exact .inr ⟨hz, e⟩
end Go.Proofs.Ytminmcledbfchaa

namespace Go.Proofs.Ytminmcledbfchaa
open Go.RowKit Go.Lib
set_option linter.unusedVariables false
set_option linter.unusedSimpArgs false
theorem row16_at {w : World} {A : Option Addr} {l : List It} (h : RowAt clH 2 w A l) (h0 : 0 < l.length) : ∃ g off : Nat, A = some ⟨g, off, none⟩ ∧ ∀ i (hi : i < l.length), w.cell? ⟨g, off + i * 2, none⟩ = some (.int .i64 l[i].1) ∧ w.cell? ⟨g, off + i * 2 + 1, none⟩ = some (.int .i64 l[i].2) := by
  obtain ⟨g, off, rfl, _, _⟩ := h 0 h0
  refine ⟨g, off, rfl, fun i hi => ?_⟩
  obtain ⟨g', off', e, _, hc⟩ := h i hi
  injection e with e
  injection e with e1 e2
  subst e1; subst e2
  exact ⟨hc 0 (by decide), hc 1 (by decide)⟩
set_option maxRecDepth 100000 in
set_option maxHeartbeats 8000000 in
theorem rsame16_yes (L : List It) (A A' : Option Addr) (n c c' : Nat) (hn : L.length = n) (hc : n ≤ c) (hc1 : c ≤ maxLen) (hd : n ≤ c') (hd1 : c' ≤ maxLen) (w : World) (hr : Rel w w) (hi : RowAt clH 2 w A L) (hi' : RowAt clH 2 w A' L) :
    Calls Try.prog 26 #[.slice A n c, .slice A' n c'] w fun e w' => e = .returned (.bool true) ∧ Rel w w' := by
  have HR := Lib.hid hr
  have HI := Lib.hid hi
  have HJ := Lib.hid hi'
  have HN := Lib.hid hn
  unfold maxLen at hc1 hd1
  have k4 : ((n : Int) != (n : Int)) = false := by simp
  clear hr hi hi' hn
  go_enter Try.func26, Try.ntmps26
  go_upto_block 0 with (fail)
  go_wp2_with (fail)
  go_loopw [5] (fun i wr => ∃ j : Nat, i = .int .i64 (j : Int) ∧ j ≤ n ∧ Hid (Rel w wr)) (fun i _ => n - (RowKit.intOf i).toNat)
  case atStart => exact ⟨0, rfl, by omega, HR⟩
  case round =>
    obtain ⟨j, rfl, hj, HW⟩ := hrel
    by_cases hlt : j < n
    · have hjL : j < L.length := by rw [HN.out]; exact hlt
      obtain ⟨g, off, rfl, hc⟩ := row16_at (HI.out.rel HW.out) (by omega)
      obtain ⟨g', off', rfl, hc'⟩ := row16_at (HJ.out.rel HW.out) (by omega)
      obtain ⟨a0, a1⟩ := hc j hjL
      obtain ⟨b0, b1⟩ := hc' j hjL
      obtain ⟨⟨x, y⟩, hx⟩ : ∃ x, L[j] = x := ⟨_, rfl⟩
      rw [hx] at a0 a1 b0 b1
      replace a0 : wr.cell? ⟨g, off + j * 2, none⟩ = some (.int .i64 x) := a0
      replace a1 : wr.cell? ⟨g, off + j * 2 + 1, none⟩ = some (.int .i64 y) := a1
      replace b0 : wr.cell? ⟨g', off' + j * 2, none⟩ = some (.int .i64 x) := b0
      replace b1 : wr.cell? ⟨g', off' + j * 2 + 1, none⟩ = some (.int .i64 y) := b1
      have hij : (j : Int) < (n : Int) := by omega
      have hij0 : (0 : Int) ≤ (j : Int) := by omega
      clear hc hc' hx
      go_upto_region 6 with (fail)
      go_quiet (fail)
      all_goals
        go_wp2_with (fail)
        go_roundw
        case rel => exact ⟨j + 1, by go_num, by omega, Lib.hid (HW.out.drewN _)⟩
        case measure => simp [RowKit.intOf]; omega
    · obtain rfl : j = n := by omega
      go_wp2_with (fail)
      go_ret
      exact ⟨rfl, HW.out⟩
end Go.Proofs.Ytminmcledbfchaa
