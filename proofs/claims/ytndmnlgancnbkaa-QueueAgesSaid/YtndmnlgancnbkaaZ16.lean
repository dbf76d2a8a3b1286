/- Plain mathematics of layer 17: as urgent ones, wanted one behind the other (QueueAges). No program in this text. -/
import Derived.Test.YtndmnlgancnbkaaZL
import Derived.Test.YtndmnlgancnbkaaZ00
import Derived.Test.YtndmnlgancnbkaaZ01
import Derived.Test.YtndmnlgancnbkaaZ02
namespace Go.Proofs.Ytndmnlgancnbkaa
open Go.Lib
set_option linter.unusedVariables false
set_option linter.unusedSimpArgs false
theorem hasn {L : List It} {k : Int} (h : ∀ z ∈ L, z.1 ≠ k) : hasH L k = false := by
  cases e : hasH L k with
  | false => rfl
  | true => obtain ⟨z, hz, q⟩ := has_iff.1 e; exact absurd q (h z hz)
/-- The first one, and i behind it. -/
structure AgF (f : Int) (i : Nat) (L : List It) : Prop where
  srt : Srt L
  len : L.length = i + 1
  mem : ∀ z, z ∈ L ↔ z = (11, -5) ∨ ∃ j : Nat, j < i ∧ z = (10 - (j : Int), f - (j : Int))
/-- Those from lo on, below hi. -/
structure AgL (f : Int) (lo hi : Nat) (L : List It) : Prop where
  srt : Srt L
  len : L.length + lo = hi
  mem : ∀ z, z ∈ L ↔ ∃ j : Nat, lo ≤ j ∧ j < hi ∧ z = (10 - (j : Int), f - (j : Int))
theorem agf_nil (f : Int) : AgF f 0 [(11, -5)] := ⟨List.pairwise_singleton _ _, rfl, fun z => by
  rw [List.mem_singleton]
  exact ⟨.inl, fun h => h.elim id (fun ⟨j, h, _⟩ => absurd h (Nat.not_lt_zero j))⟩⟩
theorem agf_has {f : Int} {i : Nat} {L : List It} (h : AgF f i L) : hasH L (10 - (i : Int)) = false := hasn fun z hz e => by
  rcases (h.mem z).1 hz with rfl | ⟨j, hj, rfl⟩
  · have e : (11 : Int) = 10 - (i : Int) := e
    omega
  · have e : 10 - (j : Int) = 10 - (i : Int) := e
    omega
theorem agf_step {f : Int} {i : Nat} {L : List It} (h : AgF f i L) : AgF f (i + 1) (insH L (10 - (i : Int), f - (i : Int))) := by
  refine ⟨ins_srt h.srt (agf_has h), by rw [ins_len, h.len], fun z => ?_⟩
  rw [ins_mem, h.mem]
  constructor
  · rintro (rfl | rfl | ⟨j, hj, rfl⟩)
    · exact .inr ⟨i, Nat.lt_succ_self i, rfl⟩
    · exact .inl rfl
    · exact .inr ⟨j, by omega, rfl⟩
  · rintro (rfl | ⟨j, hj, rfl⟩)
    · exact .inr (.inl rfl)
    · by_cases e : j = i
      · subst e; exact .inl rfl
      · exact .inr (.inr ⟨j, by omega, rfl⟩)
theorem agf_top {f : Int} {i : Nat} {L : List It} (h : AgF f i L) (hf : f < -5) : topH L = some (11, -5) ∧ AgL f 0 i (popH L) := by
  have hm : ((11, -5) : It) ∈ L := (h.mem _).2 (.inl rfl)
  have ht : topH L = some (11, -5) := top_is h.srt hm fun y hy => by
    rcases (h.mem y).1 hy with rfl | ⟨j, hj, rfl⟩
    · exact .inl rfl
    · right
      show f - (j : Int) < -5 ∨ _
      omega
  have hp : popH L = remH L 11 := by unfold popH; rw [ht]
  refine ⟨ht, ?_⟩
  rw [hp]
  have hl := rem_len h.srt hm
  refine ⟨rem_srt h.srt _, by have := h.len; have hl : (remH L 11).length + 1 = L.length := hl; omega, fun z => ?_⟩
  rw [rem_mem, h.mem]
  constructor
  · rintro ⟨rfl | ⟨j, hj, rfl⟩, hk⟩
    · exact absurd rfl hk
    · exact ⟨j, Nat.zero_le _, hj, rfl⟩
  · rintro ⟨j, _, hj, rfl⟩
    refine ⟨.inr ⟨j, hj, rfl⟩, ?_⟩
    show 10 - (j : Int) ≠ 11
    omega
theorem agl_top {f : Int} {lo hi : Nat} {L : List It} (h : AgL f lo hi L) (hl : lo < hi) : topH L = some (10 - (lo : Int), f - (lo : Int)) ∧ AgL f (lo + 1) hi (popH L) := by
  have hm : ((10 - (lo : Int), f - (lo : Int)) : It) ∈ L := (h.mem _).2 ⟨lo, Nat.le_refl _, hl, rfl⟩
  have ht : topH L = some (10 - (lo : Int), f - (lo : Int)) := top_is h.srt hm fun y hy => by
    obtain ⟨j, h1, h2, rfl⟩ := (h.mem y).1 hy
    by_cases e : j = lo
    · subst e; exact .inl rfl
    · right
      show f - (j : Int) < f - (lo : Int) ∨ _
      omega
  have hp : popH L = remH L (10 - (lo : Int)) := by unfold popH; rw [ht]
  refine ⟨ht, ?_⟩
  rw [hp]
  have hlen : (remH L (10 - (lo : Int))).length + 1 = L.length := rem_len h.srt hm
  refine ⟨rem_srt h.srt _, by have := h.len; omega, fun z => ?_⟩
  rw [rem_mem, h.mem]
  constructor
  · rintro ⟨⟨j, h1, h2, rfl⟩, hk⟩
    have hk : 10 - (j : Int) ≠ 10 - (lo : Int) := hk
    exact ⟨j, by omega, h2, rfl⟩
  · rintro ⟨j, h1, h2, rfl⟩
    refine ⟨⟨j, by omega, h2, rfl⟩, ?_⟩
    show 10 - (j : Int) ≠ 10 - (lo : Int)
    omega
theorem agl_end {f : Int} {n : Nat} {L : List It} (h : AgL f n n L) : L = [] := List.eq_nil_of_length_eq_zero (by have := h.len; omega)
end Go.Proofs.Ytndmnlgancnbkaa
