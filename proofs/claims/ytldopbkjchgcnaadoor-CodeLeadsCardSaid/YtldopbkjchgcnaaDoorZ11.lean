/- The document's own Word. -/
import Derived.Test.YtldopbkjchgcnaaDoorZ10
namespace Go.Proofs.YtldopbkjchgcnaaDoor
open Go.RowKit Go.Lib
set_option linter.unusedVariables false
set_option linter.unusedSimpArgs false

theorem wordK_other {k : Int} (h : (k == 1) = false ∧ (k == 2) = false ∧ (k == 3) = false ∧ (k == 5) = false ∧ (k == 6) = false ∧ (k == 7) = false ∧ (k == 8) = false ∧ (k == 9) = false ∧ (k == 10) = false ∧ (k == 11) = false ∧ (k == 12) = false) : wordK k = [] := by
  simp only [beq_eq_false_iff_ne] at h
  unfold wordK
  obtain ⟨h1, h2, h3, h5, h6, h7, h8, h9, h10, h11, h12⟩ := h
  rw [if_neg h1, if_neg h2, if_neg h3, if_neg h5, if_neg h6, if_neg h7, if_neg h8, if_neg h9, if_neg h10, if_neg h11, if_neg h12]
def wordCells7 : Array Value := #[.string ⟨#[]⟩, .string ⟨#[108,111,119,101,115,116]⟩, .string ⟨#[115,101,99,111,110,100]⟩, .string ⟨#[102,114,111,109]⟩, .string ⟨#[]⟩, .string ⟨#[108,101,115,115]⟩, .string ⟨#[99,117,116]⟩, .string ⟨#[109,105,110]⟩, .string ⟨#[109,97,120]⟩, .string ⟨#[101,108,115,101]⟩, .string ⟨#[105,102]⟩, .string ⟨#[109,111,114,101]⟩, .string ⟨#[97,98,111,118,101]⟩]
set_option maxHeartbeats 1000000 in
theorem rword7_any (k : Int) (hk : i64 k) (w0 w : World) (hr : Rel w0 w) :
    Calls Tryd.prog 63 #[.int .i64 k] w fun e w' => e = .returned (.string (B (wordK k))) ∧ Rel w0 w' := by
  have k0 := hk.1
  have k9 := hk.2
  rcases kinds k with h | ⟨k1, k2, k3, k4, k5, k6, k7, k8, k9, k10, k11, k12, _⟩
  · rcases h with rfl | rfl | rfl | rfl | rfl | rfl | rfl | rfl | rfl | rfl | rfl | rfl
    all_goals
      have HR := Lib.hid (hr.alloc (.cells wordCells7 9))
      go_enter Tryd.func63, Tryd.ntmps63
      go_wp2_with (fail)
      go_ret
      exact ⟨rfl, HR.out⟩
  · have HE := Lib.hid (wordK_other ⟨k1, k2, k3, k5, k6, k7, k8, k9, k10, k11, k12⟩)
    have HR := Lib.hid (hr.alloc (.cells wordCells7 9))
    have hw : k < 0 ∨ (¬ k < 0 ∧ 13 ≤ k) ∨ k = 0 := by simp only [beq_eq_false_iff_ne] at *; omega
    clear k1 k2 k3 k4 k5 k6 k7 k8 k9 k10 k11 k12
    rcases hw with h | ⟨h, h2⟩ | rfl
    all_goals
      go_enter Tryd.func63, Tryd.ntmps63
      go_wp2_with (fail)
      go_ret
      exact ⟨ret_str (by rw [HE.out]; rfl), HR.out⟩
end Go.Proofs.YtldopbkjchgcnaaDoor
