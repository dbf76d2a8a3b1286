/- The first calls whose answers are fixed. -/
import Derived.Test.YtfpcpmkkeigcmaaDoorDecRef
namespace Go.Proofs.YtfpcpmkkeigcmaaDoor
open Go.RowKit Go.Lib
set_option linter.unusedVariables false
set_option linter.unusedSimpArgs false

theorem tx_lit (a : Int) (l : List UInt8) (h : prs l = some a) : tx a = B l := by unfold tx; rw [(txt_of_prs h).2]
set_option maxHeartbeats 1000000 in
theorem awake_any (w0 w : World) (hr : Rel w0 w) :
    Calls Tryd.prog 9 #[] w fun e w' => e = .returned (.bool true) ∧ Rel w0 w' := by
  have A1 := Lib.hid (show prs1 (⟨#[49, 50, 46, 51, 52]⟩ : ByteArray).data.toList = 1234 by decide)
  have A2 := Lib.hid (show prs2 (⟨#[49, 50, 46, 51, 52]⟩ : ByteArray).data.toList = 0 by decide)
  have B1 := Lib.hid (show prs1 (⟨#[48, 49, 46, 48, 48]⟩ : ByteArray).data.toList = 0 by decide)
  have B2 := Lib.hid (show prs2 (⟨#[48, 49, 46, 48, 48]⟩ : ByteArray).data.toList = 20 by decide)
  have C1 := Lib.hid (show prs1 (⟨#[45, 48, 46, 48, 48]⟩ : ByteArray).data.toList = 0 by decide)
  have C2 := Lib.hid (show prs2 (⟨#[45, 48, 46, 48, 48]⟩ : ByteArray).data.toList = 20 by decide)
  have T1 := Lib.hid (show tx 1234 = ⟨#[49, 50, 46, 51, 52]⟩ from tx_lit _ [49, 50, 46, 51, 52] (by decide))
  have T2 := Lib.hid (show tx (-5) = ⟨#[45, 48, 46, 48, 53]⟩ from tx_lit _ [45, 48, 46, 48, 53] (by decide))
  have N1 := Lib.hid (show num (-120) = ⟨#[45, 49, 50, 48]⟩ by
    unfold num itoa
    rw [if_pos (by decide), show (-120 : Int).natAbs = 120 from rfl, decDigits, dif_neg (by decide), decDigits_two (by decide) (by decide)]
    rfl)
  have D1 := Lib.hid (show cnt (⟨#[55, 48]⟩ : ByteArray).data.toList 70 = 70 by decide)
  have D2 := Lib.hid (show cnt (⟨#[55, 49]⟩ : ByteArray).data.toList 70 = -1 by decide)
  have D3 := Lib.hid (show cnt (⟨#[48, 48]⟩ : ByteArray).data.toList 70 = -1 by decide)
  have sz : ∀ a b c d e, (⟨#[a, b, c, d, e]⟩ : ByteArray).size ≤ 9223372036854775807 := fun a b c d e => by show 5 ≤ _; omega
  have sz2 : ∀ a b, (⟨#[a, b]⟩ : ByteArray).size ≤ 9223372036854775807 := fun a b => by show 2 ≤ _; omega
  go_enter Tryd.func9, Tryd.ntmps9
  go_wp2_with (first
    | (go_at_call 16; (first | (with_reducible refine (two_at 1234 0 (parse_any ⟨#[49, 50, 46, 51, 52]⟩ (sz _ _ _ _ _) _ _ (by assumption)) A1 A2).mono ?_) | (with_reducible refine (two_at 0 20 (parse_any ⟨#[48, 49, 46, 48, 48]⟩ (sz _ _ _ _ _) _ _ (by assumption)) B1 B2).mono ?_) | (with_reducible refine (two_at 0 20 (parse_any ⟨#[45, 48, 46, 48, 48]⟩ (sz _ _ _ _ _) _ _ (by assumption)) C1 C2).mono ?_)); rintro e w' ⟨rfl, hr'⟩)
    | (go_at_call 12; (first | (with_reducible refine (str_at _ (text_any 1234 (by omega) (by omega) _ _ (by assumption)) T1).mono ?_) | (with_reducible refine (str_at _ (text_any (-5) (by omega) (by omega) _ _ (by assumption)) T2).mono ?_)); rintro e w' ⟨rfl, hr'⟩)
    | (go_at_call 14; (with_reducible refine (str_at _ (num_any (-120) (by omega) (by omega) _ _ (by assumption)) N1).mono ?_); rintro e w' ⟨rfl, hr'⟩)
    | (go_at_call 18; (first | (with_reducible refine (int_at 70 (count_any ⟨#[55, 48]⟩ _ (sz2 _ _) _ _ (by assumption)) D1).mono ?_) | (with_reducible refine (int_at (-1) (count_any ⟨#[55, 49]⟩ _ (sz2 _ _) _ _ (by assumption)) D2).mono ?_) | (with_reducible refine (int_at (-1) (count_any ⟨#[48, 48]⟩ _ (sz2 _ _) _ _ (by assumption)) D3).mono ?_)); rintro e w' ⟨rfl, hr'⟩))
  go_ret
  exact ⟨rfl, by assumption⟩
end Go.Proofs.YtfpcpmkkeigcmaaDoor
