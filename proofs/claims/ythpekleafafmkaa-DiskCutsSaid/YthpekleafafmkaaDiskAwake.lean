/- The law's first calls. -/
import Derived.Test.YthpekleafafmkaaDiskRef
namespace Go.Proofs.Ythpekleafafmkaa
open Go.RowKit Go.Lib
set_option linter.unusedVariables false
set_option linter.unusedSimpArgs false

def AB : ByteArray := ⟨#[97, 98]⟩
def CD : ByteArray := ⟨#[99, 100]⟩
set_option maxRecDepth 100000 in
set_option maxHeartbeats 4000000 in
theorem awake_any (H : DiskOk) (w0 w : World) (hr : Rel w0 w) :
    Calls Try.prog 8 #[] w fun e w' => e = .returned (.bool true) ∧ Rel w0 w' := by
  have H := Lib.hid H
  go_enter Try.func8, Try.ntmps8
  go_upto_region 3 with (first
    | (go_at_call 15; (with_reducible refine (app_of H.out E0 E0 ⟨#[97, 98]⟩ ⟨#[97, 98]⟩ (Lib.hid rfl) (by decide) _ _ hr.self).mono ?_); rintro e w1 ⟨rfl, h1⟩)
    | (go_at_call 17; (with_reducible refine (sync_of H.out E0 ⟨#[97, 98]⟩ ⟨#[97, 98]⟩ (Lib.hid rfl) (by decide) (by decide) _ _ (h1.alloc _).self).mono ?_); rintro e w2 ⟨rfl, h2⟩; have HA2 := (Bk.new w1 23 #[.string E0, .string ⟨#[97, 98]⟩]).rel h2)
    | (go_at_call 15; (with_reducible refine (app_of H.out ⟨#[97, 98]⟩ E0 ⟨#[99, 100]⟩ ⟨#[99, 100]⟩ (Lib.hid rfl) (by decide) _ _ h2.self).mono ?_); rintro e w3 ⟨rfl, h3⟩; have HA3 := HA2.rel h3))
  have HA4 := HA3.alloc (.cells #[.string ⟨#[97, 98]⟩, .string ⟨#[99, 100]⟩] 23)
  have HB4 := Bk.new w3 23 #[.string ⟨#[97, 98]⟩, .string ⟨#[99, 100]⟩]
  have R4 := (hr.trans ((h1.alloc _).trans (h2.trans h3))).alloc (.cells #[.string ⟨#[97, 98]⟩, .string ⟨#[99, 100]⟩] 23)
  obtain ⟨W, hW⟩ : ∃ W, w3.alloc (.cells #[.string ⟨#[97, 98]⟩, .string ⟨#[99, 100]⟩] 23) = W := ⟨_, rfl⟩
  rw [hW] at HA4 HB4 R4 ⊢
  obtain ⟨⟨a0, a1⟩, _⟩ := HA4.two
  obtain ⟨⟨b0, b1⟩, _⟩ := HB4.two
  have HA := Lib.hid HA4
  have HB := Lib.hid HB4
  have HR := Lib.hid R4
  clear hW HA2 HA3 HA4 HB4 R4 h1 h2 h3
  go_wp2_with (first
    | (go_at_call 11; (with_reducible refine (crash_of H.out ⟨#[97, 98]⟩ ⟨#[99, 100]⟩ 1 ⟨#[97, 98, 99]⟩ (Lib.hid rfl) (by decide) (by decide) (by decide) _ _ HR.out.self).mono ?_); rintro e w4 ⟨rfl, h4⟩; obtain ⟨⟨a0, a1⟩, _⟩ := (HA.out.rel h4).two; obtain ⟨⟨b0, b1⟩, _⟩ := (HB.out.rel h4).two)
    | (go_at_call 19; (with_reducible refine (all_of H.out ⟨#[97, 98, 99]⟩ E0 ⟨#[97, 98, 99]⟩ (Lib.hid rfl) (by decide) (by decide) _ _ h4).mono ?_); rintro e w5 ⟨rfl, h5⟩; obtain ⟨⟨a0, a1⟩, _⟩ := (HA.out.rel h5).two; obtain ⟨⟨b0, b1⟩, _⟩ := (HB.out.rel h5).two)
    | (go_at_call 11; (with_reducible refine (crash_of H.out E0 ⟨#[97, 98]⟩ (-1) E0 (Lib.hid rfl) (by decide) (by decide) (by decide) _ _ h5).mono ?_); rintro e w6 ⟨rfl, h6⟩; obtain ⟨⟨a0, a1⟩, _⟩ := (HA.out.rel h6).two; obtain ⟨⟨b0, b1⟩, _⟩ := (HB.out.rel h6).two)
    | (go_at_call 19; (with_reducible refine (all_of H.out E0 E0 E0 (Lib.hid rfl) (by decide) (by decide) _ _ h6).mono ?_); rintro e w7 ⟨rfl, h7⟩; obtain ⟨⟨a0, a1⟩, _⟩ := (HA.out.rel h7).two; obtain ⟨⟨b0, b1⟩, _⟩ := (HB.out.rel h7).two)
    | (go_at_call 19; (with_reducible refine (all_of H.out ⟨#[97, 98]⟩ ⟨#[99, 100]⟩ ⟨#[97, 98, 99, 100]⟩ (Lib.hid rfl) (by decide) (by decide) _ _ h7).mono ?_); rintro e w8 ⟨rfl, h8⟩; obtain ⟨⟨a0, a1⟩, _⟩ := (HA.out.rel h8).two; obtain ⟨⟨b0, b1⟩, _⟩ := (HB.out.rel h8).two)
    | (go_at_call 13; (with_reducible refine (cut_of H.out ⟨#[97, 98]⟩ ⟨#[99, 100]⟩ 3 ⟨#[97, 98, 99]⟩ (Lib.hid rfl) (by decide) (by decide) (by decide) _ _ h8).mono ?_); rintro e w9 ⟨rfl, h9⟩; obtain ⟨⟨a0, a1⟩, _⟩ := (HA.out.rel h9).two; obtain ⟨⟨b0, b1⟩, _⟩ := (HB.out.rel h9).two))
  go_ret
  exact ⟨rfl, HR.out.trans h9⟩
end Go.Proofs.Ythpekleafafmkaa
