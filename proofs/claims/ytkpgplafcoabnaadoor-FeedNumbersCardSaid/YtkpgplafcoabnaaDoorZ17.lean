/- Plain mathematics of layer 7: expressions, their texts, sizes and depths. No program in this text; FeedField, over what the program is asked. -/
import Derived.Test.YtkpgplafcoabnaaDoorZL
import Derived.Test.YtkpgplafcoabnaaDoorZ00
import Derived.Test.YtkpgplafcoabnaaDoorZ01
import Derived.Test.YtkpgplafcoabnaaDoorZ02
import Derived.Test.YtkpgplafcoabnaaDoorZ06
namespace Go.Proofs.YtkpgplafcoabnaaDoor
open Go.Lib
set_option linter.unusedVariables false
set_option linter.unusedSimpArgs false
def Ex.nm : Ex → List UInt8 | .mk _ _ nm _ => nm
end Go.Proofs.YtkpgplafcoabnaaDoor

namespace Go.Proofs.YtkpgplafcoabnaaDoor
open Go.RowKit Go.Lib
set_option linter.unusedVariables false
set_option linter.unusedSimpArgs false
/-- What each operation of the region of bad fields leaves in its slot. -/
def BadP (nm sq pr : ByteArray) (mm : Int) (m : Nat) : Nat → Value → World → Prop
  | 0, v, _ => v = .string nm
  | 1, v, w => ∃ g, v = .slice (some ⟨g, 0, none⟩) 6 6 ∧ Bk w g 9 #[.string ⟨#[48]⟩, .string ⟨#[]⟩, .string ⟨#[45, 49]⟩, .string ⟨#[48, 55]⟩, .string ⟨#[49, 48, 48, 48, 48, 48, 48, 48, 48, 48, 48, 48, 49]⟩, .string ⟨#[49, 46, 53]⟩]
  | 2, v, _ => v = .int .i64 mm
  | 3, v, _ => v = .int .i64 (m : Int)
  | 4, v, w => ∃ g, v = .pointer (some ⟨g, m, none⟩) ∧ Bk w g 9 #[.string ⟨#[48]⟩, .string ⟨#[]⟩, .string ⟨#[45, 49]⟩, .string ⟨#[48, 55]⟩, .string ⟨#[49, 48, 48, 48, 48, 48, 48, 48, 48, 48, 48, 48, 49]⟩, .string ⟨#[49, 46, 53]⟩]
  | 5, v, _ => v = .string sq
  | 6, v, _ => v = .string nm
  | 7, v, _ => v = .string nm
  | 8, v, w => ∃ g, v = .slice (some ⟨g, 0, none⟩) 6 6 ∧ Bk w g 9 #[.string ⟨#[48, 46, 48, 48]⟩, .string ⟨#[]⟩, .string ⟨#[45, 49, 46, 48, 48]⟩, .string ⟨#[49]⟩, .string ⟨#[71, 111, 110, 101]⟩, .string ⟨#[49, 48, 48, 48, 48, 48, 48, 48, 48, 48, 48, 46, 48, 49]⟩]
  | 9, v, _ => v = .int .i64 mm
  | 10, v, _ => v = .int .i64 (m : Int)
  | 11, v, w => ∃ g, v = .pointer (some ⟨g, m, none⟩) ∧ Bk w g 9 #[.string ⟨#[48, 46, 48, 48]⟩, .string ⟨#[]⟩, .string ⟨#[45, 49, 46, 48, 48]⟩, .string ⟨#[49]⟩, .string ⟨#[71, 111, 110, 101]⟩, .string ⟨#[49, 48, 48, 48, 48, 48, 48, 48, 48, 48, 48, 46, 48, 49]⟩]
  | 12, v, _ => v = .string pr
  | 13, v, w => ∃ g, v = .slice (some ⟨g, 0, none⟩) 5 5 ∧ Bk w g 9 #[.string nm, .string sq, .string nm, .string nm, .string pr]
  | _, _, _ => True
theorem BadP.rel {nm sq pr : ByteArray} {mm : Int} {m : Nat} {w w' : World} (hr : Rel w w') : ∀ (i : Nat) (v : Value), BadP nm sq pr mm m i v w → BadP nm sq pr mm m i v w' := by
  intro i v h
  unfold BadP at h ⊢
  split at h
  · exact h
  · obtain ⟨g, e, hb⟩ := h; exact ⟨g, e, hb.rel hr⟩
  · exact h
  · exact h
  · obtain ⟨g, e, hb⟩ := h; exact ⟨g, e, hb.rel hr⟩
  · exact h
  · exact h
  · exact h
  · obtain ⟨g, e, hb⟩ := h; exact ⟨g, e, hb.rel hr⟩
  · exact h
  · exact h
  · obtain ⟨g, e, hb⟩ := h; exact ⟨g, e, hb.rel hr⟩
  · exact h
  · obtain ⟨g, e, hb⟩ := h; exact ⟨g, e, hb.rel hr⟩
  · exact h
/-- The slots and the world, what is done being listed. -/
def BadI (V : World) (nm sq pr : ByteArray) (mm : Int) (m : Nat) (l : Array Bool) (f : Nat → Value) (w : World) : Prop := Rel V w ∧ ∀ i, i < 14 → l.getD i false = true → BadP nm sq pr mm m i (f (i + 80)) w
theorem BadI.put {V : World} {nm sq pr : ByteArray} {mm : Int} {m : Nat} {l : Array Bool} {f : Nat → Value} {w w' : World} (h : BadI V nm sq pr mm m l f w) (hr : Rel w w') (i : Nat) (hi : i < 14) (d : Nat) (hd : i + 80 = d) {v : Value} (hv : BadP nm sq pr mm m i v w') : BadI V nm sq pr mm m (l.setIfInBounds i true) (fun k => if k = d then v else f k) w' := by
  refine ⟨h.1.trans hr, fun j hj hl => ?_⟩
  by_cases e : j = i
  · subst e
    rw [hd]
    show BadP nm sq pr mm m j (if d = d then v else f d) w'
    rw [if_pos rfl]
    exact hv
  · rw [getD_set e] at hl
    have := BadP.rel hr j _ (h.2 j hj hl)
    show BadP nm sq pr mm m j (if j + 80 = d then v else f (j + 80)) w'
    rw [if_neg (by omega)]
    exact this
end Go.Proofs.YtkpgplafcoabnaaDoor
