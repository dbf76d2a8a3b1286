/- What the laws of layer 12 share; FeedUnlike, over what the program is asked. -/
import Derived.Test.YtkpgplafcoabnaaDoorZL
import Derived.Test.YtkpgplafcoabnaaDoorZ00
import Derived.Test.YtkpgplafcoabnaaDoorZ01
import Derived.Test.YtkpgplafcoabnaaDoorZ02
import Derived.Test.YtkpgplafcoabnaaDoorZ03
namespace Go.Proofs.YtkpgplafcoabnaaDoor
open Go.RowKit Go.Lib
set_option linter.unusedVariables false
set_option linter.unusedSimpArgs false
theorem fd_eq (f g : Fd) : f = g ↔ B f.1 = B g.1 ∧ f.2.1 = g.2.1 ∧ B f.2.2.1 = B g.2.2.1 ∧ B f.2.2.2.1 = B g.2.2.2.1 ∧ f.2.2.2.2 = g.2.2.2.2 := by
  obtain ⟨a, n, c, d, p⟩ := f
  obtain ⟨a', n', c', d', p'⟩ := g
  simp only [Prod.mk.injEq, B_inj2]
theorem int_is (x y : Int) : (x == y) = decide (x = y) := by
  by_cases h : x = y
  · rw [h, decide_eq_true rfl]; simp
  · rw [decide_eq_false h]; simpa using h
theorem feed_eq (W : World) (xa xc xd ya yc yd : ByteArray) (xn xp yn yp : Int) : (Op.equalIn 10000 23 (.agg #[.string xa, .int .i64 xn, .string xc, .string xd, .int .i64 xp]) (.agg #[.string ya, .int .i64 yn, .string yc, .string yd, .int .i64 yp])).run Tryd.prog W = .ok (xa.toList == ya.toList && (xn == yn && (xc.toList == yc.toList && (xd.toList == yd.toList && xp == yp)))) W := by
  simp [go_sem, part]
  by_cases h0 : xa.toList = ya.toList
  · by_cases h1 : xn = yn
    · by_cases h2 : xc.toList = yc.toList
      · by_cases h3 : xd.toList = yd.toList
        · by_cases h4 : xp = yp <;> simp [h0, h1, h2, h3, h4]
        · simp [h0, h1, h2, h3]
      · simp [h0, h1, h2]
    · simp [h0, h1]
  · simp [h0]
/-- Two lines compared. -/
theorem feed_is (f g : Fd) (xa xc xd ya yc yd : ByteArray) (xn xp yn yp : Int) (hx : FV f = .agg #[.string xa, .int .i64 xn, .string xc, .string xd, .int .i64 xp]) (hy : FV g = .agg #[.string ya, .int .i64 yn, .string yc, .string yd, .int .i64 yp]) (W : World) : (Op.equalIn 10000 23 (.agg #[.string xa, .int .i64 xn, .string xc, .string xd, .int .i64 xp]) (.agg #[.string ya, .int .i64 yn, .string yc, .string yd, .int .i64 yp])).run Tryd.prog W = .ok (decide (f = g)) W := by
  rw [feed_eq, bt_is, bt_is, bt_is, int_is, int_is]
  injection hx with hx
  injection hy with hy
  simp only [Array.mk.injEq, List.cons.injEq, Value.string.injEq, Value.int.injEq, true_and, and_true] at hx hy
  obtain ⟨a0, a1, a2, a3, a4⟩ := hx
  obtain ⟨b0, b1, b2, b3, b4⟩ := hy
  subst a0; subst a1; subst a2; subst a3; subst a4; subst b0; subst b1; subst b2; subst b3; subst b4
  congr 1
  rw [Bool.eq_iff_iff]
  simp only [Bool.and_eq_true, decide_eq_true_eq]
  exact (fd_eq f g).symm
end Go.Proofs.YtkpgplafcoabnaaDoor
