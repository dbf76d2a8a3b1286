/- What the landed Compile tells. -/
import Derived.Test.YtcckemhelockaaaGreatDoorZL
import Derived.Test.YtcckemhelockaaaGreatDoorZ00
import Derived.Test.YtcckemhelockaaaGreatDoorZ01
import Derived.Test.YtcckemhelockaaaGreatDoorZ02
import Derived.Test.YtcckemhelockaaaGreatDoorZ03
import Derived.Test.YtcckemhelockaaaGreatDoorZ04
import Derived.Test.YtcckemhelockaaaGreatDoorZ07
import Derived.Test.YtcckemhelockaaaGreatDoorZ09
import Derived.Test.YtcckemhelockaaaGreatDoorZ15
import Derived.Test.YtcckemhelockaaaGreatDoorZ16
import Derived.Test.YtcckemhelockaaaGreatDoorZ17
import Derived.Test.YtcckemhelockaaaGreatDoorZ25
import Derived.Test.YtcckemhelockaaaGreatDoorZ26
import Derived.Test.YtcckemhelockaaaGreatDoorZ32
import Derived.Test.YtcckemhelockaaaGreatDoorZ33
import Derived.Test.YtcckemhelockaaaGreatDoorZ34
namespace Go.Proofs.YtcckemhelockaaaGreatDoor
open Go.RowKit Go.Lib
set_option linter.unusedVariables false
set_option linter.unusedSimpArgs false
set_option maxRecDepth 100000 in
set_option maxHeartbeats 4000000 in
theorem compile_any : CompileOk := fun x S e w0 w hr h hz => by
  have HR := Lib.hid hr
  have HE := Lib.hid h
  obtain ⟨k, n, nm, A', m, c'⟩ := e
  have HB := Lib.hid (Bk.new w 38 #[.int .i64 k, .int .i64 n, .string (B nm), .slice A' m c'])
  have HA := Lib.hid (hr.self.alloc (.cells #[.int .i64 k, .int .i64 n, .string (B nm), .slice A' m c'] 38))
  obtain ⟨W, hW⟩ : ∃ W, w.alloc (.cells #[.int .i64 k, .int .i64 n, .string (B nm), .slice A' m c'] 38) = W := ⟨_, rfl⟩
  rw [hW] at HA HB
  have hws : w.heap.size < W.heap.size := HB.out.lt
  have hC := tright_any x S (k, n, nm, A', m, c') W W HA.out.self (h.rel HA.out) (by omega)
  obtain ⟨⟨b0, b1, b2, b3⟩, _⟩ := HB.out.four
  cases hx : rightX x with
  | false =>
    obtain ⟨e1, e2⟩ := codX_no hx
    rw [e1, e2]
    rw [hx] at hC
    have HC := Lib.hid hC
    clear hC hx e1 e2 h hr
    go_enter Tryz.func18, Tryz.ntmps18
    go_wp2_with (go_at_call 28; (with_reducible refine HC.out.mono ?_); rintro e w1 ⟨rfl, h1⟩)
    go_ret2
    exact ⟨none, 0, rfl, InsOwn.nil _ _, HR.out.trans (HA.out.trans h1)⟩
  | true =>
    obtain ⟨e1, e2⟩ := codX_yes hx
    obtain ⟨_, hl, h4⟩ := right_code hx
    have hf : fine 32 x = true := by unfold rightX at hx; simp only [Bool.and_eq_true] at hx; exact hx.1.1.1
    have hcl : clen x ≤ 90000 := by have := cod_len 32 x hf 0; omega
    rw [e1, e2]
    rw [hx] at hC
    have HC := Lib.hid hC
    have HX := Lib.hid (fun (b m2 : Nat) (w2 : World) (hr2 : Rel w w2) (hc2 : Cm w2 w.heap.size b m2 []) => cexpr_all 32 x hf S (k, n, nm, A', m, c') b m2 [] w w2 hr2 HE.out hc2 (by simpa using hcl))
    simp only [List.nil_append, List.length_nil] at HX
    generalize cod x 0 = l at *
    clear hC hx e1 e2 h hr hl h4 hcl
    go_enter Tryz.func18, Tryz.ntmps18
    go_wp2_with (first
      | (go_at_call 28; (with_reducible refine HC.out.mono ?_); rintro e w1 ⟨rfl, h1⟩; have R1 := Lib.hid (HA.out.trans h1))
      | (go_at_call 29; (with_reducible refine (kinds_any w _ R1.out).mono ?_); rintro e w2 ⟨q, rfl, hq, m2, h2, r2⟩; have C2 := Lib.hid (Cm.new r2 m2); have R2 := Lib.hid (r2.alloc (.cells #[.map (some q), .slice none 0 0] 77)); have HB2 := Lib.hid (((HB.out.rel h1).rel h2).alloc (.cells #[.map (some q), .slice none 0 0] 77)); obtain ⟨⟨d0, d1, d2, d3⟩, _⟩ := HB2.out.four)
      | (go_at_call 30; (with_reducible refine (HX.out w2.heap.size q _ R2.out C2.out).mono ?_); rintro e w3 ⟨rfl, c3, r3, k3⟩; obtain ⟨A3, c5, y1, own3⟩ := c3.done))
    go_ret2
    exact ⟨A3, c5, rfl, own3, HR.out.trans r3⟩
end Go.Proofs.YtcckemhelockaaaGreatDoor
