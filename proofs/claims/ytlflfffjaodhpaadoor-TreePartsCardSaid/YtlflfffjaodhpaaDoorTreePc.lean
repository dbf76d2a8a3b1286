/- Names as the law of layer 6 makes them. -/
import Derived.Test.YtlflfffjaodhpaaDoorLexBlk
import Derived.Test.YtlflfffjaodhpaaDoorLexMathB
namespace Go.Proofs.YtlflfffjaodhpaaDoor
open Go.RowKit Go.Lib
set_option linter.unusedVariables false
set_option linter.unusedSimpArgs false

theorem pick_as (c n y : Int) (h : Hid (pk c n = y)) (hc : -9223372036854775808 ≤ c) (hc' : c ≤ 9223372036854775807) (hn : 0 < n) (hn' : n ≤ 9223372036854775807) (w : World) :
    Calls Tryd.prog 59 #[.int .i64 c, .int .i64 n] w fun e w' => e = .returned (.int .i64 y) ∧ w = w' := by
  rw [← h.out]; exact pick_any c n hc hc' hn hn' w
theorem decimal_as (n : Int) (S : ByteArray) (h : Hid (B (decDigits n.toNat) = S)) (h0 : 0 ≤ n) (h1 : n ≤ 9223372036854775807) (w0 w : World) (hr : Rel w0 w) :
    Calls Tryd.prog 60 #[.int .i64 n] w fun e w' => e = .returned (.string S) ∧ Rel w0 w' := by
  rw [← h.out]; exact decimal_any n h0 h1 w0 w hr
def strCells (ls : List (List UInt8)) : Array Value := (ls.map fun l => Value.string (B l)).toArray
theorem str_cell {w : World} {g : Nat} {ls : List (List UInt8)} (h : Bk w g 9 (strCells ls)) (j : Nat) (hj : j < ls.length) : w.cell? ⟨g, j, none⟩ = some (.string (B (ls.getD j []))) := by
  rw [h.cell]
  unfold strCells
  rw [List.getElem?_toArray, List.getElem?_map, List.getElem?_eq_getElem hj, List.getD_eq_getElem?_getD, List.getElem?_eq_getElem hj]
  rfl
theorem nam_cell (w : World) (j : Nat) (hj : j < 6) : (w.alloc (.cells #[.string ⟨#[97]⟩, .string ⟨#[98, 111, 98]⟩, .string ⟨#[108, 111, 119, 101, 115]⟩, .string ⟨#[97, 99, 109, 101, 57]⟩, .string ⟨#[120, 49]⟩, .string ⟨#[101, 108, 115, 101, 101]⟩] 9)).cell? ⟨w.heap.size, j, none⟩ = some (.string (B (theNames.getD j []))) :=
  str_cell (ls := theNames) (Bk.new w 9 (strCells theNames)) j hj
theorem nam_after {w w' : World} (hr : Rel (w.alloc (.cells #[.string ⟨#[97]⟩, .string ⟨#[98, 111, 98]⟩, .string ⟨#[108, 111, 119, 101, 115]⟩, .string ⟨#[97, 99, 109, 101, 57]⟩, .string ⟨#[120, 49]⟩, .string ⟨#[101, 108, 115, 101, 101]⟩] 9)).drew w') (j : Nat) (hj : j < 6) (X : ByteArray) (hX : B (theNames.getD j []) = X) : w'.cell? ⟨w.heap.size, j, none⟩ = some (.string X) := by
  rw [← hX]
  exact str_cell (ls := theNames) (Bk.rel (w := (w.alloc (.cells (strCells theNames) 9)).drew) (Bk.new w 9 (strCells theNames)) hr) j hj
set_option maxHeartbeats 1000000 in
theorem seller_any (n : Int) (h0 : -9223372036854775808 ≤ n) (h1 : n ≤ 9223372036854775807) (w0 w : World) (hr : Rel w0 w) :
    Calls Tryd.prog 40 #[.int .i64 n] w fun e w' => e = .returned (.string (B (sellerL (pk n 60)))) ∧ Rel w0 w' := by
  have hb := pk_bd n 60 (by omega)
  obtain ⟨u, hu⟩ : ∃ u, pk n 60 = u := ⟨_, rfl⟩
  rw [hu] at hb ⊢
  have HU := Lib.hid hu
  obtain ⟨u0, u1⟩ := hb
  have t6 := tdt u 6 (by omega)
  obtain ⟨a, ha⟩ : ∃ a : Nat, u.tmod 6 = (a : Int) := ⟨(u.tmod 6).toNat, by omega⟩
  obtain ⟨b, hq'⟩ : ∃ b : Nat, u.tdiv 6 = (b : Int) := ⟨(u.tdiv 6).toNat, by omega⟩
  have hq : IntKind.i64.wrap (u.tdiv 6) = (b : Int) := by rw [hq']; exact IntWalk.i64_in _ (by omega)
  have a6 : a < 6 := by omega
  have a6' : (a : Int) < 6 := by omega
  have b9 : (b : Int) ≤ 10 := by omega
  obtain ⟨X, hX⟩ : ∃ X, B (theNames.getD a []) = X := ⟨_, rfl⟩
  have hc := fun w => nam_cell w a a6
  obtain ⟨D, hD⟩ : ∃ D, B (decDigits ((b : Int)).toNat) = D := ⟨_, rfl⟩
  have HD := Lib.hid hD
  have z1 : X.size ≤ 5 := by rw [← hX, B_size]; exact names_len ⟨a, a6⟩
  have z2 : D.size ≤ 19 := by rw [← hD]; exact dd_size _ (by omega)
  have z3 : ¬ 9223372036854775807 < X.size + D.size := by omega
  have HF := Lib.hid (show X ++ D = B (sellerL u) by
    unfold sellerL
    rw [← hX, ← hD, B_append, show u % 6 = (a : Int) by omega, show u / 6 = (b : Int) by omega]; rfl)
  have HX := Lib.hid hX
  rw [hX] at hc
  have HR := Lib.hid hr
  clear hu hX hD t6 hq'
  go_enter Tryd.func40, Tryd.ntmps40
  go_wp2_with (go_at_call 59; (with_reducible refine (pick_as n 60 u HU h0 h1 (by omega) (by omega) _).mono ?_); rintro e w' ⟨rfl, rfl⟩)
  have HS := Lib.hid hr.self
  go_region_law (rw [if_pos (by rfl)]; go_simp; go_at_call 60; (with_reducible refine (decimal_as (b : Int) D HD (by omega) (by omega) _ _ (by first | exact HS.out.drew.self | exact (HS.out.drew.alloc _).self | exact ((HS.out.alloc _).drew).self)).mono ?_); rintro e w' ⟨rfl, hr'⟩; try (have cx := nam_after hr' a a6 X HX.out))
  all_goals
    go_wp2_with (fail)
    go_ret
    refine ⟨ret_str HF.out, ?_⟩
    first
      | exact (HR.out.alloc _).drew.trans hr'
      | exact (HR.out.drew.trans hr').alloc _
end Go.Proofs.YtlflfffjaodhpaaDoor
