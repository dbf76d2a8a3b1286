/- The landed made, with its two closures; Expire, Offers. -/
import Derived.Test.YtfplhpkolcgpiaaZL
import Derived.Test.YtfplhpkolcgpiaaZ00
import Derived.Test.YtfplhpkolcgpiaaZ01
namespace Go.Proofs.Ytfplhpkolcgpiaa
open Go.RowKit Go.Lib
set_option linter.unusedVariables false
set_option linter.unusedSimpArgs false
theorem far_set3 {W : World} {g : Nat} {a : Addr} (h : a.block ≠ g) (u0 u1 u2 : Value) : (((W.setCell ⟨g, 0, none⟩ u0).setCell ⟨g, 1, none⟩ u1).setCell ⟨g, 2, none⟩ u2).drew.cell? a = W.cell? a :=
  World.cell?_of_block (((Below.heap_setCell _ ⟨g, 2, none⟩ u2 a.block h).trans (Below.heap_setCell _ ⟨g, 1, none⟩ u1 a.block h)).trans (Below.heap_setCell _ ⟨g, 0, none⟩ u0 a.block h))
set_option maxRecDepth 100000 in
set_option maxHeartbeats 4000000 in
theorem clos_exp (X : ByteArray) (p t m now L : Int) (q : Bool) (hL : Hid (laterF t m = L)) (hq : decide (now ≤ L) = q) (g1 g2 : Nat) (w0 w : World) (hr : Rel w0 w) (h1 : Bk w g1 3 #[.int .i64 m]) (h2 : Bk w g2 3 #[.int .i64 now]) :
    Calls Try.prog 37 #[.agg #[.string X, .int .i64 p, .int .i64 t], .pointer (some ⟨g1, 0, none⟩), .pointer (some ⟨g2, 0, none⟩)] w fun e w' => e = .returned (.tuple #[.agg #[.string X, .int .i64 p, .int .i64 t], .bool q]) ∧ Rel w0 w' := by
  have hLt := fun (w : World) => later_any t m w
  rw [hL.out] at hLt
  have HLt := Lib.hid hLt
  have HR := Lib.hid hr
  have H1 := Lib.hid h1
  have H2 := Lib.hid h2
  clear hr h1 h2 hLt hL
  go_enter Try.func37, Try.ntmps37
  go_upto_region 1 with (fail)
  have HX := Lib.hid ((Bk.new w 50 #[.string X, .int .i64 p, .int .i64 t]).alloc (.cells #[.string ⟨#[]⟩, .int .i64 0, .int .i64 0] 50))
  have HY := Lib.hid (by have h := Bk.new (w.alloc (.cells #[.string X, .int .i64 p, .int .i64 t] 50)) 50 #[.string ⟨#[]⟩, .int .i64 0, .int .i64 0]; rw [World.size_alloc] at h; exact h)
  have HR1 := Lib.hid ((HR.out.alloc (.cells #[.string X, .int .i64 p, .int .i64 t] 50)).alloc (.cells #[.string ⟨#[]⟩, .int .i64 0, .int .i64 0] 50))
  have H1' := (H1.out.alloc (.cells #[.string X, .int .i64 p, .int .i64 t] 50)).alloc (.cells #[.string ⟨#[]⟩, .int .i64 0, .int .i64 0] 50)
  have H2' := (H2.out.alloc (.cells #[.string X, .int .i64 p, .int .i64 t] 50)).alloc (.cells #[.string ⟨#[]⟩, .int .i64 0, .int .i64 0] 50)
  have l1 := H1.out.lt
  have l2 := H2.out.lt
  have sz := HR.out.size
  obtain ⟨W, hW⟩ : ∃ W, (w.alloc (.cells #[.string X, .int .i64 p, .int .i64 t] 50)).alloc (.cells #[.string ⟨#[]⟩, .int .i64 0, .int .i64 0] 50) = W := ⟨_, rfl⟩
  rw [hW] at HX HY HR1 H1' H2'
  try rw [hW]
  obtain ⟨g3, hg3⟩ : ∃ g, w.heap.size = g := ⟨_, rfl⟩
  rw [hg3] at HX HY sz l1 l2
  try rw [hg3]
  obtain ⟨g4, hg4⟩ : ∃ g, g3 + 1 = g := ⟨_, rfl⟩
  rw [hg4] at HY
  try rw [hg4]
  clear hW hg3
  have k1 : W.cell? ⟨g1, 0, none⟩ = some (.int .i64 m) := H1'.cell 0
  have k2 : W.cell? ⟨g2, 0, none⟩ = some (.int .i64 now) := H2'.cell 0
  obtain ⟨⟨x0, x1, x2⟩, _⟩ := three_of HX.out
  obtain ⟨⟨y0, y1, y2⟩, ⟨z0, z1, z2⟩⟩ := three_of HY.out
  have n1 : g1 ≠ g4 := by omega
  have n2 : g2 ≠ g4 := by omega
  have n3 : g3 ≠ g4 := by omega
  clear H1' H2'
  go_region_held3 (fun w' => w'.cell? ⟨g1, 0, none⟩ = some (.int .i64 m) ∧ w'.cell? ⟨g2, 0, none⟩ = some (.int .i64 now) ∧ w'.cell? ⟨g3, 0, none⟩ = some (.string X) ∧ w'.cell? ⟨g3, 1, none⟩ = some (.int .i64 p) ∧ w'.cell? ⟨g3, 2, none⟩ = some (.int .i64 t))
    (first | exact ⟨(far_set3 (a := ⟨g1, 0, none⟩) n1 _ _ _).trans k1, (far_set3 (a := ⟨g2, 0, none⟩) n2 _ _ _).trans k2, (far_set3 (a := ⟨g3, 0, none⟩) n3 _ _ _).trans x0, (far_set3 (a := ⟨g3, 1, none⟩) n3 _ _ _).trans x1, (far_set3 (a := ⟨g3, 2, none⟩) n3 _ _ _).trans x2⟩ | go_keep)
    ((go_at_call 38; (with_reducible refine (HLt.out _).mono ?_); rintro e w1 ⟨rfl, rfl⟩))
  all_goals
    go_wp2_with (fail)
    have hb : Bk (((W.setCell ⟨g4, 0, none⟩ (.string X)).setCell ⟨g4, 1, none⟩ (.int .i64 p)).setCell ⟨g4, 2, none⟩ (.int .i64 t)).drew g4 50 #[.string X, .int .i64 p, .int .i64 t] := (((HY.out.set_ 0 (.string X)).set_ 1 (.int .i64 p)).set_ 2 (.int .i64 t)).drew
    have hR : Rel w0 (((W.setCell ⟨g4, 0, none⟩ (.string X)).setCell ⟨g4, 1, none⟩ (.int .i64 p)).setCell ⟨g4, 2, none⟩ (.int .i64 t)).drew := (((HR1.out.setCell (p := ⟨g4, 0, none⟩) (by show _ ≤ g4; omega) _).setCell (p := ⟨g4, 1, none⟩) (by show _ ≤ g4; omega) _).setCell (p := ⟨g4, 2, none⟩) (by show _ ≤ g4; omega) _).drew
    obtain ⟨V, hV⟩ : ∃ V, (((W.setCell ⟨g4, 0, none⟩ (.string X)).setCell ⟨g4, 1, none⟩ (.int .i64 p)).setCell ⟨g4, 2, none⟩ (.int .i64 t)).drew = V := ⟨_, rfl⟩
    rw [hV] at hb hR
    rw [hV]
    clear hV
    obtain ⟨⟨r0, r1, r2⟩, _⟩ := three_of hb
    exact bodyPost_ret (v := .tuple #[.agg #[.string X, .int .i64 p, .int .i64 t], .bool q]) (by simp [results, Try.results37, go_sem, r0, r1, r2]) rfl ⟨rfl, hR⟩
set_option maxRecDepth 100000 in
set_option maxHeartbeats 4000000 in
theorem clos_off (X : ByteArray) (p t : Int) (w0 w : World) (hr : Rel w0 w) :
    Calls Try.prog 44 #[.agg #[.string X, .int .i64 p, .int .i64 t]] w fun e w' => e = .returned (.tuple #[.agg #[.string X, .int .i64 p], .bool true]) ∧ Rel w0 w' := by
  have sz := hr.size
  have HR := Lib.hid hr
  clear hr
  go_enter Try.func44, Try.ntmps44
  go_wp2_with (fail)
  have HY := by have h := Bk.new (w.alloc (.cells #[.string X, .int .i64 p, .int .i64 t] 50)) 41 #[.string X, .int .i64 p]; rw [World.size_alloc] at h; exact h
  obtain ⟨⟨r0, r1⟩, _⟩ := HY.two
  exact bodyPost_ret (v := .tuple #[.agg #[.string X, .int .i64 p], .bool true]) (by simp [results, Try.results44, go_sem, r0, r1]) rfl ⟨rfl, (HR.out.alloc _).alloc _⟩
end Go.Proofs.Ytfplhpkolcgpiaa
