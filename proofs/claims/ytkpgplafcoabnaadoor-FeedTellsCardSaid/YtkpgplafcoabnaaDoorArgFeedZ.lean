/- A line, and five raw numbers, as arguments, opened. -/
import Derived.ChangeArms
import Derived.WideShapes
import Derived.Test.YtkpgplafcoabnaaDoorZ00
import Derived.Test.YtkpgplafcoabnaaDoorZ01
import Derived.Test.YtkpgplafcoabnaaDoorZ02
import Derived.Test.YtkpgplafcoabnaaDoorZ03
namespace Go.Proofs.YtkpgplafcoabnaaDoor
open Go.RowKit Go.ChangeShapes Go.WideShapes
open Go.Lib
set_option linter.unusedVariables false
set_option linter.unusedSimpArgs false

theorem wf64f {a : Int} (h : (Lit.int .i64 a).wf = true) : -9223372036854775808 ≤ a ∧ a ≤ 9223372036854775807 := by
  have := bounds_i64 h; omega
theorem wfi64 {p : Int} (h : (Lit.int .i64 p).wf = true) : i64 p := wf64f h
theorem okWide_arr {P : Program} {w : World} {r : Reach} {base : Nat} {t e : TypeId} {n : Nat} {v : Value} (ht : P.underlying t = some (.array n e)) (h : Value.okWide P w r base t v) : ∃ cs, v = .agg cs ∧ cs.size = P.cellsOf t := by
  simp only [Value.okWide, ht] at h
  obtain ⟨cs, h1, h2, _⟩ := h
  exact ⟨cs, h1, h2⟩
section
variable {H : Type} {enc : TypeId × Value → H} {w : World} {base : Nat} {held : Bool}
set_option maxRecDepth 100000 in
theorem feed_cells {fuel : Nat} {cs : List Value} {x : DataW H × List MemPlace} (h : DataW.trod enc Tryd.prog w base (fun _ => true) held fuel 23 cs = some x) : ∃ f : Fd, cs = [.string (B f.1), .int .i64 f.2.1, .string (B f.2.2.1), .string (B f.2.2.2.1), .int .i64 f.2.2.2.2] ∧ FdFit f := by
  obtain ⟨xs, m, rfl, _, hl, hxl, hi⟩ := DataW.trod_struct Tryd.underlying23 h
  have c5 : Tryd.prog.cellsOf 23 = 5 := by kernel_rfl
  have c1 : Tryd.prog.cellsOf 3 = 1 := by kernel_rfl
  have cs1 : Tryd.prog.cellsOf 9 = 1 := by kernel_rfl
  rw [c5] at hl
  match cs, hl with
  | [v0, v1, v2, v3, v4], _ =>
    have h0 : DataW.trod enc Tryd.prog w base (fun _ => true) held m 9 (([v0, v1, v2, v3, v4].drop 0).take (Tryd.prog.cellsOf 9)) = xs[0]? := hi 0 _ rfl
    have h1 : DataW.trod enc Tryd.prog w base (fun _ => true) held m 3 (([v0, v1, v2, v3, v4].drop 1).take (Tryd.prog.cellsOf 3)) = xs[1]? := hi 1 _ rfl
    have h2 : DataW.trod enc Tryd.prog w base (fun _ => true) held m 9 (([v0, v1, v2, v3, v4].drop 2).take (Tryd.prog.cellsOf 9)) = xs[2]? := hi 2 _ rfl
    have h3 : DataW.trod enc Tryd.prog w base (fun _ => true) held m 9 (([v0, v1, v2, v3, v4].drop 3).take (Tryd.prog.cellsOf 9)) = xs[3]? := hi 3 _ rfl
    have h4 : DataW.trod enc Tryd.prog w base (fun _ => true) held m 3 (([v0, v1, v2, v3, v4].drop 4).take (Tryd.prog.cellsOf 3)) = xs[4]? := hi 4 _ rfl
    have hx5 : xs.length = 5 := hxl
    rw [cs1, List.getElem?_eq_getElem (by omega)] at h0 h2 h3
    rw [c1, List.getElem?_eq_getElem (by omega)] at h1 h4
    obtain ⟨s0, e0, _, w0⟩ := DataW.trod_string Tryd.underlying9 h0
    obtain ⟨p1, e1, _, w1⟩ := DataW.trod_int Tryd.underlying3 h1
    obtain ⟨s2, e2, _, w2⟩ := DataW.trod_string Tryd.underlying9 h2
    obtain ⟨s3, e3, _, w3⟩ := DataW.trod_string Tryd.underlying9 h3
    obtain ⟨p4, e4, _, w4⟩ := DataW.trod_int Tryd.underlying3 h4
    simp at e0 e1 e2 e3 e4
    unfold maxLen at w0 w2 w3
    refine ⟨(s0.data.toList, p1, s2.data.toList, s3.data.toList, p4), by rw [e0, e1, e2, e3, e4]; simp only [B_of], ?_⟩
    exact ⟨by simpa using Nat.le_trans w0 (by decide), wfi64 w1, by simpa using Nat.le_trans w2 (by decide), by simpa using Nat.le_trans w3 (by decide), wfi64 w4⟩
set_option maxRecDepth 100000 in
theorem raw_cells {fuel : Nat} {cs : List Value} {x : DataW H × List MemPlace} (hl : cs.length = 5) (h : DataW.trod enc Tryd.prog w base (fun _ => true) held fuel 24 cs = some x) : ∃ r : Raw, cs = [.int .i64 r.1, .int .i64 r.2.1, .int .i64 r.2.2.1, .int .i64 r.2.2.2.1, .int .i64 r.2.2.2.2] ∧ RawFit r := by
  have c1 : Tryd.prog.cellsOf 3 = 1 := by kernel_rfl
  match cs, hl with
  | [v0, v1, v2, v3, v4], _ =>
    cases fuel with
    | zero => simp [DataW.trod] at h
    | succ n =>
      unfold DataW.trod at h
      rw [Tryd.underlying24] at h
      have r5 : List.range 5 = [0, 1, 2, 3, 4] := rfl
      simp [r5, c1] at h
      obtain ⟨_, h⟩ := h
      cases h0 : DataW.trod enc Tryd.prog w base (fun _ => true) held n 3 [v0] with
      | none => simp [h0] at h
      | some y0 =>
        cases h1 : DataW.trod enc Tryd.prog w base (fun _ => true) held n 3 [v1] with
        | none => simp [h0, h1] at h
        | some y1 =>
          cases h2 : DataW.trod enc Tryd.prog w base (fun _ => true) held n 3 [v2] with
          | none => simp [h0, h1, h2] at h
          | some y2 =>
            cases h3 : DataW.trod enc Tryd.prog w base (fun _ => true) held n 3 [v3] with
            | none => simp [h0, h1, h2, h3] at h
            | some y3 =>
              cases h4 : DataW.trod enc Tryd.prog w base (fun _ => true) held n 3 [v4] with
              | none => simp [h0, h1, h2, h3, h4] at h
              | some y4 =>
                obtain ⟨p0, e0, _, w0⟩ := DataW.trod_int Tryd.underlying3 h0
                obtain ⟨p1, e1, _, w1⟩ := DataW.trod_int Tryd.underlying3 h1
                obtain ⟨p2, e2, _, w2⟩ := DataW.trod_int Tryd.underlying3 h2
                obtain ⟨p3, e3, _, w3⟩ := DataW.trod_int Tryd.underlying3 h3
                obtain ⟨p4, e4, _, w4⟩ := DataW.trod_int Tryd.underlying3 h4
                simp at e0 e1 e2 e3 e4
                exact ⟨(p0, p1, p2, p3, p4), by rw [e0, e1, e2, e3, e4], wfi64 w0, wfi64 w1, wfi64 w2, wfi64 w3, wfi64 w4⟩
set_option maxRecDepth 100000 in
theorem feed_open {r : Reach} {b0 : Nat} {v : Value} {d : DataW H} {p : List MemPlace} (hv : Value.okWide Tryd.prog w r b0 23 v) (h : DataW.Trod enc Tryd.prog w base (fun _ => true) held 23 v d p) : ∃ f : Fd, v = FV f ∧ FdFit f := by
  obtain ⟨cs, rfl, _⟩ := okWide_struct Tryd.underlying23 hv
  obtain ⟨fuel, hf⟩ := h
  obtain ⟨f, hc, hfit⟩ := feed_cells hf
  refine ⟨f, ?_, hfit⟩
  have hc : cs.toList = _ := hc
  show Value.agg cs = .agg _
  congr 1
  exact Array.toList_inj.1 hc
set_option maxRecDepth 100000 in
theorem raw_open {r : Reach} {b0 : Nat} {v : Value} {d : DataW H} {p : List MemPlace} (hv : Value.okWide Tryd.prog w r b0 24 v) (h : DataW.Trod enc Tryd.prog w base (fun _ => true) held 24 v d p) : ∃ q : Raw, v = RV5 q ∧ RawFit q := by
  obtain ⟨cs, rfl, hsz⟩ := okWide_arr Tryd.underlying24 hv
  obtain ⟨fuel, hf⟩ := h
  have c5 : Tryd.prog.cellsOf 24 = 5 := by kernel_rfl
  obtain ⟨q, hc, hfit⟩ := raw_cells (show cs.toList.length = 5 by rw [Array.length_toList, hsz, c5]) hf
  refine ⟨q, ?_, hfit⟩
  have hc : cs.toList = _ := hc
  show Value.agg cs = .agg _
  congr 1
  exact Array.toList_inj.1 hc
end
end Go.Proofs.YtkpgplafcoabnaaDoor
