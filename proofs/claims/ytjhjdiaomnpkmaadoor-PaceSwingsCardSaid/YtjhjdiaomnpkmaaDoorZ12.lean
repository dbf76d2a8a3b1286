/- The landed parser: an expression. -/
import Derived.Test.YtjhjdiaomnpkmaaDoorZL
import Derived.Test.YtjhjdiaomnpkmaaDoorZ00
import Derived.Test.YtjhjdiaomnpkmaaDoorZ01
import Derived.Test.YtjhjdiaomnpkmaaDoorZ02
import Derived.Test.YtjhjdiaomnpkmaaDoorZ03
import Derived.Test.YtjhjdiaomnpkmaaDoorZ04
import Derived.Test.YtjhjdiaomnpkmaaDoorZ06
import Derived.Test.YtjhjdiaomnpkmaaDoorZ07
import Derived.Test.YtjhjdiaomnpkmaaDoorZ10
import Derived.Test.YtjhjdiaomnpkmaaDoorZ11
namespace Go.Proofs.YtjhjdiaomnpkmaaDoor
open Go.RowKit Go.Lib
set_option linter.unusedVariables false
set_option linter.unusedSimpArgs false
set_option maxRecDepth 100000 in
set_option maxHeartbeats 8000000 in
theorem pexpr_succ (d : Nat) (E : ExprOk d) (V : World) (g a : Nat) (ts : List Tok) (w : World) (had : a + (d + 1) = 32) (h : StP V w g ts a) :
    Calls Tryd.prog 29 #[.pointer (some ⟨g, 0, none⟩)] w (ExPost V g a w (exprT (d + 1) false ts)) := by
  have had : a + 1 + d = 32 := by omega
  have hA := h.V.1.self.alloc (.cells #[.int .i64 0, .int .i64 0, .string ⟨#[]⟩, .slice none 0 0] 46)
  have hbg := pbegin_yes V g a ts _ (h.rel hA) (by omega)
  have HA0 := Lib.hid (grown_rel (some g) hA)
  have HZ := Lib.hid (Bk.new w 46 #[.int .i64 0, .int .i64 0, .string ⟨#[]⟩, .slice none 0 0])
  have HVw := Lib.hid (show V.heap.size ≤ w.heap.size from h.V.1.size)
  have HVV := Lib.hid h.V
  have hgl := h.lt
  have HF := Lib.hid h.fine
  have HTl := Lib.hid h.fine.last
  have hhd := h.fine.head
  obtain ⟨⟨k', x, n', p⟩, ht⟩ : ∃ t, hdT ts = t := ⟨_, rfl⟩
  rw [ht] at hbg hhd
  have HBg := Lib.hid hbg
  have HAt := Lib.hid (show atT ts = p by unfold atT; rw [ht])
  have hmf : ∀ (fn : Fn) (first cap : Array Value) (w : World), (Instr.makeFunc fn first cap).run Tryd.prog w = .ok (.func fn first cap) w := fun _ _ _ _ => rfl
  have HOk := Lib.hid hhd.1
  have HN64 := Lib.hid hhd.2.2.1
  obtain ⟨K, hk⟩ : ∃ K, kindT false (hdT ts) = K := ⟨_, rfl⟩
  have hk1 : (hdT ts).2.1 = x := by rw [ht]
  clear hA hbg h hhd
  by_cases h3 : k' = 3
  · obtain rfl : k' = 3 := h3
    have HRs := Lib.hid (show exprT (d + 1) false ts = .ok (.mk 4 n' [] [], ts.tail) by rw [exprT_money (show kindT false (hdT ts) = 4 by rw [ht]; exact kind_money x n' p), ht])
    have HT := Lib.hid (HTl.out (.inl (by rw [ht]; exact (show (3 : Int) ≠ 5 by decide))))
    have HLf := Lib.hid (fun (W : World) => ExAt.leaf (fun k => w.heap.size ≤ k) W 4 n' [] none 0 ⟨by decide, by decide⟩ HN64.out (Nat.zero_le _))
    clear ht hk hk1
    go_enter Tryd.func29, Tryd.ntmps29
    go_wp2_with (go_at_call 38; (with_reducible refine HBg.out.mono ?_); rintro e w2 ⟨rfl, s2, g2⟩; have S2 := Lib.hid (s2 HT.out); have G2 := Lib.hid g2; have hz2 := g2.size; simp only [World.size_alloc] at hz2; have HZ2 := Lib.hid (HZ.out.grown g2 (fun e => by injection e; omega)); clear s2 g2; have hgl3 : w.heap.size < w2.heap.size := (by omega); have hne3 : ¬ w.heap.size = w2.heap.size := (by omega); have hne4 : ¬ w2.heap.size = w.heap.size := (by omega); obtain ⟨⟨b0, b1, b2, b3⟩, u0, u1, u2, u3⟩ := HZ2.out.four)
    obtain ⟨e1, e2, e3, e4⟩ := expr_end2 (v := (4, n', [], none, 0, 0)) hgl HVw.out (grown_trans HA0.out G2.out) HZ2.out S2.out ⟨#[]⟩ rfl _ rfl (.cells #[.int .i64 3, .string (B x), .int .i64 n', .int .i64 p] 65) HLf.out
    obtain ⟨W3, hW3⟩ : ∃ W, ((((w2.setCell ⟨w.heap.size, 0, none⟩ (.int .i64 4)).setCell ⟨w.heap.size, 1, none⟩ (.int .i64 n')).setCell ⟨w.heap.size, 2, none⟩ (.string ⟨#[]⟩)).setCell ⟨w.heap.size, 3, none⟩ (.slice none 0 0)).alloc (.cells #[.int .i64 3, .string (B x), .int .i64 n', .int .i64 p] 65) = W := ⟨_, rfl⟩
    simp only at e1 e2 e3 e4
    rw [hW3] at e1 e2 e3 e4 ⊢
    obtain ⟨⟨y0, y1, y2, y3⟩, _⟩ := e1.four
    exact bodyPost_ret (v := EV (4, n', [], none, 0, 0)) (by simp [results, Tryd.results29, go_sem, y0, y1, y2, y3]; rfl) rfl (ExPost.yes HRs.out ⟨_, rfl, e2, e3, e4⟩)
  have h3' : (k' == 3) = false := by simpa using h3
  have hways : K = 0 ∨ K = 1 ∨ K = 2 ∨ K = 3 ∨ K = 5 ∨ K = 6 ∨ K = 7 ∨ K = 8 ∨ K = 9 ∨ K = 10 := by
    by_cases h0 : K = 0
    · exact .inl h0
    · have hs := kind_spec HOk.out.1 (c := false) (by rw [← ht, hk]; exact h0)
      rw [← ht, hk] at hs
      rcases hs with ⟨e, e3, _⟩ | ⟨_, e1, e2, e4, ec⟩
      · exact absurd (by rw [ht] at e3; exact e3) h3
      · have : ¬ (K = 11 ∨ K = 12) := fun hh => by rcases hh with rfl | rfl <;> simp [isCond] at ec
        omega
  rcases hways with rfl | rfl | rfl | rfl | rfl | rfl | rfl | rfl | rfl | rfl
  · have hx : True := trivial
    have hb1 := pword_no (show x ≠ [108, 111, 119, 101, 115, 116] from kind_none HOk.out false (fun e => absurd (show k' = 3 from e) h3) (by rw [← ht]; exact hk) 1 (by decide) (by decide) (by decide) rfl)
    have hb2 := pword_no (show x ≠ [115, 101, 99, 111, 110, 100] from kind_none HOk.out false (fun e => absurd (show k' = 3 from e) h3) (by rw [← ht]; exact hk) 2 (by decide) (by decide) (by decide) rfl)
    have hb3 := pword_no (show x ≠ [102, 114, 111, 109] from kind_none HOk.out false (fun e => absurd (show k' = 3 from e) h3) (by rw [← ht]; exact hk) 3 (by decide) (by decide) (by decide) rfl)
    have hb5 := pword_no (show x ≠ [108, 101, 115, 115] from kind_none HOk.out false (fun e => absurd (show k' = 3 from e) h3) (by rw [← ht]; exact hk) 5 (by decide) (by decide) (by decide) rfl)
    have hb6 := pword_no (show x ≠ [99, 117, 116] from kind_none HOk.out false (fun e => absurd (show k' = 3 from e) h3) (by rw [← ht]; exact hk) 6 (by decide) (by decide) (by decide) rfl)
    have hb7 := pword_no (show x ≠ [109, 105, 110] from kind_none HOk.out false (fun e => absurd (show k' = 3 from e) h3) (by rw [← ht]; exact hk) 7 (by decide) (by decide) (by decide) rfl)
    have hb8 := pword_no (show x ≠ [109, 97, 120] from kind_none HOk.out false (fun e => absurd (show k' = 3 from e) h3) (by rw [← ht]; exact hk) 8 (by decide) (by decide) (by decide) rfl)
    have hb9 := pword_no (show x ≠ [101, 108, 115, 101] from kind_none HOk.out false (fun e => absurd (show k' = 3 from e) h3) (by rw [← ht]; exact hk) 9 (by decide) (by decide) (by decide) rfl)
    have hb10 := pword_no (show x ≠ [105, 102] from kind_none HOk.out false (fun e => absurd (show k' = 3 from e) h3) (by rw [← ht]; exact hk) 10 (by decide) (by decide) (by decide) rfl)
    have HRs := Lib.hid (show exprT (d + 1) false ts = .error (80, p) by rw [exprT_none hk, HAt.out])
    clear ht hk hk1
    go_enter Tryd.func29, Tryd.ntmps29
    go_wp2_with (first
      | (go_at_call 38; (with_reducible refine HBg.out.mono ?_); rintro e w2 ⟨rfl, s2, g2⟩; have G2 := Lib.hid g2; have hz2 := g2.size; simp only [World.size_alloc] at hz2; clear s2 g2)
      | (go_at_call 45; (with_reducible refine (pwrong_any (k', x, n', p) _).mono ?_); rintro e w3 ⟨rfl, rfl⟩))
    have GG := grown_trans HA0.out G2.out
    exact ⟨rfl, ExPost.no HRs.out rfl (fail_grown GG V (HVV.out.1.grown GG (fun k e => by cases e; exact HVV.out.2)) _ _ _)⟩
  · skip
    have HX := Lib.hid (show x = [108, 111, 119, 101, 115, 116] from (kind_some HOk.out false (k := 1) (by rw [← ht]; exact hk) (by decide) (fun e => absurd (show k' = 3 from e) h3)).1)
    have hb1 := pword_yes (show x = [108, 111, 119, 101, 115, 116] by first | exact HX.out | (rw [HX.out]; decide))
    have HRs := Lib.hid (show exprT (d + 1) false ts = .ok (.mk 1 0 [] [], ts.tail) from exprT_leaf hk (by decide))
    have HT := Lib.hid (HTl.out (.inr (by rw [hk1, HX.out]; decide)))
    have HLf := Lib.hid (fun (W : World) => ExAt.leaf (fun k => w.heap.size ≤ k) W 1 0 [] none 0 ⟨by decide, by decide⟩ ⟨by decide, by decide⟩ (Nat.zero_le _))
    clear ht hk hk1 HX
    go_enter Tryd.func29, Tryd.ntmps29
    go_wp2_with (go_at_call 38; (with_reducible refine HBg.out.mono ?_); rintro e w2 ⟨rfl, s2, g2⟩; have S2 := Lib.hid (s2 HT.out); have G2 := Lib.hid g2; have hz2 := g2.size; simp only [World.size_alloc] at hz2; have HZ2 := Lib.hid (HZ.out.grown g2 (fun e => by injection e; omega)); clear s2 g2; have hgl3 : w.heap.size < w2.heap.size := (by omega); have hne3 : ¬ w.heap.size = w2.heap.size := (by omega); have hne4 : ¬ w2.heap.size = w.heap.size := (by omega); obtain ⟨⟨b0, b1, b2, b3⟩, u0, u1, u2, u3⟩ := HZ2.out.four)
    obtain ⟨e1, e2, e3, e4⟩ := expr_end2 (v := (1, 0, [], none, 0, 0)) hgl HVw.out (grown_trans HA0.out G2.out) HZ2.out S2.out ⟨#[]⟩ rfl _ rfl (.cells #[.int .i64 k', .string (B x), .int .i64 n', .int .i64 p] 65) HLf.out
    obtain ⟨W3, hW3⟩ : ∃ W, ((((w2.setCell ⟨w.heap.size, 0, none⟩ (.int .i64 1)).setCell ⟨w.heap.size, 1, none⟩ (.int .i64 0)).setCell ⟨w.heap.size, 2, none⟩ (.string ⟨#[]⟩)).setCell ⟨w.heap.size, 3, none⟩ (.slice none 0 0)).alloc (.cells #[.int .i64 k', .string (B x), .int .i64 n', .int .i64 p] 65) = W := ⟨_, rfl⟩
    simp only at e1 e2 e3 e4
    rw [hW3] at e1 e2 e3 e4 ⊢
    obtain ⟨⟨y0, y1, y2, y3⟩, _⟩ := e1.four
    exact bodyPost_ret (v := EV (1, 0, [], none, 0, 0)) (by simp [results, Tryd.results29, go_sem, y0, y1, y2, y3]; rfl) rfl (ExPost.yes HRs.out ⟨_, rfl, e2, e3, e4⟩)
  · skip
    have HX := Lib.hid (show x = [115, 101, 99, 111, 110, 100] from (kind_some HOk.out false (k := 2) (by rw [← ht]; exact hk) (by decide) (fun e => absurd (show k' = 3 from e) h3)).1)
    have hb1 := pword_no (show x ≠ [108, 111, 119, 101, 115, 116] by first | exact HX.out | (rw [HX.out]; decide))
    have hb2 := pword_yes (show x = [115, 101, 99, 111, 110, 100] by first | exact HX.out | (rw [HX.out]; decide))
    have HRs := Lib.hid (show exprT (d + 1) false ts = .ok (.mk 2 0 [] [], ts.tail) from exprT_leaf hk (by decide))
    have HT := Lib.hid (HTl.out (.inr (by rw [hk1, HX.out]; decide)))
    have HLf := Lib.hid (fun (W : World) => ExAt.leaf (fun k => w.heap.size ≤ k) W 2 0 [] none 0 ⟨by decide, by decide⟩ ⟨by decide, by decide⟩ (Nat.zero_le _))
    clear ht hk hk1 HX
    go_enter Tryd.func29, Tryd.ntmps29
    go_wp2_with (go_at_call 38; (with_reducible refine HBg.out.mono ?_); rintro e w2 ⟨rfl, s2, g2⟩; have S2 := Lib.hid (s2 HT.out); have G2 := Lib.hid g2; have hz2 := g2.size; simp only [World.size_alloc] at hz2; have HZ2 := Lib.hid (HZ.out.grown g2 (fun e => by injection e; omega)); clear s2 g2; have hgl3 : w.heap.size < w2.heap.size := (by omega); have hne3 : ¬ w.heap.size = w2.heap.size := (by omega); have hne4 : ¬ w2.heap.size = w.heap.size := (by omega); obtain ⟨⟨b0, b1, b2, b3⟩, u0, u1, u2, u3⟩ := HZ2.out.four)
    obtain ⟨e1, e2, e3, e4⟩ := expr_end2 (v := (2, 0, [], none, 0, 0)) hgl HVw.out (grown_trans HA0.out G2.out) HZ2.out S2.out ⟨#[]⟩ rfl _ rfl (.cells #[.int .i64 k', .string (B x), .int .i64 n', .int .i64 p] 65) HLf.out
    obtain ⟨W3, hW3⟩ : ∃ W, ((((w2.setCell ⟨w.heap.size, 0, none⟩ (.int .i64 2)).setCell ⟨w.heap.size, 1, none⟩ (.int .i64 0)).setCell ⟨w.heap.size, 2, none⟩ (.string ⟨#[]⟩)).setCell ⟨w.heap.size, 3, none⟩ (.slice none 0 0)).alloc (.cells #[.int .i64 k', .string (B x), .int .i64 n', .int .i64 p] 65) = W := ⟨_, rfl⟩
    simp only at e1 e2 e3 e4
    rw [hW3] at e1 e2 e3 e4 ⊢
    obtain ⟨⟨y0, y1, y2, y3⟩, _⟩ := e1.four
    exact bodyPost_ret (v := EV (2, 0, [], none, 0, 0)) (by simp [results, Tryd.results29, go_sem, y0, y1, y2, y3]; rfl) rfl (ExPost.yes HRs.out ⟨_, rfl, e2, e3, e4⟩)
  · have HX := Lib.hid (show x = [102, 114, 111, 109] from (kind_some HOk.out false (k := 3) (by rw [← ht]; exact hk) (by decide) (fun e => absurd (show k' = 3 from e) h3)).1)
    have hb1 := pword_no (show x ≠ [108, 111, 119, 101, 115, 116] by first | exact HX.out | (rw [HX.out]; decide))
    have hb2 := pword_no (show x ≠ [115, 101, 99, 111, 110, 100] by first | exact HX.out | (rw [HX.out]; decide))
    have hb3 := pword_yes (show x = [102, 114, 111, 109] by first | exact HX.out | (rw [HX.out]; decide))
    have hk1 : (hdT ts).2.1 ≠ [] := by rw [hk1, HX.out]; decide
    have hpc : piecesP (exprT d) [.na] 40 (.mk 3 0 [] []) ts.tail = callT (exprT d) 3 ts.tail := call_pieces d 3 (by decide) ts.tail (tail_okP HF.out.oks)
    have hex : exprT (d + 1) false ts = callT (exprT d) 3 ts.tail := exprT_call hk (by decide) (by decide) (by decide)
    have HEx := Lib.hid hex
    have HT := Lib.hid (HTl.out (.inr hk1))
    cases hr : callT (exprT d) 3 ts.tail with
    | error e0 =>
      rw [hr] at hpc
      have HRs := Lib.hid (show exprT (d + 1) false ts = .error e0 by rw [HEx.out, hr])
      have HC := Lib.hid (fun (W : World) (q : Nat) (hs : StP V W g ts.tail a) (hq : Bk W q 87 #[.func (.func 40) #[.pointer (some ⟨g, 0, none⟩)] #[]]) => call_res E had 3 ⟨by decide, by decide⟩ [.na] (by decide) hpc 1 1 rfl #[.func (.func 40) #[.pointer (some ⟨g, 0, none⟩)] #[]] rfl W q hs hq)
      clear hpc hr hex hk hk1 ht HX
      go_enter Tryd.func29, Tryd.ntmps29
      go_wp2_with (first
        | (go_at_call 38; (with_reducible refine HBg.out.mono ?_); rintro e w2 ⟨rfl, s2, g2⟩; have S2 := Lib.hid (s2 HT.out); have G2 := Lib.hid g2; have hz2 := g2.size; simp only [World.size_alloc] at hz2; have HZ2 := Lib.hid (HZ.out.grown g2 (fun e => by injection e; omega)); clear s2 g2)
        | (go_at_call 39; have RT := (S2.out.V.1.self.alloc (.cells #[.int .i64 k', .string (B x), .int .i64 n', .int .i64 p] 65)).alloc (.cells #[.func (.func 40) #[.pointer (some ⟨g, 0, none⟩)] #[]] 87); have HBq := Bk.new (w2.alloc (.cells #[.int .i64 k', .string (B x), .int .i64 n', .int .i64 p] 65)) 87 #[.func (.func 40) #[.pointer (some ⟨g, 0, none⟩)] #[]]; rw [World.size_alloc] at HBq; (with_reducible refine (HC.out _ _ (S2.out.rel RT) HBq).mono ?_); rintro e w3 h3; have HRT := Lib.hid RT; obtain ⟨rfl, g3⟩ := ExPost.at_no h3 rfl; clear h3 RT HBq))
      exact ⟨rfl, ExPost.no HRs.out rfl (grown_trans (grown_trans HA0.out G2.out) (grown_trans (grown_rel (some g) HRT.out) g3))⟩
    | ok qq =>
      obtain ⟨y, r⟩ := qq
      rw [hr] at hpc
      have HRs := Lib.hid (show exprT (d + 1) false ts = .ok (y, r) by rw [HEx.out, hr])
      have HC := Lib.hid (fun (W : World) (q : Nat) (hs : StP V W g ts.tail a) (hq : Bk W q 87 #[.func (.func 40) #[.pointer (some ⟨g, 0, none⟩)] #[]]) => call_res E had 3 ⟨by decide, by decide⟩ [.na] (by decide) hpc 1 1 rfl #[.func (.func 40) #[.pointer (some ⟨g, 0, none⟩)] #[]] rfl W q hs hq)
      clear hpc hr hex hk hk1 ht HX
      go_enter Tryd.func29, Tryd.ntmps29
      go_wp2_with (first
        | (go_at_call 38; (with_reducible refine HBg.out.mono ?_); rintro e w2 ⟨rfl, s2, g2⟩; have S2 := Lib.hid (s2 HT.out); have G2 := Lib.hid g2; have hz2 := g2.size; simp only [World.size_alloc] at hz2; have HZ2 := Lib.hid (HZ.out.grown g2 (fun e => by injection e; omega)); clear s2 g2)
        | (go_at_call 39; have RT := (S2.out.V.1.self.alloc (.cells #[.int .i64 k', .string (B x), .int .i64 n', .int .i64 p] 65)).alloc (.cells #[.func (.func 40) #[.pointer (some ⟨g, 0, none⟩)] #[]] 87); have HBq := Bk.new (w2.alloc (.cells #[.int .i64 k', .string (B x), .int .i64 n', .int .i64 p] 65)) 87 #[.func (.func 40) #[.pointer (some ⟨g, 0, none⟩)] #[]]; rw [World.size_alloc] at HBq; (with_reducible refine (HC.out _ _ (S2.out.rel RT) HBq).mono ?_); rintro e w3 h3; have HRT := Lib.hid RT; obtain ⟨v, rfl, ex, s3, g3⟩ := ExPost.at_yes h3 rfl; have hz3 := g3.size; simp only [World.size_alloc] at hz3; have HZ3 := Lib.hid ((HZ2.out.rel HRT.out).grown g3 (fun e => by injection e; omega)); obtain ⟨⟨b0, b1, b2, b3⟩, u0, u1, u2, u3⟩ := HZ3.out.four; have HEx3 := Lib.hid (And.intro ex (And.intro s3 g3)); clear ex s3 g3 h3 RT HBq))
      obtain ⟨e1, e2, e3, e4⟩ := expr_end hgl HVw.out (W0 := w2.heap.size + 1 + 1) (by omega) (grown_trans (grown_trans HA0.out G2.out) (grown_trans (grown_rel (some g) HRT.out) HEx3.out.2.2)) HZ3.out (by simpa using HEx3.out.1) HEx3.out.2.1 _ rfl
      obtain ⟨⟨y0, y1, y2, y3⟩, _⟩ := e1.four
      exact bodyPost_ret (v := EV v) (by simp [results, Tryd.results29, go_sem, y0, y1, y2, y3]) rfl (ExPost.yes HRs.out ⟨_, rfl, e2, e3, e4⟩)
  · have HX := Lib.hid (show x = [108, 101, 115, 115] from (kind_some HOk.out false (k := 5) (by rw [← ht]; exact hk) (by decide) (fun e => absurd (show k' = 3 from e) h3)).1)
    have hb1 := pword_no (show x ≠ [108, 111, 119, 101, 115, 116] by first | exact HX.out | (rw [HX.out]; decide))
    have hb2 := pword_no (show x ≠ [115, 101, 99, 111, 110, 100] by first | exact HX.out | (rw [HX.out]; decide))
    have hb3 := pword_no (show x ≠ [102, 114, 111, 109] by first | exact HX.out | (rw [HX.out]; decide))
    have hb5 := pword_yes (show x = [108, 101, 115, 115] by first | exact HX.out | (rw [HX.out]; decide))
    have hk1 : (hdT ts).2.1 ≠ [] := by rw [hk1, HX.out]; decide
    have hpc : piecesP (exprT d) [.ar, .am] 40 (.mk 5 0 [] []) ts.tail = callT (exprT d) 5 ts.tail := call_pieces d 5 (by decide) ts.tail (tail_okP HF.out.oks)
    have hex : exprT (d + 1) false ts = callT (exprT d) 5 ts.tail := exprT_call hk (by decide) (by decide) (by decide)
    have HEx := Lib.hid hex
    have HT := Lib.hid (HTl.out (.inr hk1))
    cases hr : callT (exprT d) 5 ts.tail with
    | error e0 =>
      rw [hr] at hpc
      have HRs := Lib.hid (show exprT (d + 1) false ts = .error e0 by rw [HEx.out, hr])
      have HC := Lib.hid (fun (W : World) (q : Nat) (hs : StP V W g ts.tail a) (hq : Bk W q 87 #[.func (.func 41) #[.pointer (some ⟨g, 0, none⟩)] #[], .func (.func 42) #[.pointer (some ⟨g, 0, none⟩)] #[]]) => call_res E had 5 ⟨by decide, by decide⟩ [.ar, .am] (by decide) hpc 2 2 rfl #[.func (.func 41) #[.pointer (some ⟨g, 0, none⟩)] #[], .func (.func 42) #[.pointer (some ⟨g, 0, none⟩)] #[]] rfl W q hs hq)
      clear hpc hr hex hk hk1 ht HX
      go_enter Tryd.func29, Tryd.ntmps29
      go_wp2_with (first
        | (go_at_call 38; (with_reducible refine HBg.out.mono ?_); rintro e w2 ⟨rfl, s2, g2⟩; have S2 := Lib.hid (s2 HT.out); have G2 := Lib.hid g2; have hz2 := g2.size; simp only [World.size_alloc] at hz2; have HZ2 := Lib.hid (HZ.out.grown g2 (fun e => by injection e; omega)); clear s2 g2)
        | (go_at_call 39; have RT := (S2.out.V.1.self.alloc (.cells #[.int .i64 k', .string (B x), .int .i64 n', .int .i64 p] 65)).alloc (.cells #[.func (.func 41) #[.pointer (some ⟨g, 0, none⟩)] #[], .func (.func 42) #[.pointer (some ⟨g, 0, none⟩)] #[]] 87); have HBq := Bk.new (w2.alloc (.cells #[.int .i64 k', .string (B x), .int .i64 n', .int .i64 p] 65)) 87 #[.func (.func 41) #[.pointer (some ⟨g, 0, none⟩)] #[], .func (.func 42) #[.pointer (some ⟨g, 0, none⟩)] #[]]; rw [World.size_alloc] at HBq; (with_reducible refine (HC.out _ _ (S2.out.rel RT) HBq).mono ?_); rintro e w3 h3; have HRT := Lib.hid RT; obtain ⟨rfl, g3⟩ := ExPost.at_no h3 rfl; clear h3 RT HBq))
      exact ⟨rfl, ExPost.no HRs.out rfl (grown_trans (grown_trans HA0.out G2.out) (grown_trans (grown_rel (some g) HRT.out) g3))⟩
    | ok qq =>
      obtain ⟨y, r⟩ := qq
      rw [hr] at hpc
      have HRs := Lib.hid (show exprT (d + 1) false ts = .ok (y, r) by rw [HEx.out, hr])
      have HC := Lib.hid (fun (W : World) (q : Nat) (hs : StP V W g ts.tail a) (hq : Bk W q 87 #[.func (.func 41) #[.pointer (some ⟨g, 0, none⟩)] #[], .func (.func 42) #[.pointer (some ⟨g, 0, none⟩)] #[]]) => call_res E had 5 ⟨by decide, by decide⟩ [.ar, .am] (by decide) hpc 2 2 rfl #[.func (.func 41) #[.pointer (some ⟨g, 0, none⟩)] #[], .func (.func 42) #[.pointer (some ⟨g, 0, none⟩)] #[]] rfl W q hs hq)
      clear hpc hr hex hk hk1 ht HX
      go_enter Tryd.func29, Tryd.ntmps29
      go_wp2_with (first
        | (go_at_call 38; (with_reducible refine HBg.out.mono ?_); rintro e w2 ⟨rfl, s2, g2⟩; have S2 := Lib.hid (s2 HT.out); have G2 := Lib.hid g2; have hz2 := g2.size; simp only [World.size_alloc] at hz2; have HZ2 := Lib.hid (HZ.out.grown g2 (fun e => by injection e; omega)); clear s2 g2)
        | (go_at_call 39; have RT := (S2.out.V.1.self.alloc (.cells #[.int .i64 k', .string (B x), .int .i64 n', .int .i64 p] 65)).alloc (.cells #[.func (.func 41) #[.pointer (some ⟨g, 0, none⟩)] #[], .func (.func 42) #[.pointer (some ⟨g, 0, none⟩)] #[]] 87); have HBq := Bk.new (w2.alloc (.cells #[.int .i64 k', .string (B x), .int .i64 n', .int .i64 p] 65)) 87 #[.func (.func 41) #[.pointer (some ⟨g, 0, none⟩)] #[], .func (.func 42) #[.pointer (some ⟨g, 0, none⟩)] #[]]; rw [World.size_alloc] at HBq; (with_reducible refine (HC.out _ _ (S2.out.rel RT) HBq).mono ?_); rintro e w3 h3; have HRT := Lib.hid RT; obtain ⟨v, rfl, ex, s3, g3⟩ := ExPost.at_yes h3 rfl; have hz3 := g3.size; simp only [World.size_alloc] at hz3; have HZ3 := Lib.hid ((HZ2.out.rel HRT.out).grown g3 (fun e => by injection e; omega)); obtain ⟨⟨b0, b1, b2, b3⟩, u0, u1, u2, u3⟩ := HZ3.out.four; have HEx3 := Lib.hid (And.intro ex (And.intro s3 g3)); clear ex s3 g3 h3 RT HBq))
      obtain ⟨e1, e2, e3, e4⟩ := expr_end hgl HVw.out (W0 := w2.heap.size + 1 + 1) (by omega) (grown_trans (grown_trans HA0.out G2.out) (grown_trans (grown_rel (some g) HRT.out) HEx3.out.2.2)) HZ3.out (by simpa using HEx3.out.1) HEx3.out.2.1 _ rfl
      obtain ⟨⟨y0, y1, y2, y3⟩, _⟩ := e1.four
      exact bodyPost_ret (v := EV v) (by simp [results, Tryd.results29, go_sem, y0, y1, y2, y3]) rfl (ExPost.yes HRs.out ⟨_, rfl, e2, e3, e4⟩)
  · have HX := Lib.hid (show x = [99, 117, 116] from (kind_some HOk.out false (k := 6) (by rw [← ht]; exact hk) (by decide) (fun e => absurd (show k' = 3 from e) h3)).1)
    have hb1 := pword_no (show x ≠ [108, 111, 119, 101, 115, 116] by first | exact HX.out | (rw [HX.out]; decide))
    have hb2 := pword_no (show x ≠ [115, 101, 99, 111, 110, 100] by first | exact HX.out | (rw [HX.out]; decide))
    have hb3 := pword_no (show x ≠ [102, 114, 111, 109] by first | exact HX.out | (rw [HX.out]; decide))
    have hb5 := pword_no (show x ≠ [108, 101, 115, 115] by first | exact HX.out | (rw [HX.out]; decide))
    have hb6 := pword_yes (show x = [99, 117, 116] by first | exact HX.out | (rw [HX.out]; decide))
    have hk1 : (hdT ts).2.1 ≠ [] := by rw [hk1, HX.out]; decide
    have hpc : piecesP (exprT d) [.ar, .pa] 40 (.mk 6 0 [] []) ts.tail = callT (exprT d) 6 ts.tail := call_pieces d 6 (by decide) ts.tail (tail_okP HF.out.oks)
    have hex : exprT (d + 1) false ts = callT (exprT d) 6 ts.tail := exprT_call hk (by decide) (by decide) (by decide)
    have HEx := Lib.hid hex
    have HT := Lib.hid (HTl.out (.inr hk1))
    cases hr : callT (exprT d) 6 ts.tail with
    | error e0 =>
      rw [hr] at hpc
      have HRs := Lib.hid (show exprT (d + 1) false ts = .error e0 by rw [HEx.out, hr])
      have HC := Lib.hid (fun (W : World) (q : Nat) (hs : StP V W g ts.tail a) (hq : Bk W q 87 #[.func (.func 41) #[.pointer (some ⟨g, 0, none⟩)] #[], .func (.func 43) #[.pointer (some ⟨g, 0, none⟩)] #[]]) => call_res E had 6 ⟨by decide, by decide⟩ [.ar, .pa] (by decide) hpc 2 2 rfl #[.func (.func 41) #[.pointer (some ⟨g, 0, none⟩)] #[], .func (.func 43) #[.pointer (some ⟨g, 0, none⟩)] #[]] rfl W q hs hq)
      clear hpc hr hex hk hk1 ht HX
      go_enter Tryd.func29, Tryd.ntmps29
      go_wp2_with (first
        | (go_at_call 38; (with_reducible refine HBg.out.mono ?_); rintro e w2 ⟨rfl, s2, g2⟩; have S2 := Lib.hid (s2 HT.out); have G2 := Lib.hid g2; have hz2 := g2.size; simp only [World.size_alloc] at hz2; have HZ2 := Lib.hid (HZ.out.grown g2 (fun e => by injection e; omega)); clear s2 g2)
        | (go_at_call 39; have RT := (S2.out.V.1.self.alloc (.cells #[.int .i64 k', .string (B x), .int .i64 n', .int .i64 p] 65)).alloc (.cells #[.func (.func 41) #[.pointer (some ⟨g, 0, none⟩)] #[], .func (.func 43) #[.pointer (some ⟨g, 0, none⟩)] #[]] 87); have HBq := Bk.new (w2.alloc (.cells #[.int .i64 k', .string (B x), .int .i64 n', .int .i64 p] 65)) 87 #[.func (.func 41) #[.pointer (some ⟨g, 0, none⟩)] #[], .func (.func 43) #[.pointer (some ⟨g, 0, none⟩)] #[]]; rw [World.size_alloc] at HBq; (with_reducible refine (HC.out _ _ (S2.out.rel RT) HBq).mono ?_); rintro e w3 h3; have HRT := Lib.hid RT; obtain ⟨rfl, g3⟩ := ExPost.at_no h3 rfl; clear h3 RT HBq))
      exact ⟨rfl, ExPost.no HRs.out rfl (grown_trans (grown_trans HA0.out G2.out) (grown_trans (grown_rel (some g) HRT.out) g3))⟩
    | ok qq =>
      obtain ⟨y, r⟩ := qq
      rw [hr] at hpc
      have HRs := Lib.hid (show exprT (d + 1) false ts = .ok (y, r) by rw [HEx.out, hr])
      have HC := Lib.hid (fun (W : World) (q : Nat) (hs : StP V W g ts.tail a) (hq : Bk W q 87 #[.func (.func 41) #[.pointer (some ⟨g, 0, none⟩)] #[], .func (.func 43) #[.pointer (some ⟨g, 0, none⟩)] #[]]) => call_res E had 6 ⟨by decide, by decide⟩ [.ar, .pa] (by decide) hpc 2 2 rfl #[.func (.func 41) #[.pointer (some ⟨g, 0, none⟩)] #[], .func (.func 43) #[.pointer (some ⟨g, 0, none⟩)] #[]] rfl W q hs hq)
      clear hpc hr hex hk hk1 ht HX
      go_enter Tryd.func29, Tryd.ntmps29
      go_wp2_with (first
        | (go_at_call 38; (with_reducible refine HBg.out.mono ?_); rintro e w2 ⟨rfl, s2, g2⟩; have S2 := Lib.hid (s2 HT.out); have G2 := Lib.hid g2; have hz2 := g2.size; simp only [World.size_alloc] at hz2; have HZ2 := Lib.hid (HZ.out.grown g2 (fun e => by injection e; omega)); clear s2 g2)
        | (go_at_call 39; have RT := (S2.out.V.1.self.alloc (.cells #[.int .i64 k', .string (B x), .int .i64 n', .int .i64 p] 65)).alloc (.cells #[.func (.func 41) #[.pointer (some ⟨g, 0, none⟩)] #[], .func (.func 43) #[.pointer (some ⟨g, 0, none⟩)] #[]] 87); have HBq := Bk.new (w2.alloc (.cells #[.int .i64 k', .string (B x), .int .i64 n', .int .i64 p] 65)) 87 #[.func (.func 41) #[.pointer (some ⟨g, 0, none⟩)] #[], .func (.func 43) #[.pointer (some ⟨g, 0, none⟩)] #[]]; rw [World.size_alloc] at HBq; (with_reducible refine (HC.out _ _ (S2.out.rel RT) HBq).mono ?_); rintro e w3 h3; have HRT := Lib.hid RT; obtain ⟨v, rfl, ex, s3, g3⟩ := ExPost.at_yes h3 rfl; have hz3 := g3.size; simp only [World.size_alloc] at hz3; have HZ3 := Lib.hid ((HZ2.out.rel HRT.out).grown g3 (fun e => by injection e; omega)); obtain ⟨⟨b0, b1, b2, b3⟩, u0, u1, u2, u3⟩ := HZ3.out.four; have HEx3 := Lib.hid (And.intro ex (And.intro s3 g3)); clear ex s3 g3 h3 RT HBq))
      obtain ⟨e1, e2, e3, e4⟩ := expr_end hgl HVw.out (W0 := w2.heap.size + 1 + 1) (by omega) (grown_trans (grown_trans HA0.out G2.out) (grown_trans (grown_rel (some g) HRT.out) HEx3.out.2.2)) HZ3.out (by simpa using HEx3.out.1) HEx3.out.2.1 _ rfl
      obtain ⟨⟨y0, y1, y2, y3⟩, _⟩ := e1.four
      exact bodyPost_ret (v := EV v) (by simp [results, Tryd.results29, go_sem, y0, y1, y2, y3]) rfl (ExPost.yes HRs.out ⟨_, rfl, e2, e3, e4⟩)
  · have HX := Lib.hid (show x = [109, 105, 110] from (kind_some HOk.out false (k := 7) (by rw [← ht]; exact hk) (by decide) (fun e => absurd (show k' = 3 from e) h3)).1)
    have hb1 := pword_no (show x ≠ [108, 111, 119, 101, 115, 116] by first | exact HX.out | (rw [HX.out]; decide))
    have hb2 := pword_no (show x ≠ [115, 101, 99, 111, 110, 100] by first | exact HX.out | (rw [HX.out]; decide))
    have hb3 := pword_no (show x ≠ [102, 114, 111, 109] by first | exact HX.out | (rw [HX.out]; decide))
    have hb5 := pword_no (show x ≠ [108, 101, 115, 115] by first | exact HX.out | (rw [HX.out]; decide))
    have hb6 := pword_no (show x ≠ [99, 117, 116] by first | exact HX.out | (rw [HX.out]; decide))
    have hb7 := pword_yes (show x = [109, 105, 110] by first | exact HX.out | (rw [HX.out]; decide))
    have hk1 : (hdT ts).2.1 ≠ [] := by rw [hk1, HX.out]; decide
    have hpc : piecesP (exprT d) [.ar, .ar] 40 (.mk 7 0 [] []) ts.tail = callT (exprT d) 7 ts.tail := call_pieces d 7 (by decide) ts.tail (tail_okP HF.out.oks)
    have hex : exprT (d + 1) false ts = callT (exprT d) 7 ts.tail := exprT_call hk (by decide) (by decide) (by decide)
    have HEx := Lib.hid hex
    have HT := Lib.hid (HTl.out (.inr hk1))
    cases hr : callT (exprT d) 7 ts.tail with
    | error e0 =>
      rw [hr] at hpc
      have HRs := Lib.hid (show exprT (d + 1) false ts = .error e0 by rw [HEx.out, hr])
      have HC := Lib.hid (fun (W : World) (q : Nat) (hs : StP V W g ts.tail a) (hq : Bk W q 87 #[.func (.func 41) #[.pointer (some ⟨g, 0, none⟩)] #[], .func (.func 41) #[.pointer (some ⟨g, 0, none⟩)] #[]]) => call_res E had 7 ⟨by decide, by decide⟩ [.ar, .ar] (by decide) hpc 2 2 rfl #[.func (.func 41) #[.pointer (some ⟨g, 0, none⟩)] #[], .func (.func 41) #[.pointer (some ⟨g, 0, none⟩)] #[]] rfl W q hs hq)
      clear hpc hr hex hk hk1 ht HX
      go_enter Tryd.func29, Tryd.ntmps29
      go_wp2_with (first
        | (go_at_call 38; (with_reducible refine HBg.out.mono ?_); rintro e w2 ⟨rfl, s2, g2⟩; have S2 := Lib.hid (s2 HT.out); have G2 := Lib.hid g2; have hz2 := g2.size; simp only [World.size_alloc] at hz2; have HZ2 := Lib.hid (HZ.out.grown g2 (fun e => by injection e; omega)); clear s2 g2)
        | (go_at_call 39; have RT := (S2.out.V.1.self.alloc (.cells #[.int .i64 k', .string (B x), .int .i64 n', .int .i64 p] 65)).alloc (.cells #[.func (.func 41) #[.pointer (some ⟨g, 0, none⟩)] #[], .func (.func 41) #[.pointer (some ⟨g, 0, none⟩)] #[]] 87); have HBq := Bk.new (w2.alloc (.cells #[.int .i64 k', .string (B x), .int .i64 n', .int .i64 p] 65)) 87 #[.func (.func 41) #[.pointer (some ⟨g, 0, none⟩)] #[], .func (.func 41) #[.pointer (some ⟨g, 0, none⟩)] #[]]; rw [World.size_alloc] at HBq; (with_reducible refine (HC.out _ _ (S2.out.rel RT) HBq).mono ?_); rintro e w3 h3; have HRT := Lib.hid RT; obtain ⟨rfl, g3⟩ := ExPost.at_no h3 rfl; clear h3 RT HBq))
      exact ⟨rfl, ExPost.no HRs.out rfl (grown_trans (grown_trans HA0.out G2.out) (grown_trans (grown_rel (some g) HRT.out) g3))⟩
    | ok qq =>
      obtain ⟨y, r⟩ := qq
      rw [hr] at hpc
      have HRs := Lib.hid (show exprT (d + 1) false ts = .ok (y, r) by rw [HEx.out, hr])
      have HC := Lib.hid (fun (W : World) (q : Nat) (hs : StP V W g ts.tail a) (hq : Bk W q 87 #[.func (.func 41) #[.pointer (some ⟨g, 0, none⟩)] #[], .func (.func 41) #[.pointer (some ⟨g, 0, none⟩)] #[]]) => call_res E had 7 ⟨by decide, by decide⟩ [.ar, .ar] (by decide) hpc 2 2 rfl #[.func (.func 41) #[.pointer (some ⟨g, 0, none⟩)] #[], .func (.func 41) #[.pointer (some ⟨g, 0, none⟩)] #[]] rfl W q hs hq)
      clear hpc hr hex hk hk1 ht HX
      go_enter Tryd.func29, Tryd.ntmps29
      go_wp2_with (first
        | (go_at_call 38; (with_reducible refine HBg.out.mono ?_); rintro e w2 ⟨rfl, s2, g2⟩; have S2 := Lib.hid (s2 HT.out); have G2 := Lib.hid g2; have hz2 := g2.size; simp only [World.size_alloc] at hz2; have HZ2 := Lib.hid (HZ.out.grown g2 (fun e => by injection e; omega)); clear s2 g2)
        | (go_at_call 39; have RT := (S2.out.V.1.self.alloc (.cells #[.int .i64 k', .string (B x), .int .i64 n', .int .i64 p] 65)).alloc (.cells #[.func (.func 41) #[.pointer (some ⟨g, 0, none⟩)] #[], .func (.func 41) #[.pointer (some ⟨g, 0, none⟩)] #[]] 87); have HBq := Bk.new (w2.alloc (.cells #[.int .i64 k', .string (B x), .int .i64 n', .int .i64 p] 65)) 87 #[.func (.func 41) #[.pointer (some ⟨g, 0, none⟩)] #[], .func (.func 41) #[.pointer (some ⟨g, 0, none⟩)] #[]]; rw [World.size_alloc] at HBq; (with_reducible refine (HC.out _ _ (S2.out.rel RT) HBq).mono ?_); rintro e w3 h3; have HRT := Lib.hid RT; obtain ⟨v, rfl, ex, s3, g3⟩ := ExPost.at_yes h3 rfl; have hz3 := g3.size; simp only [World.size_alloc] at hz3; have HZ3 := Lib.hid ((HZ2.out.rel HRT.out).grown g3 (fun e => by injection e; omega)); obtain ⟨⟨b0, b1, b2, b3⟩, u0, u1, u2, u3⟩ := HZ3.out.four; have HEx3 := Lib.hid (And.intro ex (And.intro s3 g3)); clear ex s3 g3 h3 RT HBq))
      obtain ⟨e1, e2, e3, e4⟩ := expr_end hgl HVw.out (W0 := w2.heap.size + 1 + 1) (by omega) (grown_trans (grown_trans HA0.out G2.out) (grown_trans (grown_rel (some g) HRT.out) HEx3.out.2.2)) HZ3.out (by simpa using HEx3.out.1) HEx3.out.2.1 _ rfl
      obtain ⟨⟨y0, y1, y2, y3⟩, _⟩ := e1.four
      exact bodyPost_ret (v := EV v) (by simp [results, Tryd.results29, go_sem, y0, y1, y2, y3]) rfl (ExPost.yes HRs.out ⟨_, rfl, e2, e3, e4⟩)
  · have HX := Lib.hid (show x = [109, 97, 120] from (kind_some HOk.out false (k := 8) (by rw [← ht]; exact hk) (by decide) (fun e => absurd (show k' = 3 from e) h3)).1)
    have hb1 := pword_no (show x ≠ [108, 111, 119, 101, 115, 116] by first | exact HX.out | (rw [HX.out]; decide))
    have hb2 := pword_no (show x ≠ [115, 101, 99, 111, 110, 100] by first | exact HX.out | (rw [HX.out]; decide))
    have hb3 := pword_no (show x ≠ [102, 114, 111, 109] by first | exact HX.out | (rw [HX.out]; decide))
    have hb5 := pword_no (show x ≠ [108, 101, 115, 115] by first | exact HX.out | (rw [HX.out]; decide))
    have hb6 := pword_no (show x ≠ [99, 117, 116] by first | exact HX.out | (rw [HX.out]; decide))
    have hb7 := pword_no (show x ≠ [109, 105, 110] by first | exact HX.out | (rw [HX.out]; decide))
    have hb8 := pword_yes (show x = [109, 97, 120] by first | exact HX.out | (rw [HX.out]; decide))
    have hk1 : (hdT ts).2.1 ≠ [] := by rw [hk1, HX.out]; decide
    have hpc : piecesP (exprT d) [.ar, .ar] 40 (.mk 8 0 [] []) ts.tail = callT (exprT d) 8 ts.tail := call_pieces d 8 (by decide) ts.tail (tail_okP HF.out.oks)
    have hex : exprT (d + 1) false ts = callT (exprT d) 8 ts.tail := exprT_call hk (by decide) (by decide) (by decide)
    have HEx := Lib.hid hex
    have HT := Lib.hid (HTl.out (.inr hk1))
    cases hr : callT (exprT d) 8 ts.tail with
    | error e0 =>
      rw [hr] at hpc
      have HRs := Lib.hid (show exprT (d + 1) false ts = .error e0 by rw [HEx.out, hr])
      have HC := Lib.hid (fun (W : World) (q : Nat) (hs : StP V W g ts.tail a) (hq : Bk W q 87 #[.func (.func 41) #[.pointer (some ⟨g, 0, none⟩)] #[], .func (.func 41) #[.pointer (some ⟨g, 0, none⟩)] #[]]) => call_res E had 8 ⟨by decide, by decide⟩ [.ar, .ar] (by decide) hpc 2 2 rfl #[.func (.func 41) #[.pointer (some ⟨g, 0, none⟩)] #[], .func (.func 41) #[.pointer (some ⟨g, 0, none⟩)] #[]] rfl W q hs hq)
      clear hpc hr hex hk hk1 ht HX
      go_enter Tryd.func29, Tryd.ntmps29
      go_wp2_with (first
        | (go_at_call 38; (with_reducible refine HBg.out.mono ?_); rintro e w2 ⟨rfl, s2, g2⟩; have S2 := Lib.hid (s2 HT.out); have G2 := Lib.hid g2; have hz2 := g2.size; simp only [World.size_alloc] at hz2; have HZ2 := Lib.hid (HZ.out.grown g2 (fun e => by injection e; omega)); clear s2 g2)
        | (go_at_call 39; have RT := (S2.out.V.1.self.alloc (.cells #[.int .i64 k', .string (B x), .int .i64 n', .int .i64 p] 65)).alloc (.cells #[.func (.func 41) #[.pointer (some ⟨g, 0, none⟩)] #[], .func (.func 41) #[.pointer (some ⟨g, 0, none⟩)] #[]] 87); have HBq := Bk.new (w2.alloc (.cells #[.int .i64 k', .string (B x), .int .i64 n', .int .i64 p] 65)) 87 #[.func (.func 41) #[.pointer (some ⟨g, 0, none⟩)] #[], .func (.func 41) #[.pointer (some ⟨g, 0, none⟩)] #[]]; rw [World.size_alloc] at HBq; (with_reducible refine (HC.out _ _ (S2.out.rel RT) HBq).mono ?_); rintro e w3 h3; have HRT := Lib.hid RT; obtain ⟨rfl, g3⟩ := ExPost.at_no h3 rfl; clear h3 RT HBq))
      exact ⟨rfl, ExPost.no HRs.out rfl (grown_trans (grown_trans HA0.out G2.out) (grown_trans (grown_rel (some g) HRT.out) g3))⟩
    | ok qq =>
      obtain ⟨y, r⟩ := qq
      rw [hr] at hpc
      have HRs := Lib.hid (show exprT (d + 1) false ts = .ok (y, r) by rw [HEx.out, hr])
      have HC := Lib.hid (fun (W : World) (q : Nat) (hs : StP V W g ts.tail a) (hq : Bk W q 87 #[.func (.func 41) #[.pointer (some ⟨g, 0, none⟩)] #[], .func (.func 41) #[.pointer (some ⟨g, 0, none⟩)] #[]]) => call_res E had 8 ⟨by decide, by decide⟩ [.ar, .ar] (by decide) hpc 2 2 rfl #[.func (.func 41) #[.pointer (some ⟨g, 0, none⟩)] #[], .func (.func 41) #[.pointer (some ⟨g, 0, none⟩)] #[]] rfl W q hs hq)
      clear hpc hr hex hk hk1 ht HX
      go_enter Tryd.func29, Tryd.ntmps29
      go_wp2_with (first
        | (go_at_call 38; (with_reducible refine HBg.out.mono ?_); rintro e w2 ⟨rfl, s2, g2⟩; have S2 := Lib.hid (s2 HT.out); have G2 := Lib.hid g2; have hz2 := g2.size; simp only [World.size_alloc] at hz2; have HZ2 := Lib.hid (HZ.out.grown g2 (fun e => by injection e; omega)); clear s2 g2)
        | (go_at_call 39; have RT := (S2.out.V.1.self.alloc (.cells #[.int .i64 k', .string (B x), .int .i64 n', .int .i64 p] 65)).alloc (.cells #[.func (.func 41) #[.pointer (some ⟨g, 0, none⟩)] #[], .func (.func 41) #[.pointer (some ⟨g, 0, none⟩)] #[]] 87); have HBq := Bk.new (w2.alloc (.cells #[.int .i64 k', .string (B x), .int .i64 n', .int .i64 p] 65)) 87 #[.func (.func 41) #[.pointer (some ⟨g, 0, none⟩)] #[], .func (.func 41) #[.pointer (some ⟨g, 0, none⟩)] #[]]; rw [World.size_alloc] at HBq; (with_reducible refine (HC.out _ _ (S2.out.rel RT) HBq).mono ?_); rintro e w3 h3; have HRT := Lib.hid RT; obtain ⟨v, rfl, ex, s3, g3⟩ := ExPost.at_yes h3 rfl; have hz3 := g3.size; simp only [World.size_alloc] at hz3; have HZ3 := Lib.hid ((HZ2.out.rel HRT.out).grown g3 (fun e => by injection e; omega)); obtain ⟨⟨b0, b1, b2, b3⟩, u0, u1, u2, u3⟩ := HZ3.out.four; have HEx3 := Lib.hid (And.intro ex (And.intro s3 g3)); clear ex s3 g3 h3 RT HBq))
      obtain ⟨e1, e2, e3, e4⟩ := expr_end hgl HVw.out (W0 := w2.heap.size + 1 + 1) (by omega) (grown_trans (grown_trans HA0.out G2.out) (grown_trans (grown_rel (some g) HRT.out) HEx3.out.2.2)) HZ3.out (by simpa using HEx3.out.1) HEx3.out.2.1 _ rfl
      obtain ⟨⟨y0, y1, y2, y3⟩, _⟩ := e1.four
      exact bodyPost_ret (v := EV v) (by simp [results, Tryd.results29, go_sem, y0, y1, y2, y3]) rfl (ExPost.yes HRs.out ⟨_, rfl, e2, e3, e4⟩)
  · have HX := Lib.hid (show x = [101, 108, 115, 101] from (kind_some HOk.out false (k := 9) (by rw [← ht]; exact hk) (by decide) (fun e => absurd (show k' = 3 from e) h3)).1)
    have hb1 := pword_no (show x ≠ [108, 111, 119, 101, 115, 116] by first | exact HX.out | (rw [HX.out]; decide))
    have hb2 := pword_no (show x ≠ [115, 101, 99, 111, 110, 100] by first | exact HX.out | (rw [HX.out]; decide))
    have hb3 := pword_no (show x ≠ [102, 114, 111, 109] by first | exact HX.out | (rw [HX.out]; decide))
    have hb5 := pword_no (show x ≠ [108, 101, 115, 115] by first | exact HX.out | (rw [HX.out]; decide))
    have hb6 := pword_no (show x ≠ [99, 117, 116] by first | exact HX.out | (rw [HX.out]; decide))
    have hb7 := pword_no (show x ≠ [109, 105, 110] by first | exact HX.out | (rw [HX.out]; decide))
    have hb8 := pword_no (show x ≠ [109, 97, 120] by first | exact HX.out | (rw [HX.out]; decide))
    have hb9 := pword_yes (show x = [101, 108, 115, 101] by first | exact HX.out | (rw [HX.out]; decide))
    have hk1 : (hdT ts).2.1 ≠ [] := by rw [hk1, HX.out]; decide
    have hpc : piecesP (exprT d) [.ar, .ar] 40 (.mk 9 0 [] []) ts.tail = callT (exprT d) 9 ts.tail := call_pieces d 9 (by decide) ts.tail (tail_okP HF.out.oks)
    have hex : exprT (d + 1) false ts = callT (exprT d) 9 ts.tail := exprT_call hk (by decide) (by decide) (by decide)
    have HEx := Lib.hid hex
    have HT := Lib.hid (HTl.out (.inr hk1))
    cases hr : callT (exprT d) 9 ts.tail with
    | error e0 =>
      rw [hr] at hpc
      have HRs := Lib.hid (show exprT (d + 1) false ts = .error e0 by rw [HEx.out, hr])
      have HC := Lib.hid (fun (W : World) (q : Nat) (hs : StP V W g ts.tail a) (hq : Bk W q 87 #[.func (.func 41) #[.pointer (some ⟨g, 0, none⟩)] #[], .func (.func 41) #[.pointer (some ⟨g, 0, none⟩)] #[]]) => call_res E had 9 ⟨by decide, by decide⟩ [.ar, .ar] (by decide) hpc 2 2 rfl #[.func (.func 41) #[.pointer (some ⟨g, 0, none⟩)] #[], .func (.func 41) #[.pointer (some ⟨g, 0, none⟩)] #[]] rfl W q hs hq)
      clear hpc hr hex hk hk1 ht HX
      go_enter Tryd.func29, Tryd.ntmps29
      go_wp2_with (first
        | (go_at_call 38; (with_reducible refine HBg.out.mono ?_); rintro e w2 ⟨rfl, s2, g2⟩; have S2 := Lib.hid (s2 HT.out); have G2 := Lib.hid g2; have hz2 := g2.size; simp only [World.size_alloc] at hz2; have HZ2 := Lib.hid (HZ.out.grown g2 (fun e => by injection e; omega)); clear s2 g2)
        | (go_at_call 39; have RT := (S2.out.V.1.self.alloc (.cells #[.int .i64 k', .string (B x), .int .i64 n', .int .i64 p] 65)).alloc (.cells #[.func (.func 41) #[.pointer (some ⟨g, 0, none⟩)] #[], .func (.func 41) #[.pointer (some ⟨g, 0, none⟩)] #[]] 87); have HBq := Bk.new (w2.alloc (.cells #[.int .i64 k', .string (B x), .int .i64 n', .int .i64 p] 65)) 87 #[.func (.func 41) #[.pointer (some ⟨g, 0, none⟩)] #[], .func (.func 41) #[.pointer (some ⟨g, 0, none⟩)] #[]]; rw [World.size_alloc] at HBq; (with_reducible refine (HC.out _ _ (S2.out.rel RT) HBq).mono ?_); rintro e w3 h3; have HRT := Lib.hid RT; obtain ⟨rfl, g3⟩ := ExPost.at_no h3 rfl; clear h3 RT HBq))
      exact ⟨rfl, ExPost.no HRs.out rfl (grown_trans (grown_trans HA0.out G2.out) (grown_trans (grown_rel (some g) HRT.out) g3))⟩
    | ok qq =>
      obtain ⟨y, r⟩ := qq
      rw [hr] at hpc
      have HRs := Lib.hid (show exprT (d + 1) false ts = .ok (y, r) by rw [HEx.out, hr])
      have HC := Lib.hid (fun (W : World) (q : Nat) (hs : StP V W g ts.tail a) (hq : Bk W q 87 #[.func (.func 41) #[.pointer (some ⟨g, 0, none⟩)] #[], .func (.func 41) #[.pointer (some ⟨g, 0, none⟩)] #[]]) => call_res E had 9 ⟨by decide, by decide⟩ [.ar, .ar] (by decide) hpc 2 2 rfl #[.func (.func 41) #[.pointer (some ⟨g, 0, none⟩)] #[], .func (.func 41) #[.pointer (some ⟨g, 0, none⟩)] #[]] rfl W q hs hq)
      clear hpc hr hex hk hk1 ht HX
      go_enter Tryd.func29, Tryd.ntmps29
      go_wp2_with (first
        | (go_at_call 38; (with_reducible refine HBg.out.mono ?_); rintro e w2 ⟨rfl, s2, g2⟩; have S2 := Lib.hid (s2 HT.out); have G2 := Lib.hid g2; have hz2 := g2.size; simp only [World.size_alloc] at hz2; have HZ2 := Lib.hid (HZ.out.grown g2 (fun e => by injection e; omega)); clear s2 g2)
        | (go_at_call 39; have RT := (S2.out.V.1.self.alloc (.cells #[.int .i64 k', .string (B x), .int .i64 n', .int .i64 p] 65)).alloc (.cells #[.func (.func 41) #[.pointer (some ⟨g, 0, none⟩)] #[], .func (.func 41) #[.pointer (some ⟨g, 0, none⟩)] #[]] 87); have HBq := Bk.new (w2.alloc (.cells #[.int .i64 k', .string (B x), .int .i64 n', .int .i64 p] 65)) 87 #[.func (.func 41) #[.pointer (some ⟨g, 0, none⟩)] #[], .func (.func 41) #[.pointer (some ⟨g, 0, none⟩)] #[]]; rw [World.size_alloc] at HBq; (with_reducible refine (HC.out _ _ (S2.out.rel RT) HBq).mono ?_); rintro e w3 h3; have HRT := Lib.hid RT; obtain ⟨v, rfl, ex, s3, g3⟩ := ExPost.at_yes h3 rfl; have hz3 := g3.size; simp only [World.size_alloc] at hz3; have HZ3 := Lib.hid ((HZ2.out.rel HRT.out).grown g3 (fun e => by injection e; omega)); obtain ⟨⟨b0, b1, b2, b3⟩, u0, u1, u2, u3⟩ := HZ3.out.four; have HEx3 := Lib.hid (And.intro ex (And.intro s3 g3)); clear ex s3 g3 h3 RT HBq))
      obtain ⟨e1, e2, e3, e4⟩ := expr_end hgl HVw.out (W0 := w2.heap.size + 1 + 1) (by omega) (grown_trans (grown_trans HA0.out G2.out) (grown_trans (grown_rel (some g) HRT.out) HEx3.out.2.2)) HZ3.out (by simpa using HEx3.out.1) HEx3.out.2.1 _ rfl
      obtain ⟨⟨y0, y1, y2, y3⟩, _⟩ := e1.four
      exact bodyPost_ret (v := EV v) (by simp [results, Tryd.results29, go_sem, y0, y1, y2, y3]) rfl (ExPost.yes HRs.out ⟨_, rfl, e2, e3, e4⟩)
  · have HX := Lib.hid (show x = [105, 102] from (kind_some HOk.out false (k := 10) (by rw [← ht]; exact hk) (by decide) (fun e => absurd (show k' = 3 from e) h3)).1)
    have hb1 := pword_no (show x ≠ [108, 111, 119, 101, 115, 116] by first | exact HX.out | (rw [HX.out]; decide))
    have hb2 := pword_no (show x ≠ [115, 101, 99, 111, 110, 100] by first | exact HX.out | (rw [HX.out]; decide))
    have hb3 := pword_no (show x ≠ [102, 114, 111, 109] by first | exact HX.out | (rw [HX.out]; decide))
    have hb5 := pword_no (show x ≠ [108, 101, 115, 115] by first | exact HX.out | (rw [HX.out]; decide))
    have hb6 := pword_no (show x ≠ [99, 117, 116] by first | exact HX.out | (rw [HX.out]; decide))
    have hb7 := pword_no (show x ≠ [109, 105, 110] by first | exact HX.out | (rw [HX.out]; decide))
    have hb8 := pword_no (show x ≠ [109, 97, 120] by first | exact HX.out | (rw [HX.out]; decide))
    have hb9 := pword_no (show x ≠ [101, 108, 115, 101] by first | exact HX.out | (rw [HX.out]; decide))
    have hb10 := pword_yes (show x = [105, 102] by first | exact HX.out | (rw [HX.out]; decide))
    have hk1 : (hdT ts).2.1 ≠ [] := by rw [hk1, HX.out]; decide
    have hpc : piecesP (exprT d) [.wh, .ar, .ar] 40 (.mk 10 0 [] []) ts.tail = callT (exprT d) 10 ts.tail := call_pieces d 10 (by decide) ts.tail (tail_okP HF.out.oks)
    have hex : exprT (d + 1) false ts = callT (exprT d) 10 ts.tail := exprT_call hk (by decide) (by decide) (by decide)
    have HEx := Lib.hid hex
    have HT := Lib.hid (HTl.out (.inr hk1))
    cases hr : callT (exprT d) 10 ts.tail with
    | error e0 =>
      rw [hr] at hpc
      have HRs := Lib.hid (show exprT (d + 1) false ts = .error e0 by rw [HEx.out, hr])
      have HC := Lib.hid (fun (W : World) (q : Nat) (hs : StP V W g ts.tail a) (hq : Bk W q 87 #[.func (.func 44) #[.pointer (some ⟨g, 0, none⟩)] #[], .func (.func 41) #[.pointer (some ⟨g, 0, none⟩)] #[], .func (.func 41) #[.pointer (some ⟨g, 0, none⟩)] #[]]) => call_res E had 10 ⟨by decide, by decide⟩ [.wh, .ar, .ar] (by decide) hpc 3 3 rfl #[.func (.func 44) #[.pointer (some ⟨g, 0, none⟩)] #[], .func (.func 41) #[.pointer (some ⟨g, 0, none⟩)] #[], .func (.func 41) #[.pointer (some ⟨g, 0, none⟩)] #[]] rfl W q hs hq)
      clear hpc hr hex hk hk1 ht HX
      go_enter Tryd.func29, Tryd.ntmps29
      go_wp2_with (first
        | (go_at_call 38; (with_reducible refine HBg.out.mono ?_); rintro e w2 ⟨rfl, s2, g2⟩; have S2 := Lib.hid (s2 HT.out); have G2 := Lib.hid g2; have hz2 := g2.size; simp only [World.size_alloc] at hz2; have HZ2 := Lib.hid (HZ.out.grown g2 (fun e => by injection e; omega)); clear s2 g2)
        | (go_at_call 39; have RT := (S2.out.V.1.self.alloc (.cells #[.int .i64 k', .string (B x), .int .i64 n', .int .i64 p] 65)).alloc (.cells #[.func (.func 44) #[.pointer (some ⟨g, 0, none⟩)] #[], .func (.func 41) #[.pointer (some ⟨g, 0, none⟩)] #[], .func (.func 41) #[.pointer (some ⟨g, 0, none⟩)] #[]] 87); have HBq := Bk.new (w2.alloc (.cells #[.int .i64 k', .string (B x), .int .i64 n', .int .i64 p] 65)) 87 #[.func (.func 44) #[.pointer (some ⟨g, 0, none⟩)] #[], .func (.func 41) #[.pointer (some ⟨g, 0, none⟩)] #[], .func (.func 41) #[.pointer (some ⟨g, 0, none⟩)] #[]]; rw [World.size_alloc] at HBq; (with_reducible refine (HC.out _ _ (S2.out.rel RT) HBq).mono ?_); rintro e w3 h3; have HRT := Lib.hid RT; obtain ⟨rfl, g3⟩ := ExPost.at_no h3 rfl; clear h3 RT HBq))
      exact ⟨rfl, ExPost.no HRs.out rfl (grown_trans (grown_trans HA0.out G2.out) (grown_trans (grown_rel (some g) HRT.out) g3))⟩
    | ok qq =>
      obtain ⟨y, r⟩ := qq
      rw [hr] at hpc
      have HRs := Lib.hid (show exprT (d + 1) false ts = .ok (y, r) by rw [HEx.out, hr])
      have HC := Lib.hid (fun (W : World) (q : Nat) (hs : StP V W g ts.tail a) (hq : Bk W q 87 #[.func (.func 44) #[.pointer (some ⟨g, 0, none⟩)] #[], .func (.func 41) #[.pointer (some ⟨g, 0, none⟩)] #[], .func (.func 41) #[.pointer (some ⟨g, 0, none⟩)] #[]]) => call_res E had 10 ⟨by decide, by decide⟩ [.wh, .ar, .ar] (by decide) hpc 3 3 rfl #[.func (.func 44) #[.pointer (some ⟨g, 0, none⟩)] #[], .func (.func 41) #[.pointer (some ⟨g, 0, none⟩)] #[], .func (.func 41) #[.pointer (some ⟨g, 0, none⟩)] #[]] rfl W q hs hq)
      clear hpc hr hex hk hk1 ht HX
      go_enter Tryd.func29, Tryd.ntmps29
      go_wp2_with (first
        | (go_at_call 38; (with_reducible refine HBg.out.mono ?_); rintro e w2 ⟨rfl, s2, g2⟩; have S2 := Lib.hid (s2 HT.out); have G2 := Lib.hid g2; have hz2 := g2.size; simp only [World.size_alloc] at hz2; have HZ2 := Lib.hid (HZ.out.grown g2 (fun e => by injection e; omega)); clear s2 g2)
        | (go_at_call 39; have RT := (S2.out.V.1.self.alloc (.cells #[.int .i64 k', .string (B x), .int .i64 n', .int .i64 p] 65)).alloc (.cells #[.func (.func 44) #[.pointer (some ⟨g, 0, none⟩)] #[], .func (.func 41) #[.pointer (some ⟨g, 0, none⟩)] #[], .func (.func 41) #[.pointer (some ⟨g, 0, none⟩)] #[]] 87); have HBq := Bk.new (w2.alloc (.cells #[.int .i64 k', .string (B x), .int .i64 n', .int .i64 p] 65)) 87 #[.func (.func 44) #[.pointer (some ⟨g, 0, none⟩)] #[], .func (.func 41) #[.pointer (some ⟨g, 0, none⟩)] #[], .func (.func 41) #[.pointer (some ⟨g, 0, none⟩)] #[]]; rw [World.size_alloc] at HBq; (with_reducible refine (HC.out _ _ (S2.out.rel RT) HBq).mono ?_); rintro e w3 h3; have HRT := Lib.hid RT; obtain ⟨v, rfl, ex, s3, g3⟩ := ExPost.at_yes h3 rfl; have hz3 := g3.size; simp only [World.size_alloc] at hz3; have HZ3 := Lib.hid ((HZ2.out.rel HRT.out).grown g3 (fun e => by injection e; omega)); obtain ⟨⟨b0, b1, b2, b3⟩, u0, u1, u2, u3⟩ := HZ3.out.four; have HEx3 := Lib.hid (And.intro ex (And.intro s3 g3)); clear ex s3 g3 h3 RT HBq))
      obtain ⟨e1, e2, e3, e4⟩ := expr_end hgl HVw.out (W0 := w2.heap.size + 1 + 1) (by omega) (grown_trans (grown_trans HA0.out G2.out) (grown_trans (grown_rel (some g) HRT.out) HEx3.out.2.2)) HZ3.out (by simpa using HEx3.out.1) HEx3.out.2.1 _ rfl
      obtain ⟨⟨y0, y1, y2, y3⟩, _⟩ := e1.four
      exact bodyPost_ret (v := EV v) (by simp [results, Tryd.results29, go_sem, y0, y1, y2, y3]) rfl (ExPost.yes HRs.out ⟨_, rfl, e2, e3, e4⟩)
end Go.Proofs.YtjhjdiaomnpkmaaDoor
