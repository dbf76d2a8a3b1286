/- The landed parser: a call, piece by piece. -/
import Derived.Test.YtoajbbcjmalngaaZ17
namespace Go.Proofs.Ytoajbbcjmalngaa
open Go.RowKit Go.Lib
set_option linter.unusedVariables false
set_option linter.unusedSimpArgs false

/-- Where the loop over the pieces stands: j of them are taken. -/
def LoopP (V U wr : World) (g gx a d : Nat) (ps : List Pc) (R : Told Ex) (j : Nat) (x : Ex) (ts : List Tok) : Prop :=
  InP V U wr g gx a x ts ∧ piecesP (exprT d) (ps.drop j) (btwP j) x ts = R ∧ x.l.length ≤ j
theorem loop_start {V w : World} {g a d : Nat} {ts : List Tok} (h : StP V w g ts a) (ha : a + 1 ≤ 100) (k : Int) (hk : i64 k) (ps : List Pc) (R : Told Ex) (hR : piecesP (exprT d) ps 40 (.mk k 0 [] []) ts = R) :
    LoopP V (w.alloc (.cells #[.int .i64 0, .int .i64 0, .string ⟨#[]⟩, .slice none 0 0] 30)) (((w.setCell ⟨g, 1, none⟩ (.int .i64 (a + 1))).alloc (.cells #[.int .i64 0, .int .i64 0, .string ⟨#[]⟩, .slice none 0 0] 30)).alloc (.cells #[.int .i64 k, .int .i64 0, .string ⟨#[]⟩, .slice none 0 0] 30)) g (w.heap.size + 1) (a + 1) d ps R 0 (.mk k 0 [] []) ts := by
  obtain ⟨s1, s2⟩ := h.around (a + 1) ha
  have R1 := s1.V.1.self.alloc (.cells #[.int .i64 0, .int .i64 0, .string ⟨#[]⟩, .slice none 0 0] 30)
  have R2 := R1.self.alloc (.cells #[.int .i64 k, .int .i64 0, .string ⟨#[]⟩, .slice none 0 0] 30)
  have hz : ((w.setCell ⟨g, 1, none⟩ (.int .i64 (a + 1))).alloc (.cells #[.int .i64 0, .int .i64 0, .string ⟨#[]⟩, .slice none 0 0] 30)).heap.size = w.heap.size + 1 := by rw [World.size_alloc, World.size_setCell]
  have hB := Bk.new ((w.setCell ⟨g, 1, none⟩ (.int .i64 (a + 1))).alloc (.cells #[.int .i64 0, .int .i64 0, .string ⟨#[]⟩, .slice none 0 0] 30)) 30 #[.int .i64 k, .int .i64 0, .string ⟨#[]⟩, .slice none 0 0]
  rw [hz] at hB
  have hl := h.lt
  refine ⟨⟨s1.rel (R1.trans R2), by rw [World.size_alloc]; omega, by rw [World.size_alloc]; exact Nat.le_refl _, ?_, none, 0, [], hB, World.ownsRow_nil _ _ _ _, rfl, fun i hi => absurd hi (by simp), hk, ⟨show (-9223372036854775808 : Int) ≤ 0 by decide, show (0 : Int) ≤ 9223372036854775807 by decide⟩, Nat.zero_le _, Nat.zero_le _⟩, hR, Nat.zero_le _⟩
  refine ⟨rfl, rfl, rfl, by rw [World.size_alloc, World.size_alloc, World.size_alloc, World.size_setCell]; omega, fun q hq hn => ?_⟩
  rw [World.size_alloc] at hq
  rw [Below.heap_alloc _ _ _ (by rw [hz]; omega)]
  rcases Nat.lt_or_ge q w.heap.size with hlt | hge
  · rw [Below.heap_alloc _ _ _ (by rw [World.size_setCell]; exact hlt), Below.heap_setCell _ _ _ _ (fun e => hn (by rw [e])), Below.heap_alloc _ _ _ hlt]
  · obtain rfl : q = w.heap.size := by omega
    have e1 := Bk.new (w.setCell ⟨g, 1, none⟩ (.int .i64 (a + 1))) 30 #[.int .i64 0, .int .i64 0, .string ⟨#[]⟩, .slice none 0 0]
    rw [World.size_setCell] at e1
    exact Eq.trans e1 (Bk.new w 30 #[.int .i64 0, .int .i64 0, .string ⟨#[]⟩, .slice none 0 0]).symm
theorem call_end {V w U W : World} {g a : Nat} {x : Ex} {ts : List Tok} {A : Option Addr} {m : Nat} {es : List El} (hgl : g < w.heap.size) (hVw : V.heap.size ≤ w.heap.size) (hUr : Rel w U) (hzU : U.heap.size = w.heap.size + 1) (h : InP V U W g (w.heap.size + 1) (a + 1) x ts) (hX : XP (w.heap.size + 1) W x A m es) (ha : a ≤ 100) (hz : Bk W w.heap.size 30 #[.int .i64 0, .int .i64 0, .string ⟨#[]⟩, .slice none 0 0]) (W' : World)
    (hW : ((((W.setCell ⟨g, 1, none⟩ (.int .i64 a)).setCell ⟨w.heap.size, 0, none⟩ (.int .i64 x.k)).setCell ⟨w.heap.size, 1, none⟩ (.int .i64 x.n)).setCell ⟨w.heap.size, 2, none⟩ (.string (B x.nm))).setCell ⟨w.heap.size, 3, none⟩ (.slice A es.length m) = W') :
    Bk W' w.heap.size 30 #[.int .i64 x.k, .int .i64 x.n, .string (B x.nm), .slice A es.length m] ∧ ExAt (fun k => w.heap.size ≤ k) W' (x.k, x.n, x.nm, A, es.length, m) x ∧ StP V W' g ts a ∧ w.grownBy W' (some g) := by
  obtain ⟨s1, s2⟩ := h.1.around a ha
  have gp := put4_grown (W.setCell ⟨g, 1, none⟩ (.int .i64 a)) w.heap.size (.int .i64 x.k) (.int .i64 x.n) (.string (B x.nm)) (.slice A es.length m)
  have hb := (hz.far (p := ⟨g, 1, none⟩) (by simp only; omega) (.int .i64 a)).put4 (.int .i64 x.k) (.int .i64 x.n) (.string (B x.nm)) (.slice A es.length m)
  rw [hW] at gp hb
  have z1 := s2.size
  have z2 := gp.size
  refine ⟨hb, hX.done W' (by omega) (fun q hq hl => ?_) _ (fun q hq => by omega), s1.grown gp (fun e => by injection e; omega) (fun k e => by cases e; exact hVw), ?_⟩
  · exact (gp.block q (by omega) (fun e => by injection e; omega)).trans (s2.block q hl (fun e => by injection e; omega))
  · exact grown_of (grown_trans (grown_rel (some g) hUr) (grown_trans h.2.2.2.1 s2)) gp (fun k e => by cases e; exact Nat.le_refl _)
theorem call_gr {w U W : World} {g : Nat} (hU : Rel w U) (hg : g < w.heap.size) (h : U.grownBy W (some g)) : w.grownBy W (some g) := grown_trans (grown_rel (some g) hU) h
set_option maxRecDepth 100000 in
set_option maxHeartbeats 4000000 in
theorem ppcall_any (d : Nat) (E : ExprOk d) (V : World) (g a : Nat) (had : a + 1 + d = 32) (k : Int) (hk : i64 k) (ps : List Pc) (hp : ps.length ≤ 3) (q c : Nat) (ts : List Tok) (w : World) (h : StP V w g ts a) (hq : Bk w q 85 (ps.map (pvOf g)).toArray) :
    Calls Try.prog 50 #[.pointer (some ⟨g, 0, none⟩), .int .i64 k, .slice (some ⟨q, 0, none⟩) ps.length c] w (ExPost V g a w (piecesP (exprT d) ps 40 (.mk k 0 [] []) ts)) := by
  obtain ⟨R, hR⟩ : ∃ R, piecesP (exprT d) ps 40 (.mk k 0 [] []) ts = R := ⟨_, rfl⟩
  rw [hR]
  have HI0 := Lib.hid (loop_start h (by omega) k hk ps R hR)
  obtain ⟨A0, c0, r0, hg0, _, _, _, _, _, hb0⟩ := h
  have hqg : q ≠ g := hq.ne hb0 (by decide)
  have hgl := hb0.lt
  obtain ⟨⟨b0, b1⟩, f0, f1⟩ := hb0.two
  have HZ := Lib.hid (Bk.new w 30 #[.int .i64 0, .int .i64 0, .string ⟨#[]⟩, .slice none 0 0])
  have HQ := Lib.hid (hq.alloc (.cells #[.int .i64 0, .int .i64 0, .string ⟨#[]⟩, .slice none 0 0] 30))
  have HR0 := Lib.hid r0
  have HVg := Lib.hid hg0
  have hw1 : IntKind.i64.wrap ((a : Int) + 1) = (a : Int) + 1 := IntWalk.i64_in _ (by omega)
  obtain ⟨n, hn⟩ : ∃ n, ps.length = n := ⟨_, rfl⟩
  have HN := Lib.hid hn
  rw [hn] at hp ⊢
  obtain ⟨U, hU⟩ : ∃ U, w.alloc (.cells #[.int .i64 0, .int .i64 0, .string ⟨#[]⟩, .slice none 0 0] 30) = U := ⟨_, rfl⟩
  have hzU : U.heap.size = w.heap.size + 1 := by rw [← hU]; exact World.size_alloc ..
  rw [hU] at HI0 HZ HQ
  have HUr := Lib.hid (show Rel w U by rw [← hU]; exact r0.self.alloc _)
  clear hq hb0 r0 hg0 hR hn hU
  go_enter Try.func50, Try.ntmps50
  go_wp2_with (fail)
  go_loopw [8, 22] (fun b i wr => ∃ (j : Nat) (C : ByteArray) (x : Ex) (ts' : List Tok), j ≤ n ∧ i = .int .i64 (j : Int) ∧ b = .string C ∧ Hid (C = B [btwP j]) ∧ Hid (LoopP V U wr g (w.heap.size + 1) (a + 1) d ps R j x ts')) (fun _ i _ => n - (RowKit.intOf i).toNat)
  case atStart => exact ⟨0, ⟨#[40]⟩, .mk k 0 [] [], ts, by omega, rfl, rfl, Lib.hid rfl, HI0⟩
  case round =>
    obtain ⟨j, C, x, ts', hj, rfl, rfl, HC, HL⟩ := hrel
    have HIn := Lib.hid HL.out.1
    have HSt := Lib.hid HL.out.1.1
    have hxl : x.l.length ≤ j := HL.out.2.2
    have HQr : Hid (Bk wr q 85 (ps.map (pvOf g)).toArray) := Lib.hid (HQ.out.grown HIn.out.2.2.2.1 (fun e => by injection e; omega))
    have HUg := Lib.hid HIn.out.2.2.2.1
    by_cases hlt : j < n
    · obtain ⟨p, hp'⟩ : ∃ p, ps[j]? = some p := ⟨ps[j]'(by rw [HN.out]; exact hlt), List.getElem?_eq_getElem _⟩
      have hcell : wr.cell? ⟨q, j, none⟩ = some (pvOf g p) := by
        rw [HQr.out.cell, List.getElem?_toArray, List.getElem?_map, hp']; rfl
      have hdr : ps.drop j = p :: ps.drop (j + 1) := by
        obtain ⟨h1, h2⟩ := List.getElem?_eq_some_iff.1 hp'
        rw [List.drop_eq_getElem_cons h1, h2]
      have HRR := Lib.hid (show piecesP (exprT d) (p :: ps.drop (j + 1)) (btwP j) x ts' = R by rw [← hdr]; exact HL.out.2.1)
      have htk := sign_take (btwP_or j) ts' HSt.out.fine.head.1
      clear hdr hp'
      by_cases htx : (hdT ts').2.1 = [btwP j]
      · have HT := Lib.hid (show takeT 4 [btwP j] ts' = .ok (hdT ts', ts'.tail) by rw [htk, if_pos htx])
        have HSg := Lib.hid (psign_yes V g (a + 1) ts' [btwP j] C HC wr HSt.out htx (by simp))
        clear htk htx
        cases hst : stepP (exprT d) p x ts'.tail with
        | error e0 =>
          have HE := Lib.hid (show R = .error e0 by rw [← HRR.out]; unfold piecesP; rw [HT.out]; simp only [hst])
          have HPc := Lib.hid (fun (w2 : World) (h : InP V U w2 g (w.heap.size + 1) (a + 1) x ts'.tail) => piece_no E had p (by omega) hst h)
          clear hst
          cases p
          all_goals
            unfold pvOf fnOf at hcell
            unfold fnOf at HPc
            go_wp2_with (first
              | (go_at_call 68; (with_reducible refine HSg.out.mono ?_); rintro e w2 ⟨rfl, s2, g2⟩; have HI2 := Lib.hid (HIn.out.step g2 s2); clear s2 g2)
              | ((first | go_at_call 52 | go_at_call 55 | go_at_call 51 | go_at_call 53 | go_at_call 54 | go_at_call 79); (with_reducible refine (HPc.out _ HI2.out).mono ?_); rintro e w3 ⟨rfl, g3⟩))
            exact ⟨rfl, ExPost.no HE.out rfl (call_gr HUr.out hgl g3)⟩
        | ok qq =>
          obtain ⟨y, r2⟩ := qq
          have HE := Lib.hid (show piecesP (exprT d) (ps.drop (j + 1)) (btwP (j + 1)) y r2 = R by rw [← HRR.out, piecesP, HT.out]; simp only [hst]; rfl)
          have HPc := Lib.hid (fun (w2 : World) (h : InP V U w2 g (w.heap.size + 1) (a + 1) x ts'.tail) => piece_yes E had p (by omega) hst h)
          have HYl := Lib.hid (show y.l.length ≤ j + 1 from by have := step_len hst; omega)
          clear hst
          cases p
          all_goals
            unfold pvOf fnOf at hcell
            unfold fnOf at HPc
            go_wp2_with (first
              | (go_at_call 68; (with_reducible refine HSg.out.mono ?_); rintro e w2 ⟨rfl, s2, g2⟩; have HI2 := Lib.hid (HIn.out.step g2 s2); clear s2 g2)
              | ((first | go_at_call 52 | go_at_call 55 | go_at_call 51 | go_at_call 53 | go_at_call 54 | go_at_call 79); (with_reducible refine (HPc.out _ HI2.out).mono ?_); rintro e w3 ⟨rfl, i3⟩; have HI3 := Lib.hid i3; clear i3))
            go_roundw
            case rel => exact ⟨j + 1, _, y, r2, by omega, by go_num, rfl, Lib.hid rfl, Lib.hid ⟨HI3.out, HE.out, HYl.out⟩⟩
            case measure => simp [RowKit.intOf]; omega
      · have HE := Lib.hid (show R = .error (80, atT ts') by rw [← HRR.out]; unfold piecesP; rw [htk, if_neg htx])
        have HSg := Lib.hid (psign_not V g (a + 1) ts' [btwP j] C HC wr HSt.out htx)
        clear htk htx
        go_wp2_with (go_at_call 68; (with_reducible refine HSg.out.mono ?_); rintro e w2 ⟨rfl, g2⟩)
        exact ⟨rfl, ExPost.no HE.out rfl (call_gr HUr.out hgl (grown_trans HUg.out g2))⟩
    · obtain rfl : j = n := by omega
      have HRR := Lib.hid (show piecesP (exprT d) [] (btwP j) x ts' = R by rw [← HL.out.2.1, List.drop_eq_nil_of_le (by rw [HN.out]; exact Nat.le_refl _)])
      have htk := sign_take (.inr (.inl rfl)) ts' HSt.out.fine.head.1
      by_cases htx : (hdT ts').2.1 = [41]
      · have HE := Lib.hid (show R = .ok (x, ts'.tail) by rw [← HRR.out]; unfold piecesP; rw [htk, if_pos htx])
        have HSg := Lib.hid (psign_yes V g (a + 1) ts' [41] ⟨#[41]⟩ (Lib.hid rfl) wr HSt.out htx (by simp))
        clear htk htx
        have hw2 : IntKind.i64.wrap ((a : Int) + 1 - 1) = (a : Int) := by rw [show (a : Int) + 1 - 1 = a by omega]; exact IntWalk.i64_in _ (by omega)
        go_wp2_with (go_at_call 68; (with_reducible refine HSg.out.mono ?_); rintro e w2 ⟨rfl, s2, g2⟩; have HI2 := Lib.hid (HIn.out.step g2 s2); obtain ⟨⟨A', c', _, _, _, _, _, _, _, hb2⟩, _, _, hg2, A, m, es, hX2⟩ := HI2.out; obtain ⟨⟨_, c1⟩, _, u1⟩ := hb2.two; obtain ⟨⟨x0, x1, x2, x3⟩, _⟩ := hX2.1.four; obtain ⟨⟨z0, z1, z2, z3⟩, v0, v1, v2, v3⟩ := (HZ.out.grown hg2 (fun e => by injection e; omega)).four; have hgne : ¬ g = w.heap.size := (by omega); have hgne' : ¬ w.heap.size = g := (by omega); have hgnx : ¬ g = w.heap.size + 1 := (by omega); have hgnx' : ¬ w.heap.size + 1 = g := (by omega); have HX2 := Lib.hid hX2; have HZ2 := Lib.hid (HZ.out.grown hg2 (fun e => by injection e; omega)); clear s2 g2 hX2 hb2 hg2)
        obtain ⟨e1, e2, e3, e4⟩ := call_end hgl HR0.out.size HUr.out hzU HI2.out HX2.out (by omega) HZ2.out _ rfl
        obtain ⟨⟨y0, y1, y2, y3⟩, _⟩ := e1.four
        refine bodyPost_ret (v := EV (x.k, x.n, x.nm, A, es.length, m)) (by simp [results, Try.results50, go_sem, y0, y1, y2, y3]) rfl (ExPost.yes HE.out ⟨_, rfl, e2, e3, e4⟩)
      · have HE := Lib.hid (show R = .error (80, atT ts') by rw [← HRR.out]; unfold piecesP; rw [htk, if_neg htx])
        have HSg := Lib.hid (psign_not V g (a + 1) ts' [41] ⟨#[41]⟩ (Lib.hid rfl) wr HSt.out htx)
        clear htk htx
        go_wp2_with (go_at_call 68; (with_reducible refine HSg.out.mono ?_); rintro e w2 ⟨rfl, g2⟩)
        exact ⟨rfl, ExPost.no HE.out rfl (call_gr HUr.out hgl (grown_trans HUg.out g2))⟩
end Go.Proofs.Ytoajbbcjmalngaa
