/- The landed parser: a call, piece by piece; The landed parser: an expression, a condition. -/
import Derived.Test.YtjhjdiaomnpkmaaDoorZL
import Derived.Test.YtjhjdiaomnpkmaaDoorZ00
import Derived.Test.YtjhjdiaomnpkmaaDoorZ01
import Derived.Test.YtjhjdiaomnpkmaaDoorZ02
import Derived.Test.YtjhjdiaomnpkmaaDoorZ03
import Derived.Test.YtjhjdiaomnpkmaaDoorZ04
import Derived.Test.YtjhjdiaomnpkmaaDoorZ06
import Derived.Test.YtjhjdiaomnpkmaaDoorZ07
import Derived.Test.YtjhjdiaomnpkmaaDoorZ10
namespace Go.Proofs.YtjhjdiaomnpkmaaDoor
open Go.RowKit Go.Lib
set_option linter.unusedVariables false
set_option linter.unusedSimpArgs false
/-- Where the loop over the pieces stands: j of them are taken. -/
def LoopP (V U wr : World) (g gx a d : Nat) (ps : List Pc) (R : Told Ex) (j : Nat) (x : Ex) (ts : List Tok) : Prop :=
  InP V U wr g gx a x ts ∧ piecesP (exprT d) (ps.drop j) (btwP j) x ts = R ∧ x.l.length ≤ j
theorem loop_start {V w : World} {g a d : Nat} {ts : List Tok} (h : StP V w g ts a) (ha : a + 1 ≤ 100) (k : Int) (hk : i64 k) (ps : List Pc) (R : Told Ex) (hR : piecesP (exprT d) ps 40 (.mk k 0 [] []) ts = R) :
    LoopP V (w.alloc (.cells #[.int .i64 0, .int .i64 0, .string ⟨#[]⟩, .slice none 0 0] 46)) (((w.setCell ⟨g, 1, none⟩ (.int .i64 (a + 1))).alloc (.cells #[.int .i64 0, .int .i64 0, .string ⟨#[]⟩, .slice none 0 0] 46)).alloc (.cells #[.int .i64 k, .int .i64 0, .string ⟨#[]⟩, .slice none 0 0] 46)) g (w.heap.size + 1) (a + 1) d ps R 0 (.mk k 0 [] []) ts := by
  obtain ⟨s1, s2⟩ := h.around (a + 1) ha
  have R1 := s1.V.1.self.alloc (.cells #[.int .i64 0, .int .i64 0, .string ⟨#[]⟩, .slice none 0 0] 46)
  have R2 := R1.self.alloc (.cells #[.int .i64 k, .int .i64 0, .string ⟨#[]⟩, .slice none 0 0] 46)
  have hz : ((w.setCell ⟨g, 1, none⟩ (.int .i64 (a + 1))).alloc (.cells #[.int .i64 0, .int .i64 0, .string ⟨#[]⟩, .slice none 0 0] 46)).heap.size = w.heap.size + 1 := by rw [World.size_alloc, World.size_setCell]
  have hB := Bk.new ((w.setCell ⟨g, 1, none⟩ (.int .i64 (a + 1))).alloc (.cells #[.int .i64 0, .int .i64 0, .string ⟨#[]⟩, .slice none 0 0] 46)) 46 #[.int .i64 k, .int .i64 0, .string ⟨#[]⟩, .slice none 0 0]
  rw [hz] at hB
  have hl := h.lt
  refine ⟨⟨s1.rel (R1.trans R2), by rw [World.size_alloc]; omega, by rw [World.size_alloc]; exact Nat.le_refl _, ?_, none, 0, [], hB, World.ownsRow_nil _ _ _ _, rfl, fun i hi => absurd hi (by simp), hk, ⟨show (-9223372036854775808 : Int) ≤ 0 by decide, show (0 : Int) ≤ 9223372036854775807 by decide⟩, Nat.zero_le _, Nat.zero_le _⟩, hR, Nat.zero_le _⟩
  refine ⟨rfl, rfl, rfl, by rw [World.size_alloc, World.size_alloc, World.size_alloc, World.size_setCell]; omega, fun q hq hn => ?_⟩
  rw [World.size_alloc] at hq
  rw [Below.heap_alloc _ _ _ (by rw [hz]; omega)]
  rcases Nat.lt_or_ge q w.heap.size with hlt | hge
  · rw [Below.heap_alloc _ _ _ (by rw [World.size_setCell]; exact hlt), Below.heap_setCell _ _ _ _ (fun e => hn (by rw [e])), Below.heap_alloc _ _ _ hlt]
  · obtain rfl : q = w.heap.size := by omega
    have e1 := Bk.new (w.setCell ⟨g, 1, none⟩ (.int .i64 (a + 1))) 46 #[.int .i64 0, .int .i64 0, .string ⟨#[]⟩, .slice none 0 0]
    rw [World.size_setCell] at e1
    exact Eq.trans e1 (Bk.new w 46 #[.int .i64 0, .int .i64 0, .string ⟨#[]⟩, .slice none 0 0]).symm
theorem call_end {V w U W : World} {g a : Nat} {x : Ex} {ts : List Tok} {A : Option Addr} {m : Nat} {es : List El} (hgl : g < w.heap.size) (hVw : V.heap.size ≤ w.heap.size) (hUr : Rel w U) (hzU : U.heap.size = w.heap.size + 1) (h : InP V U W g (w.heap.size + 1) (a + 1) x ts) (hX : XP (w.heap.size + 1) W x A m es) (ha : a ≤ 100) (hz : Bk W w.heap.size 46 #[.int .i64 0, .int .i64 0, .string ⟨#[]⟩, .slice none 0 0]) (W' : World)
    (hW : ((((W.setCell ⟨g, 1, none⟩ (.int .i64 a)).setCell ⟨w.heap.size, 0, none⟩ (.int .i64 x.k)).setCell ⟨w.heap.size, 1, none⟩ (.int .i64 x.n)).setCell ⟨w.heap.size, 2, none⟩ (.string (B x.nm))).setCell ⟨w.heap.size, 3, none⟩ (.slice A es.length m) = W') :
    Bk W' w.heap.size 46 #[.int .i64 x.k, .int .i64 x.n, .string (B x.nm), .slice A es.length m] ∧ ExAt (fun k => w.heap.size ≤ k) W' (x.k, x.n, x.nm, A, es.length, m) x ∧ StP V W' g ts a ∧ w.grownBy W' (some g) := by
  obtain ⟨s1, s2⟩ := h.1.around a ha
  have gp := put4_grown (W.setCell ⟨g, 1, none⟩ (.int .i64 a)) w.heap.size (.int .i64 x.k) (.int .i64 x.n) (.string (B x.nm)) (.slice A es.length m)
  have hb := (hz.far (p := ⟨g, 1, none⟩) (by simp only; omega) (.int .i64 a)).put4 (.int .i64 x.k) (.int .i64 x.n) (.string (B x.nm)) (.slice A es.length m)
  rw [hW] at gp hb
  have z1 := s2.size
  have z2 := gp.size
  rw [World.size_setCell] at z1 z2
  refine ⟨hb, hX.done W' (by omega) (fun q hq hl => ?_) _ (fun q hq => by omega), s1.grown gp (fun e => by injection e; omega) (fun k e => by cases e; exact hVw), ?_⟩
  · exact (gp.block q (by rw [World.size_setCell]; omega) (fun e => by injection e; omega)).trans (s2.block q hl (fun e => by injection e; omega))
  · exact grown_of (grown_trans (grown_rel (some g) hUr) (grown_trans h.2.2.2.1 s2)) gp (fun k e => by cases e; exact Nat.le_refl _)
theorem call_gr {w U W : World} {g : Nat} (hU : Rel w U) (hg : g < w.heap.size) (h : U.grownBy W (some g)) : w.grownBy W (some g) := grown_trans (grown_rel (some g) hU) h
set_option maxRecDepth 100000 in
set_option maxHeartbeats 4000000 in
theorem ppcall_any (d : Nat) (E : ExprOk d) (V : World) (g a : Nat) (had : a + 1 + d = 32) (k : Int) (hk : i64 k) (ps : List Pc) (hp : ps.length ≤ 3) (q c : Nat) (ts : List Tok) (w : World) (h : StP V w g ts a) (hq : Bk w q 87 (ps.map (pvOf g)).toArray) :
    Calls Tryd.prog 39 #[.pointer (some ⟨g, 0, none⟩), .int .i64 k, .slice (some ⟨q, 0, none⟩) ps.length c] w (ExPost V g a w (piecesP (exprT d) ps 40 (.mk k 0 [] []) ts)) := by
  obtain ⟨R, hR⟩ : ∃ R, piecesP (exprT d) ps 40 (.mk k 0 [] []) ts = R := ⟨_, rfl⟩
  rw [hR]
  have HI0 := Lib.hid (loop_start h (by omega) k hk ps R hR)
  obtain ⟨A0, c0, r0, hg0, _, _, _, _, _, hb0⟩ := h
  have hqg : q ≠ g := hq.ne hb0 (by decide)
  have hgl := hb0.lt
  obtain ⟨⟨b0, b1⟩, f0, f1⟩ := hb0.two
  have HZ := Lib.hid (Bk.new w 46 #[.int .i64 0, .int .i64 0, .string ⟨#[]⟩, .slice none 0 0])
  have HQ := Lib.hid (hq.alloc (.cells #[.int .i64 0, .int .i64 0, .string ⟨#[]⟩, .slice none 0 0] 46))
  have HR0 := Lib.hid r0
  have HVg := Lib.hid hg0
  have hw1 : IntKind.i64.wrap ((a : Int) + 1) = (a : Int) + 1 := IntWalk.i64_in _ (by omega)
  obtain ⟨n, hn⟩ : ∃ n, ps.length = n := ⟨_, rfl⟩
  have HN := Lib.hid hn
  rw [hn] at hp ⊢
  obtain ⟨U, hU⟩ : ∃ U, w.alloc (.cells #[.int .i64 0, .int .i64 0, .string ⟨#[]⟩, .slice none 0 0] 46) = U := ⟨_, rfl⟩
  have hzU : U.heap.size = w.heap.size + 1 := by rw [← hU]; exact World.size_alloc ..
  rw [hU] at HI0 HZ HQ
  have HUr := Lib.hid (show Rel w U by rw [← hU]; exact r0.self.alloc _)
  clear hq hb0 r0 hg0 hR hn hU
  go_enter Tryd.func39, Tryd.ntmps39
  go_wp2_with (fail)
  go_loopw [8, 22] (fun b i wr => ∃ (j : Nat) (C : ByteArray) (x : Ex) (ts' : List Tok), j ≤ n ∧ i = .int .i64 (j : Int) ∧ b = .string C ∧ Hid (C = B [btwP j]) ∧ Hid (LoopP V U wr g (w.heap.size + 1) (a + 1) d ps R j x ts')) (fun _ i _ => n - (RowKit.intOf i).toNat)
  case atStart => exact ⟨0, ⟨#[40]⟩, .mk k 0 [] [], ts, by omega, rfl, rfl, Lib.hid rfl, HI0⟩
  case round =>
    obtain ⟨j, C, x, ts', hj, rfl, rfl, HC, HL⟩ := hrel
    have HIn := Lib.hid HL.out.1
    have HSt := Lib.hid HL.out.1.1
    have hxl : x.l.length ≤ j := HL.out.2.2
    have HQr : Hid (Bk wr q 87 (ps.map (pvOf g)).toArray) := Lib.hid (HQ.out.grown HIn.out.2.2.2.1 (fun e => by injection e; omega))
    have HUg := Lib.hid HIn.out.2.2.2.1
    by_cases hlt : j < n
    · obtain ⟨p, hp'⟩ : ∃ p, ps[j]? = some p := ⟨ps[j]'(by rw [HN.out]; exact hlt), List.getElem?_eq_getElem _⟩
      have hcell : wr.cell? ⟨q, j, none⟩ = some (pvOf g p) := by
        rw [HQr.out.cell, List.getElem?_toArray, List.getElem?_map, hp']; rfl
      have hdr : ps.drop j = p :: ps.drop (j + 1) := by
        obtain ⟨h1, h2⟩ := List.getElem?_eq_some_iff.1 hp'
        rw [List.drop_eq_getElem_cons h1, h2]
      have HRR := Lib.hid (show piecesP (exprT d) (p :: ps.drop (j + 1)) (btwP j) x ts' = R by rw [← hdr]; exact HL.out.2.1)
      have htk := sign_take (btwP_or j) ts' HSt.out.fine.head.1
      clear hdr hp'
      by_cases htx : (hdT ts').2.1 = [btwP j]
      · have HT := Lib.hid (show takeT 4 [btwP j] ts' = .ok (hdT ts', ts'.tail) by rw [htk, if_pos htx])
        have HSg := Lib.hid (psign_yes V g (a + 1) ts' [btwP j] C HC wr HSt.out htx (by simp))
        clear htk htx
        cases hst : stepP (exprT d) p x ts'.tail with
        | error e0 =>
          have HE := Lib.hid (show R = .error e0 by rw [← HRR.out]; unfold piecesP; rw [HT.out]; simp only [hst])
          have HPc := Lib.hid (fun (w2 : World) (h : InP V U w2 g (w.heap.size + 1) (a + 1) x ts'.tail) => piece_no E had p (by omega) hst h)
          clear hst
          cases p
          all_goals
            unfold pvOf fnOf at hcell
            unfold fnOf at HPc
            go_wp2_with (first
              | (go_at_call 60; (with_reducible refine HSg.out.mono ?_); rintro e w2 ⟨rfl, s2, g2⟩; have HI2 := Lib.hid (HIn.out.step g2 s2); clear s2 g2)
              | ((first | go_at_call 41 | go_at_call 44 | go_at_call 40 | go_at_call 42 | go_at_call 43 | go_at_call 75); (with_reducible refine (HPc.out _ HI2.out).mono ?_); rintro e w3 ⟨rfl, g3⟩))
            exact ⟨rfl, ExPost.no HE.out rfl (call_gr HUr.out hgl g3)⟩
        | ok qq =>
          obtain ⟨y, r2⟩ := qq
          have HE := Lib.hid (show piecesP (exprT d) (ps.drop (j + 1)) (btwP (j + 1)) y r2 = R by rw [← HRR.out, piecesP, HT.out]; simp only [hst]; rfl)
          have HPc := Lib.hid (fun (w2 : World) (h : InP V U w2 g (w.heap.size + 1) (a + 1) x ts'.tail) => piece_yes E had p (by omega) hst h)
          have HYl := Lib.hid (show y.l.length ≤ j + 1 from by have := step_len hst; omega)
          clear hst
          cases p
          all_goals
            unfold pvOf fnOf at hcell
            unfold fnOf at HPc
            go_wp2_with (first
              | (go_at_call 60; (with_reducible refine HSg.out.mono ?_); rintro e w2 ⟨rfl, s2, g2⟩; have HI2 := Lib.hid (HIn.out.step g2 s2); clear s2 g2)
              | ((first | go_at_call 41 | go_at_call 44 | go_at_call 40 | go_at_call 42 | go_at_call 43 | go_at_call 75); (with_reducible refine (HPc.out _ HI2.out).mono ?_); rintro e w3 ⟨rfl, i3⟩; have HI3 := Lib.hid i3; clear i3))
            go_roundw
            case rel => exact ⟨j + 1, _, y, r2, by omega, by go_num, rfl, Lib.hid rfl, Lib.hid ⟨HI3.out, HE.out, HYl.out⟩⟩
            case measure => simp [RowKit.intOf]; omega
      · have HE := Lib.hid (show R = .error (80, atT ts') by rw [← HRR.out]; unfold piecesP; rw [htk, if_neg htx])
        have HSg := Lib.hid (psign_not V g (a + 1) ts' [btwP j] C HC wr HSt.out htx)
        clear htk htx
        go_wp2_with (go_at_call 60; (with_reducible refine HSg.out.mono ?_); rintro e w2 ⟨rfl, g2⟩)
        exact ⟨rfl, ExPost.no HE.out rfl (call_gr HUr.out hgl (grown_trans HUg.out g2))⟩
    · obtain rfl : j = n := by omega
      have HRR := Lib.hid (show piecesP (exprT d) [] (btwP j) x ts' = R by rw [← HL.out.2.1, List.drop_eq_nil_of_le (by rw [HN.out]; exact Nat.le_refl _)])
      have htk := sign_take (.inr (.inl rfl)) ts' HSt.out.fine.head.1
      by_cases htx : (hdT ts').2.1 = [41]
      · have HE := Lib.hid (show R = .ok (x, ts'.tail) by rw [← HRR.out]; unfold piecesP; rw [htk, if_pos htx])
        have HSg := Lib.hid (psign_yes V g (a + 1) ts' [41] ⟨#[41]⟩ (Lib.hid rfl) wr HSt.out htx (by simp))
        clear htk htx
        have hw2 : IntKind.i64.wrap ((a : Int) + 1 - 1) = (a : Int) := by rw [show (a : Int) + 1 - 1 = a by omega]; exact IntWalk.i64_in _ (by omega)
        go_wp2_with (go_at_call 60; (with_reducible refine HSg.out.mono ?_); rintro e w2 ⟨rfl, s2, g2⟩; have HI2 := Lib.hid (HIn.out.step g2 s2); obtain ⟨⟨A', c', _, _, _, _, _, _, _, hb2⟩, _, _, hg2, A, m, es, hX2⟩ := HI2.out; obtain ⟨⟨_, c1⟩, _, u1⟩ := hb2.two; obtain ⟨⟨x0, x1, x2, x3⟩, _⟩ := hX2.1.four; obtain ⟨⟨z0, z1, z2, z3⟩, v0, v1, v2, v3⟩ := (HZ.out.grown hg2 (fun e => by injection e; omega)).four; have hgne : ¬ g = w.heap.size := (by omega); have hgne' : ¬ w.heap.size = g := (by omega); have hgnx : ¬ g = w.heap.size + 1 := (by omega); have hgnx' : ¬ w.heap.size + 1 = g := (by omega); have HX2 := Lib.hid hX2; have HZ2 := Lib.hid (HZ.out.grown hg2 (fun e => by injection e; omega)); clear s2 g2 hX2 hb2 hg2)
        obtain ⟨e1, e2, e3, e4⟩ := call_end hgl HR0.out.size HUr.out hzU HI2.out HX2.out (by omega) HZ2.out _ rfl
        obtain ⟨⟨y0, y1, y2, y3⟩, _⟩ := e1.four
        refine bodyPost_ret (v := EV (x.k, x.n, x.nm, A, es.length, m)) (by simp [results, Tryd.results39, go_sem, y0, y1, y2, y3]) rfl (ExPost.yes HE.out ⟨_, rfl, e2, e3, e4⟩)
      · have HE := Lib.hid (show R = .error (80, atT ts') by rw [← HRR.out]; unfold piecesP; rw [htk, if_neg htx])
        have HSg := Lib.hid (psign_not V g (a + 1) ts' [41] ⟨#[41]⟩ (Lib.hid rfl) wr HSt.out htx)
        clear htk htx
        go_wp2_with (go_at_call 60; (with_reducible refine HSg.out.mono ?_); rintro e w2 ⟨rfl, g2⟩)
        exact ⟨rfl, ExPost.no HE.out rfl (call_gr HUr.out hgl (grown_trans HUg.out g2))⟩
end Go.Proofs.YtjhjdiaomnpkmaaDoor

namespace Go.Proofs.YtjhjdiaomnpkmaaDoor
open Go.RowKit Go.Lib
set_option linter.unusedVariables false
set_option linter.unusedSimpArgs false
/-- The result laid into its cell. -/
theorem expr_end {V w W : World} {W0 : Nat} {g a : Nat} {v : El} {x : Ex} {r : List Tok} (hgl : g < w.heap.size) (hVw : V.heap.size ≤ w.heap.size) (h0 : w.heap.size < W0) (hg : w.grownBy W (some g)) (hz : Bk W w.heap.size 46 #[.int .i64 0, .int .i64 0, .string ⟨#[]⟩, .slice none 0 0]) (ex : ExAt (fun k => W0 ≤ k) W v x) (s : StP V W g r a) (W' : World)
    (hW : (((W.setCell ⟨w.heap.size, 0, none⟩ (.int .i64 v.1)).setCell ⟨w.heap.size, 1, none⟩ (.int .i64 v.2.1)).setCell ⟨w.heap.size, 2, none⟩ (.string (B v.2.2.1))).setCell ⟨w.heap.size, 3, none⟩ (.slice v.2.2.2.1 v.2.2.2.2.1 v.2.2.2.2.2) = W') :
    Bk W' w.heap.size 46 #[.int .i64 v.1, .int .i64 v.2.1, .string (B v.2.2.1), .slice v.2.2.2.1 v.2.2.2.2.1 v.2.2.2.2.2] ∧ ExAt (fun k => w.heap.size ≤ k) W' v x ∧ StP V W' g r a ∧ w.grownBy W' (some g) := by
  have gp := put4_grown W w.heap.size (.int .i64 v.1) (.int .i64 v.2.1) (.string (B v.2.2.1)) (.slice v.2.2.2.1 v.2.2.2.2.1 v.2.2.2.2.2)
  have hb := hz.put4 (.int .i64 v.1) (.int .i64 v.2.1) (.string (B v.2.2.1)) (.slice v.2.2.2.1 v.2.2.2.2.1 v.2.2.2.2.2)
  rw [hW] at gp hb
  exact ⟨hb, ex.grown gp (fun k hk => ⟨by omega, fun e => by injection e; omega⟩), s.grown gp (fun e => by injection e; omega) (fun k e => by cases e; exact hVw), grown_of hg gp (fun k e => by cases e; exact Nat.le_refl _)⟩
theorem pword_yes {x l : List UInt8} (h : x = l) : ((B x).toList == l) = true := by rw [B_toList]; simpa using h
theorem pword_no {x l : List UInt8} (h : x ≠ l) : ((B x).toList == l) = false := by rw [B_toList]; simpa using h
theorem call_res {d : Nat} (E : ExprOk d) {V : World} {g a : Nat} (had : a + 1 + d = 32) (k : Int) (hk : i64 k) (ps : List Pc) (hp : ps.length ≤ 3) {ts : List Tok} {R : Told Ex} (hR : piecesP (exprT d) ps 40 (.mk k 0 [] []) ts = R) (n c : Nat) (hn : ps.length = n) (cs : Array Value) (hcs : (ps.map (pvOf g)).toArray = cs) (W : World) (q : Nat) (h : StP V W g ts a) (hq : Bk W q 87 cs) :
    Calls Tryd.prog 39 #[.pointer (some ⟨g, 0, none⟩), .int .i64 k, .slice (some ⟨q, 0, none⟩) n c] W (ExPost V g a W R) := by
  subst hn hcs hR
  exact ppcall_any d E V g a had k hk ps hp q c ts W h hq
theorem ExPost.at_yes {V : World} {g a : Nat} {w w' : World} {r : Told Ex} {x : Ex} {ts : List Tok} {e : Ending} (h : ExPost V g a w r e w') (hr : r = .ok (x, ts)) : ∃ v : El, e = .returned (EV v) ∧ ExAt (fun k => w.heap.size ≤ k) w' v x ∧ StP V w' g ts a ∧ w.grownBy w' (some g) := by subst hr; exact h
theorem ExPost.at_no {V : World} {g a : Nat} {w w' : World} {r : Told Ex} {E : Int × Int} {e : Ending} (h : ExPost V g a w r e w') (hr : r = .error E) : e = FLT E.1 E.2 ∧ w.grownBy w' (some g) := by subst hr; exact h
theorem expr_end2 {V w W : World} {g a : Nat} {v : El} {x : Ex} {r : List Tok} (hgl : g < w.heap.size) (hVw : V.heap.size ≤ w.heap.size) (hg : w.grownBy W (some g)) (hz : Bk W w.heap.size 46 #[.int .i64 0, .int .i64 0, .string ⟨#[]⟩, .slice none 0 0]) (s : StP V W g r a) (T : ByteArray) (hT : T = B v.2.2.1) (W' : World)
    (hW : (((W.setCell ⟨w.heap.size, 0, none⟩ (.int .i64 v.1)).setCell ⟨w.heap.size, 1, none⟩ (.int .i64 v.2.1)).setCell ⟨w.heap.size, 2, none⟩ (.string T)).setCell ⟨w.heap.size, 3, none⟩ (.slice v.2.2.2.1 v.2.2.2.2.1 v.2.2.2.2.2) = W') (o : Obj) (hx : ∀ W : World, ExAt (fun k => w.heap.size ≤ k) W v x) :
    Bk (W'.alloc o) w.heap.size 46 #[.int .i64 v.1, .int .i64 v.2.1, .string T, .slice v.2.2.2.1 v.2.2.2.2.1 v.2.2.2.2.2] ∧ ExAt (fun k => w.heap.size ≤ k) (W'.alloc o) v x ∧ StP V (W'.alloc o) g r a ∧ w.grownBy (W'.alloc o) (some g) := by
  subst hT
  have gp := put4_grown W w.heap.size (.int .i64 v.1) (.int .i64 v.2.1) (.string (B v.2.2.1)) (.slice v.2.2.2.1 v.2.2.2.2.1 v.2.2.2.2.2)
  have hb := hz.put4 (.int .i64 v.1) (.int .i64 v.2.1) (.string (B v.2.2.1)) (.slice v.2.2.2.1 v.2.2.2.2.1 v.2.2.2.2.2)
  rw [hW] at gp hb
  have s1 := s.grown gp (fun e => by injection e; omega) (fun k e => by cases e; exact hVw)
  have R := s1.V.1.self.alloc o
  exact ⟨hb.rel R, hx _, s1.rel R, grown_trans (grown_of hg gp (fun k e => by cases e; exact Nat.le_refl _)) (grown_rel (some g) R)⟩
set_option maxRecDepth 100000 in
set_option maxHeartbeats 8000000 in
theorem pcondition_succ (d : Nat) (E : ExprOk d) (V : World) (g a : Nat) (ts : List Tok) (w : World) (had : a + (d + 1) = 32) (h : StP V w g ts a) :
    Calls Tryd.prog 62 #[.pointer (some ⟨g, 0, none⟩)] w (ExPost V g a w (exprT (d + 1) true ts)) := by
  have had : a + 1 + d = 32 := by omega
  have hA := h.V.1.self.alloc (.cells #[.int .i64 0, .int .i64 0, .string ⟨#[]⟩, .slice none 0 0] 46)
  have hbg := pbegin_yes V g a ts _ (h.rel hA) (by omega)
  have HA0 := Lib.hid (grown_rel (some g) hA)
  have HZ := Lib.hid (Bk.new w 46 #[.int .i64 0, .int .i64 0, .string ⟨#[]⟩, .slice none 0 0])
  have HVw := Lib.hid (show V.heap.size ≤ w.heap.size from h.V.1.size)
  have HVV := Lib.hid h.V
  have hgl := h.lt
  have HF := Lib.hid h.fine
  have HTl := Lib.hid h.fine.last
  have hhd := h.fine.head
  obtain ⟨⟨k', x, n', p⟩, ht⟩ : ∃ t, hdT ts = t := ⟨_, rfl⟩
  rw [ht] at hbg hhd
  have HBg := Lib.hid hbg
  have HAt := Lib.hid (show atT ts = p by unfold atT; rw [ht])
  have hmf : ∀ (fn : Fn) (first cap : Array Value) (w : World), (Instr.makeFunc fn first cap).run Tryd.prog w = .ok (.func fn first cap) w := fun _ _ _ _ => rfl
  have HOk := Lib.hid hhd.1
  have HN64 := Lib.hid hhd.2.2.1
  obtain ⟨K, hk⟩ : ∃ K, kindT true (hdT ts) = K := ⟨_, rfl⟩
  have hk1 : (hdT ts).2.1 = x := by rw [ht]
  clear hA hbg h hhd
  have hways : K = 0 ∨ K = 11 ∨ K = 12 := by
    by_cases h0 : K = 0
    · exact .inl h0
    · have hs := kind_spec HOk.out.1 (c := true) (by rw [← ht, hk]; exact h0)
      rw [← ht, hk] at hs
      rcases hs with ⟨_, _, e⟩ | ⟨_, e1, e2, e4, ec⟩
      · cases e
      · unfold isCond at ec; simp only [Bool.or_eq_true, beq_iff_eq] at ec; omega
  rcases hways with rfl | rfl | rfl
  · have hx : True := trivial
    have hb11 := pword_no (show x ≠ [109, 111, 114, 101] from kind_none HOk.out true (fun _ => rfl) (by rw [← ht]; exact hk) 11 (by decide) (by decide) (by decide) rfl)
    have hb12 := pword_no (show x ≠ [97, 98, 111, 118, 101] from kind_none HOk.out true (fun _ => rfl) (by rw [← ht]; exact hk) 12 (by decide) (by decide) (by decide) rfl)
    have HRs := Lib.hid (show exprT (d + 1) true ts = .error (80, p) by rw [exprT_none hk, HAt.out])
    clear ht hk hk1
    go_enter Tryd.func62, Tryd.ntmps62
    go_wp2_with (first
      | (go_at_call 38; (with_reducible refine HBg.out.mono ?_); rintro e w2 ⟨rfl, s2, g2⟩; have G2 := Lib.hid g2; have hz2 := g2.size; simp only [World.size_alloc] at hz2; clear s2 g2)
      | (go_at_call 45; (with_reducible refine (pwrong_any (k', x, n', p) _).mono ?_); rintro e w3 ⟨rfl, rfl⟩))
    have GG := grown_trans HA0.out G2.out
    exact ⟨rfl, ExPost.no HRs.out rfl (fail_grown GG V (HVV.out.1.grown GG (fun k e => by cases e; exact HVV.out.2)) _ _ _)⟩
  · have HX := Lib.hid (show x = [109, 111, 114, 101] from (kind_some HOk.out true (k := 11) (by rw [← ht]; exact hk) (by decide) (fun _ => rfl)).1)
    have hb11 := pword_yes (show x = [109, 111, 114, 101] by first | exact HX.out | (rw [HX.out]; decide))
    have hk1 : (hdT ts).2.1 ≠ [] := by rw [hk1, HX.out]; decide
    have hpc : piecesP (exprT d) [.co] 40 (.mk 11 0 [] []) ts.tail = callT (exprT d) 11 ts.tail := call_pieces d 11 (by decide) ts.tail (tail_okP HF.out.oks)
    have hex : exprT (d + 1) true ts = callT (exprT d) 11 ts.tail := exprT_call hk (by decide) (by decide) (by decide)
    have HEx := Lib.hid hex
    have HT := Lib.hid (HTl.out (.inr hk1))
    cases hr : callT (exprT d) 11 ts.tail with
    | error e0 =>
      rw [hr] at hpc
      have HRs := Lib.hid (show exprT (d + 1) true ts = .error e0 by rw [HEx.out, hr])
      have HC := Lib.hid (fun (W : World) (q : Nat) (hs : StP V W g ts.tail a) (hq : Bk W q 87 #[.func (.func 75) #[.pointer (some ⟨g, 0, none⟩)] #[]]) => call_res E had 11 ⟨by decide, by decide⟩ [.co] (by decide) hpc 1 1 rfl #[.func (.func 75) #[.pointer (some ⟨g, 0, none⟩)] #[]] rfl W q hs hq)
      clear hpc hr hex hk hk1 ht HX
      go_enter Tryd.func62, Tryd.ntmps62
      go_wp2_with (first
        | (go_at_call 38; (with_reducible refine HBg.out.mono ?_); rintro e w2 ⟨rfl, s2, g2⟩; have S2 := Lib.hid (s2 HT.out); have G2 := Lib.hid g2; have hz2 := g2.size; simp only [World.size_alloc] at hz2; have HZ2 := Lib.hid (HZ.out.grown g2 (fun e => by injection e; omega)); clear s2 g2)
        | (go_at_call 39; have RT := (S2.out.V.1.self.alloc (.cells #[.int .i64 k', .string (B x), .int .i64 n', .int .i64 p] 65)).alloc (.cells #[.func (.func 75) #[.pointer (some ⟨g, 0, none⟩)] #[]] 87); have HBq := Bk.new (w2.alloc (.cells #[.int .i64 k', .string (B x), .int .i64 n', .int .i64 p] 65)) 87 #[.func (.func 75) #[.pointer (some ⟨g, 0, none⟩)] #[]]; rw [World.size_alloc] at HBq; (with_reducible refine (HC.out _ _ (S2.out.rel RT) HBq).mono ?_); rintro e w3 h3; have HRT := Lib.hid RT; obtain ⟨rfl, g3⟩ := ExPost.at_no h3 rfl; clear h3 RT HBq))
      exact ⟨rfl, ExPost.no HRs.out rfl (grown_trans (grown_trans HA0.out G2.out) (grown_trans (grown_rel (some g) HRT.out) g3))⟩
    | ok qq =>
      obtain ⟨y, r⟩ := qq
      rw [hr] at hpc
      have HRs := Lib.hid (show exprT (d + 1) true ts = .ok (y, r) by rw [HEx.out, hr])
      have HC := Lib.hid (fun (W : World) (q : Nat) (hs : StP V W g ts.tail a) (hq : Bk W q 87 #[.func (.func 75) #[.pointer (some ⟨g, 0, none⟩)] #[]]) => call_res E had 11 ⟨by decide, by decide⟩ [.co] (by decide) hpc 1 1 rfl #[.func (.func 75) #[.pointer (some ⟨g, 0, none⟩)] #[]] rfl W q hs hq)
      clear hpc hr hex hk hk1 ht HX
      go_enter Tryd.func62, Tryd.ntmps62
      go_wp2_with (first
        | (go_at_call 38; (with_reducible refine HBg.out.mono ?_); rintro e w2 ⟨rfl, s2, g2⟩; have S2 := Lib.hid (s2 HT.out); have G2 := Lib.hid g2; have hz2 := g2.size; simp only [World.size_alloc] at hz2; have HZ2 := Lib.hid (HZ.out.grown g2 (fun e => by injection e; omega)); clear s2 g2)
        | (go_at_call 39; have RT := (S2.out.V.1.self.alloc (.cells #[.int .i64 k', .string (B x), .int .i64 n', .int .i64 p] 65)).alloc (.cells #[.func (.func 75) #[.pointer (some ⟨g, 0, none⟩)] #[]] 87); have HBq := Bk.new (w2.alloc (.cells #[.int .i64 k', .string (B x), .int .i64 n', .int .i64 p] 65)) 87 #[.func (.func 75) #[.pointer (some ⟨g, 0, none⟩)] #[]]; rw [World.size_alloc] at HBq; (with_reducible refine (HC.out _ _ (S2.out.rel RT) HBq).mono ?_); rintro e w3 h3; have HRT := Lib.hid RT; obtain ⟨v, rfl, ex, s3, g3⟩ := ExPost.at_yes h3 rfl; have hz3 := g3.size; simp only [World.size_alloc] at hz3; have HZ3 := Lib.hid ((HZ2.out.rel HRT.out).grown g3 (fun e => by injection e; omega)); obtain ⟨⟨b0, b1, b2, b3⟩, u0, u1, u2, u3⟩ := HZ3.out.four; have HEx3 := Lib.hid (And.intro ex (And.intro s3 g3)); clear ex s3 g3 h3 RT HBq))
      obtain ⟨e1, e2, e3, e4⟩ := expr_end hgl HVw.out (W0 := w2.heap.size + 1 + 1) (by omega) (grown_trans (grown_trans HA0.out G2.out) (grown_trans (grown_rel (some g) HRT.out) HEx3.out.2.2)) HZ3.out (by simpa using HEx3.out.1) HEx3.out.2.1 _ rfl
      obtain ⟨⟨y0, y1, y2, y3⟩, _⟩ := e1.four
      exact bodyPost_ret (v := EV v) (by simp [results, Tryd.results62, go_sem, y0, y1, y2, y3]) rfl (ExPost.yes HRs.out ⟨_, rfl, e2, e3, e4⟩)
  · have HX := Lib.hid (show x = [97, 98, 111, 118, 101] from (kind_some HOk.out true (k := 12) (by rw [← ht]; exact hk) (by decide) (fun _ => rfl)).1)
    have hb11 := pword_no (show x ≠ [109, 111, 114, 101] by first | exact HX.out | (rw [HX.out]; decide))
    have hb12 := pword_yes (show x = [97, 98, 111, 118, 101] by first | exact HX.out | (rw [HX.out]; decide))
    have hk1 : (hdT ts).2.1 ≠ [] := by rw [hk1, HX.out]; decide
    have hpc : piecesP (exprT d) [.ar, .ar] 40 (.mk 12 0 [] []) ts.tail = callT (exprT d) 12 ts.tail := call_pieces d 12 (by decide) ts.tail (tail_okP HF.out.oks)
    have hex : exprT (d + 1) true ts = callT (exprT d) 12 ts.tail := exprT_call hk (by decide) (by decide) (by decide)
    have HEx := Lib.hid hex
    have HT := Lib.hid (HTl.out (.inr hk1))
    cases hr : callT (exprT d) 12 ts.tail with
    | error e0 =>
      rw [hr] at hpc
      have HRs := Lib.hid (show exprT (d + 1) true ts = .error e0 by rw [HEx.out, hr])
      have HC := Lib.hid (fun (W : World) (q : Nat) (hs : StP V W g ts.tail a) (hq : Bk W q 87 #[.func (.func 41) #[.pointer (some ⟨g, 0, none⟩)] #[], .func (.func 41) #[.pointer (some ⟨g, 0, none⟩)] #[]]) => call_res E had 12 ⟨by decide, by decide⟩ [.ar, .ar] (by decide) hpc 2 2 rfl #[.func (.func 41) #[.pointer (some ⟨g, 0, none⟩)] #[], .func (.func 41) #[.pointer (some ⟨g, 0, none⟩)] #[]] rfl W q hs hq)
      clear hpc hr hex hk hk1 ht HX
      go_enter Tryd.func62, Tryd.ntmps62
      go_wp2_with (first
        | (go_at_call 38; (with_reducible refine HBg.out.mono ?_); rintro e w2 ⟨rfl, s2, g2⟩; have S2 := Lib.hid (s2 HT.out); have G2 := Lib.hid g2; have hz2 := g2.size; simp only [World.size_alloc] at hz2; have HZ2 := Lib.hid (HZ.out.grown g2 (fun e => by injection e; omega)); clear s2 g2)
        | (go_at_call 39; have RT := (S2.out.V.1.self.alloc (.cells #[.int .i64 k', .string (B x), .int .i64 n', .int .i64 p] 65)).alloc (.cells #[.func (.func 41) #[.pointer (some ⟨g, 0, none⟩)] #[], .func (.func 41) #[.pointer (some ⟨g, 0, none⟩)] #[]] 87); have HBq := Bk.new (w2.alloc (.cells #[.int .i64 k', .string (B x), .int .i64 n', .int .i64 p] 65)) 87 #[.func (.func 41) #[.pointer (some ⟨g, 0, none⟩)] #[], .func (.func 41) #[.pointer (some ⟨g, 0, none⟩)] #[]]; rw [World.size_alloc] at HBq; (with_reducible refine (HC.out _ _ (S2.out.rel RT) HBq).mono ?_); rintro e w3 h3; have HRT := Lib.hid RT; obtain ⟨rfl, g3⟩ := ExPost.at_no h3 rfl; clear h3 RT HBq))
      exact ⟨rfl, ExPost.no HRs.out rfl (grown_trans (grown_trans HA0.out G2.out) (grown_trans (grown_rel (some g) HRT.out) g3))⟩
    | ok qq =>
      obtain ⟨y, r⟩ := qq
      rw [hr] at hpc
      have HRs := Lib.hid (show exprT (d + 1) true ts = .ok (y, r) by rw [HEx.out, hr])
      have HC := Lib.hid (fun (W : World) (q : Nat) (hs : StP V W g ts.tail a) (hq : Bk W q 87 #[.func (.func 41) #[.pointer (some ⟨g, 0, none⟩)] #[], .func (.func 41) #[.pointer (some ⟨g, 0, none⟩)] #[]]) => call_res E had 12 ⟨by decide, by decide⟩ [.ar, .ar] (by decide) hpc 2 2 rfl #[.func (.func 41) #[.pointer (some ⟨g, 0, none⟩)] #[], .func (.func 41) #[.pointer (some ⟨g, 0, none⟩)] #[]] rfl W q hs hq)
      clear hpc hr hex hk hk1 ht HX
      go_enter Tryd.func62, Tryd.ntmps62
      go_wp2_with (first
        | (go_at_call 38; (with_reducible refine HBg.out.mono ?_); rintro e w2 ⟨rfl, s2, g2⟩; have S2 := Lib.hid (s2 HT.out); have G2 := Lib.hid g2; have hz2 := g2.size; simp only [World.size_alloc] at hz2; have HZ2 := Lib.hid (HZ.out.grown g2 (fun e => by injection e; omega)); clear s2 g2)
        | (go_at_call 39; have RT := (S2.out.V.1.self.alloc (.cells #[.int .i64 k', .string (B x), .int .i64 n', .int .i64 p] 65)).alloc (.cells #[.func (.func 41) #[.pointer (some ⟨g, 0, none⟩)] #[], .func (.func 41) #[.pointer (some ⟨g, 0, none⟩)] #[]] 87); have HBq := Bk.new (w2.alloc (.cells #[.int .i64 k', .string (B x), .int .i64 n', .int .i64 p] 65)) 87 #[.func (.func 41) #[.pointer (some ⟨g, 0, none⟩)] #[], .func (.func 41) #[.pointer (some ⟨g, 0, none⟩)] #[]]; rw [World.size_alloc] at HBq; (with_reducible refine (HC.out _ _ (S2.out.rel RT) HBq).mono ?_); rintro e w3 h3; have HRT := Lib.hid RT; obtain ⟨v, rfl, ex, s3, g3⟩ := ExPost.at_yes h3 rfl; have hz3 := g3.size; simp only [World.size_alloc] at hz3; have HZ3 := Lib.hid ((HZ2.out.rel HRT.out).grown g3 (fun e => by injection e; omega)); obtain ⟨⟨b0, b1, b2, b3⟩, u0, u1, u2, u3⟩ := HZ3.out.four; have HEx3 := Lib.hid (And.intro ex (And.intro s3 g3)); clear ex s3 g3 h3 RT HBq))
      obtain ⟨e1, e2, e3, e4⟩ := expr_end hgl HVw.out (W0 := w2.heap.size + 1 + 1) (by omega) (grown_trans (grown_trans HA0.out G2.out) (grown_trans (grown_rel (some g) HRT.out) HEx3.out.2.2)) HZ3.out (by simpa using HEx3.out.1) HEx3.out.2.1 _ rfl
      obtain ⟨⟨y0, y1, y2, y3⟩, _⟩ := e1.four
      exact bodyPost_ret (v := EV v) (by simp [results, Tryd.results62, go_sem, y0, y1, y2, y3]) rfl (ExPost.yes HRs.out ⟨_, rfl, e2, e3, e4⟩)
end Go.Proofs.YtjhjdiaomnpkmaaDoor
