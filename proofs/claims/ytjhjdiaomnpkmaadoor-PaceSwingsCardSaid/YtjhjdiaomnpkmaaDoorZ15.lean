/- Lex, a loop over the iterator; What the landed package parse tells; What the landed package tree tells of sizes and depths. -/
import Derived.Test.YtjhjdiaomnpkmaaDoorZL
import Derived.Test.YtjhjdiaomnpkmaaDoorZ00
import Derived.Test.YtjhjdiaomnpkmaaDoorZ01
import Derived.Test.YtjhjdiaomnpkmaaDoorZ02
import Derived.Test.YtjhjdiaomnpkmaaDoorZ03
import Derived.Test.YtjhjdiaomnpkmaaDoorZ04
import Derived.Test.YtjhjdiaomnpkmaaDoorZ07
import Derived.Test.YtjhjdiaomnpkmaaDoorZ13
import Derived.Test.YtjhjdiaomnpkmaaDoorZ14
namespace Go.Proofs.YtjhjdiaomnpkmaaDoor
open Go.RowKit
open Go.Lib
set_option linter.unusedVariables false
set_option linter.unusedSimpArgs false
attribute [local go_sem] Oper.semAt_some
/-- What Lex tells, and that its tokens lie within their slice. -/
def LexPostC (l : List UInt8) (w0 : World) (e : Ending) (w' : World) : Prop :=
  ∃ (ts : List Tok) (A : Option Addr) (c : Nat) (err place : Int), e = .returned (.tuple #[.slice A ts.length c, .int .i64 err, .int .i64 place]) ∧ Rel w0 w' ∧ ToksAt w' A ts ∧ Out l ts err place ∧ ts.length ≤ c ∧ c ≤ 9223372036854775807
theorem TokOwn.within {w : World} {base : Nat} {A : Option Addr} {c : Nat} {ts : List Tok} (h : TokOwn w base (.slice A ts.length c) ts) : ts.length ≤ c ∧ c ≤ 9223372036854775807 := by
  have h : w.ownsRow base 65 4 (.slice A ts.length c) ts.length (cellsOf ts) := h
  rcases h.2 with ⟨h0, h1⟩ | ⟨g, cap, cur, hv, hb, hh, hn, hm, _⟩
  · injection h0 with _ e1 e2
    omega
  · injection hv with _ _ e
    unfold maxLen at hm
    omega
set_option maxRecDepth 100000 in
set_option maxHeartbeats 4000000 in
theorem lex_any (s : ByteArray) (hs : s.size ≤ 9223372036854775807) (w0 w : World) (hr : Rel w0 w) :
    Calls Tryd.prog 24 #[.string s] w (LexPostC s.data.toList w0) := by
  obtain ⟨i0, hi, hz0, hz1, hz2⟩ := info_parts tok_info
  have el : s.data.toList.length = s.size := by simp
  have EL := Lib.hid el
  have HRw := Lib.hid hr
  have HS := Lib.hid hr.self
  have HIT := Lib.hid (fun (b : Nat) (h : s.size ≤ 2000) => tokens_in 5 (by omega) s h b)
  clear el hr
  by_cases hlong : 2000 < s.size
  · clear HIT
    have hlong' : (2000 : Int) < (s.size : Int) := by omega
    go_enter Tryd.func24, Tryd.ntmps24
    go_wp2_with (fail)
    have r0 := (((Bk.new w 55 #[.slice none 0 0]).alloc (.cells #[.int .i64 60] 40)).alloc (.cells #[.int .i64 2000] 3)).cell 0
    have r1 := ((Bk.snd w #[.slice none 0 0] #[.int .i64 60] 55 40).alloc (.cells #[.int .i64 2000] 3)).cell 0
    have r2 := Bk.snd (w.alloc (.cells #[.slice none 0 0] 55)) #[.int .i64 60] #[.int .i64 2000] 40 3
    simp only [World.size_alloc] at r2
    have r2 := r2.cell 0
    simp only [List.getElem?_toArray, List.getElem?_cons_zero] at r0 r1 r2
    exact bodyPost_ret (v := .tuple #[.slice none 0 0, .int .i64 60, .int .i64 2000]) (by simp [results, Tryd.results24, go_sem, r0, r1, r2]) rfl ⟨[], none, 0, 60, 2000, rfl, ((HRw.out.alloc _).alloc _).alloc _, ToksAt.nil _ _, .inl ⟨by rw [EL.out]; exact hlong, rfl, rfl, rfl⟩, Nat.le_refl _, by decide⟩
  · refine (callsIn_wide (n := 6)).1 ?_
    refine callsIn_of_wp_marks Tryd.func24 rfl trivial ?_ rfl
    simp only [Tryd.ntmps24, List.size_toArray, List.length_cons, List.length_nil, Nat.reduceAdd, Nat.reduceSub, Array.replicate_succ, Array.replicate_zero, List.push_toArray, List.append_toArray, List.nil_append, List.cons_append]
    have hl2 : (s.size : Int) ≤ 2000 := by omega
    gi_wp2_with (refine ⟨trivial, ?_⟩; gi_at_call 27; refine (callsIn_wide.2 (tokens_any s w _ (Rel.trans HS.out ((((HS.out.alloc _).alloc _).alloc _).alloc _)))).mono ?_; rintro e w1 ⟨rfl, rfl⟩)
    obtain ⟨Wl, hWl⟩ : ∃ Wl, ((((w.alloc (.cells #[.slice none 0 0] 55)).alloc (.cells #[.int .i64 0] 40)).alloc (.cells #[.int .i64 0] 3)).alloc (.cells #[.slice none 0 0] 55)).alloc (.cells #[.string s] 9) = Wl := ⟨_, rfl⟩
    have hsz : Wl.heap.size = w.heap.size + 5 := by rw [← hWl]; simp only [World.size_alloc]
    have hI0 : LexI w (w.heap.size + 5) s [] (w.heap.size + 7) Wl := by
      rw [← hWl]
      refine ⟨((((HS.out.alloc _).alloc _).alloc _).alloc _).alloc _, ((((Bk.new w _ _).alloc _).alloc _).alloc _).alloc _, ?_, ?_, ?_, [], none, 0, rfl, ?_, TokOwn.nil _ _, fun j h => by cases h⟩
      · exact (((Bk.snd w _ _ _ _).alloc _).alloc _).alloc _
      · have := Bk.snd (w.alloc (.cells #[.slice none 0 0] 55)) #[.int .i64 0] #[.int .i64 0] 40 3
        simp only [World.size_alloc] at this
        exact (this.alloc _).alloc _
      · have := Bk.snd (((w.alloc (.cells #[.slice none 0 0] 55)).alloc (.cells #[.int .i64 0] 40)).alloc (.cells #[.int .i64 0] 3)) #[.slice none 0 0] #[.string s] 55 9
        simp only [World.size_alloc] at this
        exact this
      · have := Bk.snd ((w.alloc (.cells #[.slice none 0 0] 55)).alloc (.cells #[.int .i64 0] 40)) #[.int .i64 0] #[.slice none 0 0] 3 55
        simp only [World.size_alloc] at this
        exact this.alloc _
    have HI0 := Lib.hid hI0
    have HSZ := Lib.hid hsz
    rw [hWl]
    have hdl : decide ((2000 : Int) < (s.size : Int)) = false := decide_eq_false (by omega)
    rw [hdl]
    clear hWl hI0 hdl
    refine wpIn_iter (n := 6) (by omega) 34 _ Tryd.func34 (enters_of Tryd.func34 (by kernel_rfl) rfl) #[.pointer (some ⟨w.heap.size + 1 + 1 + 1 + 1, 0, none⟩)] (yields s.data.toList) (fun W => Tab W ∧ Bk W (w.heap.size + 1 + 1 + 1 + 1) 9 #[.string s]) rfl
      (fun y hy => by obtain ⟨t, ok, rfl, _⟩ := yields_form hy; rfl) (HIT.out _ (by omega)) (LexI w (w.heap.size + 5) s) (LexX w s.data.toList) ?Irel ?Iw ?Il ?Ixl ?h0 (LexP w s) ?P1 ?assign ?body ?done ?stop
    case Irel => exact fun pre m W W' h hr => h.rel hr
    case Iw => exact fun pre m W h => ⟨h.1.tab, h.2.2.2.2.1⟩
    case Il =>
      intro pre m W o h
      rw [HSZ.out]; exact h.put o
    case Ixl =>
      intro W o h
      rw [HSZ.out]; exact h.put o
    case h0 =>
      intro o o'
      rw [HSZ.out]; exact HI0.out.rel ((HI0.out.1.self.alloc o).alloc o')
    case P1 =>
      intro pre y a' W o h
      obtain ⟨t, ok, g, h1, h2, h3, h4⟩ := h
      rw [HSZ.out]; exact ⟨t, ok, g, h1, h2, (put_ne W _ _ o (by omega)).trans h3, h4⟩
    case assign =>
      intro l' pre m y W K hI hrest hlt hK
      obtain ⟨rest, hrest⟩ := hrest
      obtain ⟨t, ok, rfl, _⟩ := yields_form (y := y) (l := s.data.toList) (by rw [hrest]; simp)
      gi_wp2
      exact hK _ _ (hI.1.self.alloc _) ⟨t, ok, W.heap.size, rfl, by have := HSZ.out; omega, Bk.new W _ _, rfl⟩
    case body =>
      rintro l' pre m y a' W ⟨r0, x0, x1, x2, x4, ts, A, c, rfl, x3, xo, xm⟩ hm6 ⟨t, v, g, rfl, hg, hTB, rfl⟩ ⟨rest, hrest⟩ hlt
      obtain ⟨t', v', ee, hvv⟩ := yields_form (y := #[TK t, .int .i64 v]) (l := s.data.toList) (by rw [hrest]; simp)
      obtain ⟨⟨b0, b1, b2, b3⟩, _⟩ := hTB.four
      have q0 := x0.cell 0
      have q1 := x1.cell 0
      have q2 := x2.cell 0
      have q3 := x3.cell 0
      have f0 := x0.frozen 0
      have f1 := x1.frozen 0
      have f2 := x2.frozen 0
      have f3 := x3.frozen 0
      simp only [List.getElem?_toArray, List.getElem?_cons_zero] at q0 q1 q2 q3
      have et : t = t' ∧ v = v' := by simp at ee; exact ⟨Y_inj (by unfold Y; simp; exact ee.1), ee.2⟩
      obtain ⟨rfl, rfl⟩ := et
      clear ee
      rcases hvv with rfl | ⟨rfl, k, hk, hkt⟩
      · have hfew := yields_few s.data.toList
        rw [hrest, List.length_append, List.length_map, EL.out] at hfew
        have hts : ts.length ≤ 2002 := by omega
        have hszl := HSZ.out
        have HXO := Lib.hid xo.row
        have HX3 := Lib.hid x3
        have HN := Lib.hid (fun (o : Obj) (w4 : World) (g' cap' : Nat) h1 h2 W' e => lexi_next (s := s) (t := t) (w4 := w4) (g' := g') (cap' := cap') r0 x0 x1 x2 x4 x3 xo.row xm (by omega) hlt o h1 h2 W' e)
        clear x0 x1 x2 x4 xm xo
        gi_wp2_with (gi_at_builtin; refine wpListIn_append_own_at _ rfl _ _ 55 rfl (w.heap.size + 5 + 2) 65 i0 (.agg #[.int .i64 0, .string ⟨#[]⟩, .int .i64 0, .int .i64 0]) 4 40 Tryd.underlying55 hi hz0 hz1 hz2 rfl (by decide) _ ts.length (cellsOf ts) rfl (HXO.out.alloc _) ⟨W.heap.size, 0, none⟩ 1 1 (cells4 t) rfl rfl (World.news_of_block (Bk.new W 65 #[.int .i64 t.1, .string (B t.2.1), .int .i64 t.2.2.1, .int .i64 t.2.2.2])) (cells4_one _) (by unfold maxLen; omega) (by omega) (by simp; omega) ?_; intro v' w4 hown' hgrow _ _; obtain ⟨g', cap', rfl⟩ := ownsRow_succ hown'; have hb4 := (HX3.out.alloc (.cells #[.int .i64 t.1, .string (B t.2.1), .int .i64 t.2.2.1, .int .i64 t.2.2.2] 65)).grown hgrow (fun e => by have := (HXO.out.lt _ e.symm).1; omega); have c4 := hb4.cell 0; have f4 := hb4.frozen 0; simp only [List.getElem?_toArray, List.getElem?_cons_zero] at c4)
        have hfin := HN.out _ _ _ _ hgrow hown' _ rfl
        rw [List.map_append] at hfin
        rw [HSZ.out]
        exact hfin
      · have HT := Lib.hid (three (p3 := w.heap.size + 1 + 1) (v1 := .slice none 0 0) (v2 := .int .i64 61) (v3 := .int .i64 (k : Int)) x0 x1 x2 (by omega) (by omega) (by omega) rfl)
        gi_wp2
        have e0 : ∀ (A : Addr) (v : Value), A.block ≠ g → ∀ w' : World, (w'.setCell A v).cell? ⟨g, 3, none⟩ = w'.cell? ⟨g, 3, none⟩ := fun A v h w' => World.cell?_setCell_far w' A ⟨g, 3, none⟩ v h
        have g0 := fun v w' => e0 ⟨w.heap.size, 0, none⟩ v (by simp only; omega) w'
        have g1 := fun v w' => e0 ⟨w.heap.size + 1, 0, none⟩ v (by simp only; omega) w'
        have g2 := fun v w' => e0 ⟨w.heap.size + 1 + 1, 0, none⟩ v (by simp only; omega) w'
        clear e0
        gi_region
        all_goals
          gi_wp2
          obtain ⟨y0, y1, y2, yk, yr⟩ := HT.out
          rw [HSZ.out]
          exact ⟨⟨yk _ (by omega) (by omega) (by omega), yk _ (by omega) (by omega) (by omega)⟩, (yr w r0 (Nat.le_refl _) (by omega) (by omega)).drew, k, hk, y0, y1, y2⟩
    case done =>
      rintro m W ⟨r0, x0, x1, x2, x4, ts, A, c, hp, x3, xo, _⟩ hdef
      rename_i K0 a0 _
      show K0 _ W
      refine a0 _ _ ?_
      have c3 := x3.cell 0
      have c0 := x0.cell 0
      have c1 := x1.cell 0
      have c2 := x2.cell 0
      have f0 := x0.frozen 0
      have f1 := x1.frozen 0
      have f2 := x2.frozen 0
      simp only [List.getElem?_toArray, List.getElem?_cons_zero] at c0 c1 c2 c3
      gi_wp2
      have n1 : w.heap.size + 1 ≠ w.heap.size := by omega
      have n2 : w.heap.size + 1 + 1 ≠ w.heap.size := by omega
      have n3 : w.heap.size + 1 + 1 ≠ w.heap.size + 1 := by omega
      have hlx := yields_full hp
      refine lex_end rfl rfl rfl rfl (D := w.heap.size + 5) (by omega) ?_ (((x0.set_ 0 (.slice A ts.length c)).far (p := ⟨w.heap.size + 1, 0, none⟩) (Ne.symm n1) _).far (p := ⟨w.heap.size + 1 + 1, 0, none⟩) (Ne.symm n2) _) (((x1.far (p := ⟨w.heap.size, 0, none⟩) n1 _).set_ 0 (.int .i64 0)).far (p := ⟨w.heap.size + 1 + 1, 0, none⟩) (Ne.symm n3) _) (((x2.far (p := ⟨w.heap.size, 0, none⟩) n2 _).far (p := ⟨w.heap.size + 1, 0, none⟩) n3 _).set_ 0 (.int .i64 0)) ?_
      · rw [HSZ.out] at hdef
        exact (Below.heap_setCell _ ⟨w.heap.size + 1 + 1, 0, none⟩ _ _ (by simp only; omega)).trans ((Below.heap_setCell _ ⟨w.heap.size + 1, 0, none⟩ _ _ (by simp only; omega)).trans ((Below.heap_setCell _ ⟨w.heap.size, 0, none⟩ _ _ (by simp only; omega)).trans hdef))
      · have xo2 : TokOwn ((((W.setCell ⟨w.heap.size, 0, none⟩ (.slice A ts.length c)).setCell ⟨w.heap.size + 1, 0, none⟩ (.int .i64 0)).setCell ⟨w.heap.size + 1 + 1, 0, none⟩ (.int .i64 0)).putObj (w.heap.size + 5) (.deferred none)) (w.heap.size + 5 + 2) (.slice A ts.length c) ts :=
          row_put (row_set (row_set (row_set xo (by omega) _) (by omega) _) (by omega) _) (by omega) _
        refine ⟨ts, A, c, 0, 0, rfl, HRw.out.trans (rel_put (((r0.setCell (p := ⟨w.heap.size, 0, none⟩) (Nat.le_refl _) _).setCell (p := ⟨w.heap.size + 1, 0, none⟩) (by simp only; omega) _).setCell (p := ⟨w.heap.size + 1 + 1, 0, none⟩) (by simp only; omega) _) (by omega) _), xo2.toks rfl, .inr (.inl ⟨by rw [EL.out]; omega, ?_, rfl, rfl⟩), xo.within.1, xo.within.2⟩
        rw [lx_outP _ _ (Nat.le_refl _), hlx]; rfl
    case stop =>
      rintro W ⟨r0, k, hk, x0, x1, x2⟩ hdef
      gi_wp2
      refine lex_end rfl rfl rfl rfl (by rw [HSZ.out]; omega) hdef x0 x1 x2 ?_
      refine ⟨[], none, 0, 61, (k : Int), rfl, HRw.out.trans (rel_put r0 (by rw [HSZ.out]; omega) _), ToksAt.nil _ _, .inr (.inr ⟨by rw [EL.out]; omega, k, ?_, rfl, rfl, rfl⟩), Nat.le_refl _, by decide⟩
      rw [lx_outP _ _ (Nat.le_refl _)]
      unfold outP
      rw [hk]
end Go.Proofs.YtjhjdiaomnpkmaaDoor

namespace Go.Proofs.YtjhjdiaomnpkmaaDoor
open Go.RowKit Go.Lib
set_option linter.unusedVariables false
set_option linter.unusedSimpArgs false
theorem lx_fineP {s : List UInt8} {ts : List Tok} (h : lx 0 s = .ok ts) (hs : s.length ≤ 2000) : FineP ts := by
  have ho := lx_okP h
  obtain ⟨_, hp, us, hu⟩ := lx_okT h
  obtain ⟨vs, hv, hus, _, hlen⟩ := lx_out _ s (Nat.le_refl _) 0 ts h
  refine ⟨fun t ht => ?_, by rw [hv]; simp; omega, us, _, hu⟩
  have hpt := hp t ht
  have hpl : i64 t.2.2.2 := ⟨by omega, by omega⟩
  refine ⟨ho t ht, ?_⟩
  rw [hv] at ht
  rcases List.mem_append.1 ht with h1 | h1
  · have := tok_short (hus t h1).1
    exact ⟨this.2.1, this.2.2.1, hpl, this.1⟩
  · simp only [List.mem_cons, List.not_mem_nil, or_false] at h1
    subst h1
    exact ⟨show i64 5 from ⟨by decide, by decide⟩, show i64 0 from ⟨by decide, by decide⟩, hpl, Nat.zero_le _⟩
theorem plex_no {s : ByteArray} (hs : s.size ≤ 9223372036854775807) (cd pl : Int) (h : (2000 < s.data.toList.length ∧ cd = 60 ∧ pl = 2000) ∨ (s.data.toList.length ≤ 2000 ∧ ∃ k : Nat, lx 0 s.data.toList = .error k ∧ cd = 61 ∧ pl = k)) (w0 w : World) (hr : Rel w0 w) :
    Calls Tryd.prog 24 #[.string s] w fun e w' => ∃ (A : Option Addr) (c : Nat), e = .returned (.tuple #[.slice A 0 c, .int .i64 cd, .int .i64 pl]) ∧ Rel w0 w' := by
  refine (lex_any s hs w0 w hr).mono ?_
  rintro e w' ⟨ts, A, c, err, place, rfl, h1, h2, ho, _, _⟩
  have hd : Out s.data.toList [] cd pl := by
    rcases h with ⟨a, rfl, rfl⟩ | ⟨a, k, b, rfl, rfl⟩
    · exact .inl ⟨a, rfl, rfl, rfl⟩
    · exact .inr (.inr ⟨a, k, b, rfl, rfl, rfl⟩)
  obtain ⟨rfl, rfl, rfl⟩ := ho.det hd
  exact ⟨A, c, rfl, h1⟩
theorem plex_yes {s : ByteArray} (hs : s.size ≤ 9223372036854775807) (ts : List Tok) (h2 : s.data.toList.length ≤ 2000) (h : lx 0 s.data.toList = .ok ts) (w0 w : World) (hr : Rel w0 w) :
    Calls Tryd.prog 24 #[.string s] w fun e w' => ∃ (A : Option Addr) (c : Nat), e = .returned (.tuple #[.slice A ts.length c, .int .i64 0, .int .i64 0]) ∧ Rel w0 w' ∧ ToksAt w' A ts ∧ ts.length ≤ c ∧ c ≤ 9223372036854775807 := by
  refine (lex_any s hs w0 w hr).mono ?_
  rintro e w' ⟨ts', A, c, err, place, rfl, h1, h3, ho, k1, k2⟩
  obtain ⟨rfl, rfl, rfl⟩ := ho.det (.inr (.inl ⟨h2, h, rfl, rfl⟩))
  exact ⟨A, c, rfl, h1, h3, k1, k2⟩
def ParseOk : Prop := ∀ (s : ByteArray), s.size ≤ 9223372036854775807 → ∀ w0 w, Rel w0 w → Calls Tryd.prog 22 #[.string s] w (StrPost (parseS s.data.toList) w0 w.heap.size)
set_option maxRecDepth 100000 in
set_option maxHeartbeats 4000000 in
theorem parse_none (s : ByteArray) (hs : s.size ≤ 9223372036854775807) (cd pl : Int) (hcd : (cd != 0) = true) (h : (2000 < s.data.toList.length ∧ cd = 60 ∧ pl = 2000) ∨ (s.data.toList.length ≤ 2000 ∧ ∃ k : Nat, lx 0 s.data.toList = .error k ∧ cd = 61 ∧ pl = k)) (hp : parseS s.data.toList = .error (cd, pl)) (w0 w : World) (hr : Rel w0 w) :
    Calls Tryd.prog 22 #[.string s] w (StrPost (parseS s.data.toList) w0 w.heap.size) := by
  have hA := hr.self.alloc (.cells #[.int .i64 0, .int .i64 0, .string ⟨#[]⟩, .slice none 0 0] 46)
  have HZ := Lib.hid (Bk.new w 46 #[.int .i64 0, .int .i64 0, .string ⟨#[]⟩, .slice none 0 0])
  have HL := Lib.hid (plex_no hs cd pl h (w.alloc (.cells #[.int .i64 0, .int .i64 0, .string ⟨#[]⟩, .slice none 0 0] 46)) _ hA.self)
  have HA := Lib.hid (hr.trans hA)
  have HP := Lib.hid hp
  have h0w := hr.size
  clear hr hA h hp
  go_enter Tryd.func22, Tryd.ntmps22
  go_wp2_with (go_at_call 24; (with_reducible refine HL.out.mono ?_); rintro e w2 ⟨A, c, rfl, r2⟩; have R2 := Lib.hid r2; obtain ⟨⟨b0, b1, b2, b3⟩, u0, u1, u2, u3⟩ := (HZ.out.rel r2).four; clear r2)
  obtain ⟨⟨y0, y1, y2, y3⟩, _⟩ := ((HZ.out.rel R2.out).put4 (.int .i64 0) (.int .i64 0) (.string ⟨#[]⟩) (.slice none 0 0)).four
  have gp := put4_grown w2 w.heap.size (.int .i64 0) (.int .i64 0) (.string ⟨#[]⟩) (.slice none 0 0)
  have RW := (HA.out.trans R2.out).grown gp (fun k e => by cases e; exact h0w)
  refine bodyPost_ret (v := .tuple #[EV (0, 0, [], none, 0, 0), .int .i64 cd, .int .i64 pl]) (by simp [results, Tryd.results22, go_sem, y0, y1, y2, y3]; rfl) rfl (StrPost.no HP.out ⟨rfl, RW⟩)
set_option maxRecDepth 100000 in
set_option maxHeartbeats 4000000 in
theorem parse_some (s : ByteArray) (hs : s.size ≤ 9223372036854775807) (ts : List Tok) (h2 : s.data.toList.length ≤ 2000) (h : lx 0 s.data.toList = .ok ts) (w0 w : World) (hr : Rel w0 w) :
    Calls Tryd.prog 22 #[.string s] w (StrPost (parseS s.data.toList) w0 w.heap.size) := by
  have hA := hr.self.alloc (.cells #[.int .i64 0, .int .i64 0, .string ⟨#[]⟩, .slice none 0 0] 46)
  have HZ := Lib.hid (Bk.new w 46 #[.int .i64 0, .int .i64 0, .string ⟨#[]⟩, .slice none 0 0])
  have HL := Lib.hid (plex_yes hs ts h2 h (w.alloc (.cells #[.int .i64 0, .int .i64 0, .string ⟨#[]⟩, .slice none 0 0] 46)) _ hA.self)
  have HF := Lib.hid (lx_fineP h h2)
  have hp : parseS s.data.toList = stratT ts := by unfold parseS; rw [if_neg (by omega), h]
  have HA := Lib.hid (hr.trans hA)
  have h0w := hr.size
  rw [hp]
  clear hr hA h hp
  cases hst : stratT ts with
  | error E =>
    have HSt := Lib.hid hst
    go_enter Tryd.func22, Tryd.ntmps22
    go_wp2_with (first
      | (go_at_call 24; (with_reducible refine HL.out.mono ?_); rintro e w2 ⟨A, c, rfl, r2, t2, k1, k2⟩; have HC := Lib.hid (pstrat_any A c ts HF.out k1 k2 w2 w2 r2.self t2); have R2 := Lib.hid r2; clear r2 t2 k1 k2)
      | (go_at_call 25; (with_reducible refine HC.out.mono ?_); rintro e w3 h3; rw [HSt.out] at h3; obtain ⟨rfl, r3⟩ := h3; have R3 := Lib.hid r3; obtain ⟨⟨b0, b1, b2, b3⟩, u0, u1, u2, u3⟩ := (HZ.out.rel (R2.out.trans r3)).four; clear r3))
    obtain ⟨⟨y0, y1, y2, y3⟩, _⟩ := ((HZ.out.rel (R2.out.trans R3.out)).put4 (.int .i64 0) (.int .i64 0) (.string (B [])) (.slice none 0 0)).four
    have gp := put4_grown w3 w.heap.size (.int .i64 0) (.int .i64 0) (.string (B [])) (.slice none 0 0)
    have RW := (HA.out.trans (R2.out.trans R3.out)).grown gp (fun k e => by cases e; exact h0w)
    refine bodyPost_ret (v := .tuple #[EV (0, 0, [], none, 0, 0), .int .i64 E.1, .int .i64 E.2]) (by simp [results, Tryd.results22, go_sem, y0, y1, y2, y3]) rfl (StrPost.no rfl ⟨rfl, RW⟩)
  | ok x =>
    have HSt := Lib.hid hst
    go_enter Tryd.func22, Tryd.ntmps22
    go_wp2_with (first
      | (go_at_call 24; (with_reducible refine HL.out.mono ?_); rintro e w2 ⟨A, c, rfl, r2, t2, k1, k2⟩; have HC := Lib.hid (pstrat_any A c ts HF.out k1 k2 w2 w2 r2.self t2); have R2 := Lib.hid r2; clear r2 t2 k1 k2)
      | (go_at_call 25; (with_reducible refine HC.out.mono ?_); rintro e w3 h3; rw [HSt.out] at h3; obtain ⟨v, rfl, ex, r3⟩ := h3; have HEx := Lib.hid ex; have R3 := Lib.hid r3; obtain ⟨⟨b0, b1, b2, b3⟩, u0, u1, u2, u3⟩ := (HZ.out.rel (R2.out.trans r3)).four; clear r3 ex))
    obtain ⟨⟨y0, y1, y2, y3⟩, _⟩ := ((HZ.out.rel (R2.out.trans R3.out)).put4 (.int .i64 v.1) (.int .i64 v.2.1) (.string (B v.2.2.1)) (.slice v.2.2.2.1 v.2.2.2.2.1 v.2.2.2.2.2)).four
    have gp := put4_grown w3 w.heap.size (.int .i64 v.1) (.int .i64 v.2.1) (.string (B v.2.2.1)) (.slice v.2.2.2.1 v.2.2.2.2.1 v.2.2.2.2.2)
    have RW := (HA.out.trans (R2.out.trans R3.out)).grown gp (fun k e => by cases e; exact h0w)
    refine bodyPost_ret (v := .tuple #[EV v, .int .i64 0, .int .i64 0]) (by simp [results, Tryd.results22, go_sem, y0, y1, y2, y3]) rfl (StrPost.yes rfl ⟨v, rfl, HEx.out.grown gp (fun k hk => by have := R2.out.size; rw [World.size_alloc] at this; exact ⟨by omega, fun e => by injection e; omega⟩), RW⟩)
theorem parseOk : ParseOk := fun s hs w0 w hr => by
  by_cases hl : 2000 < s.data.toList.length
  · exact parse_none s hs 60 2000 rfl (.inl ⟨hl, rfl, rfl⟩) (by unfold parseS; rw [if_pos hl]) w0 w hr
  · cases hx : lx 0 s.data.toList with
    | error k => exact parse_none s hs 61 k rfl (.inr ⟨by omega, k, hx, rfl, rfl⟩) (by unfold parseS; rw [if_neg hl, hx]) w0 w hr
    | ok ts => exact parse_some s hs ts (by omega) hx w0 w hr
end Go.Proofs.YtjhjdiaomnpkmaaDoor

namespace Go.Proofs.YtjhjdiaomnpkmaaDoor
open Go.RowKit Go.Lib
set_option linter.unusedVariables false
set_option linter.unusedSimpArgs false
theorem len_le : ∀ l : List Ex, l.length ≤ sizes l := fun l => by
  induction l with
  | nil => simp
  | cons x t ih => rw [sizes_cons, List.length_cons]; have := size_pos x; omega
end Go.Proofs.YtjhjdiaomnpkmaaDoor
