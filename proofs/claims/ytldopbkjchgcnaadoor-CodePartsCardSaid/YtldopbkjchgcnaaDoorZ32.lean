/- CodeParts, over what the program is asked. -/
import Derived.Test.YtldopbkjchgcnaaDoorZ31
namespace Go.Proofs.YtldopbkjchgcnaaDoor
open Go.RowKit Go.Lib
set_option linter.unusedVariables false
set_option linter.unusedSimpArgs false

abbrev zX (x y : Ex) : Ex := .mk 7 0 [] [x, y]
theorem z7_size (x y : Ex) : size (zX x y) = 1 + size x + size y := by unfold zX; rw [size_mk, sizes_cons, sizes_cons, sizes_nil]; omega
theorem Bk.tri {w : World} {g : Nat} {t : TypeId} {x y z : Value} (h : Bk w g t #[x, y, z]) :
    (w.cell? ⟨g, 0, none⟩ = some x ∧ w.cell? ⟨g, 1, none⟩ = some y ∧ w.cell? ⟨g, 2, none⟩ = some z) ∧ (w.frozen? ⟨g, 0, none⟩ = false ∧ w.frozen? ⟨g, 1, none⟩ = false ∧ w.frozen? ⟨g, 2, none⟩ = false) :=
  ⟨⟨h.cell 0, h.cell 1, h.cell 2⟩, ⟨h.frozen 0, h.frozen 1, h.frozen 2⟩⟩
theorem rsame_self (A A' : Option Addr) (c c' : Nat) (l : List In) (n : Nat) (hl : Hid (l.length = n ∧ n ≤ 100000)) (w0 w : World) (hr : Rel w0 w) (h : InsAt w A l) (h' : InsAt w A' l) :
    Calls Tryd.prog 13 #[.slice A n c, .slice A' n c'] w fun e w' => e = .returned (.bool true) ∧ Rel w0 w' := by
  obtain ⟨h1, h2⟩ := hl.out
  subst h1
  exact rsame10_any A A' c c' l l true (Lib.hid (by simp)) h2 h2 w0 w hr h h'
theorem way_of {o : Int} (h : isTo o = true) : ((o == 9) = true) ∨ ((o == 9) = false ∧ (o == 12) = true) ∨ ((o == 9) = false ∧ (o == 12) = false ∧ (o == 13) = true) := by
  unfold isTo at h
  simp only [Bool.or_eq_true, beq_iff_eq] at h
  simp only [beq_iff_eq, beq_eq_false_iff_ne]
  omega
theorem way_no {o : Int} (h : ¬ isTo o = true) : (o == 9) = false ∧ (o == 12) = false ∧ (o == 13) = false := by
  unfold isTo at h
  simp only [Bool.not_eq_true, Bool.or_eq_false_iff] at h
  exact ⟨h.1.1, h.1.2, h.2⟩
/-- The blocks that the law makes of both. -/
theorem z_world (w : World) (hr : Rel w w) (vx vy : El) (x y : Ex) (ex : ExAt (fun _ => True) w vx x) (ey : ExAt (fun _ => True) w vy y) (s : Nat) (hs : w.heap.size = s) :
    ∃ W : World, (w.alloc (.cells #[.int .i64 vx.1, .int .i64 vx.2.1, .string (B vx.2.2.1), .slice vx.2.2.2.1 vx.2.2.2.2.1 vx.2.2.2.2.2, .int .i64 vy.1, .int .i64 vy.2.1, .string (B vy.2.2.1), .slice vy.2.2.2.1 vy.2.2.2.2.1 vy.2.2.2.2.2] 27)).alloc (.cells #[.int .i64 7, .int .i64 0, .string ⟨#[]⟩, .slice (some ⟨s, 0, none⟩) 2 2] 27) = W ∧ Rel w W ∧ Bk W (s + 1) 27 #[.int .i64 7, .int .i64 0, .string ⟨#[]⟩, .slice (some ⟨s, 0, none⟩) 2 2] ∧ ExAt (fun _ => True) W (7, 0, [], some ⟨s, 0, none⟩, 2, 2) (zX x y) := by
  have R2 := (hr.alloc (.cells #[.int .i64 vx.1, .int .i64 vx.2.1, .string (B vx.2.2.1), .slice vx.2.2.2.1 vx.2.2.2.2.1 vx.2.2.2.2.2, .int .i64 vy.1, .int .i64 vy.2.1, .string (B vy.2.2.1), .slice vy.2.2.2.1 vy.2.2.2.2.1 vy.2.2.2.2.2] 27)).alloc (.cells #[.int .i64 7, .int .i64 0, .string ⟨#[]⟩, .slice (some ⟨s, 0, none⟩) 2 2] 27)
  have b0 := (Bk.new w 27 (cellsEs [vx, vy]).toArray).alloc (.cells #[.int .i64 7, .int .i64 0, .string ⟨#[]⟩, .slice (some ⟨s, 0, none⟩) 2 2] 27)
  have b1 := Bk.new (w.alloc (.cells #[.int .i64 vx.1, .int .i64 vx.2.1, .string (B vx.2.2.1), .slice vx.2.2.2.1 vx.2.2.2.2.1 vx.2.2.2.2.2, .int .i64 vy.1, .int .i64 vy.2.1, .string (B vy.2.2.1), .slice vy.2.2.2.1 vy.2.2.2.2.1 vy.2.2.2.2.2] 27)) 27 #[.int .i64 7, .int .i64 0, .string ⟨#[]⟩, .slice (some ⟨s, 0, none⟩) 2 2]
  rw [World.size_alloc, hs] at b1
  rw [hs] at b0
  exact ⟨_, rfl, R2, b1, ExAt.two (k := 7) (n := 0) (nm := []) (c := 2) ⟨by decide, by decide⟩ ⟨by decide, by decide⟩ (Nat.zero_le _) b0 trivial (ex.rel R2) (ey.rel R2)⟩
set_option maxRecDepth 100000 in
set_option maxHeartbeats 16000000 in
theorem CodeParts_at (H : CodeOk) (HT : RightOk) (A : Option Addr) (c : Nat) (L : List Int) (A' : Option Addr) (c' : Nat) (L' : List Int) (w : World) (hr : Rel w w) (hi : IntsIn w A c L) (hi' : IntsIn w A' c' L') :
    Calls Tryd.prog 6 #[.slice A L.length c, .slice A' L'.length c'] w fun e w' => e = .returned (.bool true) ∧ Rel w w' := by
  have H := Lib.hid H
  have HR := Lib.hid hr
  have HI0 := Lib.hid hi
  have HI1 := Lib.hid hi'
  have HT := Lib.hid HT
  have hS := fun (w0 w : World) (hr : Rel w0 w) (h : IntsIn w A c L) => strat_any A c L w0 w hr h
  have hS' := fun (w0 w : World) (hr : Rel w0 w) (h : IntsIn w A' c' L') => strat_any A' c' L' w0 w hr h
  have zx := strat_size L
  have zy := strat_size L'
  generalize strat L = x at *
  generalize strat L' = y at *
  have HSt := Lib.hid hS
  have HSt' := Lib.hid hS'
  clear hi hi' hS hS' hr
  go_enter Tryd.func6, Tryd.ntmps6
  go_upto_region 3 with (first
    | (go_at_call 8; (with_reducible refine (awake10_any H.out _ _ HR.out).mono ?_); rintro e1 w1 ⟨rfl, h1⟩; have R1 := Lib.hid h1)
    | (go_at_call 9; (with_reducible refine (HSt.out _ _ R1.out (HI0.out.rel R1.out)).mono ?_); rintro e2 w2 ⟨vx, rfl, ex, h2⟩; have R2 := Lib.hid h2))
  have RA := Lib.hid (R2.out.alloc (.cells #[.int .i64 vx.1, .int .i64 vx.2.1, .string (B vx.2.2.1), .slice vx.2.2.2.1 vx.2.2.2.2.1 vx.2.2.2.2.2] 27))
  have HB := Lib.hid (Bk.new w2 27 #[.int .i64 vx.1, .int .i64 vx.2.1, .string (B vx.2.2.1), .slice vx.2.2.2.1 vx.2.2.2.2.1 vx.2.2.2.2.2])
  have EX := Lib.hid ((ex.rel (R2.out.self.alloc (.cells #[.int .i64 vx.1, .int .i64 vx.2.1, .string (B vx.2.2.1), .slice vx.2.2.2.1 vx.2.2.2.2.1 vx.2.2.2.2.2] 27))).weak (S' := fun _ => True) (fun _ _ => trivial))
  obtain ⟨W, hW⟩ : ∃ W, w2.alloc (.cells #[.int .i64 vx.1, .int .i64 vx.2.1, .string (B vx.2.2.1), .slice vx.2.2.2.1 vx.2.2.2.2.1 vx.2.2.2.2.2] 27) = W := ⟨_, rfl⟩
  rw [hW] at RA HB EX ⊢
  clear hW ex h1 h2
  go_upto_region 4 with (go_at_call 9; (with_reducible refine (HSt'.out _ _ RA.out.self (HI1.out.rel RA.out)).mono ?_); rintro e3 w3 ⟨vy, rfl, ey, h3⟩; have R3 := Lib.hid h3)
  have RB := Lib.hid (R3.out.alloc (.cells #[.int .i64 vy.1, .int .i64 vy.2.1, .string (B vy.2.2.1), .slice vy.2.2.2.1 vy.2.2.2.2.1 vy.2.2.2.2.2] 27))
  have HB2 := Lib.hid (Bk.new w3 27 #[.int .i64 vy.1, .int .i64 vy.2.1, .string (B vy.2.2.1), .slice vy.2.2.2.1 vy.2.2.2.2.1 vy.2.2.2.2.2])
  have EY := Lib.hid ((ey.rel (R3.out.self.alloc (.cells #[.int .i64 vy.1, .int .i64 vy.2.1, .string (B vy.2.2.1), .slice vy.2.2.2.1 vy.2.2.2.2.1 vy.2.2.2.2.2] 27))).weak (S' := fun _ => True) (fun _ _ => trivial))
  obtain ⟨V, hV⟩ : ∃ V, w3.alloc (.cells #[.int .i64 vy.1, .int .i64 vy.2.1, .string (B vy.2.2.1), .slice vy.2.2.2.1 vy.2.2.2.2.1 vy.2.2.2.2.2] 27) = V := ⟨_, rfl⟩
  rw [hV] at RB HB2 EY ⊢
  clear hV ey h3
  obtain ⟨⟨x0, x1, x2, x3⟩, _⟩ := (HB.out.rel RB.out).four
  obtain ⟨⟨y0, y1, y2, y3⟩, _⟩ := HB2.out.four
  have EX2 := Lib.hid (EX.out.rel RB.out)
  have RV := Lib.hid (HR.out.trans (RA.out.trans RB.out))
  go_upto_region 5 with (fail)
  obtain ⟨sV, hsV⟩ : ∃ s, V.heap.size = s := ⟨_, rfl⟩
  obtain ⟨U, hU, rU, bU, ez⟩ := z_world V RB.out.self vx vy x y EX2.out EY.out sV hsV
  rw [hsV, hU]
  have RU := Lib.hid rU
  have HB3 := Lib.hid bU
  have EZ := Lib.hid ez
  have EX3 := Lib.hid (EX2.out.rel rU)
  have EY3 := Lib.hid (EY.out.rel rU)
  have HB1 := Lib.hid ((HB.out.rel RB.out).rel rU)
  have HBy := Lib.hid (HB2.out.rel rU)
  have RQ := Lib.hid (RV.out.trans rU)
  clear x0 x1 x2 x3 y0 y1 y2 y3 hU rU bU ez hsV
  obtain ⟨⟨z0, z1, z2, z3⟩, _⟩ := HB3.out.four
  have zz := z7_size x y
  obtain ⟨z, hz⟩ : ∃ z, zX x y = z := ⟨_, rfl⟩
  have hZ := fun (h : rightX z = true) => (show rightX x = true ∧ rightX y = true ∧ codX z = codX x ++ ((codX y).map (mv (codX x).length) ++ [(7, 0, [])]) by subst hz; exact ⟨(min_parts h).1, (min_parts h).2, min_code h⟩)
  rw [hz] at zz EZ
  clear hz
  obtain ⟨b, hb⟩ : ∃ b, rightX z = b := ⟨_, rfl⟩
  have VZ : Hid (EV (7, 0, [], some ⟨sV, 0, none⟩, 2, 2) = .agg #[.int .i64 7, .int .i64 0, .string ⟨#[]⟩, .slice (some ⟨sV, 0, none⟩) 2 2]) := Lib.hid rfl
  have hC := fun (w' : World) (hh : Rel U w') => HT.out z _ (7, 0, [], some ⟨sV, 0, none⟩, 2, 2) w' w' hh.self (EZ.out.rel hh) (by omega)
  rw [hb, VZ.out] at hC
  have HC := Lib.hid hC
  obtain ⟨l, hl⟩ : ∃ l, codX z = l := ⟨_, rfl⟩
  obtain ⟨a, ha⟩ : ∃ l, codX x = l := ⟨_, rfl⟩
  obtain ⟨m, hm⟩ : ∃ l, codX y = l := ⟨_, rfl⟩
  obtain ⟨nl, hnl⟩ : ∃ n, l.length = n := ⟨_, rfl⟩
  obtain ⟨na, hna⟩ : ∃ n, a.length = n := ⟨_, rfl⟩
  obtain ⟨nm, hnm⟩ : ∃ n, m.length = n := ⟨_, rfl⟩
  rw [hl, ha, hm] at hZ
  cases b with
  | false =>
    obtain ⟨e1, he1⟩ : ∃ e, codR x = e := ⟨_, rfl⟩
    obtain ⟨e2, he2⟩ : ∃ e, codR y = e := ⟨_, rfl⟩
    have QZ := Lib.hid (show codX z = l ∧ l.length = nl ∧ codR z = 1 from ⟨hl, hnl, (codX_no hb).2⟩)
    have QX := Lib.hid (show codX x = a ∧ a.length = na ∧ codR x = e1 from ⟨ha, hna, he1⟩)
    have QY := Lib.hid (show codX y = m ∧ m.length = nm ∧ codR y = e2 from ⟨hm, hnm, he2⟩)
    clear hZ hC hb hl ha hm hnl hna hnm he1 he2
    go_wp2_with (first
      | (go_at_call 11; (with_reducible refine (compile_as H.out z l nl 1 QZ _ (7, 0, [], some ⟨sV, 0, none⟩, 2, 2) _ _ RU.out.self EZ.out (by omega) _ VZ).mono ?_); rintro e w4 ⟨A4, a4, rfl, o4, h4⟩; have R4 := Lib.hid h4; obtain ⟨⟨u0, u1, u2, u3⟩, _⟩ := (HB1.out.rel h4).four)
      | (go_at_call 11; (with_reducible refine (compile_as H.out x a na e1 QX _ vx _ _ R4.out.self (EX3.out.rel R4.out) (by omega) _ (Lib.hid rfl)).mono ?_); rintro e w5 ⟨A5, a5, rfl, o5, h5⟩; have R5 := Lib.hid (R4.out.trans h5); obtain ⟨⟨v0, v1, v2, v3⟩, _⟩ := (HBy.out.rel R5.out).four)
      | (go_at_call 11; (with_reducible refine (compile_as H.out y m nm e2 QY _ vy _ _ R5.out.self (EY3.out.rel R5.out) (by omega) _ (Lib.hid rfl)).mono ?_); rintro e w6 ⟨A6, a6, rfl, o6, h6⟩; have R6 := Lib.hid (R5.out.trans h6); obtain ⟨⟨t0, t1, t2, t3⟩, _⟩ := (HB3.out.rel R6.out).four)
      | (go_at_call 18; (with_reducible refine (HC.out _ R6.out).mono ?_); rintro e w7 ⟨rfl, h7⟩))
    go_ret
    exact ⟨rfl, RQ.out.trans (R6.out.trans h7)⟩
  | true =>
    obtain ⟨hx, hy, hL⟩ := hZ hb
    have QZ := Lib.hid (show codX z = l ∧ l.length = nl ∧ codR z = 0 from ⟨hl, hnl, (codX_yes hb).2⟩)
    have QX := Lib.hid (show codX x = a ∧ a.length = na ∧ codR x = 0 from ⟨ha, hna, (codX_yes hx).2⟩)
    have QY := Lib.hid (show codX y = m ∧ m.length = nm ∧ codR y = 0 from ⟨hm, hnm, (codX_yes hy).2⟩)
    have k1 : codeOk l = true := by rw [← hl]; exact (codX_code z hb).1
    have k2 : codeOk m = true := by rw [← hm]; exact (codX_code y hy).1
    have h5l := (codeOk_iff.1 k1).1
    have HFl := Lib.hid (show InsFit l by rw [← hl]; exact codX_fit z)
    have HFa := Lib.hid (show InsFit a by rw [← ha]; exact codX_fit x)
    have HFm := Lib.hid (show InsFit m by rw [← hm]; exact codX_fit y)
    have HMi := Lib.hid (min_at hL)
    have HK2 := Lib.hid k2
    have hlen := HMi.out.1
    rw [hnl, hna, hnm] at hlen
    rw [hnl] at h5l
    have Ha := Lib.hid hna
    have Hm := Lib.hid hnm
    clear hZ hC hb hl ha hm hnl hna hnm hx hy hL k1 k2
    go_upto_region 8 with (first
      | (go_at_call 11; (with_reducible refine (compile_as H.out z l nl 0 QZ _ (7, 0, [], some ⟨sV, 0, none⟩, 2, 2) _ _ RU.out.self EZ.out (by omega) _ VZ).mono ?_); rintro e w4 ⟨A4, a4, rfl, o4, h4⟩; have R4 := Lib.hid h4; obtain ⟨⟨u0, u1, u2, u3⟩, _⟩ := (HB1.out.rel h4).four)
      | (go_at_call 11; (with_reducible refine (compile_as H.out x a na 0 QX _ vx _ _ R4.out.self (EX3.out.rel R4.out) (by omega) _ (Lib.hid rfl)).mono ?_); rintro e w5 ⟨A5, a5, rfl, o5, h5⟩; have R45 := Lib.hid h5; have R5 := Lib.hid (R4.out.trans h5); obtain ⟨⟨v0, v1, v2, v3⟩, _⟩ := (HBy.out.rel R5.out).four)
      | (go_at_call 11; (with_reducible refine (compile_as H.out y m nm 0 QY _ vy _ _ R5.out.self (EY3.out.rel R5.out) (by omega) _ (Lib.hid rfl)).mono ?_); rintro e w6 ⟨A6, a6, rfl, o6, h6⟩; have R56 := Lib.hid h6; have R6 := Lib.hid (R5.out.trans h6)))
    have I4 := Lib.hid (show InsArg w6 A4 a4 l from (InsOwn.arg (by rw [QZ.out.2.1]; exact o4) HFl.out).rel (R45.out.trans R56.out))
    have I5 := Lib.hid (show InsArg w6 A5 a5 a from (InsOwn.arg (by rw [Ha.out]; exact o5) HFa.out).rel R56.out)
    have I6 := Lib.hid (show InsArg w6 A6 a6 m from InsOwn.arg (by rw [Hm.out]; exact o6) HFm.out)
    obtain ⟨g4, rfl⟩ : ∃ g, A4 = some ⟨g, 0, none⟩ := by
      rcases InsOwn.form (show InsOwn w4 _ (.slice A4 l.length a4) l by rw [QZ.out.2.1]; exact o4) with ⟨_, _, h0⟩ | ⟨g, h0, _⟩
      · have := HMi.out.1; rw [h0] at this; simp at this
      · exact ⟨g, h0⟩
    have hc4 : nl ≤ a4 := by have := I4.out.1; rw [QZ.out.2.1] at this; exact this
    have hc5 : a4 ≤ 9223372036854775807 := I4.out.2.1
    have P4 := Lib.hid (show InsAt w6 (some ⟨g4, 0, none⟩) a from by have := I4.out.2.2.2.take na; rw [← Ha.out, HMi.out.2.1] at this; exact this)
    have P5 := Lib.hid I5.out.2.2.2
    have P6 := Lib.hid I6.out.2.2.2
    have PL := Lib.hid I4.out.2.2.2
    have QS := Lib.hid (show a.length = na ∧ na ≤ 100000 from ⟨Ha.out, by omega⟩)
    obtain ⟨k, hk⟩ : ∃ k, na + nm = k := ⟨_, rfl⟩
    have hw1 : IntKind.i64.wrap ((na : Int) + (nm : Int)) = (k : Int) := by rw [← hk]; rw [IntWalk.i64_in _ (by omega)]; omega
    have hw2 : IntKind.i64.wrap ((k : Int) + 1) = (nl : Int) := by rw [IntWalk.i64_in _ (by omega)]; omega
    have hw3 : IntKind.i64.wrap ((nl : Int) - 1) = (k : Int) := by rw [IntWalk.i64_in _ (by omega)]; omega
    have q1 : ((nl : Int) != (nl : Int)) = false := by simp
    have hsl1 : (na : Int) ≤ (a4 : Int) := by omega
    have hsl2 : na ≤ a4 := by omega
    have hsl3 : (0 : Int) ≤ (na : Int) := by omega
    have hsl4 : k < nl := by omega
    have hcells := fun (w' : World) (hr : Rel w6 w') => (show w'.cell? ⟨g4, k * 3, none⟩ = some (.int .i64 7) ∧ w'.cell? ⟨g4, k * 3 + 1, none⟩ = some (.int .i64 0) ∧ w'.cell? ⟨g4, k * 3 + 2, none⟩ = some (.string ⟨#[]⟩) from by
      have hkl : a.length + m.length < l.length := by have := HMi.out.1; omega
      have hlast := HMi.out.2.2.1 hkl
      obtain ⟨g', off, e1, _, d0, d1, d2⟩ := (PL.out.rel hr) _ hkl
      injection e1 with e1; injection e1 with e1 e3; subst e1; subst e3
      rw [hlast] at d0 d1 d2
      rw [Ha.out, Hm.out, hk, Nat.zero_add] at d0 d1 d2
      exact ⟨d0, d1, d2⟩)
    obtain ⟨l0, l1, l2⟩ := hcells _ R6.out.self
    have HCe := Lib.hid hcells
    clear o4 o5 o6 h4 h5 h6 u0 u1 u2 u3 v0 v1 v2 v3 hcells
    go_upto_region 12 with (go_at_call 13; (with_reducible refine (rsame_self (some ⟨g4, 0, none⟩) A5 a4 a5 a na QS _ _ R6.out.self P4.out P5.out).mono ?_); rintro e w7 ⟨rfl, h7⟩; have R7 := Lib.hid h7; obtain ⟨m0, m1, m2⟩ := HCe.out _ h7)
    have HCl := Lib.hid (fun (w' : World) (hr : Rel w6 w') (q r : Nat) (e : na + q = r) (o n : Int) (t : List UInt8) (hq : q < m.length) (hb : mv na m[q] = (o, n, t)) => (show w'.cell? ⟨g4, r * 3, none⟩ = some (.int .i64 o) ∧ w'.cell? ⟨g4, r * 3 + 1, none⟩ = some (.int .i64 n) ∧ w'.cell? ⟨g4, r * 3 + 2, none⟩ = some (.string (B t)) from by
      have hkl : a.length + q < l.length := by have := HMi.out.1; omega
      have hat := HMi.out.2.2.2 q hq hkl
      obtain ⟨g', off, e1, _, d0, d1, d2⟩ := (PL.out.rel hr) _ hkl
      injection e1 with e1; injection e1 with e1 e3; subst e1; subst e3
      rw [← Ha.out] at hb
      rw [hat, hb] at d0 d1 d2
      rw [Ha.out, e, Nat.zero_add] at d0 d1 d2
      exact ⟨d0, d1, d2⟩))
    have R67 := Lib.hid h7
    have R07 := Lib.hid (RQ.out.trans (R6.out.trans h7))
    clear l0 l1 l2 m0 m1 m2 h7 z0 z1 z2 z3
    go_wp2_with (fail)
    go_loopw [15] (fun i wr => ∃ (q : Nat), i = .int .i64 (q : Int) ∧ q ≤ nm ∧ Rel w7 wr) (fun i _ => nm - (RowKit.intOf i).toNat)
    case atStart => exact ⟨0, rfl, by omega, R07.out.self⟩
    case round =>
      obtain ⟨q, rfl, hq, hRw⟩ := hrel
      have HRw := Lib.hid hRw
      by_cases hlt : q < nm
      · have hqm : q < m.length := by rw [Hm.out]; exact hlt
        obtain ⟨g6, off6, o, n, t, rfl, b0, b1, b2, hbq⟩ := ins_at P6.out (R67.out.trans hRw) q hqm
        have HBx := Lib.hid (Bk.new wr 44 #[.int .i64 o, .int .i64 n, .string (B t)])
        have RB1 := Lib.hid (hRw.alloc (.cells #[.int .i64 o, .int .i64 n, .string (B t)] 44))
        have hto : isTo o = true → (q : Int) < n ∧ n ≤ (m.length : Int) := fun h => by
          have := leads_in HK2.out hqm (by rw [hbq]; exact h)
          rw [hbq] at this; exact this
        obtain ⟨r, hr⟩ : ∃ r, na + q = r := ⟨_, rfl⟩
        have hrk : r < k := by omega
        have hwr : IntKind.i64.wrap ((na : Int) + (q : Int)) = (r : Int) := by rw [IntWalk.i64_in _ (by omega)]; omega
        have HMm := Lib.hid hqm
        have Hr := Lib.hid hr
        have Hbq := Lib.hid hbq
        have hml : m.length ≤ 5000 := by rw [Hm.out]; omega
        go_upto_region 16 with (fail)
        obtain ⟨W1, hW1⟩ : ∃ W1, wr.alloc (.cells #[.int .i64 o, .int .i64 n, .string (B t)] 44) = W1 := ⟨_, rfl⟩
        rw [hW1] at HBx RB1 ⊢
        clear hW1
        obtain ⟨⟨x0, x1, x2⟩, g0, g1, g2⟩ := HBx.out.tri
        have hs7 := HRw.out.size
        by_cases ht : isTo o = true
        · obtain ⟨n1, n2⟩ := hto ht
          have hmv := Lib.hid (show mv na (m[q]'hqm) = (o, n + na, t) by rw [hbq]; exact mv_to na o n t ht)
          have hwn : IntKind.i64.wrap (n + (na : Int)) = n + (na : Int) := IntWalk.i64_in _ (by omega)
          have hway := way_of ht
          clear hto ht hbq hr hRw
          rcases hway with w9 | ⟨w9, w12⟩ | ⟨w9, w12, w13⟩
          all_goals
            go_upto_region 18 with (fail)
            have HBz := Lib.hid (HBx.out.set_ 1 (.int .i64 (n + (na : Int))))
            have RZ := Lib.hid (Rel.grown RB1.out (set_grown W1 wr.heap.size 1 (.int .i64 (n + (na : Int)))) (fun k hk => by injection hk; omega))
            obtain ⟨Z, hZ⟩ : ∃ Z, W1.setCell ⟨wr.heap.size, 1, none⟩ (.int .i64 (n + (na : Int))) = Z := ⟨_, rfl⟩
            rw [hZ] at HBz RZ ⊢
            clear hZ x0 x1 x2 g0 g1 g2 b0 b1 b2
            obtain ⟨⟨x0, x1, x2⟩, g0, g1, g2⟩ := (show Bk Z wr.heap.size 44 #[.int .i64 o, .int .i64 (n + (na : Int)), .string (B t)] from HBz.out).tri
            obtain ⟨c0, c1, c2⟩ := HCl.out Z (R67.out.trans RZ.out) q r Hr.out o (n + (na : Int)) t HMm.out hmv.out
            go_wp2_with (fail)
            go_quiet (fail)
            go_wp2_with (fail)
            go_roundw
            case rel => exact ⟨q + 1, by go_num, by omega, RZ.out.drewN _⟩
            case measure => simp [RowKit.intOf]; omega
        · have hmv := Lib.hid (show mv na (m[q]'hqm) = (o, n, t) by rw [hbq]; exact mv_no na o n t (by simpa using ht))
          obtain ⟨w9, w12, w13⟩ := way_no ht
          clear hto ht hbq hr hRw
          obtain ⟨c0, c1, c2⟩ := HCl.out W1 (R67.out.trans RB1.out) q r Hr.out o n t HMm.out hmv.out
          go_wp2_with (fail)
          go_quiet (fail)
          go_wp2_with (fail)
          go_roundw
          case rel => exact ⟨q + 1, by go_num, by omega, RB1.out.drewN _⟩
          case measure => simp [RowKit.intOf]; omega
      · obtain rfl : q = nm := by omega
        go_wp2_with (fail)
        go_ret
        exact ⟨rfl, R07.out.trans HRw.out⟩
end Go.Proofs.YtldopbkjchgcnaaDoor
