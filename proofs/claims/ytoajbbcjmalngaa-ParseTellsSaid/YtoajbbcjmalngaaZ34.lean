/- Reading the document's own parse: the tokens of a scan are fine; Parse, over what 'expr' tells; Reading the document's own parse: Parse of what is scanned, over what 'expr' tells; The document's own Parse, of any text; Plain mathematics of layer 8, thirteenth part: one token more; how large what is parsed is. No program in this text. -/
import Derived.Test.YtoajbbcjmalngaaZ32
import Derived.Test.YtoajbbcjmalngaaZ24
import Derived.Test.YtoajbbcjmalngaaZ33
import Derived.Test.YtoajbbcjmalngaaZ09
namespace Go.Proofs.Ytoajbbcjmalngaa
open Go.RowKit Go.Lib
set_option linter.unusedVariables false
set_option linter.unusedSimpArgs false

theorem lex_fine {l : List UInt8} {ts : List Tok} (h : lx 0 l = .ok ts) (hl : l.length ≤ 2000) : TokFine ts := by
  obtain ⟨us, rfl, hus, _, hlen⟩ := lx_out _ l (Nat.le_refl _) 0 ts h
  refine ⟨fun t ht => ?_, by simp; omega, us, _, rfl⟩
  rcases List.mem_append.1 ht with h1 | h1
  · have := tok_short (hus t h1).1
    exact ⟨this.2.1, this.2.2.1, this.1, this.2.2.2⟩
  · simp only [List.mem_cons, List.not_mem_nil, or_false] at h1
    subst h1
    exact ⟨show i64 5 from ⟨by decide, by decide⟩, show i64 0 from ⟨by decide, by decide⟩, Nat.zero_le _, fun h => absurd h (show ¬ (5 : Int) = 1 by decide)⟩
theorem rlex_no {s : ByteArray} (hs : s.size ≤ 9223372036854775807) (cd pl : Int) (h : (2000 < s.data.toList.length ∧ cd = 60 ∧ pl = 2000) ∨ (s.data.toList.length ≤ 2000 ∧ ∃ k : Nat, lx 0 s.data.toList = .error k ∧ cd = 61 ∧ pl = k)) (w0 w : World) (hr : Rel w0 w) :
    Calls Try.prog 21 #[.string s] w fun e w' => ∃ (A : Option Addr) (c : Nat), e = .returned (.tuple #[.slice A 0 c, .int .i64 cd, .int .i64 pl]) ∧ Rel w0 w' := by
  refine (rlex_any s hs w0 w hr).mono ?_
  rintro e w' ⟨ts, A, c, err, place, rfl, h1, h2, ho⟩
  have hd : Out s.data.toList [] cd pl := by
    rcases h with ⟨a, rfl, rfl⟩ | ⟨a, k, b, rfl, rfl⟩
    · exact .inl ⟨a, rfl, rfl, rfl⟩
    · exact .inr (.inr ⟨a, k, b, rfl, rfl, rfl⟩)
  obtain ⟨rfl, rfl, rfl⟩ := ho.det hd
  exact ⟨A, c, rfl, h1⟩
theorem rlex_yes {s : ByteArray} (hs : s.size ≤ 9223372036854775807) (ts : List Tok) (h2 : s.data.toList.length ≤ 2000) (h : lx 0 s.data.toList = .ok ts) (w0 w : World) (hr : Rel w0 w) :
    Calls Try.prog 21 #[.string s] w fun e w' => ∃ (A : Option Addr) (c : Nat), e = .returned (.tuple #[.slice A ts.length c, .int .i64 0, .int .i64 0]) ∧ Rel w0 w' ∧ ToksAt w' A ts := by
  refine (rlex_any s hs w0 w hr).mono ?_
  rintro e w' ⟨ts', A, c, err, place, rfl, h1, h3, ho⟩
  obtain ⟨rfl, rfl, rfl⟩ := ho.det (.inr (.inl ⟨h2, h, rfl, rfl⟩))
  exact ⟨A, c, rfl, h1, h3⟩
/-- What the document's own Parse tells. -/
def RParse (r : Except (Int × Int) Ex) (w0 : World) (w : World) (e : Ending) (w' : World) : Prop := Rel w0 w' ∧ ∃ (v : El) (cd pl : Int), e = .returned (.tuple #[EV v, .int .i64 cd, .int .i64 pl]) ∧
  match r with
  | .ok x => cd = 0 ∧ pl = 0 ∧ ExAt (fun k => w.heap.size ≤ k) w' v x
  | .error E => cd = E.1 ∧ pl = E.2 ∧ v = (0, 0, [], none, 0, 0)
theorem put4_rel {w0 w : World} (h : Rel w0 w) {b : Nat} (hb : w0.heap.size ≤ b) (x y z u : Value) : Rel w0 ((((w.setCell ⟨b, 0, none⟩ x).setCell ⟨b, 1, none⟩ y).setCell ⟨b, 2, none⟩ z).setCell ⟨b, 3, none⟩ u) :=
  (((h.setCell hb x).setCell hb y).setCell hb z).setCell hb u
set_option maxRecDepth 100000 in
set_option maxHeartbeats 4000000 in
theorem rparse_no {s : ByteArray} (hs : s.size ≤ 9223372036854775807) (cd pl : Int) (hcd : (cd == 0) = false) (h : (2000 < s.data.toList.length ∧ cd = 60 ∧ pl = 2000) ∨ (s.data.toList.length ≤ 2000 ∧ ∃ k : Nat, lx 0 s.data.toList = .error k ∧ cd = 61 ∧ pl = k)) (w0 w : World) (hr : Rel w0 w) :
    Calls Try.prog 11 #[.string s] w (RParse (.error (cd, pl)) w0 w) := by
  have HL := Lib.hid (fun W hW => rlex_no hs cd pl h w0 W hW)
  have HR := Lib.hid (hr.alloc (.cells #[.int .i64 0, .int .i64 0, .string ⟨#[]⟩, .slice none 0 0] 30))
  have HRs := Lib.hid hr.size
  have HN := Lib.hid (Bk.new w 30 #[.int .i64 0, .int .i64 0, .string ⟨#[]⟩, .slice none 0 0])
  have HLs := Lib.hid (fun W hW => rlex_no hs cd pl h (w.alloc (.cells #[.int .i64 0, .int .i64 0, .string ⟨#[]⟩, .slice none 0 0] 30)) W hW)
  clear h
  go_enter Try.func11, Try.ntmps11
  go_wp2_with (go_at_call 21; (with_reducible refine (HLs.out _ (Rel.self HR.out)).mono ?_); rintro e w1 ⟨A, c, rfl, h1⟩; obtain ⟨⟨r0, r1, r2, r3⟩, q0, q1, q2, q3⟩ := (HN.out.rel h1).four)
  obtain ⟨⟨y0, y1, y2, y3⟩, _⟩ := ((HN.out.rel h1).put4 (.int .i64 0) (.int .i64 0) (.string ⟨#[]⟩) (.slice none 0 0)).four
  refine bodyPost_ret (v := .tuple #[EV (0, 0, [], none, 0, 0), .int .i64 cd, .int .i64 pl]) (by simp [results, Try.results11, go_sem, y0, y1, y2, y3]; rfl) rfl ⟨put4_rel (HR.out.trans h1) HRs.out _ _ _ _, _, _, _, rfl, rfl, rfl, rfl⟩
end Go.Proofs.Ytoajbbcjmalngaa

namespace Go.Proofs.Ytoajbbcjmalngaa
open Go.RowKit Go.Lib
set_option linter.unusedVariables false
set_option linter.unusedSimpArgs false

theorem strat_R {ts ts2 ts3 : List Tok} {x : Ex} {t : Tok} {e2 e3 : Int} (hx : exprR 32 false (ts, 0) = (x, (ts2, e2))) (ht : takeR 5 [] (ts2, e2) = (t, (ts3, e3))) : (e3 = 0 → stratT ts = .ok x) ∧ (e3 ≠ 0 → stratT ts = .error (e3, atT ts3)) := by
  have hs := expr_same 32 false ts
  rw [hx] at hs
  unfold stratT
  cases hr : exprT 32 false ts with
  | error E =>
    obtain ⟨a, b, c⟩ := hs.er hr
    simp only at a c
    rw [takeR_bad (by rw [a]; exact b)] at ht
    cases ht
    exact ⟨fun h => absurd (a.symm.trans h) b, fun _ => by rw [a, c]⟩
  | ok p =>
    obtain ⟨x', ts'⟩ := p
    have e := hs.ok_ hr
    cases e
    have h2 := take_same 5 [] ts2
    rw [ht] at h2
    cases hr2 : takeT 5 [] ts2 with
    | error E =>
      obtain ⟨a, b, c⟩ := h2.er hr2
      simp only at a c
      refine ⟨fun h => absurd (a.symm.trans h) b, fun _ => ?_⟩
      simp only
      rw [hr2, a, c]
    | ok p2 =>
      obtain ⟨t2, ts4⟩ := p2
      have e := h2.ok_ hr2
      cases e
      refine ⟨fun _ => ?_, fun h => absurd rfl h⟩
      simp only
      rw [hr2]
theorem tok_ne {W : World} {b gT n : Nat} {a a' p q : Int} {s s' : ByteArray} {x : Option Addr} {y z : Nat} (hB : Bk W b 30 #[.int .i64 a, .int .i64 a', .string s, .slice x y z]) (h0 : W.cell? ⟨gT, n, none⟩ = some (.int .i64 p)) (h1 : W.cell? ⟨gT, n + 1, none⟩ = some (.string s')) (h2 : W.cell? ⟨gT, n + 2, none⟩ = some (.int .i64 q)) : gT ≠ b := by
  rintro rfl
  rw [hB.cell] at h0 h1 h2
  match n, h0, h1, h2 with
  | 0, _, h1, _ => simp at h1
  | 1, _, _, h2 => simp at h2
  | 2, h0, _, _ => simp at h0
  | n + 3, _, h1, _ => simp at h1
set_option maxRecDepth 100000 in
set_option maxHeartbeats 4000000 in
theorem rparse_yes (E : ∀ V A c all, ExprS V A c all 32) {s : ByteArray} (hs : s.size ≤ 9223372036854775807) (ts : List Tok) (h2 : s.data.toList.length ≤ 2000) (h : lx 0 s.data.toList = .ok ts) (w0 w : World) (hr : Rel w0 w) :
    Calls Try.prog 11 #[.string s] w (RParse (stratT ts) w0 w) := by
  have HR := Lib.hid (hr.alloc (.cells #[.int .i64 0, .int .i64 0, .string ⟨#[]⟩, .slice none 0 0] 30))
  have hzw := World.size_alloc w (.cells #[.int .i64 0, .int .i64 0, .string ⟨#[]⟩, .slice none 0 0] 30)
  have HRs := Lib.hid hr.size
  have HN := Lib.hid (Bk.new w 30 #[.int .i64 0, .int .i64 0, .string ⟨#[]⟩, .slice none 0 0])
  have HL := Lib.hid (fun W hW => rlex_yes hs ts h2 h (w.alloc (.cells #[.int .i64 0, .int .i64 0, .string ⟨#[]⟩, .slice none 0 0] 30)) W hW)
  have HFi := Lib.hid (lex_fine h h2)
  obtain ⟨⟨x, ts2, e2⟩, hx⟩ : ∃ r, exprR 32 false (ts, 0) = r := ⟨_, rfl⟩
  obtain ⟨⟨t, ts3, e3⟩, ht⟩ : ∃ r, takeR 5 [] (ts2, e2) = r := ⟨_, rfl⟩
  have HSR := Lib.hid (strat_R hx ht)
  have HE : Hid (∀ (V : World) (A : Option Addr) (c g : Nat) (W : World), StR V A c ts W g (ts, 0) → Calls Try.prog 22 #[.pointer (some ⟨g, 0, none⟩), .int .i64 0, .bool false] W fun e w' => ∃ v : El, e = .returned (EV v) ∧ ExAt (fun k => W.heap.size ≤ k) w' v x ∧ StR V A c ts w' g (ts2, e2) ∧ W.grownBy w' (some g)) := Lib.hid (fun V A c g W hW => by
    have := E V A c ts false (ts, 0) g W hW
    rw [hx] at this
    exact this)
  have HTk : Hid (∀ (V : World) (A : Option Addr) (c g : Nat) (W : World), StR V A c ts W g (ts2, e2) → Calls Try.prog 23 #[.pointer (some ⟨g, 0, none⟩), .int .i64 5, .string ⟨#[]⟩] W fun e w' => e = .returned (.agg #[.int .i64 t.1, .string (B t.2.1), .int .i64 t.2.2.1, .int .i64 t.2.2.2]) ∧ StR V A c ts w' g (ts3, e3) ∧ W.grownBy w' (some g)) := Lib.hid (fun V A c g W hW => by
    have := rtake_any V A c ts g (ts2, e2) 5 [] ⟨#[]⟩ (Lib.hid rfl) W hW
    rw [ht] at this
    exact this)
  clear hx ht h E
  by_cases he : e3 = 0
  · subst he
    rw [HSR.out.1 rfl]
    go_enter Try.func11, Try.ntmps11
    go_wp2_with (first
      | (go_at_call 21; (with_reducible refine (HL.out _ (Rel.self HR.out)).mono ?_); rintro e w1 ⟨A, c, rfl, h1, hT⟩; have hz1 := h1.size; have HT := Lib.hid hT; have H1 := Lib.hid h1; have HN1 := Lib.hid (HN.out.rel h1); have HSt := Lib.hid (show StR w1 A c ts (w1.alloc (.cells #[.slice A ts.length c, .int .i64 0, .int .i64 0] 54)) w1.heap.size (ts, 0) from ⟨0, (Rel.right h1).alloc _, Nat.le_refl _, hT, HFi.out, Bk.new w1 54 #[.slice A ts.length c, .int .i64 0, .int .i64 0], rfl, by have := HFi.out.2.2; obtain ⟨us, p, e⟩ := this; rw [e]; simp⟩))
      | (go_at_call 22; (with_reducible refine (HE.out _ _ _ _ _ HSt.out).mono ?_); rintro e w3 ⟨v, rfl, ex, s3, g3⟩; have hz3 := g3.size; have hzs := World.size_alloc w1 (.cells #[.slice A ts.length c, .int .i64 0, .int .i64 0] 54); have EX := Lib.hid ex; have G3 := Lib.hid g3; have HN3 := Lib.hid (((HN1.out.alloc (.cells #[.slice A ts.length c, .int .i64 0, .int .i64 0] 54)).grown g3 (fun e => by injection e; omega)).alloc (.cells #[.int .i64 v.1, .int .i64 v.2.1, .string (B v.2.2.1), .slice v.2.2.2.1 v.2.2.2.2.1 v.2.2.2.2.2] 30)); have s4 := s3.rel ((show Rel w3 w3 from by obtain ⟨_, a, _⟩ := s3; exact (Rel.right a)).alloc (.cells #[.int .i64 v.1, .int .i64 v.2.1, .string (B v.2.2.1), .slice v.2.2.2.1 v.2.2.2.2.1 v.2.2.2.2.2] 30)); have S4 := Lib.hid s4; have HX := Lib.hid (Bk.new w3 30 #[.int .i64 v.1, .int .i64 v.2.1, .string (B v.2.2.1), .slice v.2.2.2.1 v.2.2.2.2.1 v.2.2.2.2.2]))
      | (go_at_call 23; (with_reducible refine (HTk.out _ _ _ _ _ S4.out).mono ?_); rintro e w5 ⟨rfl, s5, g5⟩; have hz5 := g5.size; have hzx := World.size_alloc w3 (.cells #[.int .i64 v.1, .int .i64 v.2.1, .string (B v.2.2.1), .slice v.2.2.2.1 v.2.2.2.2.1 v.2.2.2.2.2] 30); have S5 := Lib.hid s5; have G5 := Lib.hid g5; have e5 := s5.err; have HN5 := Lib.hid (HN3.out.grown g5 (fun e => by injection e; omega)); obtain ⟨⟨r0, r1, r2, r3⟩, q0, q1, q2, q3⟩ := HN5.out.four; obtain ⟨⟨x0, x1, x2, x3⟩, u0, u1, u2, u3⟩ := (HX.out.grown g5 (fun e => by injection e; omega)).four))
    obtain ⟨⟨y0, y1, y2, y3⟩, _⟩ := (HN5.out.put4 (.int .i64 v.1) (.int .i64 v.2.1) (.string (B v.2.2.1)) (.slice v.2.2.2.1 v.2.2.2.2.1 v.2.2.2.2.2)).four
    have gp := put4_grown w5 w.heap.size (.int .i64 v.1) (.int .i64 v.2.1) (.string (B v.2.2.1)) (.slice v.2.2.2.1 v.2.2.2.2.1 v.2.2.2.2.2)
    have h0w := HRs.out
    have R3 := ((HR.out.trans H1.out).alloc (.cells #[.slice A ts.length c, .int .i64 0, .int .i64 0] 54)).grown G3.out (fun k e => by cases e; omega)
    have R5 := (R3.alloc (.cells #[.int .i64 v.1, .int .i64 v.2.1, .string (B v.2.2.1), .slice v.2.2.2.1 v.2.2.2.2.1 v.2.2.2.2.2] 30)).grown G5.out (fun k e => by cases e; omega)
    have ga := grown_rel none (R3.self.alloc (.cells #[.int .i64 v.1, .int .i64 v.2.1, .string (B v.2.2.1), .slice v.2.2.2.1 v.2.2.2.2.1 v.2.2.2.2.2] 30))
    refine bodyPost_ret (v := .tuple #[EV v, .int .i64 0, .int .i64 0]) (by simp [results, Try.results11, go_sem, y0, y1, y2, y3]) rfl ⟨put4_rel R5 HRs.out _ _ _ _, _, _, _, rfl, rfl, rfl, ?_⟩
    exact ((EX.out.grown (S' := fun k => w1.heap.size < k) ga (fun k hk => ⟨by omega, fun e => by cases e⟩)).grown (S' := fun k => w1.heap.size < k) G5.out (fun k hk => ⟨hk, fun e => by injection e; omega⟩)).grown gp (fun k hk => ⟨by omega, fun e => by injection e; omega⟩)
  · have he' : (e3 == 0) = false := by simpa using he
    rw [HSR.out.2 he]
    obtain ⟨pl, hpl⟩ : ∃ pl, atT ts3 = pl := ⟨_, rfl⟩
    rw [hpl]
    have HPl := Lib.hid hpl
    clear he hpl
    go_enter Try.func11, Try.ntmps11
    go_wp2_with (first
      | (go_at_call 21; (with_reducible refine (HL.out _ (Rel.self HR.out)).mono ?_); rintro e w1 ⟨A, c, rfl, h1, hT⟩; have hz1 := h1.size; have HT := Lib.hid hT; have H1 := Lib.hid h1; have HN1 := Lib.hid (HN.out.rel h1); have HSt := Lib.hid (show StR w1 A c ts (w1.alloc (.cells #[.slice A ts.length c, .int .i64 0, .int .i64 0] 54)) w1.heap.size (ts, 0) from ⟨0, (Rel.right h1).alloc _, Nat.le_refl _, hT, HFi.out, Bk.new w1 54 #[.slice A ts.length c, .int .i64 0, .int .i64 0], rfl, by have := HFi.out.2.2; obtain ⟨us, p, e⟩ := this; rw [e]; simp⟩))
      | (go_at_call 22; (with_reducible refine (HE.out _ _ _ _ _ HSt.out).mono ?_); rintro e w3 ⟨v, rfl, ex, s3, g3⟩; have hz3 := g3.size; have hzs := World.size_alloc w1 (.cells #[.slice A ts.length c, .int .i64 0, .int .i64 0] 54); have EX := Lib.hid ex; have G3 := Lib.hid g3; have HN3 := Lib.hid (((HN1.out.alloc (.cells #[.slice A ts.length c, .int .i64 0, .int .i64 0] 54)).grown g3 (fun e => by injection e; omega)).alloc (.cells #[.int .i64 v.1, .int .i64 v.2.1, .string (B v.2.2.1), .slice v.2.2.2.1 v.2.2.2.2.1 v.2.2.2.2.2] 30)); have s4 := s3.rel ((show Rel w3 w3 from by obtain ⟨_, a, _⟩ := s3; exact (Rel.right a)).alloc (.cells #[.int .i64 v.1, .int .i64 v.2.1, .string (B v.2.2.1), .slice v.2.2.2.1 v.2.2.2.2.1 v.2.2.2.2.2] 30)); have S4 := Lib.hid s4; have HX := Lib.hid (Bk.new w3 30 #[.int .i64 v.1, .int .i64 v.2.1, .string (B v.2.2.1), .slice v.2.2.2.1 v.2.2.2.2.1 v.2.2.2.2.2]))
      | (go_at_call 23; (with_reducible refine (HTk.out _ _ _ _ _ S4.out).mono ?_); rintro e w5 ⟨rfl, s5, g5⟩; have hz5 := g5.size; have hzx := World.size_alloc w3 (.cells #[.int .i64 v.1, .int .i64 v.2.1, .string (B v.2.2.1), .slice v.2.2.2.1 v.2.2.2.2.1 v.2.2.2.2.2] 30); have S5 := Lib.hid s5; have G5 := Lib.hid g5; have e5 := s5.err; have HN5 := Lib.hid (HN3.out.grown g5 (fun e => by injection e; omega)); obtain ⟨⟨r0, r1, r2, r3⟩, q0, q1, q2, q3⟩ := HN5.out.four; obtain ⟨⟨x0, x1, x2, x3⟩, u0, u1, u2, u3⟩ := (HX.out.grown g5 (fun e => by injection e; omega)).four))
    have h0w := HRs.out
    have R3 := ((HR.out.trans H1.out).alloc (.cells #[.slice A ts.length c, .int .i64 0, .int .i64 0] 54)).grown G3.out (fun k e => by cases e; omega)
    have HR5 := Lib.hid ((R3.alloc (.cells #[.int .i64 v.1, .int .i64 v.2.1, .string (B v.2.2.1), .slice v.2.2.2.1 v.2.2.2.2.1 v.2.2.2.2.2] 30)).grown G5.out (fun k e => by cases e; omega))
    clear R3
    obtain ⟨j3, k1, k2, k3, k4, k5, k6, k7⟩ := S5.out
    have HB3 := Lib.hid k5
    obtain ⟨gT, off, rfl, hb, a0, a1, a2, a3⟩ := (k3.rel k1) j3 k7
    have hj3 : ts[j3].2.2.2 = pl := by
      rw [← HPl.out]; unfold atT; simp only at k6; rw [k6, hd_drop k7]
    rw [hj3] at a3
    have hne := tok_ne HN5.out a0 a1 a2
    have HTc := Lib.hid a3
    have HG5d := Lib.hid (grown_rel (some w.heap.size) HR5.out.self.drew)
    have hz0 : gT < w5.heap.size := by have := k1.size; omega
    have HTp := Lib.hid (show ((((w5.drew.setCell ⟨w.heap.size, 0, none⟩ (.int .i64 0)).setCell ⟨w.heap.size, 1, none⟩ (.int .i64 0)).setCell ⟨w.heap.size, 2, none⟩ (.string ⟨#[]⟩)).setCell ⟨w.heap.size, 3, none⟩ (.slice none 0 0)).cell? ⟨gT, off + j3 * 4 + 3, none⟩ = some (.int .i64 pl) from
      (World.cell?_of_block ((put4_grown w5.drew w.heap.size _ _ _ _).block gT hz0 (fun e => hne (by injection e)))).trans a3)
    clear k1 k2 k3 k4 k5 k6
    refine wp_region_held_drew (S := (fun w' => w5.grownBy w' (some w.heap.size) ∧ w'.cell? ⟨gT, off + j3 * 4 + 3, none⟩ = some (.int .i64 pl))) (by kernel_rfl) ⟨HG5d.out, HTc.out⟩ (fun hHeld => ?_)
    refine held_take (i := 0) (v := ?_) (some 33) rfl rfl (by kernel_rfl) (by kernel_rfl) (by kernel_rfl) (fun _ _ _ h => h) (Or.inl ⟨by rfl, ?_⟩) hHeld ?_
    rotate_left 1
    · intro w' h; obtain ⟨h, ht⟩ := h; obtain ⟨⟨x0, x1, x2⟩, _⟩ := (HB3.out.grown h (fun e => by injection e; omega)).three; go_simp; try with_reducible rfl
    try simp only [Act.put, List.setIfInBounds_toArray, List.set_cons_zero, List.set_cons_succ]
    refine held_take (i := 1) (v := ?_) (some 34) rfl rfl (by kernel_rfl) (by kernel_rfl) (by kernel_rfl) (fun _ _ _ h => h) (Or.inl ⟨by rfl, ?_⟩) hHeld ?_
    rotate_left 1
    · intro w' h; obtain ⟨h, ht⟩ := h; obtain ⟨⟨x0, x1, x2⟩, _⟩ := (HB3.out.grown h (fun e => by injection e; omega)).three; go_simp; try with_reducible rfl
    try simp only [Act.put, List.setIfInBounds_toArray, List.set_cons_zero, List.set_cons_succ]
    refine held_take (i := 2) (v := ?_) (some 35) rfl rfl (by kernel_rfl) (by kernel_rfl) (by kernel_rfl) (fun _ _ _ h => h) (Or.inl ⟨by rfl, ?_⟩) hHeld ?_
    rotate_left 1
    · intro w' h; obtain ⟨h, ht⟩ := h; obtain ⟨⟨x0, x1, x2⟩, _⟩ := (HB3.out.grown h (fun e => by injection e; omega)).three; go_simp; try with_reducible rfl
    try simp only [Act.put, List.setIfInBounds_toArray, List.set_cons_zero, List.set_cons_succ]
    refine held_take (i := 3) (v := ?_) (some 36) rfl rfl (by kernel_rfl) (by kernel_rfl) (by kernel_rfl) (fun _ _ _ h => h) (Or.inl ⟨by rfl, ?_⟩) hHeld ?_
    rotate_left 1
    · intro w' h; obtain ⟨h, ht⟩ := h; obtain ⟨⟨x0, x1, x2⟩, _⟩ := (HB3.out.grown h (fun e => by injection e; omega)).three; go_simp; try with_reducible rfl
    try simp only [Act.put, List.setIfInBounds_toArray, List.set_cons_zero, List.set_cons_succ]
    refine held_take (i := 4) (v := ?_) (some 37) rfl rfl (by kernel_rfl) (by kernel_rfl) (by kernel_rfl) (fun _ _ _ h => h) (Or.inl ⟨by rfl, ?_⟩) hHeld ?_
    rotate_left 1
    · intro w' h; obtain ⟨h, ht⟩ := h; obtain ⟨⟨x0, x1, x2⟩, _⟩ := (HB3.out.grown h (fun e => by injection e; omega)).three; go_simp; try with_reducible rfl
    try simp only [Act.put, List.setIfInBounds_toArray, List.set_cons_zero, List.set_cons_succ]
    refine held_take (i := 5) (v := ?_) (some 38) rfl rfl (by kernel_rfl) (by kernel_rfl) (by kernel_rfl) (fun _ _ _ h => h) (Or.inl ⟨by rfl, ?_⟩) hHeld ?_
    rotate_left 1
    · intro w' h; obtain ⟨h, ht⟩ := h; obtain ⟨⟨x0, x1, x2⟩, _⟩ := (HB3.out.grown h (fun e => by injection e; omega)).three; go_simp; try with_reducible rfl
    try simp only [Act.put, List.setIfInBounds_toArray, List.set_cons_zero, List.set_cons_succ]
    refine held_take (i := 6) (v := ?_) (some 39) rfl rfl (by kernel_rfl) (by kernel_rfl) (by kernel_rfl) (fun _ _ _ h => h) (Or.inl ⟨by rfl, ?_⟩) hHeld ?_
    rotate_left 1
    · intro w' h; obtain ⟨h, ht⟩ := h; obtain ⟨⟨x0, x1, x2⟩, _⟩ := (HB3.out.grown h (fun e => by injection e; omega)).three; go_simp; try with_reducible rfl
    try simp only [Act.put, List.setIfInBounds_toArray, List.set_cons_zero, List.set_cons_succ]
    refine held_take (i := 7) (v := ?_) (some 40) rfl rfl (by kernel_rfl) (by kernel_rfl) (by kernel_rfl) (fun _ _ _ h => h) (Or.inl ⟨by rfl, ?_⟩) hHeld ?_
    rotate_left 1
    · intro w' h; obtain ⟨h, ht⟩ := h; obtain ⟨⟨x0, x1, x2⟩, _⟩ := (HB3.out.grown h (fun e => by injection e; omega)).three; go_simp; try with_reducible rfl
    try simp only [Act.put, List.setIfInBounds_toArray, List.set_cons_zero, List.set_cons_succ]
    refine held_take (i := 8) (v := ?_) (some 41) rfl rfl (by kernel_rfl) (by kernel_rfl) (by kernel_rfl) (fun _ _ _ h => h) (Or.inl ⟨by rfl, ?_⟩) hHeld ?_
    rotate_left 1
    · intro w' h; obtain ⟨h, ht⟩ := h; obtain ⟨⟨x0, x1, x2⟩, _⟩ := (HB3.out.grown h (fun e => by injection e; omega)).three; go_simp; try with_reducible rfl
    try simp only [Act.put, List.setIfInBounds_toArray, List.set_cons_zero, List.set_cons_succ]
    refine held_take (i := 9) (v := ?_) (some 42) rfl rfl (by kernel_rfl) (by kernel_rfl) (by kernel_rfl) (fun _ _ _ h => h) (Or.inl ⟨by rfl, ?_⟩) hHeld ?_
    rotate_left 1
    · intro w' h; obtain ⟨h, ht⟩ := h; obtain ⟨⟨x0, x1, x2⟩, _⟩ := (HB3.out.grown h (fun e => by injection e; omega)).three; go_simp; try with_reducible rfl
    try simp only [Act.put, List.setIfInBounds_toArray, List.set_cons_zero, List.set_cons_succ]
    refine held_take (i := 10) (v := ?_) (some 43) rfl rfl (by kernel_rfl) (by kernel_rfl) (by kernel_rfl) (fun _ _ _ h => h) (Or.inl ⟨by rfl, ?_⟩) hHeld ?_
    rotate_left 1
    · intro w' h; obtain ⟨h, ht⟩ := h; obtain ⟨⟨x0, x1, x2⟩, _⟩ := (HB3.out.grown h (fun e => by injection e; omega)).three; go_simp; try with_reducible rfl
    try simp only [Act.put, List.setIfInBounds_toArray, List.set_cons_zero, List.set_cons_succ]
    refine held_take (i := 11) (v := ?_) (some 44) rfl rfl (by kernel_rfl) (by kernel_rfl) (by kernel_rfl) (fun _ _ _ h => h) (Or.inl ⟨by rfl, ?_⟩) hHeld ?_
    rotate_left 1
    · intro w' h; obtain ⟨h, ht⟩ := h; obtain ⟨⟨x0, x1, x2⟩, _⟩ := (HB3.out.grown h (fun e => by injection e; omega)).three; go_simp; try with_reducible rfl
    try simp only [Act.put, List.setIfInBounds_toArray, List.set_cons_zero, List.set_cons_succ]
    refine held_take (i := 12) (v := ?_) (some 45) rfl rfl (by kernel_rfl) (by kernel_rfl) (by kernel_rfl) (fun _ _ _ h => h) (Or.inl ⟨by rfl, ?_⟩) hHeld ?_
    rotate_left 1
    · intro w' h; obtain ⟨h, ht⟩ := h; obtain ⟨⟨x0, x1, x2⟩, _⟩ := (HB3.out.grown h (fun e => by injection e; omega)).three; go_simp; try with_reducible rfl
    try simp only [Act.put, List.setIfInBounds_toArray, List.set_cons_zero, List.set_cons_succ]
    refine held_one (j := 13) (by kernel_rfl) rfl (fun K hK => ?_)
    try simp only [List.getElem_toArray, List.getElem_cons_succ, List.getElem_cons_zero]
    rw [if_pos (by rfl)]
    go_simp
    refine hK.out _ _ ⟨grown_trans hHeld.1 (put4_grown _ _ _ _ _ _), HTp.out⟩ (fun hHeld => ?_)
    clear hK K
    try simp only [Act.put, List.setIfInBounds_toArray, List.set_cons_zero, List.set_cons_succ]
    refine held_take (i := 14) (v := ?_) (some 3) rfl rfl (by kernel_rfl) (by kernel_rfl) (by kernel_rfl) (fun _ _ _ h => h) (Or.inl ⟨by rfl, ?_⟩) hHeld ?_
    rotate_left 1
    · intro w' h; obtain ⟨h, ht⟩ := h; obtain ⟨⟨x0, x1, x2⟩, _⟩ := (HB3.out.grown h (fun e => by injection e; omega)).three; go_simp; try with_reducible rfl
    try simp only [Act.put, List.setIfInBounds_toArray, List.set_cons_zero, List.set_cons_succ]
    refine held_take (i := 15) (v := ?_) (some 4) rfl rfl (by kernel_rfl) (by kernel_rfl) (by kernel_rfl) (fun _ _ _ h => h) (Or.inl ⟨by rfl, ?_⟩) hHeld ?_
    rotate_left 1
    · intro w' h; obtain ⟨h, ht⟩ := h; obtain ⟨⟨x0, x1, x2⟩, _⟩ := (HB3.out.grown h (fun e => by injection e; omega)).three; go_simp; try with_reducible rfl
    try simp only [Act.put, List.setIfInBounds_toArray, List.set_cons_zero, List.set_cons_succ]
    refine wpAnyH_done (by kernel_rfl) ?_ _
    go_wp2_with (fail)
    obtain ⟨⟨y0, y1, y2, y3⟩, _⟩ := (HN5.out.put4 (.int .i64 0) (.int .i64 0) (.string ⟨#[]⟩) (.slice none 0 0)).four
    refine bodyPost_ret (v := .tuple #[EV (0, 0, [], none, 0, 0), .int .i64 e3, .int .i64 pl]) (by simp [results, Try.results11, go_sem, y0, y1, y2, y3]; rfl) rfl ⟨(put4_rel HR5.out HRs.out _ _ _ _).drew, _, _, _, rfl, rfl, rfl, rfl⟩
end Go.Proofs.Ytoajbbcjmalngaa

namespace Go.Proofs.Ytoajbbcjmalngaa
open Go.RowKit Go.Lib
set_option linter.unusedVariables false
set_option linter.unusedSimpArgs false

theorem kindT_bd (c : Bool) (t : Tok) : 0 ≤ kindT c t ∧ kindT c t ≤ 12 := by
  unfold kindT
  split
  · exact ⟨by decide, by decide⟩
  · split
    · unfold kindW
      cases hf : ([1, 2, 3, 4, 5, 6, 7, 8, 9, 10, 11, 12] : List Int).find? fun k => wordK k == t.2.1 && isCond k == c with
      | none => exact ⟨by decide, by decide⟩
      | some k =>
        have hm := List.mem_of_find?_eq_some hf
        have := (by decide : ∀ k ∈ ([1, 2, 3, 4, 5, 6, 7, 8, 9, 10, 11, 12] : List Int), 0 ≤ k ∧ k ≤ 12) k hm
        simpa using this
    · exact ⟨by decide, by decide⟩
theorem rexpr_all (V : World) (A : Option Addr) (c : Nat) (all : List Tok) : ∀ d, d ≤ 32 → ExprS V A c all d
  | 0, _ => rexpr_zero V A c all
  | d + 1, hd => fun cb s g w h => by
    have E := rexpr_all V A c all d (by omega)
    obtain ⟨ts, e⟩ := s
    by_cases h0 : e ≠ 0 ∨ kindT cb (hdT ts) = 0
    · exact rexpr_stop V A c all d hd cb (ts, e) g w h h0
    · have he : e = 0 := by
        by_cases he : e = 0
        · exact he
        · exact absurd (.inl he) h0
      subst he
      have hk : kindT cb (hdT ts) ≠ 0 := fun hk => h0 (.inr hk)
      have hb := kindT_bd cb (hdT ts)
      by_cases h4 : kindT cb (hdT ts) = 4
      · exact rexpr_money V A c all d hd cb ts g w h h4
      · by_cases h12 : kindT cb (hdT ts) = 1 ∨ kindT cb (hdT ts) = 2
        · exact rexpr_leaf V A c all d hd cb ts g w h h12
        · exact rexpr_call V A c all d hd E cb ts g w h _ rfl (by omega) hb.2 h4
theorem rparse8_any (s : ByteArray) (hs : s.size ≤ 9223372036854775807) (w0 w : World) (hr : Rel w0 w) :
    Calls Try.prog 11 #[.string s] w (RParse (parseS s.data.toList) w0 w) := by
  unfold parseS
  split
  · rename_i h
    exact rparse_no hs 60 2000 rfl (.inl ⟨h, rfl, rfl⟩) w0 w hr
  · rename_i h
    have h2 : s.data.toList.length ≤ 2000 := by omega
    cases hx : lx 0 s.data.toList with
    | error k => exact rparse_no hs 61 (k : Int) rfl (.inr ⟨h2, k, hx, rfl, rfl⟩) w0 w hr
    | ok ts => exact rparse_yes (fun V A c all => rexpr_all V A c all 32 (by omega)) hs ts h2 hx w0 w hr
theorem rparse_ok (s : ByteArray) (x : Ex) (hx : Hid (parseS s.data.toList = .ok x)) (hs : s.size ≤ 9223372036854775807) (w0 w : World) (hr : Rel w0 w) :
    Calls Try.prog 11 #[.string s] w fun e w' => ∃ v : El, e = .returned (.tuple #[EV v, .int .i64 0, .int .i64 0]) ∧ ExAt (fun k => w.heap.size ≤ k) w' v x ∧ Rel w0 w' := by
  have := rparse8_any s hs w0 w hr
  rw [hx.out] at this
  refine this.mono ?_
  rintro e w' ⟨h1, v, cd, pl, rfl, rfl, rfl, h2⟩
  exact ⟨v, rfl, h2, h1⟩
theorem rparse_bad (s : ByteArray) (cd pl : Int) (hx : Hid (parseS s.data.toList = .error (cd, pl))) (hs : s.size ≤ 9223372036854775807) (w0 w : World) (hr : Rel w0 w) :
    Calls Try.prog 11 #[.string s] w fun e w' => e = .returned (.tuple #[.agg #[.int .i64 0, .int .i64 0, .string ⟨#[]⟩, .slice none 0 0], .int .i64 cd, .int .i64 pl]) ∧ Rel w0 w' := by
  have := rparse8_any s hs w0 w hr
  rw [hx.out] at this
  refine this.mono ?_
  rintro e w' ⟨h1, v, cd', pl', rfl, rfl, rfl, rfl⟩
  exact ⟨rfl, h1⟩
end Go.Proofs.Ytoajbbcjmalngaa

namespace Go.Proofs.Ytoajbbcjmalngaa
open Go.Lib
set_option linter.unusedVariables false
set_option linter.unusedSimpArgs false

/-- A strategy's text, a blank and one token more: it is told there. -/
theorem more_parse {x : Ex} (h : rightX x = true) {pc : List UInt8} {k n : Int} (hg : Good pc k n) (hk : k ≠ 5) (hl : (text x ++ 32 :: pc).length ≤ 2000) : parseS (text x ++ 32 :: pc) = .error (80, (((text x).length + 1 : Nat) : Int)) := by
  have hf : fine 32 x = true := by simp only [rightX, Bool.and_eq_true] at h; exact h.1.1.1
  obtain ⟨us, e1, e2⟩ := text_toks x 32 hf 0 (32 :: pc) rfl
  have e3 : lx (0 + (text x).length) (32 :: pc) = .ok [(k, pc, n, ((0 + (text x).length + 1 : Nat) : Int)), (5, [], 0, ((0 + (text x).length + 1 + pc.length : Nat) : Int))] := by
    rw [lx_blank _ _ _ rfl]
    have := lx_good hg (0 + (text x).length + 1) [] rfl
    rw [List.append_nil] at this
    rw [this, lx_nil]
    rfl
  have e4 : lx 0 (text x ++ 32 :: pc) = .ok (us ++ [(k, pc, n, ((0 + (text x).length + 1 : Nat) : Int)), (5, [], 0, ((0 + (text x).length + 1 + pc.length : Nat) : Int))]) := by rw [e1, e3]; rfl
  unfold parseS
  rw [if_neg (by omega), e4]
  have := parse_more h (k, pc, n, ((0 + (text x).length + 1 : Nat) : Int)) [(5, [], 0, ((0 + (text x).length + 1 + pc.length : Nat) : Int))] hk us e2
  simp only [Nat.zero_add] at this ⊢
  exact this
/-- Each expression has a token of its own. -/
def Sized (ts : List Tok) (m : Told Ex) : Prop := match m with
  | .ok (x, r) => size x + r.length ≤ ts.length
  | .error _ => True
theorem take_len {k : Int} {x : List UInt8} {ts r : List Tok} {t : Tok} (h : takeT k x ts = .ok (t, r)) : r.length ≤ ts.length := by
  unfold takeT at h
  split at h
  · injection h with h
    injection h with _ h
    split at h <;> subst h
    · exact Nat.le_refl _
    · rw [List.length_tail]; omega
  · cases h
theorem args_sized (f : Bool → List Tok → Told Ex) (k : Int) (hf : ∀ c ts, Sized ts (f c ts)) : ∀ (m i : Nat) (ts : List Tok), (match argsT f k i m ts with | .ok (l, r) => sizes l + r.length ≤ ts.length | .error _ => True) := by
  intro m
  induction m with
  | zero => intro i ts; unfold argsT; simp only [sizes_nil]; omega
  | succ m ih =>
    intro i ts
    unfold argsT
    have hb : ∀ t1 ts1, (if i = 0 then (.ok ((5, [], 0, 0), ts) : Told Tok) else takeT 4 [44] ts) = .ok (t1, ts1) → ts1.length ≤ ts.length := by
      intro t1 ts1 h
      split at h
      · injection h with h; injection h with _ h; subst h; exact Nat.le_refl _
      · exact take_len h
    cases h1 : (if i = 0 then (.ok ((5, [], 0, 0), ts) : Told Tok) else takeT 4 [44] ts) with
    | error e => trivial
    | ok p =>
      obtain ⟨t1, ts1⟩ := p
      have := hb t1 ts1 h1
      simp only
      have h2 := hf (decide (k = 10) && decide (i = 0)) ts1
      cases h3 : f (decide (k = 10) && decide (i = 0)) ts1 with
      | error e => trivial
      | ok q =>
        obtain ⟨x, ts2⟩ := q
        rw [h3] at h2
        have h2 : size x + ts2.length ≤ ts1.length := h2
        simp only
        have h4 := ih (i + 1) ts2
        cases h5 : argsT f k (i + 1) m ts2 with
        | error e => trivial
        | ok u =>
          obtain ⟨l, ts3⟩ := u
          rw [h5] at h4
          simp only [sizes_cons] at h4 ⊢
          omega
theorem rest_len {k : Int} {ts r : List Tok} {q : Int × List UInt8} (h : restT k ts = .ok (q, r)) : r.length ≤ ts.length := by
  have two : ∀ (K : Int) (ts r : List Tok) (g : Tok → Int × List UInt8), (match takeT K [] ts with | .error e => (.error e : Told (Int × List UInt8)) | .ok (t, ts) => .ok (g t, ts)) = .ok (q, r) → r.length ≤ ts.length := by
    intro K ts r g h
    cases h1 : takeT K [] ts with
    | error e => rw [h1] at h; cases h
    | ok p =>
      obtain ⟨t, ts1⟩ := p
      rw [h1] at h
      injection h with h
      injection h with _ h
      subst h
      exact take_len h1
  have comma : ∀ (K : Int) (g : Tok → Int × List UInt8), (match takeT 4 [44] ts with | .error e => (.error e : Told (Int × List UInt8)) | .ok (_, ts) => (match takeT K [] ts with | .error e => .error e | .ok (t, ts) => .ok (g t, ts))) = .ok (q, r) → r.length ≤ ts.length := by
    intro K g h
    cases h1 : takeT 4 [44] ts with
    | error e => rw [h1] at h; cases h
    | ok p =>
      obtain ⟨t, ts1⟩ := p
      rw [h1] at h
      exact Nat.le_trans (two K ts1 r g h) (take_len h1)
  unfold restT at h
  split at h
  · split at h
    · exact two 1 ts r _ h
    · cases h
  · split at h
    · exact comma 3 _ h
    · split at h
      · exact comma 2 _ h
      · split at h
        · split at h
          · exact two 2 ts r _ h
          · cases h
        · injection h with h
          injection h with _ h
          subst h
          exact Nat.le_refl _
theorem kind_ne {c : Bool} {ts : List Tok} (h : kindT c (hdT ts) ≠ 0) : ts ≠ [] := by
  rintro rfl
  exact h rfl
theorem expr_sized : ∀ (d : Nat) (c : Bool) (ts : List Tok), Sized ts (exprT d c ts) := by
  intro d
  induction d with
  | zero => intro c ts; rw [exprT_deep]; trivial
  | succ d ih =>
    intro c ts
    by_cases h0 : kindT c (hdT ts) = 0
    · rw [exprT_none h0]; trivial
    · have hne := kind_ne h0
      have hl : ts.tail.length + 1 = ts.length := by
        cases ts with
        | nil => exact absurd rfl hne
        | cons t r => rfl
      by_cases h4 : kindT c (hdT ts) = 4
      · rw [exprT_money h4]; show size (.mk 4 _ [] []) + ts.tail.length ≤ ts.length; rw [size_mk, sizes_nil]; omega
      · by_cases h1 : kindT c (hdT ts) = 1 ∨ kindT c (hdT ts) = 2
        · rw [exprT_leaf rfl h1]; show size (.mk _ 0 [] []) + ts.tail.length ≤ ts.length; rw [size_mk, sizes_nil]; omega
        · rw [exprT_call rfl h0 h4 h1]
          unfold callT
          cases h2 : takeT 4 [40] ts.tail with
          | error e => trivial
          | ok p =>
            obtain ⟨t, ts1⟩ := p
            have l1 := take_len h2
            simp only
            have h3 := args_sized (exprT d) (kindT c (hdT ts)) ih (argsN (kindT c (hdT ts))).toNat 0 ts1
            cases h5 : argsT (exprT d) (kindT c (hdT ts)) 0 (argsN (kindT c (hdT ts))).toNat ts1 with
            | error e => trivial
            | ok q =>
              obtain ⟨l, ts2⟩ := q
              rw [h5] at h3
              simp only at h3 ⊢
              cases h6 : restT (kindT c (hdT ts)) ts2 with
              | error e => trivial
              | ok u =>
                obtain ⟨⟨n, nm⟩, ts3⟩ := u
                have l3 := rest_len h6
                simp only
                cases h7 : takeT 4 [41] ts3 with
                | error e => trivial
                | ok v =>
                  obtain ⟨t4, ts4⟩ := v
                  have l4 := take_len h7
                  show size (.mk _ n nm l) + ts4.length ≤ ts.length
                  rw [size_mk]
                  omega
theorem parse_size {s : List UInt8} {x : Ex} (h : parseS s = .ok x) : size x ≤ 2001 := by
  unfold parseS at h
  split at h
  · cases h
  · rename_i hl
    cases hx : lx 0 s with
    | error k => rw [hx] at h; cases h
    | ok ts =>
      rw [hx] at h
      obtain ⟨us, hu, _, _, hlen⟩ := lx_out _ s (Nat.le_refl _) 0 ts hx
      have hs := expr_sized 32 false ts
      have h : stratT ts = .ok x := h
      unfold stratT at h
      cases h1 : exprT 32 false ts with
      | error e => rw [h1] at h; cases h
      | ok p =>
        obtain ⟨y, r⟩ := p
        rw [h1] at h hs
        simp only at h
        have hs : size y + r.length ≤ ts.length := hs
        have : y = x := by
          cases h2 : takeT 5 [] r with
          | error e => rw [h2] at h; cases h
          | ok q => rw [h2] at h; injection h
        subst this
        rw [hu, List.length_append] at hs
        simp at hs
        omega
end Go.Proofs.Ytoajbbcjmalngaa
