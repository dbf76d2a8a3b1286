/- Tokens are short. No program in this text; What the landed package parse tells; The document's own readings of an expression: how many, how deep, which are the same; The document's own Same. -/
import Derived.Test.YtoajbbcjmalngaaZ03
import Derived.Test.YtoajbbcjmalngaaZ12
import Derived.Test.YtoajbbcjmalngaaZ21
import Derived.Test.YtoajbbcjmalngaaZ23
import Derived.Test.YtoajbbcjmalngaaZ11
namespace Go.Proofs.Ytoajbbcjmalngaa
open Go.RowKit Go.Lib
set_option linter.unusedVariables false
set_option linter.unusedSimpArgs false

theorem isWord_len {x : List UInt8} (h : isWord x = true) : x.length ≤ 6 := by
  have hm : ∀ y ∈ theWords, y.length ≤ 6 := by decide
  exact hm x (by simpa [isWord] using h)
theorem tok_short {x : List UInt8} {k n : Int} (h : Good x k n) : x.length ≤ 100 ∧ i64 k ∧ i64 n ∧ (k = 1 → x ≠ []) := by
  rcases h with ⟨c, rfl, _, rfl, rfl⟩ | ⟨hne, _, ht⟩
  · exact ⟨by simp, ⟨by decide, by decide⟩, ⟨by decide, by decide⟩, fun h => absurd h (by decide)⟩
  · refine ⟨?_, ?_, ?_, fun _ => hne⟩
    all_goals
      unfold tokOf at ht
      split at ht
      · rename_i hw
        injection ht with ht; injection ht with a b; subst a; subst b
        first
          | (rcases (by simpa using hw : isWord x = true ∨ isName x = true) with h | h
             · have := isWord_len h; omega
             · have := (name_parts h).2.2.1; omega)
          | exact ⟨by decide, by decide⟩
      · split at ht
        · rename_i hc
          injection ht with ht; injection ht with a b; subst a
          have hbd := cnt_bd x 100000
          first
            | (rcases Nat.lt_or_ge 13 x.length with h | h
               · rw [cnt_long h] at hc; omega
               · omega)
            | exact ⟨by decide, by decide⟩
            | exact ⟨by omega, by omega⟩
        · split at ht
          · rename_i a hp
            injection ht with ht; injection ht with a' b; subst a'
            have htx := txt_of_prs hp
            have hr := htx.1
            simp only [rt, Bool.and_eq_true, decide_eq_true_eq] at hr
            first
              | (have := txt_len a; rw [htx.2] at this; omega)
              | exact ⟨by decide, by decide⟩
              | exact ⟨by omega, by omega⟩
          · cases ht
end Go.Proofs.Ytoajbbcjmalngaa

namespace Go.Proofs.Ytoajbbcjmalngaa
open Go.RowKit Go.Lib
set_option linter.unusedVariables false
set_option linter.unusedSimpArgs false

theorem lx_fineP {s : List UInt8} {ts : List Tok} (h : lx 0 s = .ok ts) (hs : s.length ≤ 2000) : FineP ts := by
  have ho := lx_okP h
  obtain ⟨_, hp, us, hu⟩ := lx_okT h
  obtain ⟨vs, hv, hus, _, hlen⟩ := lx_out _ s (Nat.le_refl _) 0 ts h
  refine ⟨fun t ht => ?_, by rw [hv]; simp; omega, us, _, hu⟩
  have hpt := hp t ht
  have hpl : i64 t.2.2.2 := ⟨by omega, by omega⟩
  refine ⟨ho t ht, ?_⟩
  rw [hv] at ht
  rcases List.mem_append.1 ht with h1 | h1
  · have := tok_short (hus t h1).1
    exact ⟨this.2.1, this.2.2.1, hpl, this.1⟩
  · simp only [List.mem_cons, List.not_mem_nil, or_false] at h1
    subst h1
    exact ⟨show i64 5 from ⟨by decide, by decide⟩, show i64 0 from ⟨by decide, by decide⟩, hpl, Nat.zero_le _⟩
theorem plex_no {s : ByteArray} (hs : s.size ≤ 9223372036854775807) (cd pl : Int) (h : (2000 < s.data.toList.length ∧ cd = 60 ∧ pl = 2000) ∨ (s.data.toList.length ≤ 2000 ∧ ∃ k : Nat, lx 0 s.data.toList = .error k ∧ cd = 61 ∧ pl = k)) (w0 w : World) (hr : Rel w0 w) :
    Calls Try.prog 19 #[.string s] w fun e w' => ∃ (A : Option Addr) (c : Nat), e = .returned (.tuple #[.slice A 0 c, .int .i64 cd, .int .i64 pl]) ∧ Rel w0 w' := by
  refine (lex_any s hs w0 w hr).mono ?_
  rintro e w' ⟨ts, A, c, err, place, rfl, h1, h2, ho, _, _⟩
  have hd : Out s.data.toList [] cd pl := by
    rcases h with ⟨a, rfl, rfl⟩ | ⟨a, k, b, rfl, rfl⟩
    · exact .inl ⟨a, rfl, rfl, rfl⟩
    · exact .inr (.inr ⟨a, k, b, rfl, rfl, rfl⟩)
  obtain ⟨rfl, rfl, rfl⟩ := ho.det hd
  exact ⟨A, c, rfl, h1⟩
theorem plex_yes {s : ByteArray} (hs : s.size ≤ 9223372036854775807) (ts : List Tok) (h2 : s.data.toList.length ≤ 2000) (h : lx 0 s.data.toList = .ok ts) (w0 w : World) (hr : Rel w0 w) :
    Calls Try.prog 19 #[.string s] w fun e w' => ∃ (A : Option Addr) (c : Nat), e = .returned (.tuple #[.slice A ts.length c, .int .i64 0, .int .i64 0]) ∧ Rel w0 w' ∧ ToksAt w' A ts ∧ ts.length ≤ c ∧ c ≤ 9223372036854775807 := by
  refine (lex_any s hs w0 w hr).mono ?_
  rintro e w' ⟨ts', A, c, err, place, rfl, h1, h3, ho, k1, k2⟩
  obtain ⟨rfl, rfl, rfl⟩ := ho.det (.inr (.inl ⟨h2, h, rfl, rfl⟩))
  exact ⟨A, c, rfl, h1, h3, k1, k2⟩
def ParseOk : Prop := ∀ (s : ByteArray), s.size ≤ 9223372036854775807 → ∀ w0 w, Rel w0 w → Calls Try.prog 10 #[.string s] w (StrPost (parseS s.data.toList) w0 w.heap.size)
set_option maxRecDepth 100000 in
set_option maxHeartbeats 4000000 in
theorem parse_none (s : ByteArray) (hs : s.size ≤ 9223372036854775807) (cd pl : Int) (hcd : (cd != 0) = true) (h : (2000 < s.data.toList.length ∧ cd = 60 ∧ pl = 2000) ∨ (s.data.toList.length ≤ 2000 ∧ ∃ k : Nat, lx 0 s.data.toList = .error k ∧ cd = 61 ∧ pl = k)) (hp : parseS s.data.toList = .error (cd, pl)) (w0 w : World) (hr : Rel w0 w) :
    Calls Try.prog 10 #[.string s] w (StrPost (parseS s.data.toList) w0 w.heap.size) := by
  have hA := hr.self.alloc (.cells #[.int .i64 0, .int .i64 0, .string ⟨#[]⟩, .slice none 0 0] 30)
  have HZ := Lib.hid (Bk.new w 30 #[.int .i64 0, .int .i64 0, .string ⟨#[]⟩, .slice none 0 0])
  have HL := Lib.hid (plex_no hs cd pl h (w.alloc (.cells #[.int .i64 0, .int .i64 0, .string ⟨#[]⟩, .slice none 0 0] 30)) _ hA.self)
  have HA := Lib.hid (hr.trans hA)
  have HP := Lib.hid hp
  have h0w := hr.size
  clear hr hA h hp
  go_enter Try.func10, Try.ntmps10
  go_wp2_with (go_at_call 19; (with_reducible refine HL.out.mono ?_); rintro e w2 ⟨A, c, rfl, r2⟩; have R2 := Lib.hid r2; obtain ⟨⟨b0, b1, b2, b3⟩, u0, u1, u2, u3⟩ := (HZ.out.rel r2).four; clear r2)
  obtain ⟨⟨y0, y1, y2, y3⟩, _⟩ := ((HZ.out.rel R2.out).put4 (.int .i64 0) (.int .i64 0) (.string ⟨#[]⟩) (.slice none 0 0)).four
  have gp := put4_grown w2 w.heap.size (.int .i64 0) (.int .i64 0) (.string ⟨#[]⟩) (.slice none 0 0)
  have RW := (HA.out.trans R2.out).grown gp (fun k e => by cases e; exact h0w)
  refine bodyPost_ret (v := .tuple #[EV (0, 0, [], none, 0, 0), .int .i64 cd, .int .i64 pl]) (by simp [results, Try.results10, go_sem, y0, y1, y2, y3]; rfl) rfl (StrPost.no HP.out ⟨rfl, RW⟩)
set_option maxRecDepth 100000 in
set_option maxHeartbeats 4000000 in
theorem parse_some (s : ByteArray) (hs : s.size ≤ 9223372036854775807) (ts : List Tok) (h2 : s.data.toList.length ≤ 2000) (h : lx 0 s.data.toList = .ok ts) (w0 w : World) (hr : Rel w0 w) :
    Calls Try.prog 10 #[.string s] w (StrPost (parseS s.data.toList) w0 w.heap.size) := by
  have hA := hr.self.alloc (.cells #[.int .i64 0, .int .i64 0, .string ⟨#[]⟩, .slice none 0 0] 30)
  have HZ := Lib.hid (Bk.new w 30 #[.int .i64 0, .int .i64 0, .string ⟨#[]⟩, .slice none 0 0])
  have HL := Lib.hid (plex_yes hs ts h2 h (w.alloc (.cells #[.int .i64 0, .int .i64 0, .string ⟨#[]⟩, .slice none 0 0] 30)) _ hA.self)
  have HF := Lib.hid (lx_fineP h h2)
  have hp : parseS s.data.toList = stratT ts := by unfold parseS; rw [if_neg (by omega), h]
  have HA := Lib.hid (hr.trans hA)
  have h0w := hr.size
  rw [hp]
  clear hr hA h hp
  cases hst : stratT ts with
  | error E =>
    have HSt := Lib.hid hst
    go_enter Try.func10, Try.ntmps10
    go_wp2_with (first
      | (go_at_call 19; (with_reducible refine HL.out.mono ?_); rintro e w2 ⟨A, c, rfl, r2, t2, k1, k2⟩; have HC := Lib.hid (pstrat_any A c ts HF.out k1 k2 w2 w2 r2.self t2); have R2 := Lib.hid r2; clear r2 t2 k1 k2)
      | (go_at_call 20; (with_reducible refine HC.out.mono ?_); rintro e w3 h3; rw [HSt.out] at h3; obtain ⟨rfl, r3⟩ := h3; have R3 := Lib.hid r3; obtain ⟨⟨b0, b1, b2, b3⟩, u0, u1, u2, u3⟩ := (HZ.out.rel (R2.out.trans r3)).four; clear r3))
    obtain ⟨⟨y0, y1, y2, y3⟩, _⟩ := ((HZ.out.rel (R2.out.trans R3.out)).put4 (.int .i64 0) (.int .i64 0) (.string (B [])) (.slice none 0 0)).four
    have gp := put4_grown w3 w.heap.size (.int .i64 0) (.int .i64 0) (.string (B [])) (.slice none 0 0)
    have RW := (HA.out.trans (R2.out.trans R3.out)).grown gp (fun k e => by cases e; exact h0w)
    refine bodyPost_ret (v := .tuple #[EV (0, 0, [], none, 0, 0), .int .i64 E.1, .int .i64 E.2]) (by simp [results, Try.results10, go_sem, y0, y1, y2, y3]) rfl (StrPost.no rfl ⟨rfl, RW⟩)
  | ok x =>
    have HSt := Lib.hid hst
    go_enter Try.func10, Try.ntmps10
    go_wp2_with (first
      | (go_at_call 19; (with_reducible refine HL.out.mono ?_); rintro e w2 ⟨A, c, rfl, r2, t2, k1, k2⟩; have HC := Lib.hid (pstrat_any A c ts HF.out k1 k2 w2 w2 r2.self t2); have R2 := Lib.hid r2; clear r2 t2 k1 k2)
      | (go_at_call 20; (with_reducible refine HC.out.mono ?_); rintro e w3 h3; rw [HSt.out] at h3; obtain ⟨v, rfl, ex, r3⟩ := h3; have HEx := Lib.hid ex; have R3 := Lib.hid r3; obtain ⟨⟨b0, b1, b2, b3⟩, u0, u1, u2, u3⟩ := (HZ.out.rel (R2.out.trans r3)).four; clear r3 ex))
    obtain ⟨⟨y0, y1, y2, y3⟩, _⟩ := ((HZ.out.rel (R2.out.trans R3.out)).put4 (.int .i64 v.1) (.int .i64 v.2.1) (.string (B v.2.2.1)) (.slice v.2.2.2.1 v.2.2.2.2.1 v.2.2.2.2.2)).four
    have gp := put4_grown w3 w.heap.size (.int .i64 v.1) (.int .i64 v.2.1) (.string (B v.2.2.1)) (.slice v.2.2.2.1 v.2.2.2.2.1 v.2.2.2.2.2)
    have RW := (HA.out.trans (R2.out.trans R3.out)).grown gp (fun k e => by cases e; exact h0w)
    refine bodyPost_ret (v := .tuple #[EV v, .int .i64 0, .int .i64 0]) (by simp [results, Try.results10, go_sem, y0, y1, y2, y3]) rfl (StrPost.yes rfl ⟨v, rfl, HEx.out.grown gp (fun k hk => by have := R2.out.size; rw [World.size_alloc] at this; exact ⟨by omega, fun e => by injection e; omega⟩), RW⟩)
theorem parseOk : ParseOk := fun s hs w0 w hr => by
  by_cases hl : 2000 < s.data.toList.length
  · exact parse_none s hs 60 2000 rfl (.inl ⟨hl, rfl, rfl⟩) (by unfold parseS; rw [if_pos hl]) w0 w hr
  · cases hx : lx 0 s.data.toList with
    | error k => exact parse_none s hs 61 k rfl (.inr ⟨by omega, k, hx, rfl, rfl⟩) (by unfold parseS; rw [if_neg hl, hx]) w0 w hr
    | ok ts => exact parse_some s hs ts (by omega) hx w0 w hr
end Go.Proofs.Ytoajbbcjmalngaa

namespace Go.Proofs.Ytoajbbcjmalngaa
open Go.RowKit Go.Lib
set_option linter.unusedVariables false
set_option linter.unusedSimpArgs false

theorem rcond_any (k : Int) (w : World) : Calls Try.prog 25 #[.int .i64 k] w fun e w' => e = .returned (.bool (isCond k)) ∧ w = w' := by
  cases h1 : (k == 11) <;> cases h2 : (k == 12)
  all_goals
    have HF := Lib.hid (show isCond k = (_ || _) from rfl)
    rw [h1, h2] at HF
    go_enter Try.func25, Try.ntmps25
    go_wp2_with (fail)
    go_ret
    exact ⟨ret_bool HF.out.symm, rfl⟩
theorem rmost_any (k : Int) (w : World) : Calls Try.prog 42 #[.int .i64 k] w fun e w' => e = .returned (.int .i64 (mostN k)) ∧ w = w' := by
  rcases kinds k with h | ⟨k1, k2, k3, k4, k5, k6, k7, k8, k9, k10, k11, k12, _, ha, _⟩
  · rcases h with rfl | rfl | rfl | rfl | rfl | rfl | rfl | rfl | rfl | rfl | rfl | rfl
    all_goals
      go_enter Try.func42, Try.ntmps42
      go_wp2_with (fail)
      go_ret
      exact ⟨rfl, rfl⟩
  · have HA := Lib.hid ha
    clear ha
    go_enter Try.func42, Try.ntmps42
    go_wp2_with (fail)
    go_ret
    exact ⟨ret_int HA.out.symm, rfl⟩
theorem sizes_take (l : List Ex) (j : Nat) (h : j < l.length) : sizes (l.take (j + 1)) = sizes (l.take j) + size l[j] := by
  rw [List.take_succ_eq_append_getElem h, sizes_append, sizes_cons, sizes_nil]; omega
theorem deeps_take (l : List Ex) (j : Nat) (h : j < l.length) : deeps (l.take (j + 1)) = max (deeps (l.take j)) (deep l[j]) := by
  rw [List.take_succ_eq_append_getElem h, deeps_append, deeps_cons, deeps_nil]; omega
/-- An argument, in the world of a round. -/
theorem ExAt.arg {S : Nat → Prop} {w wr : World} {A : Option Addr} {es : List El} {l : List Ex} (hrow : RowE S w A es) (hsub : ∀ i (h : i < es.length) (h' : i < l.length), ExAt S w es[i] l[i]) (hl : es.length = l.length) (hr : Rel w wr) (j : Nat) (hj : j < l.length) :
    ∃ (g off : Nat) (k n : Int) (nm : List UInt8) (A' : Option Addr) (m c : Nat), A = some ⟨g, off, none⟩ ∧ wr.cell? ⟨g, off + j * 4, none⟩ = some (.int .i64 k) ∧ wr.cell? ⟨g, off + j * 4 + 1, none⟩ = some (.int .i64 n) ∧ wr.cell? ⟨g, off + j * 4 + 2, none⟩ = some (.string (B nm)) ∧ wr.cell? ⟨g, off + j * 4 + 3, none⟩ = some (.slice A' m c) ∧ ExAt S wr (k, n, nm, A', m, c) l[j] := by
  obtain ⟨g, off, e, hl2, _, h0, h1, h2, h3⟩ := hrow j (by omega)
  have hs := (hsub j (by omega) hj).rel hr
  generalize es[j] = e0 at *
  obtain ⟨k, n, nm, A', m, c⟩ := e0
  have hk : ∀ i, wr.cell? ⟨g, i, none⟩ = w.cell? ⟨g, i, none⟩ := fun i => hr.2.cell (p := ⟨g, i, none⟩) hl2
  exact ⟨g, off, k, n, nm, A', m, c, e, by rw [hk]; exact h0, by rw [hk]; exact h1, by rw [hk]; exact h2, by rw [hk]; exact h3, hs⟩
theorem fine_arg {l : List Ex} {P : Ex → Prop} (h : ∀ x ∈ l, P x) (j : Nat) (hj : j < l.length) : P l[j] := h _ (List.getElem_mem hj)
set_option maxRecDepth 100000 in
set_option maxHeartbeats 2000000 in
theorem rsize_any : ∀ (x : Ex) (S : Nat → Prop) (e : El) (w0 w : World), Rel w0 w → ExAt S w e x → size x ≤ 1000000 →
    Calls Try.prog 26 #[EV e] w fun r w' => r = .returned (.int .i64 (size x : Int)) ∧ Rel w0 w' := ex_ind fun k n nm l ih S e w0 w hr h hz => by
  obtain ⟨A, c, es, rfl, hk, hn, hm, hl, hrow, hsub⟩ := h.open
  have HRow := Lib.hid hrow
  have HSub := Lib.hid hsub
  have HIH := Lib.hid (fun j hj => ih _ (List.getElem_mem (l := l) (n := j) hj))
  have HR := Lib.hid hr
  rw [size_mk] at hz
  have HZ := Lib.hid (size_mk k n nm l)
  have hll : l.length ≤ 1000000 := by
    have : ∀ l : List Ex, l.length ≤ sizes l := fun l => by
      induction l with
      | nil => simp
      | cons x t ih => rw [sizes_cons, List.length_cons]; have := size_pos x; omega
    have := this l; omega
  have HB := Lib.hid (Bk.new w 30 #[.int .i64 k, .int .i64 n, .string (B nm), .slice A l.length c])
  have HA := Lib.hid (hr.self.alloc (.cells #[.int .i64 k, .int .i64 n, .string (B nm), .slice A l.length c] 30))
  obtain ⟨W, hW⟩ : ∃ W, w.alloc (.cells #[.int .i64 k, .int .i64 n, .string (B nm), .slice A l.length c] 30) = W := ⟨_, rfl⟩
  rw [hW] at HB HA
  have HW := Lib.hid hW
  clear hrow hsub ih h hW
  go_enter Try.func26, Try.ntmps26
  go_wp2_with (fail)
  rw [HW.out]
  go_loopw [3, 4] (fun n i wr => ∃ j : Nat, j ≤ l.length ∧ i = .int .i64 (j : Int) ∧ Hid (n = .int .i64 ((1 + sizes (l.take j) : Nat) : Int)) ∧ Rel W wr) (fun _ i _ => l.length - (RowKit.intOf i).toNat)
  case atStart => exact ⟨0, by omega, rfl, Lib.hid (by simp [sizes_nil]), (HR.out.trans HA.out).self⟩
  case round =>
    obtain ⟨j, hj, rfl, HN, hRw⟩ := hrel
    have hb := HB.out.rel hRw
    obtain ⟨⟨c0, c1, c2, c3⟩, _⟩ := hb.four
    obtain ⟨q, hq⟩ : ∃ q : Nat, 1 + sizes (l.take j) = q := ⟨_, rfl⟩
    have hn' := HN.out
    rw [hq] at hn'
    subst hn'
    have HQ := Lib.hid hq
    have HRw := Lib.hid hRw
    clear hb hq
    by_cases hlt : j < l.length
    · obtain ⟨g, off, k', n', nm', A', m', c', hA, a0, a1, a2, a3, ha⟩ := ExAt.arg HRow.out HSub.out hl (HA.out.trans hRw) j hlt
      subst hA
      have hsz : size l[j] + q ≤ 1000000 := by
        have e1 := sizes_take l j hlt
        have e2 : sizes (l.take (j + 1)) ≤ sizes l := by
          have : sizes l = sizes (l.take (j + 1)) + sizes (l.drop (j + 1)) := by rw [← sizes_append, List.take_append_drop]
          omega
        have := HQ.out; omega
      obtain ⟨sj, hsj⟩ : ∃ s, size l[j] = s := ⟨_, rfl⟩
      have HNx := Lib.hid (show 1 + sizes (l.take (j + 1)) = q + sj by rw [sizes_take l j hlt, hsj]; have := HQ.out; omega)
      rw [hsj] at hsz
      have HC := Lib.hid (HIH.out j hlt S (k', n', nm', A', m', c') wr wr ((HR.out.trans HA.out).trans hRw).self ha (by rw [hsj]; omega))
      rw [hsj] at HC
      clear ha hsj
      go_wp2_with (go_at_call 26; (with_reducible refine HC.out.mono ?_); rintro e w2 ⟨rfl, h2⟩)
      go_roundw
      case rel => exact ⟨j + 1, by omega, by go_num, Lib.hid (by rw [HNx.out]; go_num), HRw.out.trans h2⟩
      case measure => simp [RowKit.intOf]; omega
    · obtain rfl : j = l.length := by omega
      have HF := Lib.hid (show size (.mk k n nm l) = q by have := HQ.out; rw [List.take_length] at this; rw [size_mk, this])
      go_wp2_with (fail)
      go_ret
      exact ⟨ret_int (by rw [HF.out]), (HR.out.trans HA.out).trans HRw.out⟩
end Go.Proofs.Ytoajbbcjmalngaa

namespace Go.Proofs.Ytoajbbcjmalngaa
open Go.RowKit Go.Lib
set_option linter.unusedVariables false
set_option linter.unusedSimpArgs false

theorem str_bne (a b : List UInt8) : ((B a).toList != (B b).toList) = !(decide (a = b)) := by
  rw [B_toList, B_toList]
  by_cases h : a = b <;> simp [h]
theorem lists_eq {l l' : List Ex} (hl : l.length = l'.length) (h : ∀ i (h : i < l.length) (h' : i < l'.length), l[i] = l'[i]) : l = l' := List.ext_getElem hl h
set_option maxRecDepth 100000 in
set_option maxHeartbeats 4000000 in
theorem rsame_any : ∀ (x y : Ex) (S S' : Nat → Prop) (e e' : El) (b : Bool) (w0 w : World), Rel w0 w → ExAt S w e x → ExAt S' w e' y → size x ≤ 1000000 → size y ≤ 1000000 → Hid (b = true ↔ x = y) →
    Calls Try.prog 12 #[EV e, EV e'] w fun r w' => r = .returned (.bool b) ∧ Rel w0 w' := ex_ind fun k n nm l ih y S S' e e' b w0 w hr h h' hz hz' hb => by
  cases y with
  | mk k' n' nm' l' =>
    obtain ⟨A, c, es, rfl, hk, hn, hm, hl, hrow, hsub⟩ := h.open
    obtain ⟨A', c', es', rfl, hk', hn', hm', hl', hrow', hsub'⟩ := h'.open
    have len_le : ∀ l : List Ex, l.length ≤ sizes l := fun l => by
      induction l with
      | nil => simp
      | cons x t ih => rw [sizes_cons, List.length_cons]; have := size_pos x; omega
    rw [size_mk] at hz hz'
    have hll := len_le l
    have hll' := len_le l'
    have HRow := Lib.hid hrow
    have HSub := Lib.hid hsub
    have HRow' := Lib.hid hrow'
    have HSub' := Lib.hid hsub'
    have HIH := Lib.hid (fun j hj => ih _ (List.getElem_mem (l := l) (n := j) hj))
    have HR := Lib.hid hr
    have HB := Lib.hid ((Bk.new w 30 #[.int .i64 k, .int .i64 n, .string (B nm), .slice A l.length c]).alloc (.cells #[.int .i64 k', .int .i64 n', .string (B nm'), .slice A' l'.length c'] 30))
    have HB' := Lib.hid (Bk.snd w #[.int .i64 k, .int .i64 n, .string (B nm), .slice A l.length c] #[.int .i64 k', .int .i64 n', .string (B nm'), .slice A' l'.length c'] 30 30)
    have HA := Lib.hid ((hr.self.alloc (.cells #[.int .i64 k, .int .i64 n, .string (B nm), .slice A l.length c] 30)).alloc (.cells #[.int .i64 k', .int .i64 n', .string (B nm'), .slice A' l'.length c'] 30))
    have he := str_bne nm nm'
    have hno : (k ≠ k' ∨ n ≠ n' ∨ nm ≠ nm' ∨ l.length ≠ l'.length) → b = false := fun hd => by
      cases b with
      | false => rfl
      | true =>
        have := hb.out.1 rfl
        injection this with a1 a2 a3 a4
        rcases hd with h | h | h | h
        · exact absurd a1 h
        · exact absurd a2 h
        · exact absurd a3 h
        · exact absurd (by rw [a4]) h
    have HNo := Lib.hid hno
    clear hrow hsub hrow' hsub' ih h h' hno len_le
    by_cases d1 : k = k'
    · by_cases d2 : n = n'
      · by_cases d3 : nm = nm'
        · by_cases d4 : l.length = l'.length
          · subst d1; subst d2; subst d3
            have q1 : (k != k) = false := by simp
            have q2 : (n != n) = false := by simp
            have q3 : ((B nm).toList != (B nm).toList) = false := by simp
            have q4 : ((l.length : Int) != (l'.length : Int)) = false := by simp [d4]
            have HEq := Lib.hid (show (b = true ↔ l = l') by
              rw [hb.out]
              exact ⟨fun h => by injection h, fun h => by rw [h]⟩)
            clear he
            have D4 := Lib.hid d4
            clear d4
            go_enter Try.func12, Try.ntmps12
            go_wp2_with (fail)
            obtain ⟨W, hW⟩ : ∃ W, (w.alloc (.cells #[.int .i64 k, .int .i64 n, .string (B nm), .slice A l.length c] 30)).alloc (.cells #[.int .i64 k, .int .i64 n, .string (B nm), .slice A' l'.length c'] 30) = W := ⟨_, rfl⟩
            rw [hW] at HB HB' HA ⊢
            clear hW
            go_loopw [5] (fun i wr => ∃ j : Nat, j ≤ l.length ∧ i = .int .i64 (j : Int) ∧ Hid (∀ i (h : i < l.length) (h' : i < l'.length), i < j → l[i] = l'[i]) ∧ Rel W wr) (fun i _ => l.length - (RowKit.intOf i).toNat)
            case atStart => exact ⟨0, by omega, rfl, Lib.hid (fun i h h' hi => absurd hi (by omega)), (HR.out.trans HA.out).self⟩
            case round =>
              obtain ⟨j, hj, rfl, HJ, hRw⟩ := hrel
              obtain ⟨⟨c0, c1, c2, c3⟩, _⟩ := (HB.out.rel hRw).four
              obtain ⟨⟨b0, b1, b2, b3⟩, _⟩ := (HB'.out.rel hRw).four
              have HRw := Lib.hid hRw
              by_cases hlt : j < l.length
              · have hlt' : j < l'.length := by have := D4.out; omega
                obtain ⟨g, off, k1, n1, nm1, A1, m1, c1', hA, a0, a1, a2, a3, ha⟩ := ExAt.arg HRow.out HSub.out hl (HA.out.trans hRw) j hlt
                obtain ⟨g', off', k2, n2, nm2, A2, m2, c2', hA', a0', a1', a2', a3', ha'⟩ := ExAt.arg HRow'.out HSub'.out hl' (HA.out.trans hRw) j hlt'
                subst hA; subst hA'
                have hs1 := size_mem (List.getElem_mem (l := l) (n := j) hlt)
                have hs2 := size_mem (List.getElem_mem (l := l') (n := j) hlt')
                by_cases he : l[j] = l'[j]
                · have HC := Lib.hid (HIH.out j hlt _ S S' (k1, n1, nm1, A1, m1, c1') (k2, n2, nm2, A2, m2, c2') true wr.drew wr.drew ((HR.out.trans HA.out).trans hRw).drew.self (ha.rel ((HR.out.trans HA.out).trans hRw).self.drew) (ha'.rel ((HR.out.trans HA.out).trans hRw).self.drew) (by omega) (by omega) (Lib.hid ⟨fun _ => he, fun _ => rfl⟩))
                  have HNx := Lib.hid (show ∀ i (h : i < l.length) (h' : i < l'.length), i < j + 1 → l[i] = l'[i] from fun i h h' hi => by
                    rcases Nat.lt_or_ge i j with q | q
                    · exact HJ.out i h h' q
                    · obtain rfl : i = j := by omega
                      exact he)
                  clear ha ha' he
                  go_wp2_with (fail)
                  go_still_tail 10, (by kernel_rfl)
                  change wpList _ _ _ _ _ wr.drew
                  go_wp2_with (go_at_call 12; (with_reducible refine HC.out.mono ?_); rintro e w2 ⟨rfl, h2⟩)
                  go_roundw
                  case rel => exact ⟨j + 1, by omega, by go_num, HNx, HRw.out.drew.trans h2⟩
                  case measure => simp [RowKit.intOf]; omega
                · have HC := Lib.hid (HIH.out j hlt _ S S' (k1, n1, nm1, A1, m1, c1') (k2, n2, nm2, A2, m2, c2') false wr.drew wr.drew ((HR.out.trans HA.out).trans hRw).drew.self (ha.rel ((HR.out.trans HA.out).trans hRw).self.drew) (ha'.rel ((HR.out.trans HA.out).trans hRw).self.drew) (by omega) (by omega) (Lib.hid ⟨(fun h => by cases h), fun h => absurd h he⟩))
                  have hbf : b = false := by
                    cases b with
                    | false => rfl
                    | true =>
                      have e := HEq.out.1 rfl
                      subst e
                      exact absurd rfl he
                  subst hbf
                  clear ha ha' he
                  go_wp2_with (fail)
                  go_still_tail 10, (by kernel_rfl)
                  change wpList _ _ _ _ _ wr.drew
                  go_wp2_with (go_at_call 12; (with_reducible refine HC.out.mono ?_); rintro e w2 ⟨rfl, h2⟩)
                  go_ret
                  exact ⟨rfl, ((HR.out.trans HA.out).trans HRw.out).drew.trans h2⟩
              · obtain rfl : j = l.length := by omega
                have hbt : b = true := HEq.out.2 (lists_eq D4.out fun i h h' => HJ.out i h h' h)
                subst hbt
                go_wp2_with (fail)
                go_ret
                exact ⟨rfl, (HR.out.trans HA.out).trans HRw.out⟩
          · subst d1; subst d2; subst d3
            have q1 : (k != k) = false := by simp
            have q2 : (n != n) = false := by simp
            have q3 : ((B nm).toList != (B nm).toList) = false := by simp
            have q4 : ((l.length : Int) != (l'.length : Int)) = true := by simp; omega
            have hbf := HNo.out (.inr (.inr (.inr d4)))
            subst hbf
            clear he
            go_enter Try.func12, Try.ntmps12
            go_wp2_with (fail)
            go_ret
            exact ⟨rfl, HR.out.trans HA.out⟩
        · subst d1; subst d2
          have q1 : (k != k) = false := by simp
          have q2 : (n != n) = false := by simp
          have q3 : ((B nm).toList != (B nm').toList) = true := by rw [he]; simp [d3]
          have q3' : ((B nm).toList == (B nm').toList) = false := by rw [B_toList, B_toList]; simpa using d3
          have hbf := HNo.out (.inr (.inr (.inl d3)))
          subst hbf
          clear he
          go_enter Try.func12, Try.ntmps12
          go_wp2_with (fail)
          go_ret
          exact ⟨rfl, HR.out.trans HA.out⟩
      · subst d1
        have q1 : (k != k) = false := by simp
        have q2 : (n != n') = true := by simpa using d2
        have hbf := HNo.out (.inr (.inl d2))
        subst hbf
        clear he
        go_enter Try.func12, Try.ntmps12
        go_wp2_with (fail)
        go_ret
        exact ⟨rfl, HR.out.trans HA.out⟩
    · have q1 : (k != k') = true := by simpa using d1
      have hbf := HNo.out (.inl d1)
      subst hbf
      go_enter Try.func12, Try.ntmps12
      go_wp2_with (fail)
      go_ret
      exact ⟨rfl, HR.out.trans HA.out⟩
end Go.Proofs.Ytoajbbcjmalngaa
