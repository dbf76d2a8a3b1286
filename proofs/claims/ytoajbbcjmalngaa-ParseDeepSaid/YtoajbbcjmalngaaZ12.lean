/- What is scanned: the document's own Lex. -/
import Derived.Test.YtoajbbcjmalngaaZ11
namespace Go.Proofs.Ytoajbbcjmalngaa
open Go.RowKit Go.Lib
set_option linter.unusedVariables false
set_option linter.unusedSimpArgs false

/-- What Lex tells of a text: tokens, an error, a place. -/
def Out (l : List UInt8) (ts : List Tok) (err place : Int) : Prop :=
  (2000 < l.length ∧ ts = [] ∧ err = 60 ∧ place = 2000) ∨ (l.length ≤ 2000 ∧ lx 0 l = .ok ts ∧ err = 0 ∧ place = 0) ∨ (l.length ≤ 2000 ∧ ∃ k : Nat, lx 0 l = .error k ∧ ts = [] ∧ err = 61 ∧ place = k)
def LexPost (l : List UInt8) (w0 : World) (e : Ending) (w' : World) : Prop :=
  ∃ (ts : List Tok) (A : Option Addr) (c : Nat) (err place : Int), e = .returned (.tuple #[.slice A ts.length c, .int .i64 err, .int .i64 place]) ∧ Rel w0 w' ∧ ToksAt w' A ts ∧ Out l ts err place
theorem Out.det {l : List UInt8} {ts ts' : List Tok} {e e' p p' : Int} (h : Out l ts e p) (h' : Out l ts' e' p') : ts = ts' ∧ e = e' ∧ p = p' := by
  rcases h with ⟨a, rfl, rfl, rfl⟩ | ⟨a, b, rfl, rfl⟩ | ⟨a, k, b, rfl, rfl, rfl⟩ <;> rcases h' with ⟨a', rfl, rfl, rfl⟩ | ⟨a', b', rfl, rfl⟩ | ⟨a', k', b', rfl, rfl, rfl⟩
  · exact ⟨rfl, rfl, rfl⟩
  · omega
  · omega
  · omega
  · rw [b] at b'; injection b' with b'; exact ⟨b', rfl, rfl⟩
  · rw [b] at b'; cases b'
  · omega
  · rw [b] at b'; cases b'
  · rw [b] at b'; injection b' with b'; subst b'; exact ⟨rfl, rfl, rfl⟩
theorem B_cut (s : ByteArray) (i j : Nat) : s.extract i j = B ((s.data.toList.drop i).take (j - i)) := by
  apply ByteArray.ext
  apply Array.ext'
  simp [B, ByteArray.data_extract, List.extract_eq_take_drop]
theorem run_at (s : ByteArray) (p : Nat) (hp : p ≤ s.size) : ∃ m, p + m ≤ s.size ∧ (∀ j (h : p + j < s.size), j < m → isPt (s[p + j]'h) = true) ∧ (∀ h : p + m < s.size, isPt (s[p + m]'h) = false) ∧
    s.extract p (p + m) = B ((s.data.toList.drop p).takeWhile isPt) ∧ ((s.data.toList.drop p).takeWhile isPt).length = m ∧ (s.data.toList.drop p).dropWhile isPt = s.data.toList.drop (p + m) := by
  have el : s.data.toList.length = s.size := by simp
  obtain ⟨x, hx⟩ : ∃ x, (s.data.toList.drop p).takeWhile isPt = x := ⟨_, rfl⟩
  obtain ⟨r, hr⟩ : ∃ r, (s.data.toList.drop p).dropWhile isPt = r := ⟨_, rfl⟩
  have hL : s.data.toList.drop p = x ++ r := by rw [← hx, ← hr]; exact (List.takeWhile_append_dropWhile).symm
  have hlen : x.length + r.length = s.size - p := by rw [← List.length_append, ← hL, List.length_drop, el]
  have hat : ∀ j (h : p + j < s.size), (x ++ r)[j]? = some (s[p + j]'h) := fun j h => by
    rw [← hL, List.getElem?_drop, List.getElem?_eq_getElem (by omega)]; rfl
  have hall : x.all isPt = true := by rw [← hx]; exact all_run _
  refine ⟨x.length, by omega, ?_, ?_, ?_, by rw [hx], ?_⟩
  · intro j h hj
    have := hat j h
    rw [List.getElem?_append_left hj, List.getElem?_eq_getElem hj] at this
    rw [← Option.some.inj this]
    exact List.all_eq_true.1 hall _ (List.getElem_mem hj)
  · intro h
    have := hat x.length h
    rw [List.getElem?_append_right (Nat.le_refl _), Nat.sub_self] at this
    cases r with
    | nil => simp at this
    | cons d u =>
      simp at this
      rw [← this]
      have hd := List.head?_dropWhile_not isPt (s.data.toList.drop p)
      rw [hr] at hd
      simpa using hd
  · rw [B_cut, hx, hL, show p + x.length - p = x.length by omega, List.take_left]
  · rw [hr, ← List.drop_drop, hL, List.drop_left]
theorem TokOwn.row {w : World} {base : Nat} {v : Value} {ts : List Tok} (h : TokOwn w base v ts) : w.ownsRow base 56 4 v ts.length (cellsOf ts) := h
theorem drop_cons (s : ByteArray) (p : Nat) (h : p < s.size) : s.data.toList.drop p = (s[p]'h) :: s.data.toList.drop (p + 1) := by
  have el : s.data.toList.length = s.size := by simp
  rw [List.drop_eq_getElem_cons (by omega)]; rfl
theorem cut_one (s : ByteArray) (p : Nat) (h : p < s.size) : s.extract p (p + 1) = B [s[p]'h] := by
  rw [B_cut, drop_cons s p h, show p + 1 - p = 1 by omega]; rfl
/-- How far a scan is: at p, behind these tokens. -/
def At (l : List UInt8) (p : Nat) (ts : List Tok) : Prop := lx 0 l = pre ts (lx p (l.drop p)) ∧ ts.length ≤ p
theorem At.start (l : List UInt8) : At l 0 [] := ⟨by rw [pre_nil]; rfl, by simp⟩
theorem At.blank {s : ByteArray} {p : Nat} {ts : List Tok} (h : At s.data.toList p ts) (hp : p < s.size) (hb : isBl (s[p]'hp) = true) : At s.data.toList (p + 1) ts :=
  ⟨by rw [h.1, drop_cons s p hp, lx_blank _ _ _ hb], by have := h.2; omega⟩
theorem At.sign {s : ByteArray} {p : Nat} {ts : List Tok} (h : At s.data.toList p ts) (hp : p < s.size) (hb : isSg (s[p]'hp) = true) : At s.data.toList (p + 1) (ts ++ [(4, [s[p]'hp], 0, (p : Int))]) :=
  ⟨by rw [h.1, drop_cons s p hp, lx_sign _ _ _ (sg_not hb).1 hb, pre_pre], by have := h.2; simp; omega⟩
theorem At.tok {s : ByteArray} {p m : Nat} {ts : List Tok} {x : List UInt8} {k n : Int} (h : At s.data.toList p ts) (hp : p < s.size) (hb : isBl (s[p]'hp) = false) (hg : isSg (s[p]'hp) = false)
    (hx : (s.data.toList.drop p).takeWhile isPt = x) (hm : x.length = m) (hd : (s.data.toList.drop p).dropWhile isPt = s.data.toList.drop (p + m)) (ht : tokOf x = some (k, n)) : At s.data.toList (p + m) (ts ++ [(k, x, n, (p : Int))]) := by
  have hm1 : 1 ≤ m := by
    have := tokOf_ne ht
    rcases x with _ | ⟨a, b⟩
    · exact absurd rfl this
    · simp at hm; omega
  refine ⟨?_, by have := h.2; simp; omega⟩
  rw [h.1]
  have e := drop_cons s p hp
  rw [e] at hx hd
  rw [e, lx_tok _ _ _ k n hb hg (by rw [hx]; exact ht), hx, hd, hm, pre_pre]
theorem At.bad {s : ByteArray} {p : Nat} {ts : List Tok} {x : List UInt8} (h : At s.data.toList p ts) (hp : p < s.size) (hb : isBl (s[p]'hp) = false) (hg : isSg (s[p]'hp) = false)
    (hx : (s.data.toList.drop p).takeWhile isPt = x) (ht : tokOf x = none) : lx 0 s.data.toList = .error p := by
  rw [h.1]
  have e := drop_cons s p hp
  rw [e] at hx
  rw [e, lx_bad _ _ _ hb hg (by rw [hx]; exact ht)]; rfl
theorem At.done {s : ByteArray} {ts : List Tok} (h : At s.data.toList s.size ts) : lx 0 s.data.toList = .ok (ts ++ [(5, [], 0, (s.size : Int))]) := by
  have el : s.data.toList.length = s.size := by simp
  rw [h.1, List.drop_of_length_le (by omega), lx_nil]; rfl
theorem TokPost.cases {l : List UInt8} {p : Int} {e : Ending} (h : TokPost l p e) : ∃ (t : Tok) (b : Bool), e = .returned (.tuple #[TK t, .bool b]) ∧ (b = true → ∃ k n, tokOf l = some (k, n) ∧ t = (k, l, n, p)) ∧ (b = false → tokOf l = none) := by
  rcases h with ⟨k, n, h, rfl⟩ | ⟨h, t, rfl⟩
  · exact ⟨_, true, rfl, (fun _ => ⟨k, n, h, rfl⟩), (fun h => by cases h)⟩
  · exact ⟨t, false, rfl, (fun h => by cases h), fun _ => h⟩
theorem run_to (s : ByteArray) (p : Nat) (hp : p ≤ s.size) : ∃ (e : Nat) (x : List UInt8), p ≤ e ∧ e ≤ s.size ∧ (∀ q (h : q < s.size), p ≤ q → q < e → isPt (s[q]'h) = true) ∧ (∀ h : e < s.size, isPt (s[e]'h) = false) ∧
    s.extract p e = B x ∧ (s.data.toList.drop p).takeWhile isPt = x ∧ p + x.length = e ∧ (s.data.toList.drop p).dropWhile isPt = s.data.toList.drop e := by
  obtain ⟨m, h1, h2, h3, h4, h5, h6⟩ := run_at s p hp
  refine ⟨p + m, _, by omega, h1, fun q h ha hb => ?_, h3, h4, rfl, by rw [h5], h6⟩
  have := h2 (q - p) (by omega) (by omega)
  simp only [show p + (q - p) = q by omega] at this
  exact this
theorem pt_ways {c : UInt8} (h : isPt c = true) : isL c = true ∨ (isL c = false ∧ isD c = true) ∨ (isL c = false ∧ isD c = false ∧ ((c.toNat : Int) == 46) = true) := by
  cases hl : isL c
  · cases hd : isD c
    · have : c = 46 := by simpa [isPt, hl, hd] using h
      subst this
      exact .inr (.inr ⟨rfl, rfl, rfl⟩)
    · exact .inr (.inl ⟨rfl, rfl⟩)
  · exact .inl rfl
theorem pt_none {c : UInt8} (h : isPt c = false) : isL c = false ∧ isD c = false ∧ ((c.toNat : Int) == 46) = false := by
  simp only [isPt, Bool.or_eq_false_iff] at h
  refine ⟨h.1.1, h.1.2, ?_⟩
  simp only [beq_eq_false_iff_ne, ne_eq] at h ⊢
  intro e
  exact h.2 (UInt8.toNat_inj.1 (by rw [show (46 : UInt8).toNat = 46 from rfl]; omega))
theorem byte_eq {c d : UInt8} (n : Int) (hd : (d.toNat : Int) = n) : ((c.toNat : Int) == n) = (c == d) := by
  apply Bool.eq_iff_iff.2
  simp only [beq_iff_eq]
  constructor
  · intro e; exact UInt8.toNat_inj.1 (by omega)
  · rintro rfl; exact hd
theorem bl_bytes (c : UInt8) : isBl c = (((c.toNat : Int) == 32) || ((c.toNat : Int) == 10)) := by
  rw [byte_eq (d := 32) 32 rfl, byte_eq (d := 10) 10 rfl]; rfl
theorem sg_bytes (c : UInt8) : isSg c = (((c.toNat : Int) == 40) || ((c.toNat : Int) == 41) || ((c.toNat : Int) == 44)) := by
  rw [byte_eq (d := 40) 40 rfl, byte_eq (d := 41) 41 rfl, byte_eq (d := 44) 44 rfl]; rfl
theorem ways (c : UInt8) :
    (isBl c = true ∧ ((c.toNat : Int) == 32) = true) ∨ (isBl c = true ∧ ((c.toNat : Int) == 32) = false ∧ ((c.toNat : Int) == 10) = true) ∨
    (isSg c = true ∧ ((c.toNat : Int) == 32) = false ∧ ((c.toNat : Int) == 10) = false ∧ ((c.toNat : Int) == 40) = true) ∨
    (isSg c = true ∧ ((c.toNat : Int) == 32) = false ∧ ((c.toNat : Int) == 10) = false ∧ ((c.toNat : Int) == 40) = false ∧ ((c.toNat : Int) == 41) = true) ∨
    (isSg c = true ∧ ((c.toNat : Int) == 32) = false ∧ ((c.toNat : Int) == 10) = false ∧ ((c.toNat : Int) == 40) = false ∧ ((c.toNat : Int) == 41) = false ∧ ((c.toNat : Int) == 44) = true) ∨
    ((isBl c = false ∧ isSg c = false) ∧ ((c.toNat : Int) == 32) = false ∧ ((c.toNat : Int) == 10) = false ∧ ((c.toNat : Int) == 40) = false ∧ ((c.toNat : Int) == 41) = false ∧ ((c.toNat : Int) == 44) = false) := by
  have h1 := bl_bytes c
  have h2 := sg_bytes c
  have h3 := fun h => (sg_not (c := c) h).1
  revert h1 h2 h3
  cases ((c.toNat : Int) == 32) <;> cases ((c.toNat : Int) == 10) <;> cases ((c.toNat : Int) == 40) <;> cases ((c.toNat : Int) == 41) <;> cases ((c.toNat : Int) == 44) <;> cases isBl c <;> cases isSg c <;> simp
theorem rtoken_yes (x : List UInt8) (S : ByteArray) (p k n : Int) (hS : Hid (S = B x)) (h : Hid (tokOf x = some (k, n))) (hl : x.length ≤ 9223372036854775807) (w0 w : World) (hr : Rel w0 w) :
    Calls Try.prog 38 #[.string S, .int .i64 p] w fun e w' => e = .returned (.tuple #[TK (k, x, n, p), .bool true]) ∧ Rel w0 w' := by
  rw [hS.out]
  refine (rtoken_any x p hl w0 w hr).mono ?_
  rintro e w' ⟨⟨k', n', h', he⟩ | ⟨h', _⟩, hr'⟩
  · rw [h.out] at h'
    injection h' with h'
    injection h' with a b
    subst a; subst b
    exact ⟨he, hr'⟩
  · rw [h.out] at h'; cases h'
theorem rtoken_no (x : List UInt8) (S : ByteArray) (p : Int) (hS : Hid (S = B x)) (h : Hid (tokOf x = none)) (hl : x.length ≤ 9223372036854775807) (w0 w : World) (hr : Rel w0 w) :
    Calls Try.prog 38 #[.string S, .int .i64 p] w fun e w' => (∃ t : Tok, e = .returned (.tuple #[TK t, .bool false])) ∧ Rel w0 w' := by
  rw [hS.out]
  refine (rtoken_any x p hl w0 w hr).mono ?_
  rintro e w' ⟨⟨k', n', h', he⟩ | ⟨h', t, he⟩, hr'⟩
  · rw [h.out] at h'; cases h'
  · exact ⟨⟨t, he⟩, hr'⟩
set_option maxRecDepth 100000 in
set_option maxHeartbeats 4000000 in
theorem rlex_any (s : ByteArray) (hs : s.size ≤ 9223372036854775807) (w0 w : World) (hr : Rel w0 w) :
    Calls Try.prog 21 #[.string s] w (LexPost s.data.toList w0) := by
  obtain ⟨i0, hi, hz0, hz1, hz2⟩ := info_parts tok_info
  have el : s.data.toList.length = s.size := by simp
  have EL := Lib.hid el
  have HR := Lib.hid hr
  have HW := Lib.hid hr.self
  clear el
  by_cases hlong : 2000 < s.size
  · go_enter Try.func21, Try.ntmps21
    go_wp2_with (fail)
    go_ret3
    exact ⟨[], none, 0, 60, 2000, rfl, HR.out, ToksAt.nil _ _, .inl ⟨by rw [EL.out]; exact hlong, rfl, rfl, rfl⟩⟩
  · have hlong' : (s.size : Int) ≤ 2000 := by omega
    clear hs
    go_enter Try.func21, Try.ntmps21
    go_wp2_with (fail)
    go_loopw [5, 6] (fun v i wr => ∃ (p : Nat) (A : Option Addr) (c : Nat) (ts : List Tok), p ≤ s.size ∧ i = .int .i64 p ∧ v = .slice A ts.length c ∧ Rel w wr ∧ TokOwn wr w.heap.size (.slice A ts.length c) ts ∧ Hid (At s.data.toList p ts)) (fun _ i _ => s.size - (intOf i).toNat)
    case atStart => exact ⟨0, none, 0, [], by omega, rfl, rfl, HW.out, TokOwn.nil _ _, Lib.hid (At.start _)⟩
    case round =>
      obtain ⟨p, A, c, ts, hp, rfl, rfl, hR2, hE, HS⟩ := hrel
      have htl := HS.out.2
      have hsz := hR2.size
      by_cases hlt : p < s.size
      · obtain ⟨e, x, hpe, hes, hin, hout, hx, hxt, hxl, hxd⟩ := run_to s p hp
        have HIN := Lib.hid hin
        have HOUT := Lib.hid hout
        have HX := Lib.hid hx
        have HXT := Lib.hid hxt
        have HXL := Lib.hid hxl
        have HXD := Lib.hid hxd
        clear hin hout hx hxt hxl hxd
        go_wp2_with (fail)
        go_loop [7] (fun k => ∃ q : Nat, p ≤ q ∧ q ≤ e ∧ k = .int .i64 (q : Int)) (fun k => e - (intOf k).toNat)
        case atStart => exact ⟨p, by omega, by omega, rfl⟩
        case round =>
          obtain ⟨q, hq1, hq2, rfl⟩ := hrel
          by_cases hqe : q < e
          · have hqs : q < s.size := by omega
            have ht := HIN.out q hqs hq1 hqe
            obtain ⟨y, hy⟩ : ∃ y, y = s[q]'hqs := ⟨_, rfl⟩
            rw [← hy] at ht
            have hg : ∀ h, s[q]'h = y := fun h => hy.symm
            clear hy
            rcases pt_ways ht with h1 | ⟨h1, h2⟩ | ⟨h1, h2, h3⟩
            all_goals
              have H1 := Lib.hid h1
              try have H2 := Lib.hid h2
              clear h1 ht
              try clear h2
              go_wp2_with (first
                | (go_at_call 36; (with_reducible refine (bool_at _ (rletter_any y _) H1).mono ?_); rintro e w' ⟨rfl, rfl⟩)
                | (go_at_call 37; (with_reducible refine (bool_at _ (rdigit_any y _) H2).mono ?_); rintro e w' ⟨rfl, rfl⟩))
              go_round
              case rel => exact ⟨q + 1, by omega, by omega, by go_num⟩
              case measure => simp [intOf]; omega
          · obtain rfl : q = e := by omega
            have hgo : ∀ h, s[p]'h = s[p]'hlt := fun h => rfl
            obtain ⟨cc, hcc⟩ : ∃ cc, cc = s[p]'hlt := ⟨_, rfl⟩
            rw [← hcc] at hgo
            have HCC := Lib.hid hcc
            clear hcc
            have hx9 : x.length ≤ 9223372036854775807 := by have := HXL.out; omega
            have hend : (∃ (hlt' : q < s.size) (y : UInt8), Hid (y = s[q]'hlt') ∧ Hid (isL y = false) ∧ Hid (isD y = false) ∧ ((y.toNat : Int) == 46) = false) ∨ q = s.size := by
              rcases Nat.lt_or_ge q s.size with h | h
              · have := pt_none (HOUT.out h)
                exact .inl ⟨h, s[q]'h, Lib.hid rfl, Lib.hid this.1, Lib.hid this.2.1, this.2.2⟩
              · exact .inr (by omega)
            rcases hend with ⟨hqs, y, HY, H1, H2, h3⟩ | hqs
            · have hg2 : ∀ h, s[q]'h = y := fun h => HY.out.symm
              rcases ways cc with ⟨hb, b1⟩ | ⟨hb, b1, b2⟩ | ⟨hb, b1, b2, b3⟩ | ⟨hb, b1, b2, b3, b4⟩ | ⟨hb, b1, b2, b3, b4, b5⟩ | ⟨hb, b1, b2, b3, b4, b5⟩
              iterate 2
                · have HN := Lib.hid (HS.out.blank hlt (by rw [← HCC.out]; exact hb))
                  clear hb hqe
                  go_wp2_with (first
                  | (go_at_call 36; (with_reducible refine (bool_at _ (rletter_any y _) H1).mono ?_); rintro e w' ⟨rfl, rfl⟩)
                  | (go_at_call 37; (with_reducible refine (bool_at _ (rdigit_any y _) H2).mono ?_); rintro e w' ⟨rfl, rfl⟩))
                  go_roundw
                  case rel => exact ⟨p + 1, A, c, ts, by omega, by go_num, rfl, hR2, hE, HN⟩
                  case measure => simp [intOf]; omega
              iterate 3
                · have HN := Lib.hid (HS.out.sign hlt (by rw [← HCC.out]; exact hb))
                  have hcut := cut_one s p hlt
                  rw [← HCC.out] at HN hcut
                  clear hb hqe
                  go_wp2_with (first
                  | (go_at_call 36; (with_reducible refine (bool_at _ (rletter_any y _) H1).mono ?_); rintro e w' ⟨rfl, rfl⟩)
                  | (go_at_call 37; (with_reducible refine (bool_at _ (rdigit_any y _) H2).mono ?_); rintro e w' ⟨rfl, rfl⟩)
                  | (at_builtin; (refine wpList_append_lies _ rfl _ _ 48 rfl w.heap.size 56 i0 (.agg #[.int .i64 0, .string ⟨#[]⟩, .int .i64 0, .int .i64 0]) 4 40 Try.underlying48 hi hz0 hz1 hz2 rfl (by decide) _ ts.length (cellsOf ts) rfl (hE.row.alloc _) ⟨(wr).heap.size, 0, none⟩ 1 1 (cells4 (4, [cc], 0, (p : Int))) rfl rfl (World.news_of_block (Bk.new (wr) 56 #[.int .i64 4, .string (B [cc]), .int .i64 0, .int .i64 (p : Int)])) (cells4_one _) (by decide) (by unfold maxLen; omega) (by omega) (by simp; omega) _ rfl ?_); intro g cap w1 hown1 hgrow hat hlt1))
                  have hE5 := TokOwn.more (t := (4, [cc], 0, (p : Int))) hown1
                  have hR6 : Rel w w1 := (hR2.alloc _).grown hgrow (fun k hk => (hE.row.lt k hk).1)
                  have HL := Lib.hid (show (ts ++ [(4, [cc], 0, (p : Int))]).length = ts.length + 1 by simp)
                  go_roundw
                  case rel => exact ⟨p + 1, some ⟨g, 0, none⟩, cap, ts ++ [(4, [cc], 0, (p : Int))], by omega, by go_num, by rw [HL.out], hR6, by rw [HL.out]; exact hE5, HN⟩
                  case measure => simp [intOf]; omega
              · have hxx := HX.out
                have hqs2 : q ≤ s.size := by omega
                rcases htk : tokOf x with _ | ⟨k, n⟩
                · have HT := Lib.hid htk
                  have HN := Lib.hid (HS.out.bad hlt (by rw [← HCC.out]; exact hb.1) (by rw [← HCC.out]; exact hb.2) HXT.out htk)
                  clear hb hqe htk
                  go_wp2_with (first
                  | (go_at_call 36; (with_reducible refine (bool_at _ (rletter_any y _) H1).mono ?_); rintro e w' ⟨rfl, rfl⟩)
                  | (go_at_call 37; (with_reducible refine (bool_at _ (rdigit_any y _) H2).mono ?_); rintro e w' ⟨rfl, rfl⟩)
                  | (go_at_call 38; (with_reducible refine (rtoken_no x _ _ (Lib.hid rfl) HT hx9 _ _ hR2.self).mono ?_); rintro e w3 ⟨⟨t, rfl⟩, h3⟩))
                  go_ret3
                  exact ⟨[], none, 0, 61, p, rfl, HR.out.trans ((hR2.trans h3).alloc _), ToksAt.nil _ _, .inr (.inr ⟨by rw [EL.out]; omega, p, HN.out, rfl, rfl, rfl⟩)⟩
                · have HT := Lib.hid htk
                  have HN := Lib.hid (HS.out.tok hlt (by rw [← HCC.out]; exact hb.1) (by rw [← HCC.out]; exact hb.2) HXT.out rfl (by rw [HXD.out, HXL.out]) htk)
                  rw [HXL.out] at HN
                  have hpq : p < q := by
                    have := HN.out.2
                    have h1 := HXL.out
                    have h2 := tokOf_ne htk
                    rcases x with _ | ⟨a, b⟩
                    · exact absurd rfl h2
                    · simp at h1; omega
                  clear hb hqe htk
                  go_wp2_with (first
                  | (go_at_call 36; (with_reducible refine (bool_at _ (rletter_any y _) H1).mono ?_); rintro e w' ⟨rfl, rfl⟩)
                  | (go_at_call 37; (with_reducible refine (bool_at _ (rdigit_any y _) H2).mono ?_); rintro e w' ⟨rfl, rfl⟩)
                  | (go_at_call 38; (with_reducible refine (rtoken_yes x _ _ k n (Lib.hid rfl) HT hx9 _ _ hR2.self).mono ?_); rintro e w3 ⟨rfl, h3⟩; have hE3 := (hE.rel h3).row; have hsz3 : w.heap.size ≤ w3.heap.size := (hR2.trans h3).size; obtain ⟨⟨c0, c1, c2, c3⟩, _⟩ := (Bk.new w3 56 #[.int .i64 k, .string (B x), .int .i64 n, .int .i64 (p : Int)]).four)
                  | (at_builtin; (refine wpList_append_lies _ rfl _ _ 48 rfl w.heap.size 56 i0 (.agg #[.int .i64 0, .string ⟨#[]⟩, .int .i64 0, .int .i64 0]) 4 40 Try.underlying48 hi hz0 hz1 hz2 rfl (by decide) _ ts.length (cellsOf ts) rfl ((hE3.alloc _).alloc _) ⟨w3.heap.size + 1, 0, none⟩ 1 1 (cells4 (k, x, n, (p : Int))) rfl rfl (World.news_of_block (Bk.snd w3 #[.int .i64 k, .string (B x), .int .i64 n, .int .i64 (p : Int)] #[.int .i64 k, .string (B x), .int .i64 n, .int .i64 (p : Int)] 56 56)) (cells4_one _) (by decide) (by unfold maxLen; omega) (by omega) (by simp; omega) _ rfl ?_); intro g cap w1 hown1 hgrow hat hlt1))
                  have hE5 := TokOwn.more (t := (k, x, n, (p : Int))) hown1
                  have hR6 : Rel w w1 := (((hR2.trans h3).alloc _).alloc _).grown hgrow (fun k hk => (hE3.lt k hk).1)
                  have HL := Lib.hid (show (ts ++ [(k, x, n, (p : Int))]).length = ts.length + 1 by simp)
                  go_roundw
                  case rel => exact ⟨q, some ⟨g, 0, none⟩, cap, ts ++ [(k, x, n, (p : Int))], by omega, by go_num, by rw [HL.out], hR6, by rw [HL.out]; exact hE5, HN⟩
                  case measure => simp [intOf]; omega
            · have hqs3 : q = s.size := hqs
              subst hqs3
              rcases ways cc with ⟨hb, b1⟩ | ⟨hb, b1, b2⟩ | ⟨hb, b1, b2, b3⟩ | ⟨hb, b1, b2, b3, b4⟩ | ⟨hb, b1, b2, b3, b4, b5⟩ | ⟨hb, b1, b2, b3, b4, b5⟩
              iterate 2
                · have HN := Lib.hid (HS.out.blank hlt (by rw [← HCC.out]; exact hb))
                  clear hb
                  go_wp2_with (fail)
                  go_roundw
                  case rel => exact ⟨p + 1, A, c, ts, by omega, by go_num, rfl, hR2, hE, HN⟩
                  case measure => simp [intOf]; omega
              iterate 3
                · have HN := Lib.hid (HS.out.sign hlt (by rw [← HCC.out]; exact hb))
                  have hcut := cut_one s p hlt
                  rw [← HCC.out] at HN hcut
                  clear hb
                  go_wp2_with (first
                  | (at_builtin; (refine wpList_append_lies _ rfl _ _ 48 rfl w.heap.size 56 i0 (.agg #[.int .i64 0, .string ⟨#[]⟩, .int .i64 0, .int .i64 0]) 4 40 Try.underlying48 hi hz0 hz1 hz2 rfl (by decide) _ ts.length (cellsOf ts) rfl (hE.row.alloc _) ⟨(wr).heap.size, 0, none⟩ 1 1 (cells4 (4, [cc], 0, (p : Int))) rfl rfl (World.news_of_block (Bk.new (wr) 56 #[.int .i64 4, .string (B [cc]), .int .i64 0, .int .i64 (p : Int)])) (cells4_one _) (by decide) (by unfold maxLen; omega) (by omega) (by simp; omega) _ rfl ?_); intro g cap w1 hown1 hgrow hat hlt1))
                  have hE5 := TokOwn.more (t := (4, [cc], 0, (p : Int))) hown1
                  have hR6 : Rel w w1 := (hR2.alloc _).grown hgrow (fun k hk => (hE.row.lt k hk).1)
                  have HL := Lib.hid (show (ts ++ [(4, [cc], 0, (p : Int))]).length = ts.length + 1 by simp)
                  go_roundw
                  case rel => exact ⟨p + 1, some ⟨g, 0, none⟩, cap, ts ++ [(4, [cc], 0, (p : Int))], by omega, by go_num, by rw [HL.out], hR6, by rw [HL.out]; exact hE5, HN⟩
                  case measure => simp [intOf]; omega
              · have hxx := HX.out
                have hqs2 : s.size ≤ s.size := by omega
                rcases htk : tokOf x with _ | ⟨k, n⟩
                · have HT := Lib.hid htk
                  have HN := Lib.hid (HS.out.bad hlt (by rw [← HCC.out]; exact hb.1) (by rw [← HCC.out]; exact hb.2) HXT.out htk)
                  clear hb htk
                  go_wp2_with (first
                  | (go_at_call 38; (with_reducible refine (rtoken_no x _ _ (Lib.hid rfl) HT hx9 _ _ hR2.self).mono ?_); rintro e w3 ⟨⟨t, rfl⟩, h3⟩))
                  go_ret3
                  exact ⟨[], none, 0, 61, p, rfl, HR.out.trans ((hR2.trans h3).alloc _), ToksAt.nil _ _, .inr (.inr ⟨by rw [EL.out]; omega, p, HN.out, rfl, rfl, rfl⟩)⟩
                · have HT := Lib.hid htk
                  have HN := Lib.hid (HS.out.tok hlt (by rw [← HCC.out]; exact hb.1) (by rw [← HCC.out]; exact hb.2) HXT.out rfl (by rw [HXD.out, HXL.out]) htk)
                  rw [HXL.out] at HN
                  have hpq : p < s.size := by
                    have := HN.out.2
                    have h1 := HXL.out
                    have h2 := tokOf_ne htk
                    rcases x with _ | ⟨a, b⟩
                    · exact absurd rfl h2
                    · simp at h1; omega
                  clear hb htk
                  go_wp2_with (first
                  | (go_at_call 38; (with_reducible refine (rtoken_yes x _ _ k n (Lib.hid rfl) HT hx9 _ _ hR2.self).mono ?_); rintro e w3 ⟨rfl, h3⟩; have hE3 := (hE.rel h3).row; have hsz3 : w.heap.size ≤ w3.heap.size := (hR2.trans h3).size; obtain ⟨⟨c0, c1, c2, c3⟩, _⟩ := (Bk.new w3 56 #[.int .i64 k, .string (B x), .int .i64 n, .int .i64 (p : Int)]).four)
                  | (at_builtin; (refine wpList_append_lies _ rfl _ _ 48 rfl w.heap.size 56 i0 (.agg #[.int .i64 0, .string ⟨#[]⟩, .int .i64 0, .int .i64 0]) 4 40 Try.underlying48 hi hz0 hz1 hz2 rfl (by decide) _ ts.length (cellsOf ts) rfl ((hE3.alloc _).alloc _) ⟨w3.heap.size + 1, 0, none⟩ 1 1 (cells4 (k, x, n, (p : Int))) rfl rfl (World.news_of_block (Bk.snd w3 #[.int .i64 k, .string (B x), .int .i64 n, .int .i64 (p : Int)] #[.int .i64 k, .string (B x), .int .i64 n, .int .i64 (p : Int)] 56 56)) (cells4_one _) (by decide) (by unfold maxLen; omega) (by omega) (by simp; omega) _ rfl ?_); intro g cap w1 hown1 hgrow hat hlt1))
                  have hE5 := TokOwn.more (t := (k, x, n, (p : Int))) hown1
                  have hR6 : Rel w w1 := (((hR2.trans h3).alloc _).alloc _).grown hgrow (fun k hk => (hE3.lt k hk).1)
                  have HL := Lib.hid (show (ts ++ [(k, x, n, (p : Int))]).length = ts.length + 1 by simp)
                  go_roundw
                  case rel => exact ⟨s.size, some ⟨g, 0, none⟩, cap, ts ++ [(k, x, n, (p : Int))], by omega, by go_num, by rw [HL.out], hR6, by rw [HL.out]; exact hE5, HN⟩
                  case measure => simp [intOf]; omega
      · obtain rfl : p = s.size := by omega
        have HN := Lib.hid HS.out.done
        go_wp2_with (at_builtin; (refine wpList_append_lies _ rfl _ _ 48 rfl w.heap.size 56 i0 (.agg #[.int .i64 0, .string ⟨#[]⟩, .int .i64 0, .int .i64 0]) 4 40 Try.underlying48 hi hz0 hz1 hz2 rfl (by decide) _ ts.length (cellsOf ts) rfl (hE.row.alloc _) ⟨wr.heap.size, 0, none⟩ 1 1 (cells4 (5, [], 0, (s.size : Int))) rfl rfl (World.news_of_block (Bk.new wr 56 #[.int .i64 5, .string (B []), .int .i64 0, .int .i64 (s.size : Int)])) (cells4_one _) (by decide) (by unfold maxLen; omega) (by omega) (by simp; omega) _ rfl ?_); intro g cap w1 hown1 hgrow hat hlt1)
        have hE5 := TokOwn.more (t := (5, [], 0, (s.size : Int))) hown1
        have hR6 : Rel w w1 := (hR2.alloc _).grown hgrow (fun k hk => (hE.row.lt k hk).1)
        have HL := show (ts ++ [((5 : Int), ([] : List UInt8), (0 : Int), (s.size : Int))]).length = ts.length + 1 by simp
        go_ret3
        exact ⟨ts ++ [(5, [], 0, (s.size : Int))], some ⟨g, 0, none⟩, cap, 0, 0, by rw [HL]; rfl, HR.out.trans hR6, hE5.toks HL.symm, .inr (.inl ⟨by rw [EL.out]; omega, HN.out, rfl, rfl⟩)⟩
end Go.Proofs.Ytoajbbcjmalngaa
