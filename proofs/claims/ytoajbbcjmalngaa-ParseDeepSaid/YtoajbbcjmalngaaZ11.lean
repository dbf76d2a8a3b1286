/- The document's own Word, Name and token. -/
import Derived.Test.YtoajbbcjmalngaaZ01
import Derived.Test.YtoajbbcjmalngaaZ10
namespace Go.Proofs.Ytoajbbcjmalngaa
open Go.RowKit Go.Lib
set_option linter.unusedVariables false
set_option linter.unusedSimpArgs false

theorem isL_yes {c : UInt8} (h : 97 ≤ c.toNat) (h' : c.toNat ≤ 122) : isL c = true := by simp [isL, h, h']
theorem isL_no {c : UInt8} (h : c.toNat < 97 ∨ 122 < c.toNat) : isL c = false := by simp [isL]; omega
theorem isD_yes {c : UInt8} (h : 48 ≤ c.toNat) (h' : c.toNat ≤ 57) : isD c = true := by simp [isD, h, h']
theorem isD_no {c : UInt8} (h : c.toNat < 48 ∨ 57 < c.toNat) : isD c = false := by simp [isD]; omega
theorem rletter_any (c : UInt8) (w : World) : Calls Try.prog 36 #[.int .u8 (c.toNat : Int)] w fun e w' => e = .returned (.bool (isL c)) ∧ w = w' := by
  by_cases h1 : 97 ≤ c.toNat <;> by_cases h2 : c.toNat ≤ 122
  all_goals
    go_enter Try.func36, Try.ntmps36
    go_wp2
    all_goals
      go_ret
      exact ⟨ret_bool (Bool.eq_iff_iff.2 (by simp [isL]; omega)), rfl⟩
theorem rdigit_any (c : UInt8) (w : World) : Calls Try.prog 37 #[.int .u8 (c.toNat : Int)] w fun e w' => e = .returned (.bool (isD c)) ∧ w = w' := by
  by_cases h1 : 48 ≤ c.toNat <;> by_cases h2 : c.toNat ≤ 57
  all_goals
    go_enter Try.func37, Try.ntmps37
    go_wp2
    all_goals
      go_ret
      exact ⟨ret_bool (Bool.eq_iff_iff.2 (by simp [isD]; omega)), rfl⟩
theorem list_of {a b : ByteArray} : (a.toList == b.toList) = true ↔ a = b := by
  rw [beq_iff_eq]
  have e1 := B_toList a.data.toList
  have e2 := B_toList b.data.toList
  rw [B_of] at e1 e2
  rw [e1, e2]
  constructor
  · intro h; rw [← B_of a, h, B_of]
  · intro h; rw [h]
theorem list_ne {a b : ByteArray} (h : a ≠ b) : (a.toList == b.toList) = false := by
  cases e : (a.toList == b.toList)
  · rfl
  · exact absurd (list_of.1 e) h
theorem word_yes {s : ByteArray} {j : Nat} (hj : j < 11) (h : B (theWords.getD j []) = s) : isWord s.data.toList = true := by
  unfold isWord
  rw [List.any_eq_true]
  have hl : theWords.length = 11 := rfl
  refine ⟨theWords.getD j [], ?_, ?_⟩
  · rw [List.getD_eq_getElem?_getD, List.getElem?_eq_getElem (by omega)]; exact List.getElem_mem _
  · rw [← h, B_list]; simp
theorem word_no {s : ByteArray} (h : ∀ j < 11, B (theWords.getD j []) ≠ s) : isWord s.data.toList = false := by
  unfold isWord
  rw [List.any_eq_false]
  intro x hx
  obtain ⟨j, hj, rfl⟩ := List.getElem_of_mem hx
  have hl : theWords.length = 11 := rfl
  intro he
  refine h j (by omega) ?_
  rw [List.getD_eq_getElem?_getD, List.getElem?_eq_getElem hj]
  have he' : theWords[j] = s.data.toList := by simpa using he
  show B theWords[j] = s
  rw [he', B_of]
def wordCells : Array Value := (theWords.map fun l => Value.string (B l)).toArray
theorem word_cell {w : World} {g : Nat} (h : Bk w g 9 wordCells) (j : Nat) (hj : j < 11) : w.cell? ⟨g, j, none⟩ = some (.string (B (theWords.getD j []))) := by
  have hl : theWords.length = 11 := rfl
  rw [h.cell]
  unfold wordCells
  rw [List.getElem?_toArray, List.getElem?_map, List.getElem?_eq_getElem (by omega), List.getD_eq_getElem?_getD, List.getElem?_eq_getElem (by omega)]
  rfl
set_option maxHeartbeats 1000000 in
theorem rword_any (s : ByteArray) (w0 w : World) (hr : Rel w0 w) :
    Calls Try.prog 58 #[.string s] w fun e w' => e = .returned (.bool (isWord s.data.toList)) ∧ Rel w0 w' := by
  have HB := Lib.hid (show Bk (w.alloc (.cells wordCells 9)) w.heap.size 9 wordCells from Bk.new w _ _)
  have HR := Lib.hid (hr.alloc (.cells wordCells 9))
  go_enter Try.func58, Try.ntmps58
  go_wp2_with (fail)
  go_loopw [4] (fun i wr => ∃ j : Nat, j ≤ 11 ∧ i = .int .i64 j ∧ Hid (∀ k < j, B (theWords.getD k []) ≠ s) ∧ Hid (wr = w.alloc (.cells wordCells 9))) (fun i _ => 11 - (intOf i).toNat)
  case atStart => exact ⟨0, by omega, rfl, Lib.hid (fun k hk => absurd hk (by omega)), Lib.hid rfl⟩
  case round =>
    obtain ⟨j, hj, rfl, HN, HW⟩ := hrel
    have hc := HB.out
    rw [← HW.out] at hc
    by_cases hlt : j < 11
    · have c := word_cell hc j hlt
      obtain ⟨X, hX⟩ : ∃ X, B (theWords.getD j []) = X := ⟨_, rfl⟩
      rw [hX] at c
      have HX := Lib.hid hX
      clear hX
      by_cases he : X = s
      · have HY := Lib.hid (word_yes hlt (HX.out.trans he))
        have k1 := list_of.2 he
        clear he hc
        go_wp2_with (fail)
        go_ret
        exact ⟨ret_bool HY.out.symm, by rw [HW.out]; exact HR.out⟩
      · have k1 := list_ne he
        have HN2 : Hid (∀ k < j + 1, B (theWords.getD k []) ≠ s) := Lib.hid (fun k hk => by
          rcases Nat.lt_or_ge k j with h | h
          · exact HN.out k h
          · obtain rfl : k = j := by omega
            rw [HX.out]; exact he)
        clear he hc
        go_wp2_with (fail)
        go_roundw
        case rel => exact ⟨j + 1, by omega, by go_num, HN2, HW⟩
        case measure => simp [intOf]; omega
    · obtain rfl : j = 11 := by omega
      have HY := Lib.hid (word_no HN.out)
      clear hc
      go_wp2_with (fail)
      go_ret
      exact ⟨ret_bool HY.out.symm, by rw [HW.out]; exact HR.out⟩
theorem B_cons_size (c : UInt8) (t : List UInt8) : (B (c :: t)).size = t.length + 1 := by rw [B_size]; rfl
def LD (c : UInt8) : Bool := isL c || isD c
theorem name_eq (c : UInt8) (t : List UInt8) : isName (c :: t) = (decide (t.length + 1 ≤ 12) && isL c && !isWord (c :: t) && (c :: t).all LD) := by
  unfold isName LD; simp
theorem all_bad {l : List UInt8} (j : Nat) (h : j < l.length) (hx : LD l[j] = false) : l.all LD = false := by
  rw [List.all_eq_false]
  exact ⟨l[j], List.getElem_mem h, by simp [hx]⟩
theorem all_more {l : List UInt8} (j : Nat) (h : j < l.length) (ha : (l.take j).all LD = true) (hx : LD l[j] = true) : (l.take (j + 1)).all LD = true := by
  rw [List.take_succ_eq_append_getElem h, List.all_append, ha]; simp [hx]
set_option maxHeartbeats 1000000 in
theorem rname_list (l : List UInt8) (hl : l.length ≤ 9223372036854775807) (w0 w : World) (hr : Rel w0 w) :
    Calls Try.prog 41 #[.string (B l)] w fun e w' => e = .returned (.bool (isName l)) ∧ Rel w0 w' := by
  cases l with
  | nil =>
    have HT := B_toList []
    go_enter Try.func41, Try.ntmps41
    go_wp2_with (fail)
    go_ret
    exact ⟨ret_bool rfl, hr⟩
  | cons c t =>
    have HT := B_toList (c :: t)
    have HB := B_cons_size c t
    have H0 := B_zero c t
    by_cases h12 : t.length + 1 ≤ 12
    · have z : ¬ (12 : Int) < (t.length : Int) + 1 := by omega
      cases hc : isL c
      · have HF := Lib.hid (show isName (c :: t) = false by rw [name_eq, hc]; simp)
        clear hl h12
        go_enter Try.func41, Try.ntmps41
        go_wp2_with (go_at_call 36; (with_reducible refine (bool_at false (rletter_any c _) (Lib.hid hc)).mono ?_); rintro e w' ⟨rfl, rfl⟩)
        go_ret
        exact ⟨ret_bool HF.out.symm, hr⟩
      · cases hw : isWord (c :: t)
        · have HC := Lib.hid hc
          have HWd := Lib.hid (show isWord (B (c :: t)).data.toList = false by rw [B_list]; exact hw)
          have HW0 := Lib.hid hw
          have HR := Lib.hid hr
          clear hw hc
          go_enter Try.func41, Try.ntmps41
          go_wp2_with (first
            | (go_at_call 36; (with_reducible refine (bool_at true (rletter_any c _) HC).mono ?_); rintro e w' ⟨rfl, rfl⟩)
            | (go_at_call 58; (with_reducible refine (bool_at false (rword_any _ _ _ hr.self) HWd).mono ?_); rintro e w1 ⟨rfl, h1⟩))
          go_loopw [3] (fun i wr => ∃ j : Nat, j ≤ t.length + 1 ∧ i = .int .i64 j ∧ Hid (((c :: t).take j).all LD = true) ∧ wr = w1) (fun i _ => t.length + 1 - (intOf i).toNat)
          case atStart => exact ⟨0, by omega, rfl, Lib.hid rfl, rfl⟩
          case round =>
            obtain ⟨j, hj, rfl, HA, rfl⟩ := hrel
            by_cases hlt : j < t.length + 1
            · have hlt' : j < (c :: t).length := by simpa using hlt
              obtain ⟨x, hx⟩ : ∃ x, x = (c :: t)[j] := ⟨_, rfl⟩
              have hg : ∀ h, (B (c :: t))[j]'h = x := fun h => by rw [hx]; rfl
              have HX := Lib.hid hx
              clear hx
              cases hL : isL x <;> cases hD : isD x
              · have HF := Lib.hid (show isName (c :: t) = false by rw [name_eq, all_bad j hlt' (by rw [← HX.out]; simp [LD, hL, hD])]; simp)
                have HL := Lib.hid hL
                have HD := Lib.hid hD
                clear hL hD
                go_wp2_with (first
                  | (go_at_call 36; (with_reducible refine (bool_at false (rletter_any x _) HL).mono ?_); rintro e w' ⟨rfl, rfl⟩)
                  | (go_at_call 37; (with_reducible refine (bool_at false (rdigit_any x _) HD).mono ?_); rintro e w' ⟨rfl, rfl⟩))
                go_ret
                exact ⟨ret_bool HF.out.symm, HR.out.trans h1⟩
              all_goals
                have HM := Lib.hid (all_more j hlt' HA.out (by rw [← HX.out]; simp [LD, hL, hD]))
                have HL := Lib.hid hL
                have HD := Lib.hid hD
                clear hL hD
                go_wp2_with (first
                  | (go_at_call 36; (with_reducible refine (bool_at _ (rletter_any x _) HL).mono ?_); rintro e w' ⟨rfl, rfl⟩)
                  | (go_at_call 37; (with_reducible refine (bool_at _ (rdigit_any x _) HD).mono ?_); rintro e w' ⟨rfl, rfl⟩))
                go_roundw
                case rel => exact ⟨j + 1, by omega, by go_num, HM, trivial⟩
                case measure => simp [intOf]; omega
            · obtain rfl : j = t.length + 1 := by omega
              have HY := Lib.hid (show isName (c :: t) = true by
                have ha := HA.out
                rw [List.take_of_length_le (by simp)] at ha
                rw [name_eq, ha, HC.out, HW0.out, decide_eq_true h12]; rfl)
              go_wp2_with (fail)
              go_ret
              exact ⟨ret_bool HY.out.symm, HR.out.trans h1⟩
        · have HC := Lib.hid hc
          have HWd := Lib.hid (show isWord (B (c :: t)).data.toList = true by rw [B_list]; exact hw)
          have HF := Lib.hid (show isName (c :: t) = false by rw [name_eq, hw]; simp)
          clear hw hc
          go_enter Try.func41, Try.ntmps41
          go_wp2_with (first
            | (go_at_call 36; (with_reducible refine (bool_at true (rletter_any c _) HC).mono ?_); rintro e w' ⟨rfl, rfl⟩)
            | (go_at_call 58; (with_reducible refine (bool_at true (rword_any _ _ _ hr.self) HWd).mono ?_); rintro e w1 ⟨rfl, h1⟩))
          go_ret
          exact ⟨ret_bool HF.out.symm, hr.trans h1⟩
    · have HF := Lib.hid (show isName (c :: t) = false by rw [name_eq, decide_eq_false h12]; simp)
      have z : (12 : Int) < (t.length : Int) + 1 := by omega
      clear h12
      go_enter Try.func41, Try.ntmps41
      go_wp2_with (fail)
      go_ret
      exact ⟨ret_bool HF.out.symm, hr⟩
theorem rname_any (s : ByteArray) (hs : s.size ≤ 9223372036854775807) (w0 w : World) (hr : Rel w0 w) :
    Calls Try.prog 41 #[.string s] w fun e w' => e = .returned (.bool (isName s.data.toList)) ∧ Rel w0 w' := by
  have := rname_list s.data.toList (by simpa using hs) w0 w hr
  rwa [B_of] at this
/-- What a run of parts is told as, at p. -/
def TokPost (l : List UInt8) (p : Int) (e : Ending) : Prop :=
  (∃ k n, tokOf l = some (k, n) ∧ e = .returned (.tuple #[TK (k, l, n, p), .bool true])) ∨ (tokOf l = none ∧ ∃ t, e = .returned (.tuple #[TK t, .bool false]))
theorem tok_word {l : List UInt8} (h : isWord l = true ∨ isName l = true) : tokOf l = some (1, 0) := by
  unfold tokOf; rw [if_pos]; rcases h with h | h <;> simp [h]
theorem tok_count {l : List UInt8} (h : isWord l = false) (h' : isName l = false) (hc : 0 ≤ cnt l 100000) : tokOf l = some (2, cnt l 100000) := by
  unfold tokOf; rw [if_neg (by simp [h, h']), if_pos hc]
theorem tok_money {l : List UInt8} (h : isWord l = false) (h' : isName l = false) (hc : ¬ 0 ≤ cnt l 100000) : tokOf l = (prs l).map fun a => (3, a) := by
  unfold tokOf; rw [if_neg (by simp [h, h']), if_neg hc]; cases prs l <;> rfl
set_option maxHeartbeats 1000000 in
theorem rtoken_any (l : List UInt8) (p : Int) (hl : l.length ≤ 9223372036854775807) (w0 w : World) (hr : Rel w0 w) :
    Calls Try.prog 38 #[.string (B l), .int .i64 p] w fun e w' => TokPost l p e ∧ Rel w0 w' := by
  have HBL : (B l).data.toList = l := B_list l
  have hz : (B l).size ≤ 9223372036854775807 := by rw [B_size]; exact hl
  have z := hr.size
  have hr1 := hr.alloc (.cells #[.int .i64 0, .string ⟨#[]⟩, .int .i64 0, .int .i64 0] 56)
  have HB := Lib.hid (Bk.new w 56 #[.int .i64 0, .string ⟨#[]⟩, .int .i64 0, .int .i64 0])
  have HR := Lib.hid hr1
  cases hw : isWord l
  · cases hn : isName l
    · obtain ⟨n, hN⟩ : ∃ n, cnt l 100000 = n := ⟨_, rfl⟩
      have HWd := Lib.hid (show isWord (B l).data.toList = false by rw [HBL]; exact hw)
      have HNd := Lib.hid (show isName (B l).data.toList = false by rw [HBL]; exact hn)
      have HCd := Lib.hid (show cnt (B l).data.toList 100000 = n by rw [HBL]; exact hN)
      by_cases hc : 0 ≤ n
      · have HF := Lib.hid (tok_count hw hn (by rw [hN]; exact hc))
        rw [hN] at HF
        clear hw hn hN HBL hr1
        go_enter Try.func38, Try.ntmps38
        go_wp2_with (first
          | (go_at_call 58; (with_reducible refine (bool_at false (rword_any _ _ _ HR.out.self) HWd).mono ?_); rintro e w1 ⟨rfl, h1⟩)
          | (go_at_call 41; (with_reducible refine (bool_at false (rname_any _ hz _ _ h1.self) HNd).mono ?_); rintro e w2 ⟨rfl, h2⟩)
          | (go_at_call 59; (with_reducible refine (int_at n (rcount_any _ _ hz _ _ h2.self) HCd).mono ?_); rintro e w3 ⟨rfl, h3⟩; obtain ⟨⟨c0, c1, c2, c3⟩, f0, f1, f2, f3⟩ := (((HB.out.rel h1).rel h2).rel h3).four))
        obtain ⟨⟨r0, r1, r2, r3⟩, _⟩ := ((((HB.out.rel h1).rel h2).rel h3).put4 (.int .i64 2) (.string (B l)) (.int .i64 n) (.int .i64 p)).four
        exact bodyPost_ret (v := .tuple #[TK (2, l, n, p), .bool true]) (by simp [results, Try.results38, go_sem, r0, r1, r2, r3]) rfl ⟨.inl ⟨2, n, HF.out, rfl⟩, (((HR.out.trans h1).trans h2).trans h3).put4 z _ _ _ _⟩
      · have HF := Lib.hid (tok_money hw hn (by rw [hN]; exact hc))
        obtain ⟨m, hm⟩ : ∃ m, prs1 l = m := ⟨_, rfl⟩
        obtain ⟨e, he⟩ : ∃ m, prs2 l = m := ⟨_, rfl⟩
        have HM1 := Lib.hid (show prs1 (B l).data.toList = m by rw [HBL]; exact hm)
        have HM2 := Lib.hid (show prs2 (B l).data.toList = e by rw [HBL]; exact he)
        have HP := Lib.hid (show ∀ o : Option Int, o = prs l → (o = none ∧ e ≠ 0) ∨ (o = some m ∧ e = 0) from fun o ho => by
          subst ho
          unfold prs1 at hm
          unfold prs2 at he
          cases h : prs l with
          | none => rw [h] at he; exact .inl ⟨rfl, by simp at he; omega⟩
          | some a => rw [h] at he hm; exact .inr ⟨by simp at hm; rw [hm], by simp at he; omega⟩)
        clear hw hn hN HBL hr1 hm he
        go_enter Try.func38, Try.ntmps38
        go_wp2_with (first
          | (go_at_call 58; (with_reducible refine (bool_at false (rword_any _ _ _ HR.out.self) HWd).mono ?_); rintro e w1 ⟨rfl, h1⟩)
          | (go_at_call 41; (with_reducible refine (bool_at false (rname_any _ hz _ _ h1.self) HNd).mono ?_); rintro e w2 ⟨rfl, h2⟩)
          | (go_at_call 59; (with_reducible refine (int_at n (rcount_any _ _ hz _ _ h2.self) HCd).mono ?_); rintro e w3 ⟨rfl, h3⟩)
          | (go_at_call 60; (with_reducible refine (two_at m e (rparse_any _ hz _ _ h3.self) HM1 HM2).mono ?_); rintro e w4 ⟨rfl, h4⟩; obtain ⟨⟨c0, c1, c2, c3⟩, f0, f1, f2, f3⟩ := ((((HB.out.rel h1).rel h2).rel h3).rel h4).four))
        obtain ⟨⟨r0, r1, r2, r3⟩, _⟩ := (((((HB.out.rel h1).rel h2).rel h3).rel h4).put4 (.int .i64 3) (.string (B l)) (.int .i64 m) (.int .i64 p)).four
        refine bodyPost_ret (v := .tuple #[TK (3, l, m, p), .bool (e == 0)]) (by simp [results, Try.results38, go_sem, r0, r1, r2, r3]) rfl ⟨?_, ((((HR.out.trans h1).trans h2).trans h3).trans h4).put4 z _ _ _ _⟩
        rcases HP.out _ rfl with ⟨q1, q2⟩ | ⟨q1, q2⟩
        · exact .inr ⟨by rw [HF.out, q1]; rfl, _, by rw [show (e == 0) = false by simpa using q2]⟩
        · exact .inl ⟨3, m, by rw [HF.out, q1]; rfl, by rw [q2]; rfl⟩
    · have HF := Lib.hid (tok_word (.inr hn))
      have HWd := Lib.hid (show isWord (B l).data.toList = false by rw [HBL]; exact hw)
      have HNd := Lib.hid (show isName (B l).data.toList = true by rw [HBL]; exact hn)
      clear hw hn HBL hr1
      go_enter Try.func38, Try.ntmps38
      go_wp2_with (first
        | (go_at_call 58; (with_reducible refine (bool_at false (rword_any _ _ _ HR.out.self) HWd).mono ?_); rintro e w1 ⟨rfl, h1⟩)
        | (go_at_call 41; (with_reducible refine (bool_at true (rname_any _ hz _ _ h1.self) HNd).mono ?_); rintro e w2 ⟨rfl, h2⟩; obtain ⟨⟨c0, c1, c2, c3⟩, f0, f1, f2, f3⟩ := ((HB.out.rel h1).rel h2).four))
      obtain ⟨⟨r0, r1, r2, r3⟩, _⟩ := (((HB.out.rel h1).rel h2).put4 (.int .i64 1) (.string (B l)) (.int .i64 0) (.int .i64 p)).four
      exact bodyPost_ret (v := .tuple #[TK (1, l, 0, p), .bool true]) (by simp [results, Try.results38, go_sem, r0, r1, r2, r3]) rfl ⟨.inl ⟨1, 0, HF.out, rfl⟩, ((HR.out.trans h1).trans h2).put4 z _ _ _ _⟩
  · have HF := Lib.hid (tok_word (.inl hw))
    have HWd := Lib.hid (show isWord (B l).data.toList = true by rw [HBL]; exact hw)
    clear hw HBL hr1
    go_enter Try.func38, Try.ntmps38
    go_wp2_with (go_at_call 58; (with_reducible refine (bool_at true (rword_any _ _ _ HR.out.self) HWd).mono ?_); rintro e w1 ⟨rfl, h1⟩; obtain ⟨⟨c0, c1, c2, c3⟩, f0, f1, f2, f3⟩ := (HB.out.rel h1).four)
    obtain ⟨⟨r0, r1, r2, r3⟩, _⟩ := ((HB.out.rel h1).put4 (.int .i64 1) (.string (B l)) (.int .i64 0) (.int .i64 p)).four
    exact bodyPost_ret (v := .tuple #[TK (1, l, 0, p), .bool true]) (by simp [results, Try.results38, go_sem, r0, r1, r2, r3]) rfl ⟨.inl ⟨1, 0, HF.out, rfl⟩, (HR.out.trans h1).put4 z _ _ _ _⟩
end Go.Proofs.Ytoajbbcjmalngaa
