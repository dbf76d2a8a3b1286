/- The document's own Word, Name and token; The document's own answers of layer 9: the price at a place (rank); which offers may be (Right); The document's own answers of layer 9: which offers may be (Right); The document's own answers of layer 1 that layer 9 asks for; The document's own readings of an expression: how many, how deep, which are the same. -/
import Derived.Test.YtpehlldgnbajjaaGreatDoorZ01
import Derived.Test.YtpehlldgnbajjaaGreatDoorZ07
import Derived.Test.YtpehlldgnbajjaaGreatDoorZ06
import Derived.Test.YtpehlldgnbajjaaGreatDoorZ03
namespace Go.Proofs.YtpehlldgnbajjaaGreatDoor
open Go.RowKit Go.Lib
set_option linter.unusedVariables false
set_option linter.unusedSimpArgs false

theorem isL_yes {c : UInt8} (h : 97 ≤ c.toNat) (h' : c.toNat ≤ 122) : isL c = true := by simp [isL, h, h']
theorem isL_no {c : UInt8} (h : c.toNat < 97 ∨ 122 < c.toNat) : isL c = false := by simp [isL]; omega
theorem isD_yes {c : UInt8} (h : 48 ≤ c.toNat) (h' : c.toNat ≤ 57) : isD c = true := by simp [isD, h, h']
theorem isD_no {c : UInt8} (h : c.toNat < 48 ∨ 57 < c.toNat) : isD c = false := by simp [isD]; omega
theorem rletter_any (c : UInt8) (w : World) : Calls Tryz.prog 42 #[.int .u8 (c.toNat : Int)] w fun e w' => e = .returned (.bool (isL c)) ∧ w = w' := by
  by_cases h1 : 97 ≤ c.toNat <;> by_cases h2 : c.toNat ≤ 122
  all_goals
    go_enter Tryz.func42, Tryz.ntmps42
    go_wp2
    all_goals
      go_ret
      exact ⟨ret_bool (Bool.eq_iff_iff.2 (by simp [isL]; omega)), rfl⟩
theorem rdigit_any (c : UInt8) (w : World) : Calls Tryz.prog 44 #[.int .u8 (c.toNat : Int)] w fun e w' => e = .returned (.bool (isD c)) ∧ w = w' := by
  by_cases h1 : 48 ≤ c.toNat <;> by_cases h2 : c.toNat ≤ 57
  all_goals
    go_enter Tryz.func44, Tryz.ntmps44
    go_wp2
    all_goals
      go_ret
      exact ⟨ret_bool (Bool.eq_iff_iff.2 (by simp [isD]; omega)), rfl⟩
theorem list_of {a b : ByteArray} : (a.toList == b.toList) = true ↔ a = b := by
  rw [beq_iff_eq]
  have e1 := B_toList a.data.toList
  have e2 := B_toList b.data.toList
  rw [B_of] at e1 e2
  rw [e1, e2]
  constructor
  · intro h; rw [← B_of a, h, B_of]
  · intro h; rw [h]
theorem list_ne {a b : ByteArray} (h : a ≠ b) : (a.toList == b.toList) = false := by
  cases e : (a.toList == b.toList)
  · rfl
  · exact absurd (list_of.1 e) h
theorem word_yes {s : ByteArray} {j : Nat} (hj : j < 11) (h : B (theWords.getD j []) = s) : isWord s.data.toList = true := by
  unfold isWord
  rw [List.any_eq_true]
  have hl : theWords.length = 11 := rfl
  refine ⟨theWords.getD j [], ?_, ?_⟩
  · rw [List.getD_eq_getElem?_getD, List.getElem?_eq_getElem (by omega)]; exact List.getElem_mem _
  · rw [← h, B_list]; simp
theorem word_no {s : ByteArray} (h : ∀ j < 11, B (theWords.getD j []) ≠ s) : isWord s.data.toList = false := by
  unfold isWord
  rw [List.any_eq_false]
  intro x hx
  obtain ⟨j, hj, rfl⟩ := List.getElem_of_mem hx
  have hl : theWords.length = 11 := rfl
  intro he
  refine h j (by omega) ?_
  rw [List.getD_eq_getElem?_getD, List.getElem?_eq_getElem hj]
  have he' : theWords[j] = s.data.toList := by simpa using he
  show B theWords[j] = s
  rw [he', B_of]
def wordCells : Array Value := (theWords.map fun l => Value.string (B l)).toArray
theorem word_cell {w : World} {g : Nat} (h : Bk w g 9 wordCells) (j : Nat) (hj : j < 11) : w.cell? ⟨g, j, none⟩ = some (.string (B (theWords.getD j []))) := by
  have hl : theWords.length = 11 := rfl
  rw [h.cell]
  unfold wordCells
  rw [List.getElem?_toArray, List.getElem?_map, List.getElem?_eq_getElem (by omega), List.getD_eq_getElem?_getD, List.getElem?_eq_getElem (by omega)]
  rfl
set_option maxHeartbeats 1000000 in
theorem rword_any (s : ByteArray) (w0 w : World) (hr : Rel w0 w) :
    Calls Tryz.prog 43 #[.string s] w fun e w' => e = .returned (.bool (isWord s.data.toList)) ∧ Rel w0 w' := by
  have HB := Lib.hid (show Bk (w.alloc (.cells wordCells 9)) w.heap.size 9 wordCells from Bk.new w _ _)
  have HR := Lib.hid (hr.alloc (.cells wordCells 9))
  go_enter Tryz.func43, Tryz.ntmps43
  go_wp2_with (fail)
  go_loopw [4] (fun i wr => ∃ j : Nat, j ≤ 11 ∧ i = .int .i64 j ∧ Hid (∀ k < j, B (theWords.getD k []) ≠ s) ∧ Hid (wr = w.alloc (.cells wordCells 9))) (fun i _ => 11 - (intOf i).toNat)
  case atStart => exact ⟨0, by omega, rfl, Lib.hid (fun k hk => absurd hk (by omega)), Lib.hid rfl⟩
  case round =>
    obtain ⟨j, hj, rfl, HN, HW⟩ := hrel
    have hc := HB.out
    rw [← HW.out] at hc
    by_cases hlt : j < 11
    · have c := word_cell hc j hlt
      obtain ⟨X, hX⟩ : ∃ X, B (theWords.getD j []) = X := ⟨_, rfl⟩
      rw [hX] at c
      have HX := Lib.hid hX
      clear hX
      by_cases he : X = s
      · have HY := Lib.hid (word_yes hlt (HX.out.trans he))
        have k1 := list_of.2 he
        clear he hc
        go_wp2_with (fail)
        go_ret
        exact ⟨ret_bool HY.out.symm, by rw [HW.out]; exact HR.out⟩
      · have k1 := list_ne he
        have HN2 : Hid (∀ k < j + 1, B (theWords.getD k []) ≠ s) := Lib.hid (fun k hk => by
          rcases Nat.lt_or_ge k j with h | h
          · exact HN.out k h
          · obtain rfl : k = j := by omega
            rw [HX.out]; exact he)
        clear he hc
        go_wp2_with (fail)
        go_roundw
        case rel => exact ⟨j + 1, by omega, by go_num, HN2, HW⟩
        case measure => simp [intOf]; omega
    · obtain rfl : j = 11 := by omega
      have HY := Lib.hid (word_no HN.out)
      clear hc
      go_wp2_with (fail)
      go_ret
      exact ⟨ret_bool HY.out.symm, by rw [HW.out]; exact HR.out⟩
theorem B_cons_size (c : UInt8) (t : List UInt8) : (B (c :: t)).size = t.length + 1 := by rw [B_size]; rfl
def LD (c : UInt8) : Bool := isL c || isD c
theorem name_eq (c : UInt8) (t : List UInt8) : isName (c :: t) = (decide (t.length + 1 ≤ 12) && isL c && !isWord (c :: t) && (c :: t).all LD) := by
  unfold isName LD; simp
theorem all_bad {l : List UInt8} (j : Nat) (h : j < l.length) (hx : LD l[j] = false) : l.all LD = false := by
  rw [List.all_eq_false]
  exact ⟨l[j], List.getElem_mem h, by simp [hx]⟩
theorem all_more {l : List UInt8} (j : Nat) (h : j < l.length) (ha : (l.take j).all LD = true) (hx : LD l[j] = true) : (l.take (j + 1)).all LD = true := by
  rw [List.take_succ_eq_append_getElem h, List.all_append, ha]; simp [hx]
set_option maxHeartbeats 1000000 in
theorem rname_list (l : List UInt8) (hl : l.length ≤ 9223372036854775807) (w0 w : World) (hr : Rel w0 w) :
    Calls Tryz.prog 19 #[.string (B l)] w fun e w' => e = .returned (.bool (isName l)) ∧ Rel w0 w' := by
  cases l with
  | nil =>
    have HT := B_toList []
    go_enter Tryz.func19, Tryz.ntmps19
    go_wp2_with (fail)
    go_ret
    exact ⟨ret_bool rfl, hr⟩
  | cons c t =>
    have HT := B_toList (c :: t)
    have HB := B_cons_size c t
    have H0 := B_zero c t
    by_cases h12 : t.length + 1 ≤ 12
    · have z : ¬ (12 : Int) < (t.length : Int) + 1 := by omega
      cases hc : isL c
      · have HF := Lib.hid (show isName (c :: t) = false by rw [name_eq, hc]; simp)
        clear hl h12
        go_enter Tryz.func19, Tryz.ntmps19
        go_wp2_with (go_at_call 42; (with_reducible refine (bool_at false (rletter_any c _) (Lib.hid hc)).mono ?_); rintro e w' ⟨rfl, rfl⟩)
        go_ret
        exact ⟨ret_bool HF.out.symm, hr⟩
      · cases hw : isWord (c :: t)
        · have HC := Lib.hid hc
          have HWd := Lib.hid (show isWord (B (c :: t)).data.toList = false by rw [B_list]; exact hw)
          have HW0 := Lib.hid hw
          have HR := Lib.hid hr
          clear hw hc
          go_enter Tryz.func19, Tryz.ntmps19
          go_wp2_with (first
            | (go_at_call 42; (with_reducible refine (bool_at true (rletter_any c _) HC).mono ?_); rintro e w' ⟨rfl, rfl⟩)
            | (go_at_call 43; (with_reducible refine (bool_at false (rword_any _ _ _ hr.self) HWd).mono ?_); rintro e w1 ⟨rfl, h1⟩))
          go_loopw [3] (fun i wr => ∃ j : Nat, j ≤ t.length + 1 ∧ i = .int .i64 j ∧ Hid (((c :: t).take j).all LD = true) ∧ wr = w1) (fun i _ => t.length + 1 - (intOf i).toNat)
          case atStart => exact ⟨0, by omega, rfl, Lib.hid rfl, rfl⟩
          case round =>
            obtain ⟨j, hj, rfl, HA, rfl⟩ := hrel
            by_cases hlt : j < t.length + 1
            · have hlt' : j < (c :: t).length := by simpa using hlt
              obtain ⟨x, hx⟩ : ∃ x, x = (c :: t)[j] := ⟨_, rfl⟩
              have hg : ∀ h, (B (c :: t))[j]'h = x := fun h => by rw [hx]; rfl
              have HX := Lib.hid hx
              clear hx
              cases hL : isL x <;> cases hD : isD x
              · have HF := Lib.hid (show isName (c :: t) = false by rw [name_eq, all_bad j hlt' (by rw [← HX.out]; simp [LD, hL, hD])]; simp)
                have HL := Lib.hid hL
                have HD := Lib.hid hD
                clear hL hD
                go_wp2_with (first
                  | (go_at_call 42; (with_reducible refine (bool_at false (rletter_any x _) HL).mono ?_); rintro e w' ⟨rfl, rfl⟩)
                  | (go_at_call 44; (with_reducible refine (bool_at false (rdigit_any x _) HD).mono ?_); rintro e w' ⟨rfl, rfl⟩))
                go_ret
                exact ⟨ret_bool HF.out.symm, HR.out.trans h1⟩
              all_goals
                have HM := Lib.hid (all_more j hlt' HA.out (by rw [← HX.out]; simp [LD, hL, hD]))
                have HL := Lib.hid hL
                have HD := Lib.hid hD
                clear hL hD
                go_wp2_with (first
                  | (go_at_call 42; (with_reducible refine (bool_at _ (rletter_any x _) HL).mono ?_); rintro e w' ⟨rfl, rfl⟩)
                  | (go_at_call 44; (with_reducible refine (bool_at _ (rdigit_any x _) HD).mono ?_); rintro e w' ⟨rfl, rfl⟩))
                go_roundw
                case rel => exact ⟨j + 1, by omega, by go_num, HM, trivial⟩
                case measure => simp [intOf]; omega
            · obtain rfl : j = t.length + 1 := by omega
              have HY := Lib.hid (show isName (c :: t) = true by
                have ha := HA.out
                rw [List.take_of_length_le (by simp)] at ha
                rw [name_eq, ha, HC.out, HW0.out, decide_eq_true h12]; rfl)
              go_wp2_with (fail)
              go_ret
              exact ⟨ret_bool HY.out.symm, HR.out.trans h1⟩
        · have HC := Lib.hid hc
          have HWd := Lib.hid (show isWord (B (c :: t)).data.toList = true by rw [B_list]; exact hw)
          have HF := Lib.hid (show isName (c :: t) = false by rw [name_eq, hw]; simp)
          clear hw hc
          go_enter Tryz.func19, Tryz.ntmps19
          go_wp2_with (first
            | (go_at_call 42; (with_reducible refine (bool_at true (rletter_any c _) HC).mono ?_); rintro e w' ⟨rfl, rfl⟩)
            | (go_at_call 43; (with_reducible refine (bool_at true (rword_any _ _ _ hr.self) HWd).mono ?_); rintro e w1 ⟨rfl, h1⟩))
          go_ret
          exact ⟨ret_bool HF.out.symm, hr.trans h1⟩
    · have HF := Lib.hid (show isName (c :: t) = false by rw [name_eq, decide_eq_false h12]; simp)
      have z : (12 : Int) < (t.length : Int) + 1 := by omega
      clear h12
      go_enter Tryz.func19, Tryz.ntmps19
      go_wp2_with (fail)
      go_ret
      exact ⟨ret_bool HF.out.symm, hr⟩
theorem rname_any (s : ByteArray) (hs : s.size ≤ 9223372036854775807) (w0 w : World) (hr : Rel w0 w) :
    Calls Tryz.prog 19 #[.string s] w fun e w' => e = .returned (.bool (isName s.data.toList)) ∧ Rel w0 w' := by
  have := rname_list s.data.toList (by simpa using hs) w0 w hr
  rwa [B_of] at this
/-- What a run of parts is told as, at p. -/
def TokPost (l : List UInt8) (p : Int) (e : Ending) : Prop :=
  (∃ k n, tokOf l = some (k, n) ∧ e = .returned (.tuple #[TK (k, l, n, p), .bool true])) ∨ (tokOf l = none ∧ ∃ t, e = .returned (.tuple #[TK t, .bool false]))
theorem tok_word {l : List UInt8} (h : isWord l = true ∨ isName l = true) : tokOf l = some (1, 0) := by
  unfold tokOf; rw [if_pos]; rcases h with h | h <;> simp [h]
theorem tok_count {l : List UInt8} (h : isWord l = false) (h' : isName l = false) (hc : 0 ≤ cnt l 100000) : tokOf l = some (2, cnt l 100000) := by
  unfold tokOf; rw [if_neg (by simp [h, h']), if_pos hc]
theorem tok_money {l : List UInt8} (h : isWord l = false) (h' : isName l = false) (hc : ¬ 0 ≤ cnt l 100000) : tokOf l = (prs l).map fun a => (3, a) := by
  unfold tokOf; rw [if_neg (by simp [h, h']), if_neg hc]; cases prs l <;> rfl
end Go.Proofs.YtpehlldgnbajjaaGreatDoor

namespace Go.Proofs.YtpehlldgnbajjaaGreatDoor
open Go.RowKit Go.Lib
set_option linter.unusedVariables false
set_option linter.unusedSimpArgs false

theorem offs_at {w wr : World} {A : Option Addr} {os : List Of} (h : OffsAt w A os) (hr : Rel w wr) (j : Nat) (hj : j < os.length) :
    ∃ (g off : Nat) (s : List UInt8) (p : Int), A = some ⟨g, off, none⟩ ∧ wr.cell? ⟨g, off + j * 2, none⟩ = some (.string (B s)) ∧ wr.cell? ⟨g, off + j * 2 + 1, none⟩ = some (.int .i64 p) ∧ os[j] = (s, p) := by
  obtain ⟨g, off, e, _, h0, h1⟩ := (h.rel hr) j hj
  exact ⟨g, off, os[j].1, os[j].2, e, h0, h1, rfl⟩
theorem price_at (os : List Of) (j : Nat) (hj : j < os.length) : (prices os)[j]? = some os[j].2 := by
  unfold prices; rw [List.getElem?_map, List.getElem?_eq_getElem hj]; rfl
theorem ah_step {os : List Of} {v : Int} {i j : Nat} (hj : j < os.length) {p : Int} (hp : os[j].2 = p) (b : Nat) (h : Hid ((if p < v ∨ p = v ∧ j < i then 1 else 0) = b)) : ah (prices os) v i (j + 1) = ah (prices os) v i j + b := by
  rw [ah, price_at os j hj, hp]
  simp only
  rw [h.out]
theorem ah_le (l : List Int) (v : Int) (i : Nat) : ∀ j, ah l v i j ≤ j := by
  intro j
  induction j with
  | zero => exact Nat.le_refl _
  | succ j ih => rw [ah]; split <;> (try split) <;> omega
theorem ret_ib {a a' : Int} {b b' : Bool} (h : a = a') (h' : b = b') : Ending.returned (.tuple #[.int .i64 a, .bool b]) = .returned (.tuple #[.int .i64 a', .bool b']) := by rw [h, h']
set_option maxRecDepth 100000 in
set_option maxHeartbeats 4000000 in
theorem rrank_any (A : Option Addr) (c : Nat) (os : List Of) (n : Nat) (hn : n ≤ 100) (w0 w : World) (hr : Rel w0 w) (h : OffArg w A c os) :
    Calls Tryz.prog 55 #[.slice A os.length c, .int .i64 (n : Int)] w fun e w' => e = .returned (.tuple #[.int .i64 ((rk os n).getD 0), .bool (rk os n).isSome]) ∧ Rel w0 w' := by
  have HR := Lib.hid hr
  have HS := Lib.hid hr.self
  have HA := Lib.hid h.2.2.2
  have hl : os.length ≤ 9223372036854775807 := by have := h.1; have := h.2.1; unfold maxLen at this; omega
  clear h hr
  go_enter Tryz.func55, Tryz.ntmps55
  go_wp2_with (fail)
  go_loopw [6] (fun i wr => ∃ j : Nat, j ≤ os.length ∧ i = .int .i64 (j : Int) ∧ Hid (∀ k (hk : k < os.length), k < j → ah (prices os) os[k].2 k os.length ≠ n) ∧ Rel w wr) (fun i _ => os.length - (RowKit.intOf i).toNat)
  case atStart => exact ⟨0, by omega, rfl, Lib.hid (fun k _ hk => absurd hk (by omega)), HS.out⟩
  case round =>
    obtain ⟨i, hi, rfl, HN, hRw⟩ := hrel
    have HRw := Lib.hid hRw
    by_cases hlt : i < os.length
    · obtain ⟨g, off, s, v, rfl, c0, c1, ho⟩ := offs_at HA.out hRw i hlt
      have HO := Lib.hid ho
      have HP := Lib.hid (show os[i].2 = v by rw [ho])
      obtain ⟨wo, hwo⟩ : ∃ wo, wo = wr := ⟨_, rfl⟩
      subst hwo
      clear ho c0
      go_wp2_with (fail)
      go_loopw [7, 8] (fun a k wr => ∃ (j m : Nat), j ≤ os.length ∧ m ≤ j ∧ k = .int .i64 (j : Int) ∧ a = .int .i64 (m : Int) ∧ Hid (ah (prices os) v i j = m) ∧ Rel wo wr) (fun _ k _ => os.length - (RowKit.intOf k).toNat)
      case atStart => exact ⟨0, 0, by omega, by omega, rfl, rfl, Lib.hid rfl, HRw.out.self⟩
      case round =>
        obtain ⟨j, m, hj, hm, rfl, rfl, HM, hRi⟩ := hrel
        have HRi := Lib.hid hRi
        by_cases hlt2 : j < os.length
        · obtain ⟨g', off', s', p, e, d0, d1, ho2⟩ := offs_at HA.out (HRw.out.trans hRi) j hlt2
          injection e with e
          injection e with e1 e2
          subst e1
          subst e2
          have c1' := (hRi.2.cell (p := ⟨g, off + i * 2 + 1, none⟩) (blk_of_cell c1)).trans c1
          have HP2 := Lib.hid (show os[j].2 = p by rw [ho2])
          clear ho2 d0 hRi
          have q : p < v ∨ (p = v ∧ j < i) ∨ (p = v ∧ ¬ j < i) ∨ v < p := by omega
          rcases q with q | q | q | q
          · have t1 : decide (p < v) = true := decide_eq_true q
            have HX := Lib.hid (ah_step (v := v) (i := i) hlt2 HP2.out 1 (Lib.hid (if_pos (.inl q))))
            clear q
            go_wp2_with (fail)
            go_quiet (fail)
            go_wp2_with (fail)
            go_roundw
            case rel => exact ⟨j + 1, m + 1, by omega, by omega, by go_num, by go_num, Lib.hid (by rw [HX.out, HM.out]), HRi.out.drewN _⟩
            case measure => simp [RowKit.intOf]; omega
          · have t1 : decide (p < v) = false := decide_eq_false (by omega)
            have t2 : (p == v) = true := by simpa using q.1
            have t3 : decide ((j : Int) < (i : Int)) = true := decide_eq_true (by omega)
            have t4 : j < i := q.2
            have HX := Lib.hid (ah_step (v := v) (i := i) hlt2 HP2.out 1 (Lib.hid (if_pos (.inr q))))
            clear q
            go_wp2_with (fail)
            go_quiet (fail)
            go_wp2_with (fail)
            go_roundw
            case rel => exact ⟨j + 1, m + 1, by omega, by omega, by go_num, by go_num, Lib.hid (by rw [HX.out, HM.out]), HRi.out.drewN _⟩
            case measure => simp [RowKit.intOf]; omega
          · have t1 : decide (p < v) = false := decide_eq_false (by omega)
            have t2 : (p == v) = true := by simpa using q.1
            have t3 : decide ((j : Int) < (i : Int)) = false := decide_eq_false (by omega)
            have t4 : ¬ j < i := q.2
            have HX := Lib.hid (ah_step (v := v) (i := i) hlt2 HP2.out 0 (Lib.hid (if_neg (by omega))))
            clear q
            go_wp2_with (fail)
            go_quiet (fail)
            go_wp2_with (fail)
            go_roundw
            case rel => exact ⟨j + 1, m, by omega, by omega, by go_num, rfl, Lib.hid (by rw [HX.out, HM.out, Nat.add_zero]), HRi.out.drewN _⟩
            case measure => simp [RowKit.intOf]; omega
          · have t1 : decide (p < v) = false := decide_eq_false (by omega)
            have t2 : (p == v) = false := by simp; omega
            have HX := Lib.hid (ah_step (v := v) (i := i) hlt2 HP2.out 0 (Lib.hid (if_neg (by omega))))
            clear q
            go_wp2_with (fail)
            go_quiet (fail)
            go_wp2_with (fail)
            go_roundw
            case rel => exact ⟨j + 1, m, by omega, by omega, by go_num, rfl, Lib.hid (by rw [HX.out, HM.out, Nat.add_zero]), HRi.out.drewN _⟩
            case measure => simp [RowKit.intOf]; omega
        · obtain rfl : j = os.length := by omega
          have c1' := (hRi.2.cell (p := ⟨g, off + i * 2 + 1, none⟩) (blk_of_cell c1)).trans c1
          have hml : (m : Int) ≤ 9223372036854775807 := by omega
          by_cases he : m = n
          · have t1 : ((m : Int) == (n : Int)) = true := by simp [he]
            have HF := Lib.hid (show rk os n = some v by
              have := ah_hit (l := prices os) (i := i) (n := n) (by rw [prices_len]; exact hlt) (by
                have e : (prices os)[i]'(by rw [prices_len]; exact hlt) = v := by unfold prices; rw [List.getElem_map]; exact HP.out
                rw [e, prices_len, HM.out, he])
              have e : (prices os)[i]'(by rw [prices_len]; exact hlt) = v := by unfold prices; rw [List.getElem_map]; exact HP.out
              rw [e] at this; exact this)
            clear he
            go_wp2_with (fail)
            go_ret2
            exact ⟨ret_ib (by rw [HF.out]; rfl) (by rw [HF.out]; rfl), (HR.out.trans HRw.out).trans HRi.out⟩
          · have t1 : ((m : Int) == (n : Int)) = false := by simp; omega
            have HN2 : Hid (∀ k (hk : k < os.length), k < i + 1 → ah (prices os) os[k].2 k os.length ≠ n) := Lib.hid (fun k hk hki => by
              by_cases e : k = i
              · subst e; rw [HP.out, HM.out]; exact he
              · exact HN.out k hk (by omega))
            clear he
            go_wp2_with (fail)
            go_roundw
            case rel => exact ⟨i + 1, by omega, by go_num, HN2, HRw.out.trans HRi.out⟩
            case measure => simp [RowKit.intOf]; omega
    · obtain rfl : i = os.length := by omega
      have HF := Lib.hid (show rk os n = none from ah_miss (fun k hk => by
        have hk' : k < os.length := by rw [prices_len] at hk; exact hk
        have := HN.out k hk' hk'
        have e : (prices os)[k] = os[k].2 := List.getElem_map ..
        rw [e, prices_len]; exact this))
      go_wp2_with (fail)
      go_ret2
      exact ⟨ret_ib (by rw [HF.out]; rfl) (by rw [HF.out]; rfl), HR.out.trans HRw.out⟩
end Go.Proofs.YtpehlldgnbajjaaGreatDoor

namespace Go.Proofs.YtpehlldgnbajjaaGreatDoor
open Go.RowKit Go.Lib
set_option linter.unusedVariables false
set_option linter.unusedSimpArgs false

theorem offsTo_step {os : List Of} {i : Nat} (hi : i < os.length) (h : offsTo os i = true) (h1 : offOk os[i] = true) (h2 : ∀ k (hk : k < os.length), k < i → os[k].1 ≠ os[i].1) : offsTo os (i + 1) = true := by
  rw [offsTo_iff (by omega)] at h ⊢
  intro j hj hji
  by_cases e : j = i
  · subst e; exact ⟨h1, h2⟩
  · exact h j hj (by omega)
theorem offs_bad {os : List Of} {i : Nat} (hi : i < os.length) (h : offOk os[i] = false ∨ ∃ k, ∃ hk : k < os.length, k < i ∧ os[k].1 = os[i].1) : offsOk os = false := by
  cases e : offsOk os
  · rfl
  · obtain ⟨_, h2⟩ := offs_iff.1 e
    obtain ⟨h3, h4⟩ := h2 i hi
    rcases h with h | ⟨k, hk, hki, he⟩
    · rw [h3] at h; cases h
    · exact absurd he (h4 k hk hki)
theorem offs_many {os : List Of} (h : 8 < os.length) : offsOk os = false := by
  cases e : offsOk os
  · rfl
  · have := (offs_iff.1 e).1; omega
theorem offs_full {os : List Of} (h : os.length ≤ 8) (h2 : offsTo os os.length = true) : offsOk os = true := by
  unfold offsOk; rw [h2]; simp [h]
theorem offOk_mk {o : Of} {s : List UInt8} {p : Int} (h : o = (s, p)) (b : Bool) (hb : (isName s && decide (1 ≤ p ∧ p ≤ 1000000000000)) = b) : offOk o = b := by subst h; exact hb
set_option maxRecDepth 100000 in
set_option maxHeartbeats 4000000 in
theorem rright9_any (A : Option Addr) (c : Nat) (os : List Of) (w0 w : World) (hr : Rel w0 w) (h : OffArg w A c os) :
    Calls Tryz.prog 7 #[.slice A os.length c] w fun e w' => e = .returned (.bool (offsOk os)) ∧ Rel w0 w' := by
  have HR := Lib.hid hr
  have HS := Lib.hid hr.self
  have HA := Lib.hid h.2.2.2
  have HF := Lib.hid h.2.2.1
  have hl : os.length ≤ 9223372036854775807 := by have := h.1; have := h.2.1; unfold maxLen at this; omega
  clear h hr
  by_cases h8 : 8 < os.length
  · have HB := Lib.hid (offs_many h8)
    have t1 : decide ((8 : Int) < (os.length : Int)) = true := decide_eq_true (by omega)
    go_enter Tryz.func7, Tryz.ntmps7
    go_wp2_with (fail)
    go_ret
    exact ⟨ret_bool HB.out.symm, HR.out⟩
  have t1 : decide ((8 : Int) < (os.length : Int)) = false := decide_eq_false (by omega)
  go_enter Tryz.func7, Tryz.ntmps7
  go_wp2_with (fail)
  go_loopw [3] (fun i wr => ∃ j : Nat, j ≤ os.length ∧ i = .int .i64 (j : Int) ∧ Hid (offsTo os j = true) ∧ Rel w wr) (fun i _ => os.length - (RowKit.intOf i).toNat)
  case atStart => exact ⟨0, by omega, rfl, Lib.hid rfl, HS.out⟩
  case round =>
    obtain ⟨i, hi, rfl, HN, hRw⟩ := hrel
    have HRw := Lib.hid hRw
    by_cases hlt : i < os.length
    · obtain ⟨g, off, s, p, rfl, c0, c1, ho⟩ := offs_at HA.out hRw i hlt
      have hs : s.length ≤ 9223372036854775807 := by have := (HF.out _ (List.getElem_mem hlt)).1; rw [ho] at this; exact this
      have HO := Lib.hid ho
      obtain ⟨X, hX⟩ : ∃ X, B s = X := ⟨_, rfl⟩
      obtain ⟨b, hb⟩ : ∃ b, isName s = b := ⟨_, rfl⟩
      have hC := fun (w0 w : World) (hr : Rel w0 w) => rname_list s (by omega) w0 w hr
      rw [hX, hb] at hC
      rw [hX] at c0
      have HC := Lib.hid hC
      have HX := Lib.hid hX
      have HBn := Lib.hid hb
      clear ho hC hX hb
      cases b with
      | false =>
        have HB := Lib.hid (offs_bad hlt (.inl (offOk_mk HO.out false (by rw [HBn.out]; rfl))))
        go_wp2_with (go_at_call 19; (with_reducible refine (HC.out _ _ HRw.out.self).mono ?_); rintro e w1 ⟨rfl, h1⟩)
        go_ret
        exact ⟨ret_bool HB.out.symm, (HR.out.trans HRw.out).trans h1⟩
      | true =>
        by_cases p1 : p < 1
        · have t2 : decide (p < 1) = true := decide_eq_true p1
          have HB := Lib.hid (offs_bad hlt (.inl (offOk_mk HO.out false (by rw [HBn.out]; simp; omega))))
          go_wp2_with (go_at_call 19; (with_reducible refine (HC.out _ _ HRw.out.self).mono ?_); rintro e w1 ⟨rfl, h1⟩; have c1 := (h1.2.cell (p := ⟨g, off + i * 2 + 1, none⟩) (blk_of_cell c1)).trans c1)
          go_ret
          exact ⟨ret_bool HB.out.symm, (HR.out.trans HRw.out).trans h1⟩
        · have t2 : decide (p < 1) = false := decide_eq_false p1
          by_cases p2 : 1000000000000 < p
          · have t3 : decide (1000000000000 < p) = true := decide_eq_true p2
            have HB := Lib.hid (offs_bad hlt (.inl (offOk_mk HO.out false (by rw [HBn.out]; simp; omega))))
            go_wp2_with (go_at_call 19; (with_reducible refine (HC.out _ _ HRw.out.self).mono ?_); rintro e w1 ⟨rfl, h1⟩; have c1 := (h1.2.cell (p := ⟨g, off + i * 2 + 1, none⟩) (blk_of_cell c1)).trans c1)
            go_ret
            exact ⟨ret_bool HB.out.symm, (HR.out.trans HRw.out).trans h1⟩
          · have t3 : decide (1000000000000 < p) = false := decide_eq_false p2
            have HOk := Lib.hid (offOk_mk HO.out true (by rw [HBn.out]; simp; omega))
            go_wp2_with (go_at_call 19; (with_reducible refine (HC.out _ _ HRw.out.self).mono ?_); rintro e w1 ⟨rfl, h1⟩; have c1 := (h1.2.cell (p := ⟨g, off + i * 2 + 1, none⟩) (blk_of_cell c1)).trans c1)
            have c0 := (h1.2.cell (p := ⟨g, off + i * 2, none⟩) (blk_of_cell c0)).trans c0
            have HR1 := Lib.hid h1
            clear t2 t3 p1 p2 h1
            go_loopw [4] (fun k wr => ∃ j : Nat, j ≤ i ∧ k = .int .i64 (j : Int) ∧ Hid (∀ k (hk : k < os.length), k < j → os[k].1 ≠ os[i].1) ∧ Rel w1 wr) (fun k _ => i - (RowKit.intOf k).toNat)
            case atStart => exact ⟨0, by omega, rfl, Lib.hid (fun k _ hk => absurd hk (by omega)), Rel.start HR1.out.tab⟩
            case round =>
              obtain ⟨j, hj, rfl, HM, hRi⟩ := hrel
              have HRi := Lib.hid hRi
              by_cases hlt2 : j < i
              · obtain ⟨g', off', s', p', e, d0, d1, ho2⟩ := offs_at HA.out ((HRw.out.trans HR1.out).trans hRi) j (by omega)
                injection e with e
                injection e with e1 e2
                subst e1
                subst e2
                have c0' := (hRi.2.cell (p := ⟨g, off + i * 2, none⟩) (blk_of_cell c0)).trans c0
                obtain ⟨Y, hY⟩ : ∃ Y, B s' = Y := ⟨_, rfl⟩
                rw [hY] at d0
                have HO2 := Lib.hid ho2
                have HY := Lib.hid hY
                have hji : (j : Int) < (i : Int) := by omega
                clear ho2 hRi hY d1
                by_cases he : X = Y
                · have k1 := list_of.2 he
                  have HB := Lib.hid (offs_bad hlt (.inr ⟨j, by omega, hlt2, by rw [HO.out, HO2.out]; show s' = s; rw [← B_list s', ← B_list s, HX.out, HY.out, he]⟩))
                  clear he
                  go_wp2_with (fail)
                  go_quiet (fail)
                  go_wp2_with (fail)
                  go_ret
                  exact ⟨ret_bool HB.out.symm, (((HR.out.trans HRw.out).trans HR1.out).trans HRi.out).drewN _⟩
                · have k1 := list_ne he
                  have HM2 : Hid (∀ k (hk : k < os.length), k < j + 1 → os[k].1 ≠ os[i].1) := Lib.hid (fun k hk hkj => by
                    by_cases e : k = j
                    · subst e
                      rw [HO.out, HO2.out]
                      show s' ≠ s
                      intro e; subst e; exact he (HX.out.symm.trans HY.out)
                    · exact HM.out k hk (by omega))
                  clear he
                  go_wp2_with (fail)
                  go_quiet (fail)
                  go_wp2_with (fail)
                  go_roundw
                  case rel => exact ⟨j + 1, by omega, by go_num, HM2, HRi.out.drewN _⟩
                  case measure => simp [RowKit.intOf]; omega
              · obtain rfl : j = i := by omega
                have HN2 := Lib.hid (offsTo_step hlt HN.out HOk.out HM.out)
                go_wp2_with (fail)
                go_roundw
                case rel => exact ⟨j + 1, by omega, by go_num, HN2, (HRw.out.trans HR1.out).trans HRi.out⟩
                case measure => simp [RowKit.intOf]; omega
    · obtain rfl : i = os.length := by omega
      have HB := Lib.hid (offs_full (by omega) HN.out)
      go_wp2_with (fail)
      go_ret
      exact ⟨ret_bool HB.out.symm, HR.out.trans HRw.out⟩
end Go.Proofs.YtpehlldgnbajjaaGreatDoor

namespace Go.Proofs.YtpehlldgnbajjaaGreatDoor
open Go.RowKit Go.Lib
set_option linter.unusedVariables false
set_option linter.unusedSimpArgs false

theorem m9rt_iff {a : Int} : rt a = true ↔ -1000000000000 ≤ a ∧ a ≤ 1000000000000 := by simp [rt]
theorem m9prod_bd {a b A B : Int} (h1 : -A ≤ a) (h2 : a ≤ A) (h3 : -B ≤ b) (h4 : b ≤ B) : -(A * B) ≤ a * b ∧ a * b ≤ A * B := by
  have h : a.natAbs * b.natAbs ≤ A.natAbs * B.natAbs := Nat.mul_le_mul (by omega) (by omega)
  have e : (a * b).natAbs = a.natAbs * b.natAbs := Int.natAbs_mul a b
  have e2 : (A * B).natAbs = A.natAbs * B.natAbs := Int.natAbs_mul A B
  have hp : 0 ≤ A * B := Int.mul_nonneg (by omega) (by omega)
  omega
theorem m9fl_lt {p : Int} : fl p * 10000 ≤ p ∧ p < fl p * 10000 + 10000 := by
  have := tdt p 10000 (by omega)
  unfold fl; split <;> omega
theorem m9ret_two {a b c d : Int} (h : a = c) (h' : b = d) : Two (Ending.returned (.tuple #[.int .i64 a, .int .i64 b])) c d := by subst h; subst h'; rfl
theorem m9prt_up (p : Int) : -(fl (-p)) = if 0 < p.tmod 10000 then p.tdiv 10000 + 1 else p.tdiv 10000 := by
  have := tdt p 10000 (by omega)
  have h1 := @m9fl_lt (-p)
  generalize fl (-p) = q at *
  split <;> omega
set_option maxHeartbeats 400000 in
theorem m9rright_any (a : Int) (w : World) :
    Calls Tryz.prog 71 #[.int .i64 a] w fun e w' => e = .returned (.bool (rt a)) ∧ w = w' := by
  by_cases h1 : -1000000000000 ≤ a <;> by_cases h2 : a ≤ 1000000000000
  all_goals
    go_enter Tryz.func71, Tryz.ntmps71
    go_wp2
    all_goals
      go_ret
      exact ⟨ret_bool (by unfold rt; rw [eq_comm]; first | exact decide_eq_true (by omega) | exact decide_eq_false (by omega)), rfl⟩
set_option maxHeartbeats 400000 in
theorem m9told_any (a : Int) (w : World) :
    Calls Tryz.prog 72 #[.int .i64 a] w fun e w' => Two e (told1 a) (told2 a) ∧ w = w' := by
  by_cases h1 : -1000000000000 ≤ a <;> by_cases h2 : a ≤ 1000000000000
  all_goals
    go_enter Tryz.func72, Tryz.ntmps72
    go_wp2
    go_ret2
    exact ⟨m9ret_two (by unfold told1 rt; simp only [decide_eq_true_eq]; split <;> omega) (by unfold told2 rt; simp only [decide_eq_true_eq]; split <;> omega), rfl⟩
set_option maxHeartbeats 400000 in
theorem m9rsub_any (a b : Int) (w : World) :
    Calls Tryz.prog 57 #[.int .i64 a, .int .i64 b] w fun e w' => Two e (two1 a b (a - b)) (two2 a b (a - b)) ∧ w = w' := by
  by_cases h60 : -1000000000000 ≤ a
  · by_cases h50 : a ≤ 1000000000000
    · by_cases h40 : -1000000000000 ≤ b
      · by_cases h30 : b ≤ 1000000000000
        · by_cases h20 : -1000000000000 ≤ a - b
          · by_cases h10 : a - b ≤ 1000000000000
            · go_enter Tryz.func57, Tryz.ntmps57
              go_wp2
              go_ret2
              exact ⟨m9ret_two (by unfold two1 told1 rt; simp only [Bool.and_eq_true, decide_eq_true_eq]; (repeat' split) <;> omega) (by unfold two2 told2 rt; simp only [Bool.and_eq_true, decide_eq_true_eq]; (repeat' split) <;> omega), rfl⟩
            · go_enter Tryz.func57, Tryz.ntmps57
              go_wp2
              go_ret2
              exact ⟨m9ret_two (by unfold two1 told1 rt; simp only [Bool.and_eq_true, decide_eq_true_eq]; (repeat' split) <;> omega) (by unfold two2 told2 rt; simp only [Bool.and_eq_true, decide_eq_true_eq]; (repeat' split) <;> omega), rfl⟩
          · go_enter Tryz.func57, Tryz.ntmps57
            go_wp2
            go_ret2
            exact ⟨m9ret_two (by unfold two1 told1 rt; simp only [Bool.and_eq_true, decide_eq_true_eq]; (repeat' split) <;> omega) (by unfold two2 told2 rt; simp only [Bool.and_eq_true, decide_eq_true_eq]; (repeat' split) <;> omega), rfl⟩
        · go_enter Tryz.func57, Tryz.ntmps57
          go_wp2
          go_ret2
          exact ⟨m9ret_two (by unfold two1 told1 rt; simp only [Bool.and_eq_true, decide_eq_true_eq]; (repeat' split) <;> omega) (by unfold two2 told2 rt; simp only [Bool.and_eq_true, decide_eq_true_eq]; (repeat' split) <;> omega), rfl⟩
      · go_enter Tryz.func57, Tryz.ntmps57
        go_wp2
        go_ret2
        exact ⟨m9ret_two (by unfold two1 told1 rt; simp only [Bool.and_eq_true, decide_eq_true_eq]; (repeat' split) <;> omega) (by unfold two2 told2 rt; simp only [Bool.and_eq_true, decide_eq_true_eq]; (repeat' split) <;> omega), rfl⟩
    · go_enter Tryz.func57, Tryz.ntmps57
      go_wp2
      go_ret2
      exact ⟨m9ret_two (by unfold two1 told1 rt; simp only [Bool.and_eq_true, decide_eq_true_eq]; (repeat' split) <;> omega) (by unfold two2 told2 rt; simp only [Bool.and_eq_true, decide_eq_true_eq]; (repeat' split) <;> omega), rfl⟩
  · go_enter Tryz.func57, Tryz.ntmps57
    go_wp2
    go_ret2
    exact ⟨m9ret_two (by unfold two1 told1 rt; simp only [Bool.and_eq_true, decide_eq_true_eq]; (repeat' split) <;> omega) (by unfold two2 told2 rt; simp only [Bool.and_eq_true, decide_eq_true_eq]; (repeat' split) <;> omega), rfl⟩
set_option maxHeartbeats 400000 in
theorem m9rpart_any (a b : Int) (up : Bool) (w : World) :
    Calls Tryz.prog 56 #[.int .i64 a, .int .i64 b, .bool up] w fun e w' => Two e (part1 a b up) (part2 a b up) ∧ w = w' := by
  cases ha : rt a
  · have r1 : part1 a b up = 0 := by simp [part1, ha]
    have r2 : part2 a b up = 10 := by simp [part2, ha]
    rw [r1, r2]; clear r1 r2
    go_enter Tryz.func56, Tryz.ntmps56
    go_wp2_with (first | (go_at_call 71; refine (m9rright_any _ _).mono ?_; rintro e w' ⟨rfl, rfl⟩))
    go_ret2
    exact ⟨rfl, rfl⟩
  · by_cases b1 : -100000 ≤ b
    · by_cases b2 : b ≤ 100000
      · have hb : wtM b (-100000) 100000 = true := decide_eq_true ⟨b1, b2⟩
        obtain ⟨a1, a2⟩ := m9rt_iff.1 ha
        obtain ⟨p1, p2⟩ : -100000000000000000 ≤ a * b ∧ a * b ≤ 100000000000000000 := m9prod_bd a1 a2 b1 b2
        have t := tdt (a * b) 10000 (by omega)
        obtain ⟨g1, g2⟩ : -100000000000000 ≤ (a * b).tdiv 10000 ∧ (a * b).tdiv 10000 ≤ 100000000000000 := by omega
        clear t
        cases up
        · have r1 : part1 a b false = told1 (fl (a * b)) := by simp [part1, ha, hb, prt]
          have r2 : part2 a b false = told2 (fl (a * b)) := by simp [part2, ha, hb, prt]
          rw [r1, r2]; clear r1 r2 hb
          by_cases h : (a * b).tmod 10000 < 0
          · have e : fl (a * b) = (a * b).tdiv 10000 - 1 := if_pos h
            rw [e]; clear e
            go_enter Tryz.func56, Tryz.ntmps56
            go_wp2_with (first | (go_at_call 71; refine (m9rright_any _ _).mono ?_; rintro e w' ⟨rfl, rfl⟩) | (go_at_call 72; refine (m9told_any _ _).mono ?_; rintro e w' ⟨rfl, rfl⟩))
            go_ret2
            exact ⟨rfl, rfl⟩
          · have e : fl (a * b) = (a * b).tdiv 10000 := if_neg h
            rw [e]; clear e
            go_enter Tryz.func56, Tryz.ntmps56
            go_wp2_with (first | (go_at_call 71; refine (m9rright_any _ _).mono ?_; rintro e w' ⟨rfl, rfl⟩) | (go_at_call 72; refine (m9told_any _ _).mono ?_; rintro e w' ⟨rfl, rfl⟩))
            all_goals
              go_ret2
              exact ⟨rfl, rfl⟩
        · have r1 : part1 a b true = told1 (-(fl (-(a * b)))) := by simp [part1, ha, hb, prt]
          have r2 : part2 a b true = told2 (-(fl (-(a * b)))) := by simp [part2, ha, hb, prt]
          rw [r1, r2, m9prt_up]; clear r1 r2 hb
          by_cases h : 0 < (a * b).tmod 10000
          · rw [if_pos h]
            go_enter Tryz.func56, Tryz.ntmps56
            go_wp2_with (first | (go_at_call 71; refine (m9rright_any _ _).mono ?_; rintro e w' ⟨rfl, rfl⟩) | (go_at_call 72; refine (m9told_any _ _).mono ?_; rintro e w' ⟨rfl, rfl⟩))
            all_goals
              go_ret2
              exact ⟨rfl, rfl⟩
          · rw [if_neg h]
            go_enter Tryz.func56, Tryz.ntmps56
            go_wp2_with (first | (go_at_call 71; refine (m9rright_any _ _).mono ?_; rintro e w' ⟨rfl, rfl⟩) | (go_at_call 72; refine (m9told_any _ _).mono ?_; rintro e w' ⟨rfl, rfl⟩))
            all_goals
              go_ret2
              exact ⟨rfl, rfl⟩
      · have hb : wtM b (-100000) 100000 = false := decide_eq_false (by omega)
        have r1 : part1 a b up = 0 := by simp [part1, hb]
        have r2 : part2 a b up = 10 := by simp [part2, hb]
        rw [r1, r2]; clear r1 r2 hb
        go_enter Tryz.func56, Tryz.ntmps56
        go_wp2_with (first | (go_at_call 71; refine (m9rright_any _ _).mono ?_; rintro e w' ⟨rfl, rfl⟩))
        go_ret2
        exact ⟨rfl, rfl⟩
    · have hb : wtM b (-100000) 100000 = false := decide_eq_false (by omega)
      have r1 : part1 a b up = 0 := by simp [part1, hb]
      have r2 : part2 a b up = 10 := by simp [part2, hb]
      rw [r1, r2]; clear r1 r2 hb
      go_enter Tryz.func56, Tryz.ntmps56
      go_wp2_with (first | (go_at_call 71; refine (m9rright_any _ _).mono ?_; rintro e w' ⟨rfl, rfl⟩))
      go_ret2
      exact ⟨rfl, rfl⟩
end Go.Proofs.YtpehlldgnbajjaaGreatDoor

namespace Go.Proofs.YtpehlldgnbajjaaGreatDoor
open Go.RowKit Go.Lib
set_option linter.unusedVariables false
set_option linter.unusedSimpArgs false

theorem rcond_any (k : Int) (w : World) : Calls Tryz.prog 35 #[.int .i64 k] w fun e w' => e = .returned (.bool (isCond k)) ∧ w = w' := by
  cases h1 : (k == 11) <;> cases h2 : (k == 12)
  all_goals
    have HF := Lib.hid (show isCond k = (_ || _) from rfl)
    rw [h1, h2] at HF
    go_enter Tryz.func35, Tryz.ntmps35
    go_wp2_with (fail)
    go_ret
    exact ⟨ret_bool HF.out.symm, rfl⟩
theorem rmost_any (k : Int) (w : World) : Calls Tryz.prog 60 #[.int .i64 k] w fun e w' => e = .returned (.int .i64 (mostN k)) ∧ w = w' := by
  rcases kinds k with h | ⟨k1, k2, k3, k4, k5, k6, k7, k8, k9, k10, k11, k12, _, ha, _⟩
  · rcases h with rfl | rfl | rfl | rfl | rfl | rfl | rfl | rfl | rfl | rfl | rfl | rfl
    all_goals
      go_enter Tryz.func60, Tryz.ntmps60
      go_wp2_with (fail)
      go_ret
      exact ⟨rfl, rfl⟩
  · have HA := Lib.hid ha
    clear ha
    go_enter Tryz.func60, Tryz.ntmps60
    go_wp2_with (fail)
    go_ret
    exact ⟨ret_int HA.out.symm, rfl⟩
theorem sizes_take (l : List Ex) (j : Nat) (h : j < l.length) : sizes (l.take (j + 1)) = sizes (l.take j) + size l[j] := by
  rw [List.take_succ_eq_append_getElem h, sizes_append, sizes_cons, sizes_nil]; omega
theorem deeps_take (l : List Ex) (j : Nat) (h : j < l.length) : deeps (l.take (j + 1)) = max (deeps (l.take j)) (deep l[j]) := by
  rw [List.take_succ_eq_append_getElem h, deeps_append, deeps_cons, deeps_nil]; omega
/-- An argument, in the world of a round. -/
theorem ExAt.arg {S : Nat → Prop} {w wr : World} {A : Option Addr} {es : List El} {l : List Ex} (hrow : RowE S w A es) (hsub : ∀ i (h : i < es.length) (h' : i < l.length), ExAt S w es[i] l[i]) (hl : es.length = l.length) (hr : Rel w wr) (j : Nat) (hj : j < l.length) :
    ∃ (g off : Nat) (k n : Int) (nm : List UInt8) (A' : Option Addr) (m c : Nat), A = some ⟨g, off, none⟩ ∧ wr.cell? ⟨g, off + j * 4, none⟩ = some (.int .i64 k) ∧ wr.cell? ⟨g, off + j * 4 + 1, none⟩ = some (.int .i64 n) ∧ wr.cell? ⟨g, off + j * 4 + 2, none⟩ = some (.string (B nm)) ∧ wr.cell? ⟨g, off + j * 4 + 3, none⟩ = some (.slice A' m c) ∧ ExAt S wr (k, n, nm, A', m, c) l[j] := by
  obtain ⟨g, off, e, hl2, _, h0, h1, h2, h3⟩ := hrow j (by omega)
  have hs := (hsub j (by omega) hj).rel hr
  generalize es[j] = e0 at *
  obtain ⟨k, n, nm, A', m, c⟩ := e0
  have hk : ∀ i, wr.cell? ⟨g, i, none⟩ = w.cell? ⟨g, i, none⟩ := fun i => hr.2.cell (p := ⟨g, i, none⟩) hl2
  exact ⟨g, off, k, n, nm, A', m, c, e, by rw [hk]; exact h0, by rw [hk]; exact h1, by rw [hk]; exact h2, by rw [hk]; exact h3, hs⟩
theorem fine_arg {l : List Ex} {P : Ex → Prop} (h : ∀ x ∈ l, P x) (j : Nat) (hj : j < l.length) : P l[j] := h _ (List.getElem_mem hj)
set_option maxRecDepth 100000 in
set_option maxHeartbeats 2000000 in
theorem rsize_any : ∀ (x : Ex) (S : Nat → Prop) (e : El) (w0 w : World), Rel w0 w → ExAt S w e x → size x ≤ 1000000 →
    Calls Tryz.prog 36 #[EV e] w fun r w' => r = .returned (.int .i64 (size x : Int)) ∧ Rel w0 w' := ex_ind fun k n nm l ih S e w0 w hr h hz => by
  obtain ⟨A, c, es, rfl, hk, hn, hm, hl, hrow, hsub⟩ := h.open
  have HRow := Lib.hid hrow
  have HSub := Lib.hid hsub
  have HIH := Lib.hid (fun j hj => ih _ (List.getElem_mem (l := l) (n := j) hj))
  have HR := Lib.hid hr
  rw [size_mk] at hz
  have HZ := Lib.hid (size_mk k n nm l)
  have hll : l.length ≤ 1000000 := by
    have : ∀ l : List Ex, l.length ≤ sizes l := fun l => by
      induction l with
      | nil => simp
      | cons x t ih => rw [sizes_cons, List.length_cons]; have := size_pos x; omega
    have := this l; omega
  have HB := Lib.hid (Bk.new w 31 #[.int .i64 k, .int .i64 n, .string (B nm), .slice A l.length c])
  have HA := Lib.hid (hr.self.alloc (.cells #[.int .i64 k, .int .i64 n, .string (B nm), .slice A l.length c] 31))
  obtain ⟨W, hW⟩ : ∃ W, w.alloc (.cells #[.int .i64 k, .int .i64 n, .string (B nm), .slice A l.length c] 31) = W := ⟨_, rfl⟩
  rw [hW] at HB HA
  have HW := Lib.hid hW
  clear hrow hsub ih h hW
  go_enter Tryz.func36, Tryz.ntmps36
  go_wp2_with (fail)
  rw [HW.out]
  go_loopw [3, 4] (fun n i wr => ∃ j : Nat, j ≤ l.length ∧ i = .int .i64 (j : Int) ∧ Hid (n = .int .i64 ((1 + sizes (l.take j) : Nat) : Int)) ∧ Rel W wr) (fun _ i _ => l.length - (RowKit.intOf i).toNat)
  case atStart => exact ⟨0, by omega, rfl, Lib.hid (by simp [sizes_nil]), (HR.out.trans HA.out).self⟩
  case round =>
    obtain ⟨j, hj, rfl, HN, hRw⟩ := hrel
    have hb := HB.out.rel hRw
    obtain ⟨⟨c0, c1, c2, c3⟩, _⟩ := hb.four
    obtain ⟨q, hq⟩ : ∃ q : Nat, 1 + sizes (l.take j) = q := ⟨_, rfl⟩
    have hn' := HN.out
    rw [hq] at hn'
    subst hn'
    have HQ := Lib.hid hq
    have HRw := Lib.hid hRw
    clear hb hq
    by_cases hlt : j < l.length
    · obtain ⟨g, off, k', n', nm', A', m', c', hA, a0, a1, a2, a3, ha⟩ := ExAt.arg HRow.out HSub.out hl (HA.out.trans hRw) j hlt
      subst hA
      have hsz : size l[j] + q ≤ 1000000 := by
        have e1 := sizes_take l j hlt
        have e2 : sizes (l.take (j + 1)) ≤ sizes l := by
          have : sizes l = sizes (l.take (j + 1)) + sizes (l.drop (j + 1)) := by rw [← sizes_append, List.take_append_drop]
          omega
        have := HQ.out; omega
      obtain ⟨sj, hsj⟩ : ∃ s, size l[j] = s := ⟨_, rfl⟩
      have HNx := Lib.hid (show 1 + sizes (l.take (j + 1)) = q + sj by rw [sizes_take l j hlt, hsj]; have := HQ.out; omega)
      rw [hsj] at hsz
      have HC := Lib.hid (HIH.out j hlt S (k', n', nm', A', m', c') wr wr ((HR.out.trans HA.out).trans hRw).self ha (by rw [hsj]; omega))
      rw [hsj] at HC
      clear ha hsj
      go_wp2_with (go_at_call 36; (with_reducible refine HC.out.mono ?_); rintro e w2 ⟨rfl, h2⟩)
      go_roundw
      case rel => exact ⟨j + 1, by omega, by go_num, Lib.hid (by rw [HNx.out]; go_num), HRw.out.trans h2⟩
      case measure => simp [RowKit.intOf]; omega
    · obtain rfl : j = l.length := by omega
      have HF := Lib.hid (show size (.mk k n nm l) = q by have := HQ.out; rw [List.take_length] at this; rw [size_mk, this])
      go_wp2_with (fail)
      go_ret
      exact ⟨ret_int (by rw [HF.out]), (HR.out.trans HA.out).trans HRw.out⟩
end Go.Proofs.YtpehlldgnbajjaaGreatDoor
