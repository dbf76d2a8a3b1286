/- The contracts of what reads numbers off texts: the program's, and the document's own. -/
import Derived.Test.YtfpcpmkkeigcmaaDoorDecText
import Derived.Laws.RangeAny
namespace Go.Proofs.YtfpcpmkkeigcmaaDoor
open Go.RowKit Go.Lib
set_option linter.unusedVariables false
set_option linter.unusedSimpArgs false

theorem width_pos (s : ByteArray) (pos : Nat) (h : pos < s.size) : 1 ≤ (Utf8.decode s pos).2 := by
  by_cases ha : (s[pos]'h).toNat < 128
  · rw [decode_ascii s pos h ha]
    exact Nat.le_refl _
  · exact (decode_high s pos h (by omega)).2
theorem drop_step (s : ByteArray) (pos : Nat) (h : pos < s.size) : s.data.toList.drop pos = (s[pos]'h) :: s.data.toList.drop (pos + 1) := by
  rw [List.drop_eq_getElem_cons (by simpa using h)]
  rfl
theorem drop_end (s : ByteArray) (pos : Nat) (h : ¬ pos < s.size) : s.data.toList.drop pos = [] := by
  apply List.drop_eq_nil_of_le
  have : s.data.toList.length = s.size := by simp
  omega
theorem digs_no (most acc : Int) (c : UInt8) (t : List UInt8) (h : c.toNat < 48 ∨ 57 < c.toNat) : digs most (c :: t) acc = -1 := by
  unfold digs
  rw [if_neg]
  simp [isD]; omega
theorem digs_big (most acc : Int) (c : UInt8) (t : List UInt8) (h : 48 ≤ c.toNat) (h' : c.toNat ≤ 57) (hm : most < acc * 10 + ((c.toNat : Int) - 48)) : digs most (c :: t) acc = -1 := by
  unfold digs
  rw [if_pos (isD_iff.2 ⟨h, h'⟩), if_pos hm]
theorem digs_go (most acc : Int) (c : UInt8) (t : List UInt8) (h : 48 ≤ c.toNat) (h' : c.toNat ≤ 57) (hm : acc * 10 + ((c.toNat : Int) - 48) ≤ most) : digs most (c :: t) acc = digs most t (acc * 10 + ((c.toNat : Int) - 48)) := by
  conv => lhs; unfold digs
  rw [if_pos (isD_iff.2 ⟨h, h'⟩), if_neg (by omega)]
set_option maxHeartbeats 1000000 in
set_option maxRecDepth 100000 in
theorem digits_prog (s : ByteArray) (most : Int) (hm : most ≤ 1000000000000) (w0 w : World) (hr : Rel w0 w) :
    Calls Tryd.prog 27 #[.string s, .int .i64 most] w fun e w' => e = .returned (.int .i64 (digs most s.data.toList 0)) ∧ Rel w0 w' := by
  go_enter Tryd.func27, Tryd.ntmps27
  go_wp2
  go_loopw [5] (fun n w' => ∃ (pos : Nat) (acc : Int), w' = w.iter s pos ∧ n = .int .i64 acc ∧ 0 ≤ acc ∧ acc ≤ 1000000000000 ∧ Hid (digs most (s.data.toList.drop pos) acc = digs most s.data.toList 0)) (fun _ w' => s.size - w'.iterPos w.heap.size)
  case atStart => exact ⟨0, 0, rfl, rfl, by omega, by omega, Lib.hid rfl⟩
  case round =>
    obtain ⟨pos, acc, rfl, rfl, h0, h1, HH⟩ := hrel
    by_cases hp : pos < s.size
    · by_cases ha : (s[pos]'hp).toNat < 128
      · obtain ⟨c, hc⟩ : ∃ c, c = s[pos]'hp := ⟨_, rfl⟩
        have hnx : ∀ ty, (Instr.next (.pointer (some ⟨w.heap.size, 0, none⟩)) true ty).run Tryd.prog (w.iter s pos) = .ok (.tuple #[.bool true, .int .i64 pos, .int .i32 (c.toNat : Int)]) (w.iter s (pos + 1)) := fun ty => by rw [hc]; exact run_next_ascii w s pos ty hp ha
        have HD := Lib.hid (drop_step s pos hp)
        rw [← hc] at HD
        have ha' : c.toNat < 128 := by rw [hc]; exact ha
        clear hc
        generalize hk : c.toNat = k at hnx ha'
        have HK := Lib.hid hk
        clear hk ha
        by_cases g1 : k < 48
        · go_wp2
          go_ret
          exact ⟨ret_int (by rw [← HH.out, HD.out, digs_no _ _ _ _ (.inl (by rw [HK.out]; exact g1))]), hr.alloc _⟩
        · by_cases g2 : 57 < k
          · go_wp2
            go_ret
            exact ⟨ret_int (by rw [← HH.out, HD.out, digs_no _ _ _ _ (.inr (by rw [HK.out]; exact g2))]), hr.alloc _⟩
          · by_cases g3 : most < acc * 10 + ((k : Int) - 48)
            · go_wp2
              go_ret
              exact ⟨ret_int (by rw [← HH.out, HD.out, digs_big _ _ _ _ (by rw [HK.out]; omega) (by rw [HK.out]; omega) (by rw [HK.out]; exact g3)]), hr.alloc _⟩
            · go_wp2
              go_roundw
              case rel =>
                exact ⟨pos + 1, acc * 10 + ((k : Int) - 48), rfl, rfl, by omega, by omega, Lib.hid (by rw [← HH.out, HD.out, digs_go _ _ _ _ (by rw [HK.out]; omega) (by rw [HK.out]; omega) (by rw [HK.out]; omega), HK.out])⟩
              case measure =>
                simp
                omega
      · have hh := (decode_high s pos hp (by omega)).1
        have HN := Lib.hid (digs_no most acc (s[pos]'hp) (s.data.toList.drop (pos + 1)) (.inr (by omega)))
        have HD := Lib.hid (drop_step s pos hp)
        have hnx : ∀ ty, (Instr.next (.pointer (some ⟨w.heap.size, 0, none⟩)) true ty).run Tryd.prog (w.iter s pos) = _ := fun ty => run_next_any w s pos ty hp
        generalize (Utf8.decode s pos).1 = k at hh hnx
        clear ha
        have hh2 : ¬ k < 48 := by omega
        have hh3 : 57 < k := by omega
        go_wp2
        go_ret
        exact ⟨ret_int (by rw [← HH.out, HD.out, HN.out]), hr.alloc _⟩
    · have hnx : ∀ ty, (Instr.next (.pointer (some ⟨w.heap.size, 0, none⟩)) true ty).run Tryd.prog (w.iter s pos) = _ := fun ty => run_next_end w s pos ty hp
      have HD := Lib.hid (drop_end s pos hp)
      go_wp2
      go_ret
      exact ⟨ret_int (by rw [← HH.out, HD.out]; rfl), hr.alloc _⟩

theorem B_zero (c : UInt8) (t : List UInt8) (h : 0 < (B (c :: t)).size) : (B (c :: t))[0]'h = c := rfl
theorem cnt_digs (c : UInt8) (t : List UInt8) (most : Int) (h : t.length = 0 ∨ c.toNat ≠ 48) : digs (min most 1000000000000) (B (c :: t)).data.toList 0 = cnt (c :: t) most := by
  rw [B_list]
  refine cnt_prog _ _ rfl ?_
  rcases h with h | h
  · left; simp [h]
  · right; intro e; simp at e; exact h (by rw [e]; rfl)
set_option maxHeartbeats 400000 in
theorem count_list (l : List UInt8) (most : Int) (hl : l.length ≤ 9223372036854775807) (w0 w : World) (hr : Rel w0 w) :
    Calls Tryd.prog 18 #[.string (B l), .int .i64 most] w fun e w' => e = .returned (.int .i64 (cnt l most)) ∧ Rel w0 w' := by
  cases l with
  | nil =>
    have HT := B_toList []
    go_enter Tryd.func18, Tryd.ntmps18
    go_wp2_with (fail)
    go_ret
    exact ⟨ret_int (cnt_no (.inl rfl)).symm, hr⟩
  | cons c t =>
    have HT := B_toList (c :: t)
    have HB := B_size (c :: t)
    have H0 := B_zero c t
    go_enter Tryd.func18, Tryd.ntmps18
    go_wp2_with ((go_at_call 27; (with_reducible refine (digits_prog _ _ (by omega) _ _ hr).mono ?_); rintro e w' ⟨rfl, hr'⟩))
    · have h1 : 1 < (t.length : Int) + 1 := by assumption
      have h2 : ((c.toNat : Int) == 48) = true := by assumption
      have h3 : c = 48 := UInt8.toNat_inj.1 (by rw [show (48 : UInt8).toNat = 48 from rfl]; simp only [beq_iff_eq] at h2; omega)
      go_ret
      exact ⟨ret_int (cnt_no (.inr ⟨by simp; omega, by rw [h3]; rfl⟩)).symm, hr⟩
    · have h2 : ((c.toNat : Int) == 48) = false := by assumption
      go_ret
      exact ⟨ret_int (cnt_digs c t most (.inr (by simp only [beq_eq_false_iff_ne] at h2; omega))), by assumption⟩
    · have h1 : (t.length : Int) + 1 ≤ 1 := by assumption
      go_ret
      exact ⟨ret_int (cnt_digs c t most (.inl (by omega))), by assumption⟩
theorem count_any (s : ByteArray) (most : Int) (hl : s.size ≤ 9223372036854775807) (w0 w : World) (hr : Rel w0 w) :
    Calls Tryd.prog 18 #[.string s, .int .i64 most] w fun e w' => e = .returned (.int .i64 (cnt s.data.toList most)) ∧ Rel w0 w' := by
  have := count_list s.data.toList most (by simpa using hl) w0 w hr
  rwa [B_of] at this
set_option maxHeartbeats 400000 in
theorem pair_any (s : ByteArray) (w0 w : World) (hr : Rel w0 w) :
    Calls Tryd.prog 26 #[.string s] w fun e w' => e = .returned (.int .i64 (pair s.data.toList)) ∧ Rel w0 w' := by
  have hL : s.data.toList.length = s.size := by simp
  by_cases h : s.size = 2
  · have HS := Lib.hid (show digs 99 s.data.toList 0 = pair s.data.toList by unfold pair; rw [if_pos (by omega)])
    have h' : ((s.size : Int) != 2) = false := by simp [h]
    clear h hL
    go_enter Tryd.func26, Tryd.ntmps26
    go_wp2_with ((go_at_call 27; (with_reducible refine (digits_prog _ _ (by omega) _ _ hr).mono ?_); rintro e w' ⟨rfl, hr'⟩))
    go_ret
    exact ⟨ret_int HS.out, by assumption⟩
  · have HS := Lib.hid (pair_no (l := s.data.toList) (by omega))
    have h' : ((s.size : Int) != 2) = true := by simp; omega
    clear h hL
    go_enter Tryd.func26, Tryd.ntmps26
    go_wp2_with (fail)
    go_ret
    exact ⟨ret_int HS.out.symm, hr⟩
theorem take_snoc (l : List UInt8) (k : Nat) (h : k < l.length) : l.take (k + 1) = l.take k ++ [l[k]] := by
  rw [List.take_succ_eq_append_getElem h]
theorem val_snoc (t : List UInt8) (c : UInt8) : val (t ++ [c]) 0 = val t 0 * 10 + ((c.toNat : Int) - 48) := by rw [val_append]; rfl
theorem allD_snoc (t : List UInt8) (c : UInt8) : allD (t ++ [c]) = (allD t && isD c) := by rw [allD_append]; simp [allD]
theorem allD_take {l : List UInt8} (k : Nat) (h : allD (l.take k) = false) : allD l = false := by
  cases e : allD l
  · rfl
  · unfold allD at e h
    rw [List.all_eq_true] at e
    rw [← Bool.not_eq_true, List.all_eq_true] at h
    exact absurd (fun x hx => e x (List.mem_of_mem_take hx)) h
set_option maxHeartbeats 1000000 in
set_option maxRecDepth 100000 in
theorem rcount_list (l : List UInt8) (most : Int) (hl : l.length ≤ 9223372036854775807) (w0 w : World) (hr : Rel w0 w) :
    Calls Tryd.prog 19 #[.string (B l), .int .i64 most] w fun e w' => e = .returned (.int .i64 (cnt l most)) ∧ Rel w0 w' := by
  cases l with
  | nil =>
    have HT := B_toList []
    go_enter Tryd.func19, Tryd.ntmps19
    go_wp2_with (fail)
    go_ret
    exact ⟨ret_int (cnt_no (.inl rfl)).symm, hr⟩
  | cons c t =>
    have HT := B_toList (c :: t)
    have HB := B_size (c :: t)
    have H0 := B_zero c t
    by_cases h13 : 13 < t.length + 1
    · have HS := Lib.hid (cnt_long (l := c :: t) (most := most) (by simpa using h13))
      have h13' : (13 : Int) < (t.length : Int) + 1 := by omega
      go_enter Tryd.func19, Tryd.ntmps19
      go_wp2_with (fail)
      go_ret
      exact ⟨ret_int HS.out.symm, hr⟩
    · by_cases h48 : 1 < t.length + 1 ∧ c.toNat = 48
      · have HS := Lib.hid (cnt_no (l := c :: t) (most := most) (.inr ⟨by simpa using h48.1, by simp; exact UInt8.toNat_inj.1 h48.2⟩))
        have e1 : (1 : Int) < (t.length : Int) + 1 := by omega
        have e2 : ((c.toNat : Int) == 48) = true := by simp; omega
        have e3 : (t.length : Int) + 1 ≤ 13 := by omega
        clear h48 h13
        go_enter Tryd.func19, Tryd.ntmps19
        go_wp2_with (fail)
        go_ret
        exact ⟨ret_int HS.out.symm, hr⟩
      · have e3 : (t.length : Int) + 1 ≤ 13 := by omega
        have HH : (c :: t).length ≤ 1 ∨ (c :: t).head? ≠ some 48 := by
          by_cases h : t.length = 0
          · left; simp [h]
          · right; intro e; simp at e; exact h48 ⟨by omega, by rw [e]; rfl⟩
        have e2 : (1 : Int) < (t.length : Int) + 1 → ((c.toNat : Int) == 48) = false := fun h => by simp; omega
        have HH := Lib.hid HH
        go_enter Tryd.func19, Tryd.ntmps19
        by_cases e1 : (1 : Int) < (t.length : Int) + 1
        all_goals
          try have e2' := e2 e1
          clear e2 h48
          clear hl HB h13
          have HB := B_size (c :: t)
          go_wp2_with (fail)
          go_loop [5, 6] (fun n i => ∃ k : Nat, k ≤ t.length + 1 ∧ i = .int .i64 (k : Int) ∧ n = .int .i64 (val ((c :: t).take k) 0) ∧ Hid (allD ((c :: t).take k) = true)) (fun _ i => t.length + 1 - (RowKit.intOf i).toNat)
          case atStart => exact ⟨0, Nat.zero_le _, rfl, rfl, Lib.hid rfl⟩
          case round =>
            obtain ⟨k, hk, rfl, rfl, HA⟩ := hrel
            have v0 : 0 ≤ val ((c :: t).take k) 0 := val_ge HA.out (by omega)
            have v1 : val ((c :: t).take k) 0 ≤ 10000000000000 := by
              have h1 := val_lt HA.out (n := 0) (by omega)
              have h2 : (10 : Int) ^ ((c :: t).take k).length ≤ 10 ^ 13 := by
                have : 10 ^ ((c :: t).take k).length ≤ 10 ^ 13 := Nat.pow_le_pow_right (by omega) (by rw [List.length_take]; simp; omega)
                exact_mod_cast this
              have e13 : (10 : Int) ^ 13 = 10000000000000 := by decide
              rw [e13] at h2
              rw [show (0 : Int) + 1 = 1 from rfl, Int.one_mul] at h1
              exact Int.le_trans (Int.le_of_lt h1) h2
            by_cases hlt : k < t.length + 1
            · have hlt' : k < (c :: t).length := by simpa using hlt
              obtain ⟨x, hx⟩ : ∃ x, x = (c :: t)[k] := ⟨_, rfl⟩
              have hg : ∀ h, (B (c :: t))[k]'h = x := fun h => by rw [hx]; rfl
              have HT1 := Lib.hid (take_snoc (c :: t) k hlt')
              rw [← hx] at HT1
              clear hx
              by_cases g : 48 ≤ x.toNat ∧ x.toNat ≤ 57
              · obtain ⟨g1, g2⟩ := g
                have HV := Lib.hid (show val ((c :: t).take (k + 1)) 0 = val ((c :: t).take k) 0 * 10 + ((x.toNat : Int) - 48) by rw [HT1.out, val_snoc])
                have HD := Lib.hid (show allD ((c :: t).take (k + 1)) = true by rw [HT1.out, allD_snoc, HA.out, isD_iff.2 ⟨g1, g2⟩]; rfl)
                go_wp2_with (fail)
                go_round
                case rel => exact ⟨k + 1, by omega, by go_num, by rw [HV.out]; go_num, HD⟩
                case measure => simp [RowKit.intOf]; omega
              · have HN := Lib.hid (cnt_not (l := c :: t) (most := most) (allD_take (k + 1) (by rw [HT1.out, allD_snoc, HA.out]; simp [isD]; omega)))
                by_cases g1 : x.toNat < 48
                · clear g
                  go_wp2_with (fail)
                  go_ret
                  exact ⟨ret_int HN.out.symm, hr⟩
                · have g2 : 57 < x.toNat := by omega
                  clear g
                  go_wp2_with (fail)
                  go_ret
                  exact ⟨ret_int HN.out.symm, hr⟩
            · have hk' : (c :: t).take k = c :: t := List.take_of_length_le (by simp; omega)
              rw [hk'] at HA v0 v1 ⊢
              have HC := Lib.hid (cnt_yes (most := most) HA.out rfl HH.out)
              clear hk'
              by_cases m1 : most < val (c :: t) 0
              · go_wp2_with (fail)
                go_ret
                exact ⟨ret_int (by rw [HC.out, if_pos (.inl m1)]), hr⟩
              · by_cases m2 : 1000000000000 < val (c :: t) 0
                · go_wp2_with (fail)
                  go_ret
                  exact ⟨ret_int (by rw [HC.out, if_pos (.inr m2)]), hr⟩
                · go_wp2_with (fail)
                  go_ret
                  exact ⟨ret_int (by rw [HC.out, if_neg (by omega)]), hr⟩
theorem rcount_any (s : ByteArray) (most : Int) (hl : s.size ≤ 9223372036854775807) (w0 w : World) (hr : Rel w0 w) :
    Calls Tryd.prog 19 #[.string s, .int .i64 most] w fun e w' => e = .returned (.int .i64 (cnt s.data.toList most)) ∧ Rel w0 w' := by
  have := rcount_list s.data.toList most (by simpa using hl) w0 w hr
  rwa [B_of] at this
end Go.Proofs.YtfpcpmkkeigcmaaDoor
