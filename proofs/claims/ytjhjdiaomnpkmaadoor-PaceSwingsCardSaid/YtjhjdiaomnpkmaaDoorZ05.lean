/- Plain mathematics of layer 6, fourth part: the piece that stands at a place, and what is told of it. No program in this text; The program's readings of numbers and amounts (layer 2's), at this seat; What the landed package lex tells of bytes, words and names. -/
import Derived.Test.YtjhjdiaomnpkmaaDoorZL
import Derived.Test.YtjhjdiaomnpkmaaDoorZ00
import Derived.Test.YtjhjdiaomnpkmaaDoorZ01
import Derived.Test.YtjhjdiaomnpkmaaDoorZ03
import Derived.Test.YtjhjdiaomnpkmaaDoorZ04
namespace Go.Proofs.YtjhjdiaomnpkmaaDoor
open Go.Lib
set_option linter.unusedVariables false
set_option linter.unusedSimpArgs false
/-- What belongs together at the beginning: all parts as far as they go on, or one other byte. -/
def pcOf (l : List UInt8) : List UInt8 := if l.takeWhile isPt = [] then l.take 1 else l.takeWhile isPt
/-- What a piece is told as: a kind and a number. -/
def told : List UInt8 → Option (Int × Int)
  | [] => none
  | c :: t => if isSg c then some (4, 0) else tokOf (c :: t)
theorem told_sign {c : UInt8} {t : List UInt8} (h : isSg c = true) : told (c :: t) = some (4, 0) := by simp only [told]; rw [if_pos h]
theorem told_not {c : UInt8} {t : List UInt8} (h : isSg c = false) : told (c :: t) = tokOf (c :: t) := by simp only [told]; rw [if_neg (by rw [h]; simp)]
theorem take_pt {c : UInt8} {t : List UInt8} (h : isPt c = true) : ∃ y, (c :: t).takeWhile isPt = c :: y := ⟨t.takeWhile isPt, by rw [List.takeWhile_cons, h]; rfl⟩
theorem take_not {c : UInt8} {t : List UInt8} (h : isPt c = false) : (c :: t).takeWhile isPt = [] := by rw [List.takeWhile_cons, h]; rfl
theorem pc_pt {c : UInt8} {t : List UInt8} (h : isPt c = true) : pcOf (c :: t) = (c :: t).takeWhile isPt := by
  obtain ⟨y, e⟩ := take_pt (t := t) h
  unfold pcOf; rw [e, if_neg (by simp)]
theorem pc_not {c : UInt8} {t : List UInt8} (h : isPt c = false) : pcOf (c :: t) = [c] := by
  unfold pcOf; rw [take_not h, if_pos rfl]; rfl
theorem pc_head (c : UInt8) (t : List UInt8) : ∃ y, pcOf (c :: t) = c :: y := by
  cases h : isPt c
  · exact ⟨[], pc_not h⟩
  · rw [pc_pt h]; exact take_pt h
theorem pc_len_le (l : List UInt8) : (pcOf l).length ≤ l.length := by
  unfold pcOf
  split
  · exact List.length_take_le' _ _
  · exact (List.takeWhile_sublist _).length_le
theorem pc_max (c : UInt8) (t : List UInt8) : pcOf (c :: t) = (c :: t).take (max ((c :: t).takeWhile isPt).length 1) ∧ (pcOf (c :: t)).length = max ((c :: t).takeWhile isPt).length 1 := by
  cases h : isPt c
  · rw [pc_not h, take_not h]; exact ⟨rfl, rfl⟩
  · obtain ⟨y, e⟩ := take_pt (t := t) h
    have e2 : (c :: t).takeWhile isPt ++ (c :: t).dropWhile isPt = c :: t := List.takeWhile_append_dropWhile
    have m : max ((c :: t).takeWhile isPt).length 1 = ((c :: t).takeWhile isPt).length := by rw [e]; simp
    rw [pc_pt h, m]
    refine ⟨?_, rfl⟩
    have e3 : (c :: t).take ((c :: t).takeWhile isPt).length = ((c :: t).takeWhile isPt ++ (c :: t).dropWhile isPt).take ((c :: t).takeWhile isPt).length := by rw [e2]
    rw [e3, List.take_left]
theorem tok_char {c : UInt8} (h : isPt c = false) : tokOf [c] = none := by
  simp only [isPt, Bool.or_eq_false_iff] at h
  unfold tokOf
  rw [word_head (c := c) rfl h.1.1, name_head (c := c) rfl h.1.1, cnt_not (l := [c]) (by simp [allD, h.1.2]), ref_short (l := [c]) (by unfold body; split <;> simp), if_neg (by simp), if_neg (by omega)]
/-- Not a blank: a token stands there, or the error. -/
theorem AtP.piece {l : List UInt8} {p : Nat} {ts : List Tok} {c : UInt8} {t : List UInt8} (h : AtP l p ts) (hp : l.drop p = c :: t) (hb : isBl c = false) :
    (∃ k n, told (pcOf (c :: t)) = some (k, n) ∧ AtP l (p + (pcOf (c :: t)).length) (ts ++ [(k, pcOf (c :: t), n, (p : Int))]) ∧ ∃ r, (lxP 0 l).1 = ts ++ (k, pcOf (c :: t), n, (p : Int)) :: r) ∨
    (told (pcOf (c :: t)) = none ∧ lxP 0 l = (ts, some p)) := by
  cases hg : isSg c
  · cases hpt : isPt c
    · refine .inr ⟨?_, h.bad hp hb hg (x := []) (by rw [hp]; exact take_not hpt) tokOf_nil⟩
      rw [pc_not hpt, told_not hg]; exact tok_char hpt
    · obtain ⟨y, e⟩ := take_pt (t := t) hpt
      have e2 : told (pcOf (c :: t)) = tokOf (pcOf (c :: t)) := by rw [pc_pt hpt, e]; exact told_not hg
      rw [e2, pc_pt hpt]
      cases ht : tokOf ((c :: t).takeWhile isPt) with
      | none => exact .inr ⟨rfl, h.bad hp hb hg (by rw [hp]) ht⟩
      | some kn =>
        obtain ⟨k, n⟩ := kn
        refine .inl ⟨k, n, rfl, h.tok hp hb hg (by rw [hp]) rfl ?_ ht⟩
        have e3 : (c :: t).takeWhile isPt ++ (c :: t).dropWhile isPt = c :: t := List.takeWhile_append_dropWhile
        have e4 : l.drop (p + ((c :: t).takeWhile isPt).length) = ((c :: t).takeWhile isPt ++ (c :: t).dropWhile isPt).drop ((c :: t).takeWhile isPt).length := by rw [← List.drop_drop, hp, e3]
        rw [hp, e4, List.drop_left]
  · have hpt := (sg_not hg).2
    rw [pc_not hpt]
    obtain ⟨a, b⟩ := h.sign hp hg
    exact .inl ⟨4, 0, told_sign hg, a, b⟩
end Go.Proofs.YtjhjdiaomnpkmaaDoor

namespace Go.Proofs.YtjhjdiaomnpkmaaDoor
open Go.RowKit Go.Lib
set_option linter.unusedVariables false
set_option linter.unusedSimpArgs false
def wit (a l h : Int) : Bool := decide (l ≤ a ∧ a ≤ h)
set_option maxHeartbeats 400000 in
theorem within_any (a l h : Int) (w : World) :
    Calls Tryd.prog 77 #[.int .i64 a, .int .i64 l, .int .i64 h] w fun e w' => e = .returned (.bool (wit a l h)) ∧ w = w' := by
  by_cases h1 : l ≤ a <;> by_cases h2 : a ≤ h
  all_goals
    go_enter Tryd.func77, Tryd.ntmps77
    go_wp2
    all_goals
      go_ret
      exact ⟨ret_bool (by unfold wit; rw [eq_comm]; first | exact decide_eq_true (by omega) | exact decide_eq_false (by omega)), rfl⟩
set_option maxHeartbeats 400000 in
theorem right_any (a : Int) (w : World) :
    Calls Tryd.prog 66 #[.int .i64 a] w fun e w' => e = .returned (.bool (rt a)) ∧ w = w' := by
  by_cases h1 : -1000000000000 ≤ a <;> by_cases h2 : a ≤ 1000000000000
  all_goals
    go_enter Tryd.func66, Tryd.ntmps66
    go_wp2
    all_goals
      go_ret
      exact ⟨ret_bool (by unfold rt; rw [eq_comm]; first | exact decide_eq_true (by omega) | exact decide_eq_false (by omega)), rfl⟩
theorem digs_no (most acc : Int) (c : UInt8) (t : List UInt8) (h : c.toNat < 48 ∨ 57 < c.toNat) : digs most (c :: t) acc = -1 := by
  unfold digs
  rw [if_neg]
  simp [isD]; omega
theorem digs_big (most acc : Int) (c : UInt8) (t : List UInt8) (h : 48 ≤ c.toNat) (h' : c.toNat ≤ 57) (hm : most < acc * 10 + ((c.toNat : Int) - 48)) : digs most (c :: t) acc = -1 := by
  unfold digs
  rw [if_pos (isD_iff.2 ⟨h, h'⟩), if_pos hm]
theorem digs_go (most acc : Int) (c : UInt8) (t : List UInt8) (h : 48 ≤ c.toNat) (h' : c.toNat ≤ 57) (hm : acc * 10 + ((c.toNat : Int) - 48) ≤ most) : digs most (c :: t) acc = digs most t (acc * 10 + ((c.toNat : Int) - 48)) := by
  conv => lhs; unfold digs
  rw [if_pos (isD_iff.2 ⟨h, h'⟩), if_neg (by omega)]
set_option maxHeartbeats 1000000 in
set_option maxRecDepth 100000 in
theorem digits_prog (s : ByteArray) (most : Int) (hm : most ≤ 1000000000000) (w0 w : World) (hr : Rel w0 w) :
    Calls Tryd.prog 70 #[.string s, .int .i64 most] w fun e w' => e = .returned (.int .i64 (digs most s.data.toList 0)) ∧ Rel w0 w' := by
  go_enter Tryd.func70, Tryd.ntmps70
  go_wp2
  go_loopw [5] (fun n w' => ∃ (pos : Nat) (acc : Int), w' = w.iter s pos ∧ n = .int .i64 acc ∧ 0 ≤ acc ∧ acc ≤ 1000000000000 ∧ Hid (digs most (s.data.toList.drop pos) acc = digs most s.data.toList 0)) (fun _ w' => s.size - w'.iterPos w.heap.size)
  case atStart => exact ⟨0, 0, rfl, rfl, by omega, by omega, Lib.hid rfl⟩
  case round =>
    obtain ⟨pos, acc, rfl, rfl, h0, h1, HH⟩ := hrel
    by_cases hp : pos < s.size
    · by_cases ha : (s[pos]'hp).toNat < 128
      · obtain ⟨c, hc⟩ : ∃ c, c = s[pos]'hp := ⟨_, rfl⟩
        have hnx : ∀ ty, (Instr.next (.pointer (some ⟨w.heap.size, 0, none⟩)) true ty).run Tryd.prog (w.iter s pos) = .ok (.tuple #[.bool true, .int .i64 pos, .int .i32 (c.toNat : Int)]) (w.iter s (pos + 1)) := fun ty => by rw [hc]; exact run_next_ascii w s pos ty hp ha
        have HD := Lib.hid (drop_step s pos hp)
        rw [← hc] at HD
        have ha' : c.toNat < 128 := by rw [hc]; exact ha
        clear hc
        generalize hk : c.toNat = k at hnx ha'
        have HK := Lib.hid hk
        clear hk ha
        by_cases g1 : k < 48
        · go_wp2
          go_ret
          exact ⟨ret_int (by rw [← HH.out, HD.out, digs_no _ _ _ _ (.inl (by rw [HK.out]; exact g1))]), hr.alloc _⟩
        · by_cases g2 : 57 < k
          · go_wp2
            go_ret
            exact ⟨ret_int (by rw [← HH.out, HD.out, digs_no _ _ _ _ (.inr (by rw [HK.out]; exact g2))]), hr.alloc _⟩
          · by_cases g3 : most < acc * 10 + ((k : Int) - 48)
            · go_wp2
              go_ret
              exact ⟨ret_int (by rw [← HH.out, HD.out, digs_big _ _ _ _ (by rw [HK.out]; omega) (by rw [HK.out]; omega) (by rw [HK.out]; exact g3)]), hr.alloc _⟩
            · go_wp2
              go_roundw
              case rel =>
                exact ⟨pos + 1, acc * 10 + ((k : Int) - 48), rfl, rfl, by omega, by omega, Lib.hid (by rw [← HH.out, HD.out, digs_go _ _ _ _ (by rw [HK.out]; omega) (by rw [HK.out]; omega) (by rw [HK.out]; omega), HK.out])⟩
              case measure =>
                simp
                omega
      · have hh := (decode_high s pos hp (by omega)).1
        have HN := Lib.hid (digs_no most acc (s[pos]'hp) (s.data.toList.drop (pos + 1)) (.inr (by omega)))
        have HD := Lib.hid (drop_step s pos hp)
        have hnx : ∀ ty, (Instr.next (.pointer (some ⟨w.heap.size, 0, none⟩)) true ty).run Tryd.prog (w.iter s pos) = _ := fun ty => run_next_any w s pos ty hp
        generalize (Utf8.decode s pos).1 = k at hh hnx
        clear ha
        have hh2 : ¬ k < 48 := by omega
        have hh3 : 57 < k := by omega
        go_wp2
        go_ret
        exact ⟨ret_int (by rw [← HH.out, HD.out, HN.out]), hr.alloc _⟩
    · have hnx : ∀ ty, (Instr.next (.pointer (some ⟨w.heap.size, 0, none⟩)) true ty).run Tryd.prog (w.iter s pos) = _ := fun ty => run_next_end w s pos ty hp
      have HD := Lib.hid (drop_end s pos hp)
      go_wp2
      go_ret
      exact ⟨ret_int (by rw [← HH.out, HD.out]; rfl), hr.alloc _⟩
theorem cnt_digs (c : UInt8) (t : List UInt8) (most : Int) (h : t.length = 0 ∨ c.toNat ≠ 48) : digs (min most 1000000000000) (B (c :: t)).data.toList 0 = cnt (c :: t) most := by
  rw [B_list]
  refine cnt_prog _ _ rfl ?_
  rcases h with h | h
  · left; simp [h]
  · right; intro e; simp at e; exact h (by rw [e]; rfl)
set_option maxHeartbeats 400000 in
theorem count_list (l : List UInt8) (most : Int) (hl : l.length ≤ 9223372036854775807) (w0 w : World) (hr : Rel w0 w) :
    Calls Tryd.prog 56 #[.string (B l), .int .i64 most] w fun e w' => e = .returned (.int .i64 (cnt l most)) ∧ Rel w0 w' := by
  cases l with
  | nil =>
    have HT := B_toList []
    go_enter Tryd.func56, Tryd.ntmps56
    go_wp2_with (fail)
    go_ret
    exact ⟨ret_int (cnt_no (.inl rfl)).symm, hr⟩
  | cons c t =>
    have HT := B_toList (c :: t)
    have HB := B_size (c :: t)
    have H0 := B_zero c t
    go_enter Tryd.func56, Tryd.ntmps56
    go_wp2_with ((go_at_call 70; (with_reducible refine (digits_prog _ _ (by omega) _ _ hr).mono ?_); rintro e w' ⟨rfl, hr'⟩))
    · have h1 : 1 < (t.length : Int) + 1 := by assumption
      have h2 : ((c.toNat : Int) == 48) = true := by assumption
      have h3 : c = 48 := UInt8.toNat_inj.1 (by rw [show (48 : UInt8).toNat = 48 from rfl]; simp only [beq_iff_eq] at h2; omega)
      go_ret
      exact ⟨ret_int (cnt_no (.inr ⟨by simp; omega, by rw [h3]; rfl⟩)).symm, hr⟩
    · have h2 : ((c.toNat : Int) == 48) = false := by assumption
      go_ret
      exact ⟨ret_int (cnt_digs c t most (.inr (by simp only [beq_eq_false_iff_ne] at h2; omega))), by assumption⟩
    · have h1 : (t.length : Int) + 1 ≤ 1 := by assumption
      go_ret
      exact ⟨ret_int (cnt_digs c t most (.inl (by omega))), by assumption⟩
theorem count_any (s : ByteArray) (most : Int) (hl : s.size ≤ 9223372036854775807) (w0 w : World) (hr : Rel w0 w) :
    Calls Tryd.prog 56 #[.string s, .int .i64 most] w fun e w' => e = .returned (.int .i64 (cnt s.data.toList most)) ∧ Rel w0 w' := by
  have := count_list s.data.toList most (by simpa using hl) w0 w hr
  rwa [B_of] at this
set_option maxHeartbeats 400000 in
theorem pair_any (s : ByteArray) (w0 w : World) (hr : Rel w0 w) :
    Calls Tryd.prog 73 #[.string s] w fun e w' => e = .returned (.int .i64 (pair s.data.toList)) ∧ Rel w0 w' := by
  have hL : s.data.toList.length = s.size := by simp
  by_cases h : s.size = 2
  · have HS := Lib.hid (show digs 99 s.data.toList 0 = pair s.data.toList by unfold pair; rw [if_pos (by omega)])
    have h' : ((s.size : Int) != 2) = false := by simp [h]
    clear h hL
    go_enter Tryd.func73, Tryd.ntmps73
    go_wp2_with ((go_at_call 70; (with_reducible refine (digits_prog _ _ (by omega) _ _ hr).mono ?_); rintro e w' ⟨rfl, hr'⟩))
    go_ret
    exact ⟨ret_int HS.out, by assumption⟩
  · have HS := Lib.hid (pair_no (l := s.data.toList) (by omega))
    have h' : ((s.size : Int) != 2) = true := by simp; omega
    clear h hL
    go_enter Tryd.func73, Tryd.ntmps73
    go_wp2_with (fail)
    go_ret
    exact ⟨ret_int HS.out.symm, hr⟩
def dot : ByteArray := ⟨#[46]⟩
def cutA (s : ByteArray) : List UInt8 := (cut s.data.toList [46]).1
def cutB (s : ByteArray) : List UInt8 := (cut s.data.toList [46]).2.1
def cutC (s : ByteArray) : Bool := (cut s.data.toList [46]).2.2
theorem ret_ssb {a a' b b' : ByteArray} {c c' : Bool} (h : a = a') (h' : b = b') (h'' : c = c') : Ending.returned (.tuple #[.string a, .string b, .bool c]) = Ending.returned (.tuple #[.string a', .string b', .bool c']) := by rw [h, h', h'']
theorem lcut_any (s : ByteArray) (hl : s.size ≤ 9223372036854775807) (w0 w : World) (hr : Rel w0 w) :
    Calls Tryd.prog 80 #[.string s, .string ⟨#[46]⟩] w fun e w' => e = .returned (.tuple #[.string (B (cutA s)), .string (B (cutB s)), .bool (cutC s)]) ∧ Rel w0 w' := by
  have ei : Lib.indexByte s.data.toList 46 = Lib.indexB s dot := (Lib.index_one s.data.toList 46).symm
  rcases Lib.indexB_cases s dot with hix | ⟨i, hix, hroom⟩
  · obtain ⟨e1, e2, e3⟩ := Lib.cutB_miss s dot hix
    have f1 := Lib.hid (show s = B (cutA s) from e1.symm)
    have f2 := Lib.hid (show (⟨#[]⟩ : ByteArray) = B (cutB s) from e2.symm)
    have f3 := Lib.hid (show false = cutC s from e3.symm)
    have hix' := Lib.hid (ei.trans hix)
    clear e1 e2 e3 ei hix
    go_enter Tryd.func80, Tryd.ntmps80
    go_wp2_with ((go_at_call 84; refine (int_at (R := fun w' => w' = _) (-1) (Tryd.stringslite_Index_one s 46 _) hix').mono ?_; rintro e w' ⟨rfl, rfl⟩))
    go_ret3
    exact ⟨ret_ssb f1.out f2.out f3.out, hr⟩
  · obtain ⟨e1, e2, e3⟩ := Lib.cutB_hit s dot i hix
    have f1 := Lib.hid (show s.extract 0 i = B (cutA s) from e1.symm)
    have f2 := Lib.hid (show s.extract (i + 1) s.size = B (cutB s) from e2.symm)
    have f3 := Lib.hid (show true = cutC s from e3.symm)
    have hix' := Lib.hid (ei.trans hix)
    have hd : dot.size = 1 := rfl
    rw [hd] at hroom
    have c1 : (0 : Int) ≤ ↑i := by omega
    have c2 : (↑i : Int) ≤ ↑s.size := by omega
    have c3 : (0 : Int) ≤ ↑i + 1 := by omega
    have c4 : (↑i + 1 : Int) ≤ ↑s.size := by omega
    clear e1 e2 e3 ei hix hd
    have c5 : IntKind.i64.wrap ((i : Int) + 1) = (i : Int) + 1 := IntWalk.i64_in _ (by omega)
    have c6 : ((i : Int) + 1).toNat = i + 1 := by omega
    go_enter Tryd.func80, Tryd.ntmps80
    go_wp2_with ((go_at_call 84; refine (int_at (R := fun w' => w' = _) (i : Int) (Tryd.stringslite_Index_one s 46 _) hix').mono ?_; rintro e w' ⟨rfl, rfl⟩))
    go_region
    go_wp2
    go_ret3
    exact ⟨ret_ssb f1.out f2.out f3.out, hr.drew⟩
theorem cut_any (s : ByteArray) (hl : s.size ≤ 9223372036854775807) (w0 w : World) (hr : Rel w0 w) :
    Calls Tryd.prog 72 #[.string s, .string ⟨#[46]⟩] w fun e w' => e = .returned (.tuple #[.string (B (cutA s)), .string (B (cutB s)), .bool (cutC s)]) ∧ Rel w0 w' := by
  go_enter Tryd.func72, Tryd.ntmps72
  go_wp2_with ((go_at_call 80; (with_reducible refine (lcut_any _ hl _ _ hr).mono ?_); rintro e w' ⟨rfl, hr'⟩))
  go_ret3
  exact ⟨ret_ssb rfl rfl rfl, hr'⟩
theorem trim_body (l : List UInt8) : trimPrefix l [45] = body l ∧ hasPrefix l [45] = negL l := by
  unfold trimPrefix hasPrefix body negL
  cases l with
  | nil => exact ⟨rfl, rfl⟩
  | cons c t =>
    by_cases h : c = 45
    · subst h; exact ⟨rfl, rfl⟩
    · have h1 : ((45 : UInt8) == c) = false := by simp [Ne.symm h]
      have h2 : (c == (45 : UInt8)) = false := by simp [h]
      simp [List.isPrefixOf, h1, h]
def bd (s : ByteArray) : ByteArray := B (body s.data.toList)
theorem bd_size (s : ByteArray) : (bd s).size ≤ s.size := by
  unfold bd body
  rw [B_size]
  have : s.data.toList.length = s.size := by simp
  split
  · rw [List.length_tail]; omega
  · omega
theorem cutp_any (s : ByteArray) (b : Bool) (hb : Hid (negL s.data.toList = b)) (w0 w : World) (hr : Rel w0 w) :
    Calls Tryd.prog 71 #[.string s, .string ⟨#[45]⟩] w fun e w' => e = .returned (.tuple #[.string (bd s), .bool b]) ∧ Rel w0 w' := by
  refine (Tryd.strings_CutPrefix s ⟨#[45]⟩ w).mono ?_
  rintro e w' ⟨rfl, rfl⟩
  obtain ⟨h1, h2⟩ := trim_body s.data.toList
  refine ⟨?_, hr⟩
  show Ending.returned (.tuple #[.string ⟨(trimPrefix s.data.toList [45]).toArray⟩, .bool (hasPrefix s.data.toList [45])]) = _
  rw [h1, h2, hb.out]
  rfl
theorem cutA_size (s : ByteArray) : (B (cutA s)).size ≤ s.size := by
  rw [B_size]
  unfold cutA
  have hl : s.data.toList.length = s.size := by simp
  unfold cut
  split
  · rw [List.length_take]; omega
  · show s.data.toList.length ≤ s.size; omega
theorem parse_no {l : List UInt8} (h : cnt (cut (body l) [46]).1 10000000000 < 0 ∨ pair (cut (body l) [46]).2.1 < 0) : 0 = prs1 l ∧ 20 = prs2 l := by
  unfold prs1 prs2; rw [prog_no h]; exact ⟨rfl, rfl⟩
theorem parse_yes {l : List UInt8} {h c : Int} {b : Bool} (e1 : cnt (cut (body l) [46]).1 10000000000 = h) (e2 : pair (cut (body l) [46]).2.1 = c) (h0 : 0 ≤ h) (c0 : 0 ≤ c) (eb : negL l = b) :
    ((1000000000000 < h * 100 + c ∨ (b = true ∧ h * 100 + c = 0)) → 0 = prs1 l ∧ 20 = prs2 l) ∧ ((h * 100 + c ≤ 1000000000000 ∧ ¬ (b = true ∧ h * 100 + c = 0)) → (if b then -(h * 100 + c) else h * 100 + c) = prs1 l ∧ 0 = prs2 l) := by
  have := prog_yes (l := l) (by rw [e1]; exact h0) (by rw [e2]; exact c0)
  rw [e1, e2, eb] at this
  unfold prs1 prs2
  rw [this]
  unfold fin
  constructor
  · intro hh
    simp only [if_pos hh]
    exact ⟨rfl, rfl⟩
  · intro hh
    have hn : ¬ (1000000000000 < h * 100 + c ∨ (b = true ∧ h * 100 + c = 0)) := fun x => x.elim (fun y => by omega) hh.2
    simp only [if_neg hn]
    exact ⟨rfl, rfl⟩
set_option maxHeartbeats 1000000 in
theorem parse_any (s : ByteArray) (hl : s.size ≤ 9223372036854775807) (w0 w : World) (hr : Rel w0 w) :
    Calls Tryd.prog 57 #[.string s] w fun e w' => Two e (prs1 s.data.toList) (prs2 s.data.toList) ∧ Rel w0 w' := by
  obtain ⟨b, hb⟩ : ∃ b, negL s.data.toList = b := ⟨_, rfl⟩
  obtain ⟨h, he1⟩ : ∃ h, cnt (cut (body s.data.toList) [46]).1 10000000000 = h := ⟨_, rfl⟩
  obtain ⟨c, he2⟩ : ∃ c, pair (cut (body s.data.toList) [46]).2.1 = c := ⟨_, rfl⟩
  have hbd := cnt_bd (cut (body s.data.toList) [46]).1 10000000000
  have cbd := pair_bd (cut (body s.data.toList) [46]).2.1
  rw [he1] at hbd
  rw [he2] at cbd
  have h1 : -1 ≤ h := by omega
  have h2 : h ≤ 10000000000 := by omega
  have c1 : -1 ≤ c := by omega
  have c2 : c ≤ 99 := by omega
  have HB := Lib.hid hb
  have HE1 := Lib.hid (show cnt (B (cutA (bd s))).data.toList 10000000000 = h by rw [B_list]; unfold cutA bd; rw [B_list]; exact he1)
  have HE2 := Lib.hid (show pair (B (cutB (bd s))).data.toList = c by rw [B_list]; unfold cutB bd; rw [B_list]; exact he2)
  have z1 := bd_size s
  have z2 := cutA_size (bd s)
  have HN := Lib.hid (parse_no (l := s.data.toList))
  rw [he1, he2] at HN
  have HY : 0 ≤ h → 0 ≤ c → _ := fun x y => parse_yes he1 he2 x y hb
  have HY := Lib.hid HY
  clear hbd cbd he1 he2 hb
  by_cases h0 : h < 0
  · go_enter Tryd.func57, Tryd.ntmps57
    go_wp2_with (first | (go_at_call 71; (with_reducible refine (cutp_any _ b HB _ _ hr).mono ?_); rintro e w' ⟨rfl, hr'⟩) | (go_at_call 72; (with_reducible refine (cut_any _ (by omega) _ _ (by assumption)).mono ?_); rintro e w' ⟨rfl, hr'⟩) | (go_at_call 56; (with_reducible refine (int_at h (count_any _ _ (by omega) _ _ (by assumption)) HE1).mono ?_); rintro e w' ⟨rfl, hr'⟩) | (go_at_call 73; (with_reducible refine (int_at c (pair_any _ _ _ (by assumption)) HE2).mono ?_); rintro e w' ⟨rfl, hr'⟩))
    go_ret2
    exact ⟨ret_two (HN.out (.inl h0)).1 (HN.out (.inl h0)).2, by assumption⟩
  · by_cases c0 : c < 0
    · go_enter Tryd.func57, Tryd.ntmps57
      go_wp2_with (first | (go_at_call 71; (with_reducible refine (cutp_any _ b HB _ _ hr).mono ?_); rintro e w' ⟨rfl, hr'⟩) | (go_at_call 72; (with_reducible refine (cut_any _ (by omega) _ _ (by assumption)).mono ?_); rintro e w' ⟨rfl, hr'⟩) | (go_at_call 56; (with_reducible refine (int_at h (count_any _ _ (by omega) _ _ (by assumption)) HE1).mono ?_); rintro e w' ⟨rfl, hr'⟩) | (go_at_call 73; (with_reducible refine (int_at c (pair_any _ _ _ (by assumption)) HE2).mono ?_); rintro e w' ⟨rfl, hr'⟩))
      go_ret2
      exact ⟨ret_two (HN.out (.inr c0)).1 (HN.out (.inr c0)).2, by assumption⟩
    · have HY2 := Lib.hid (HY.out (by omega) (by omega))
      clear HY HN
      obtain ⟨a, ha⟩ : ∃ a, a = h * 100 + c := ⟨_, rfl⟩
      rw [← ha] at HY2
      have a0 : 0 ≤ a := by omega
      have a1 : a ≤ 1000000000099 := by omega
      by_cases hbig : 1000000000000 < a
      · have HR := Lib.hid (show rt (h * 100 + c) = false by rw [← ha]; exact rt_no (.inr hbig))
        have h3 : 0 ≤ h := by omega
        have c3 : 0 ≤ c := by omega
        have HH := Lib.hid (HY2.out.1 (.inl hbig))
        clear ha h0 c0
        go_enter Tryd.func57, Tryd.ntmps57
        go_wp2_with (first | (go_at_call 71; (with_reducible refine (cutp_any _ b HB _ _ hr).mono ?_); rintro e w' ⟨rfl, hr'⟩) | (go_at_call 72; (with_reducible refine (cut_any _ (by omega) _ _ (by assumption)).mono ?_); rintro e w' ⟨rfl, hr'⟩) | (go_at_call 56; (with_reducible refine (int_at h (count_any _ _ (by omega) _ _ (by assumption)) HE1).mono ?_); rintro e w' ⟨rfl, hr'⟩) | (go_at_call 73; (with_reducible refine (int_at c (pair_any _ _ _ (by assumption)) HE2).mono ?_); rintro e w' ⟨rfl, hr'⟩) | (go_at_call 66; (with_reducible refine (bool_at false (right_any _ _) HR).mono ?_); rintro e w' ⟨rfl, rfl⟩))
        go_ret2
        exact ⟨ret_two HH.out.1 HH.out.2, by assumption⟩
      · have HR := Lib.hid (show rt (h * 100 + c) = true by rw [← ha]; exact rt_yes (by omega) (by omega))
        have bb : h * 100 + c ≤ 1000000000000 := by omega
        rw [ha] at HY2
        clear ha hbig a0 a1
        cases b
        · have HH := Lib.hid (HY2.out.2 ⟨bb, by simp⟩)
          have h3 : 0 ≤ h := by omega
          have c3 : 0 ≤ c := by omega
          clear HY2 h0 c0
          go_enter Tryd.func57, Tryd.ntmps57
          go_wp2_with (first | (go_at_call 71; (with_reducible refine (cutp_any _ false HB _ _ hr).mono ?_); rintro e w' ⟨rfl, hr'⟩) | (go_at_call 72; (with_reducible refine (cut_any _ (by omega) _ _ (by assumption)).mono ?_); rintro e w' ⟨rfl, hr'⟩) | (go_at_call 56; (with_reducible refine (int_at h (count_any _ _ (by omega) _ _ (by assumption)) HE1).mono ?_); rintro e w' ⟨rfl, hr'⟩) | (go_at_call 73; (with_reducible refine (int_at c (pair_any _ _ _ (by assumption)) HE2).mono ?_); rintro e w' ⟨rfl, hr'⟩) | (go_at_call 66; (with_reducible refine (bool_at true (right_any _ _) HR).mono ?_); rintro e w' ⟨rfl, rfl⟩))
          go_ret2
          exact ⟨ret_two HH.out.1 HH.out.2, by assumption⟩
        · by_cases hz : h * 100 + c = 0
          · have HH := Lib.hid (HY2.out.1 (.inr ⟨rfl, hz⟩))
            have hz' : ((h * 100 + c : Int) == 0) = true := by simpa using hz
            clear hz
            have h3 : 0 ≤ h := by omega
            have c3 : 0 ≤ c := by omega
            clear HY2 h0 c0
            go_enter Tryd.func57, Tryd.ntmps57
            go_wp2_with (first | (go_at_call 71; (with_reducible refine (cutp_any _ true HB _ _ hr).mono ?_); rintro e w' ⟨rfl, hr'⟩) | (go_at_call 72; (with_reducible refine (cut_any _ (by omega) _ _ (by assumption)).mono ?_); rintro e w' ⟨rfl, hr'⟩) | (go_at_call 56; (with_reducible refine (int_at h (count_any _ _ (by omega) _ _ (by assumption)) HE1).mono ?_); rintro e w' ⟨rfl, hr'⟩) | (go_at_call 73; (with_reducible refine (int_at c (pair_any _ _ _ (by assumption)) HE2).mono ?_); rintro e w' ⟨rfl, hr'⟩) | (go_at_call 66; (with_reducible refine (bool_at true (right_any _ _) HR).mono ?_); rintro e w' ⟨rfl, rfl⟩))
            go_ret2
            exact ⟨ret_two HH.out.1 HH.out.2, by assumption⟩
          · have HH := Lib.hid (HY2.out.2 ⟨bb, fun x => hz x.2⟩)
            have hz' : ((h * 100 + c : Int) == 0) = false := by simpa using hz
            clear hz
            have h3 : 0 ≤ h := by omega
            have c3 : 0 ≤ c := by omega
            clear HY2 h0 c0
            go_enter Tryd.func57, Tryd.ntmps57
            go_wp2_with (first | (go_at_call 71; (with_reducible refine (cutp_any _ true HB _ _ hr).mono ?_); rintro e w' ⟨rfl, hr'⟩) | (go_at_call 72; (with_reducible refine (cut_any _ (by omega) _ _ (by assumption)).mono ?_); rintro e w' ⟨rfl, hr'⟩) | (go_at_call 56; (with_reducible refine (int_at h (count_any _ _ (by omega) _ _ (by assumption)) HE1).mono ?_); rintro e w' ⟨rfl, hr'⟩) | (go_at_call 73; (with_reducible refine (int_at c (pair_any _ _ _ (by assumption)) HE2).mono ?_); rintro e w' ⟨rfl, hr'⟩) | (go_at_call 66; (with_reducible refine (bool_at true (right_any _ _) HR).mono ?_); rintro e w' ⟨rfl, rfl⟩))
            go_ret2
            exact ⟨ret_two HH.out.1 HH.out.2, by assumption⟩
end Go.Proofs.YtjhjdiaomnpkmaaDoor

namespace Go.Proofs.YtjhjdiaomnpkmaaDoor
open Go.RowKit Go.Lib
set_option linter.unusedVariables false
set_option linter.unusedSimpArgs false
theorem lletter_any (c : UInt8) (w : World) : Calls Tryd.prog 68 #[.int .u8 (c.toNat : Int)] w fun e w' => e = .returned (.bool (isL c)) ∧ w = w' := by
  by_cases h1 : 97 ≤ c.toNat <;> by_cases h2 : c.toNat ≤ 122
  all_goals
    go_enter Tryd.func68, Tryd.ntmps68
    go_wp2
    all_goals
      go_ret
      exact ⟨ret_bool (Bool.eq_iff_iff.2 (by simp [isL]; omega)), rfl⟩
theorem ldigit_any (c : UInt8) (w : World) : Calls Tryd.prog 69 #[.int .u8 (c.toNat : Int)] w fun e w' => e = .returned (.bool (isD c)) ∧ w = w' := by
  by_cases h1 : 48 ≤ c.toNat <;> by_cases h2 : c.toNat ≤ 57
  all_goals
    go_enter Tryd.func69, Tryd.ntmps69
    go_wp2
    all_goals
      go_ret
      exact ⟨ret_bool (Bool.eq_iff_iff.2 (by simp [isD]; omega)), rfl⟩
theorem pt_bytes (c : UInt8) : isPt c = (isL c || isD c || ((c.toNat : Int) == 46)) := by
  rw [byte_eq (d := 46) 46 rfl]; rfl
theorem lpart_any (c : UInt8) (w : World) : Calls Tryd.prog 58 #[.int .u8 (c.toNat : Int)] w fun e w' => e = .returned (.bool (isPt c)) ∧ w = w' := by
  have hp := pt_bytes c
  cases hl : isL c <;> cases hd : isD c <;> cases h3 : ((c.toNat : Int) == 46)
  all_goals
    rw [hl, hd, h3] at hp
    have HP := Lib.hid hp
    have HL := Lib.hid hl
    have HD := Lib.hid hd
    clear hp hl hd
    go_enter Tryd.func58, Tryd.ntmps58
    go_wp2_with (first
      | (go_at_call 68; (with_reducible refine (bool_at _ (lletter_any c _) HL).mono ?_); rintro e w' ⟨rfl, rfl⟩)
      | (go_at_call 69; (with_reducible refine (bool_at _ (ldigit_any c _) HD).mono ?_); rintro e w' ⟨rfl, rfl⟩))
    go_ret
    exact ⟨ret_bool HP.out.symm, rfl⟩
theorem lsign_any (c : UInt8) (w : World) : Calls Tryd.prog 53 #[.int .u8 (c.toNat : Int)] w fun e w' => e = .returned (.bool (isSg c)) ∧ w = w' := by
  have hp := sg_bytes c
  cases h1 : ((c.toNat : Int) == 40) <;> cases h2 : ((c.toNat : Int) == 41) <;> cases h3 : ((c.toNat : Int) == 44)
  all_goals
    rw [h1, h2, h3] at hp
    have HP := Lib.hid hp
    clear hp
    go_enter Tryd.func53, Tryd.ntmps53
    go_wp2_with (fail)
    go_ret
    exact ⟨ret_bool HP.out.symm, rfl⟩
theorem lblank_any (c : UInt8) (w : World) : Calls Tryd.prog 35 #[.int .u8 (c.toNat : Int)] w fun e w' => e = .returned (.bool (isBl c)) ∧ w = w' := by
  have hp := bl_bytes c
  cases h1 : ((c.toNat : Int) == 32) <;> cases h2 : ((c.toNat : Int) == 10)
  all_goals
    rw [h1, h2] at hp
    have HP := Lib.hid hp
    clear hp
    go_enter Tryd.func35, Tryd.ntmps35
    go_wp2_with (fail)
    go_ret
    exact ⟨ret_bool HP.out.symm, rfl⟩
theorem lit_eq {s : ByteArray} {l : List UInt8} (h : B l = s) : (s.toList == l) = true := by have := list_of.2 h.symm; rwa [B_toList] at this
theorem lit_ne {s : ByteArray} {l : List UInt8} (h : ¬ B l = s) : (s.toList == l) = false := by have := list_ne (fun e => h e.symm); rwa [B_toList] at this
theorem word_ways (s : ByteArray) :
    ((s.toList == [108, 111, 119, 101, 115, 116]) = true ∧ isWord s.data.toList = true) ∨
    ((s.toList == [108, 111, 119, 101, 115, 116]) = false ∧ (s.toList == [115, 101, 99, 111, 110, 100]) = true ∧ isWord s.data.toList = true) ∨
    ((s.toList == [108, 111, 119, 101, 115, 116]) = false ∧ (s.toList == [115, 101, 99, 111, 110, 100]) = false ∧ (s.toList == [102, 114, 111, 109]) = true ∧ isWord s.data.toList = true) ∨
    ((s.toList == [108, 111, 119, 101, 115, 116]) = false ∧ (s.toList == [115, 101, 99, 111, 110, 100]) = false ∧ (s.toList == [102, 114, 111, 109]) = false ∧ (s.toList == [108, 101, 115, 115]) = true ∧ isWord s.data.toList = true) ∨
    ((s.toList == [108, 111, 119, 101, 115, 116]) = false ∧ (s.toList == [115, 101, 99, 111, 110, 100]) = false ∧ (s.toList == [102, 114, 111, 109]) = false ∧ (s.toList == [108, 101, 115, 115]) = false ∧ (s.toList == [99, 117, 116]) = true ∧ isWord s.data.toList = true) ∨
    ((s.toList == [108, 111, 119, 101, 115, 116]) = false ∧ (s.toList == [115, 101, 99, 111, 110, 100]) = false ∧ (s.toList == [102, 114, 111, 109]) = false ∧ (s.toList == [108, 101, 115, 115]) = false ∧ (s.toList == [99, 117, 116]) = false ∧ (s.toList == [109, 105, 110]) = true ∧ isWord s.data.toList = true) ∨
    ((s.toList == [108, 111, 119, 101, 115, 116]) = false ∧ (s.toList == [115, 101, 99, 111, 110, 100]) = false ∧ (s.toList == [102, 114, 111, 109]) = false ∧ (s.toList == [108, 101, 115, 115]) = false ∧ (s.toList == [99, 117, 116]) = false ∧ (s.toList == [109, 105, 110]) = false ∧ (s.toList == [109, 97, 120]) = true ∧ isWord s.data.toList = true) ∨
    ((s.toList == [108, 111, 119, 101, 115, 116]) = false ∧ (s.toList == [115, 101, 99, 111, 110, 100]) = false ∧ (s.toList == [102, 114, 111, 109]) = false ∧ (s.toList == [108, 101, 115, 115]) = false ∧ (s.toList == [99, 117, 116]) = false ∧ (s.toList == [109, 105, 110]) = false ∧ (s.toList == [109, 97, 120]) = false ∧ (s.toList == [101, 108, 115, 101]) = true ∧ isWord s.data.toList = true) ∨
    ((s.toList == [108, 111, 119, 101, 115, 116]) = false ∧ (s.toList == [115, 101, 99, 111, 110, 100]) = false ∧ (s.toList == [102, 114, 111, 109]) = false ∧ (s.toList == [108, 101, 115, 115]) = false ∧ (s.toList == [99, 117, 116]) = false ∧ (s.toList == [109, 105, 110]) = false ∧ (s.toList == [109, 97, 120]) = false ∧ (s.toList == [101, 108, 115, 101]) = false ∧ (s.toList == [105, 102]) = true ∧ isWord s.data.toList = true) ∨
    ((s.toList == [108, 111, 119, 101, 115, 116]) = false ∧ (s.toList == [115, 101, 99, 111, 110, 100]) = false ∧ (s.toList == [102, 114, 111, 109]) = false ∧ (s.toList == [108, 101, 115, 115]) = false ∧ (s.toList == [99, 117, 116]) = false ∧ (s.toList == [109, 105, 110]) = false ∧ (s.toList == [109, 97, 120]) = false ∧ (s.toList == [101, 108, 115, 101]) = false ∧ (s.toList == [105, 102]) = false ∧ (s.toList == [109, 111, 114, 101]) = true ∧ isWord s.data.toList = true) ∨
    ((s.toList == [108, 111, 119, 101, 115, 116]) = false ∧ (s.toList == [115, 101, 99, 111, 110, 100]) = false ∧ (s.toList == [102, 114, 111, 109]) = false ∧ (s.toList == [108, 101, 115, 115]) = false ∧ (s.toList == [99, 117, 116]) = false ∧ (s.toList == [109, 105, 110]) = false ∧ (s.toList == [109, 97, 120]) = false ∧ (s.toList == [101, 108, 115, 101]) = false ∧ (s.toList == [105, 102]) = false ∧ (s.toList == [109, 111, 114, 101]) = false ∧ (s.toList == [97, 98, 111, 118, 101]) = true ∧ isWord s.data.toList = true) ∨
    ((s.toList == [108, 111, 119, 101, 115, 116]) = false ∧ (s.toList == [115, 101, 99, 111, 110, 100]) = false ∧ (s.toList == [102, 114, 111, 109]) = false ∧ (s.toList == [108, 101, 115, 115]) = false ∧ (s.toList == [99, 117, 116]) = false ∧ (s.toList == [109, 105, 110]) = false ∧ (s.toList == [109, 97, 120]) = false ∧ (s.toList == [101, 108, 115, 101]) = false ∧ (s.toList == [105, 102]) = false ∧ (s.toList == [109, 111, 114, 101]) = false ∧ (s.toList == [97, 98, 111, 118, 101]) = false ∧ isWord s.data.toList = false) := by
  by_cases h0 : B [108, 111, 119, 101, 115, 116] = s
  · exact .inl ⟨lit_eq h0, word_yes (j := 0) (by omega) h0⟩
  by_cases h1 : B [115, 101, 99, 111, 110, 100] = s
  · exact .inr (.inl ⟨lit_ne h0, lit_eq h1, word_yes (j := 1) (by omega) h1⟩)
  by_cases h2 : B [102, 114, 111, 109] = s
  · exact .inr (.inr (.inl ⟨lit_ne h0, lit_ne h1, lit_eq h2, word_yes (j := 2) (by omega) h2⟩))
  by_cases h3 : B [108, 101, 115, 115] = s
  · exact .inr (.inr (.inr (.inl ⟨lit_ne h0, lit_ne h1, lit_ne h2, lit_eq h3, word_yes (j := 3) (by omega) h3⟩)))
  by_cases h4 : B [99, 117, 116] = s
  · exact .inr (.inr (.inr (.inr (.inl ⟨lit_ne h0, lit_ne h1, lit_ne h2, lit_ne h3, lit_eq h4, word_yes (j := 4) (by omega) h4⟩))))
  by_cases h5 : B [109, 105, 110] = s
  · exact .inr (.inr (.inr (.inr (.inr (.inl ⟨lit_ne h0, lit_ne h1, lit_ne h2, lit_ne h3, lit_ne h4, lit_eq h5, word_yes (j := 5) (by omega) h5⟩)))))
  by_cases h6 : B [109, 97, 120] = s
  · exact .inr (.inr (.inr (.inr (.inr (.inr (.inl ⟨lit_ne h0, lit_ne h1, lit_ne h2, lit_ne h3, lit_ne h4, lit_ne h5, lit_eq h6, word_yes (j := 6) (by omega) h6⟩))))))
  by_cases h7 : B [101, 108, 115, 101] = s
  · exact .inr (.inr (.inr (.inr (.inr (.inr (.inr (.inl ⟨lit_ne h0, lit_ne h1, lit_ne h2, lit_ne h3, lit_ne h4, lit_ne h5, lit_ne h6, lit_eq h7, word_yes (j := 7) (by omega) h7⟩)))))))
  by_cases h8 : B [105, 102] = s
  · exact .inr (.inr (.inr (.inr (.inr (.inr (.inr (.inr (.inl ⟨lit_ne h0, lit_ne h1, lit_ne h2, lit_ne h3, lit_ne h4, lit_ne h5, lit_ne h6, lit_ne h7, lit_eq h8, word_yes (j := 8) (by omega) h8⟩))))))))
  by_cases h9 : B [109, 111, 114, 101] = s
  · exact .inr (.inr (.inr (.inr (.inr (.inr (.inr (.inr (.inr (.inl ⟨lit_ne h0, lit_ne h1, lit_ne h2, lit_ne h3, lit_ne h4, lit_ne h5, lit_ne h6, lit_ne h7, lit_ne h8, lit_eq h9, word_yes (j := 9) (by omega) h9⟩)))))))))
  by_cases h10 : B [97, 98, 111, 118, 101] = s
  · exact .inr (.inr (.inr (.inr (.inr (.inr (.inr (.inr (.inr (.inr (.inl ⟨lit_ne h0, lit_ne h1, lit_ne h2, lit_ne h3, lit_ne h4, lit_ne h5, lit_ne h6, lit_ne h7, lit_ne h8, lit_ne h9, lit_eq h10, word_yes (j := 10) (by omega) h10⟩))))))))))
  exact .inr (.inr (.inr (.inr (.inr (.inr (.inr (.inr (.inr (.inr (.inr (⟨lit_ne h0, lit_ne h1, lit_ne h2, lit_ne h3, lit_ne h4, lit_ne h5, lit_ne h6, lit_ne h7, lit_ne h8, lit_ne h9, lit_ne h10, word_no (fun j hj => by
    rcases j with _|_|_|_|_|_|_|_|_|_|_|j
    · exact h0
    · exact h1
    · exact h2
    · exact h3
    · exact h4
    · exact h5
    · exact h6
    · exact h7
    · exact h8
    · exact h9
    · exact h10
    · omega)⟩)))))))))))
set_option maxHeartbeats 1000000 in
theorem lword_any (s : ByteArray) (w0 w : World) (hr : Rel w0 w) :
    Calls Tryd.prog 54 #[.string s] w fun e w' => e = .returned (.bool (isWord s.data.toList)) ∧ Rel w0 w' := by
  rcases word_ways s with ⟨k0, hw⟩ | ⟨k0, k1, hw⟩ | ⟨k0, k1, k2, hw⟩ | ⟨k0, k1, k2, k3, hw⟩ | ⟨k0, k1, k2, k3, k4, hw⟩ | ⟨k0, k1, k2, k3, k4, k5, hw⟩ | ⟨k0, k1, k2, k3, k4, k5, k6, hw⟩ | ⟨k0, k1, k2, k3, k4, k5, k6, k7, hw⟩ | ⟨k0, k1, k2, k3, k4, k5, k6, k7, k8, hw⟩ | ⟨k0, k1, k2, k3, k4, k5, k6, k7, k8, k9, hw⟩ | ⟨k0, k1, k2, k3, k4, k5, k6, k7, k8, k9, k10, hw⟩ | ⟨k0, k1, k2, k3, k4, k5, k6, k7, k8, k9, k10, hw⟩
  all_goals
    have HW := Lib.hid hw
    clear hw
    go_enter Tryd.func54, Tryd.ntmps54
    go_wp2_with (fail)
    go_ret
    exact ⟨ret_bool HW.out.symm, hr⟩
set_option maxHeartbeats 1000000 in
theorem lname_list (l : List UInt8) (hl : l.length ≤ 9223372036854775807) (w0 w : World) (hr : Rel w0 w) :
    Calls Tryd.prog 55 #[.string (B l)] w fun e w' => e = .returned (.bool (isName l)) ∧ Rel w0 w' := by
  cases l with
  | nil =>
    have HT := B_toList []
    go_enter Tryd.func55, Tryd.ntmps55
    go_wp2_with (fail)
    go_ret
    exact ⟨ret_bool rfl, hr⟩
  | cons c t =>
    have HT := B_toList (c :: t)
    have HB := B_cons_size c t
    have H0 := B_zero c t
    by_cases h12 : t.length + 1 ≤ 12
    · have z : ¬ (12 : Int) < (t.length : Int) + 1 := by omega
      cases hc : isL c
      · have HF := Lib.hid (show isName (c :: t) = false by rw [name_eq, hc]; simp)
        clear hl h12
        go_enter Tryd.func55, Tryd.ntmps55
        go_wp2_with (go_at_call 68; (with_reducible refine (bool_at false (lletter_any c _) (Lib.hid hc)).mono ?_); rintro e w' ⟨rfl, rfl⟩)
        go_ret
        exact ⟨ret_bool HF.out.symm, hr⟩
      · cases hw : isWord (c :: t)
        · have HC := Lib.hid hc
          have HWd := Lib.hid (show isWord (B (c :: t)).data.toList = false by rw [B_list]; exact hw)
          have HW0 := Lib.hid hw
          have HR := Lib.hid hr
          clear hw hc
          go_enter Tryd.func55, Tryd.ntmps55
          go_wp2_with (first
            | (go_at_call 68; (with_reducible refine (bool_at true (lletter_any c _) HC).mono ?_); rintro e w' ⟨rfl, rfl⟩)
            | (go_at_call 54; (with_reducible refine (bool_at false (lword_any _ _ _ hr.self) HWd).mono ?_); rintro e w1 ⟨rfl, h1⟩))
          go_loopw [3, 23] (fun _ i wr => ∃ j : Nat, j ≤ t.length + 1 ∧ i = .int .i64 j ∧ Hid (((c :: t).take j).all LD = true) ∧ wr = w1) (fun _ i _ => t.length + 1 - (RowKit.intOf i).toNat)
          case atStart => exact ⟨0, by omega, rfl, Lib.hid rfl, rfl⟩
          case round =>
            obtain ⟨j, hj, rfl, HA, rfl⟩ := hrel
            by_cases hlt : j < t.length + 1
            · have hlt' : j < (c :: t).length := by simpa using hlt
              obtain ⟨x, hx⟩ : ∃ x, x = (c :: t)[j] := ⟨_, rfl⟩
              have hg : ∀ h, (B (c :: t))[j]'h = x := fun h => by rw [hx]; rfl
              have HX := Lib.hid hx
              clear hx
              cases hL : isL x <;> cases hD : isD x
              · have HF := Lib.hid (show isName (c :: t) = false by rw [name_eq, all_bad j hlt' (by rw [← HX.out]; simp [LD, hL, hD])]; simp)
                have HL := Lib.hid hL
                have HD := Lib.hid hD
                clear hL hD
                go_wp2_with (first
                  | (go_at_call 68; (with_reducible refine (bool_at false (lletter_any x _) HL).mono ?_); rintro e w' ⟨rfl, rfl⟩)
                  | (go_at_call 69; (with_reducible refine (bool_at false (ldigit_any x _) HD).mono ?_); rintro e w' ⟨rfl, rfl⟩))
                go_ret
                exact ⟨ret_bool HF.out.symm, HR.out.trans h1⟩
              all_goals
                have HM := Lib.hid (all_more j hlt' HA.out (by rw [← HX.out]; simp [LD, hL, hD]))
                have HL := Lib.hid hL
                have HD := Lib.hid hD
                clear hL hD
                go_wp2_with (first
                  | (go_at_call 68; (with_reducible refine (bool_at _ (lletter_any x _) HL).mono ?_); rintro e w' ⟨rfl, rfl⟩)
                  | (go_at_call 69; (with_reducible refine (bool_at _ (ldigit_any x _) HD).mono ?_); rintro e w' ⟨rfl, rfl⟩))
                go_roundw
                case rel => exact ⟨j + 1, by omega, by go_num, HM, trivial⟩
                case measure => simp [RowKit.intOf]; omega
            · obtain rfl : j = t.length + 1 := by omega
              have HY := Lib.hid (show isName (c :: t) = true by
                have ha := HA.out
                rw [List.take_of_length_le (by simp)] at ha
                rw [name_eq, ha, HC.out, HW0.out, decide_eq_true h12]; rfl)
              go_wp2_with (fail)
              go_ret
              exact ⟨ret_bool HY.out.symm, HR.out.trans h1⟩
        · have HC := Lib.hid hc
          have HWd := Lib.hid (show isWord (B (c :: t)).data.toList = true by rw [B_list]; exact hw)
          have HF := Lib.hid (show isName (c :: t) = false by rw [name_eq, hw]; simp)
          clear hw hc
          go_enter Tryd.func55, Tryd.ntmps55
          go_wp2_with (first
            | (go_at_call 68; (with_reducible refine (bool_at true (lletter_any c _) HC).mono ?_); rintro e w' ⟨rfl, rfl⟩)
            | (go_at_call 54; (with_reducible refine (bool_at true (lword_any _ _ _ hr.self) HWd).mono ?_); rintro e w1 ⟨rfl, h1⟩))
          go_ret
          exact ⟨ret_bool HF.out.symm, hr.trans h1⟩
    · have HF := Lib.hid (show isName (c :: t) = false by rw [name_eq, decide_eq_false h12]; simp)
      have z : (12 : Int) < (t.length : Int) + 1 := by omega
      clear h12
      go_enter Tryd.func55, Tryd.ntmps55
      go_wp2_with (fail)
      go_ret
      exact ⟨ret_bool HF.out.symm, hr⟩
theorem lname_any (s : ByteArray) (hs : s.size ≤ 9223372036854775807) (w0 w : World) (hr : Rel w0 w) :
    Calls Tryd.prog 55 #[.string s] w fun e w' => e = .returned (.bool (isName s.data.toList)) ∧ Rel w0 w' := by
  have := lname_list s.data.toList (by simpa using hs) w0 w hr
  rwa [B_of] at this
end Go.Proofs.YtjhjdiaomnpkmaaDoor
