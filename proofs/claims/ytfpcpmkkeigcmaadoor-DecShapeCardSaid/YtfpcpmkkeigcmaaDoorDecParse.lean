/- The contracts of what reads amounts off texts: the program's, and the document's own. -/
import Derived.Test.YtfpcpmkkeigcmaaDoorDecCount
import Derived.IntWalk
namespace Go.Proofs.YtfpcpmkkeigcmaaDoor
open Go.RowKit Go.Lib
set_option linter.unusedVariables false
set_option linter.unusedSimpArgs false

theorem bool_at {f : FuncId} {args : Array Value} {w : World} {R : World → Prop} {x : Bool} (y : Bool) (c : Calls Tryd.prog f args w fun e w' => e = .returned (.bool x) ∧ R w') (h : Hid (x = y)) : Calls Tryd.prog f args w fun e w' => e = .returned (.bool y) ∧ R w' := by
  have e := h.out; subst e; exact c
def dot : ByteArray := ⟨#[46]⟩
def cutA (s : ByteArray) : List UInt8 := (cut s.data.toList [46]).1
def cutB (s : ByteArray) : List UInt8 := (cut s.data.toList [46]).2.1
def cutC (s : ByteArray) : Bool := (cut s.data.toList [46]).2.2
theorem ret_ssb {a a' b b' : ByteArray} {c c' : Bool} (h : a = a') (h' : b = b') (h'' : c = c') : Ending.returned (.tuple #[.string a, .string b, .bool c]) = Ending.returned (.tuple #[.string a', .string b', .bool c']) := by rw [h, h', h'']
theorem lcut_any (s : ByteArray) (hl : s.size ≤ 9223372036854775807) (w0 w : World) (hr : Rel w0 w) :
    Calls Tryd.prog 31 #[.string s, .string ⟨#[46]⟩] w fun e w' => e = .returned (.tuple #[.string (B (cutA s)), .string (B (cutB s)), .bool (cutC s)]) ∧ Rel w0 w' := by
  have ei : Lib.indexByte s.data.toList 46 = Lib.indexB s dot := (Lib.index_one s.data.toList 46).symm
  rcases Lib.indexB_cases s dot with hix | ⟨i, hix, hroom⟩
  · obtain ⟨e1, e2, e3⟩ := Lib.cutB_miss s dot hix
    have f1 := Lib.hid (show s = B (cutA s) from e1.symm)
    have f2 := Lib.hid (show (⟨#[]⟩ : ByteArray) = B (cutB s) from e2.symm)
    have f3 := Lib.hid (show false = cutC s from e3.symm)
    have hix' := Lib.hid (ei.trans hix)
    clear e1 e2 e3 ei hix
    go_enter Tryd.func31, Tryd.ntmps31
    go_wp2_with ((go_at_call 34; refine (int_at (R := fun w' => w' = _) (-1) (Tryd.stringslite_Index_one s 46 _) hix').mono ?_; rintro e w' ⟨rfl, rfl⟩))
    go_ret3
    exact ⟨ret_ssb f1.out f2.out f3.out, hr⟩
  · obtain ⟨e1, e2, e3⟩ := Lib.cutB_hit s dot i hix
    have f1 := Lib.hid (show s.extract 0 i = B (cutA s) from e1.symm)
    have f2 := Lib.hid (show s.extract (i + 1) s.size = B (cutB s) from e2.symm)
    have f3 := Lib.hid (show true = cutC s from e3.symm)
    have hix' := Lib.hid (ei.trans hix)
    have hd : dot.size = 1 := rfl
    rw [hd] at hroom
    have c1 : (0 : Int) ≤ ↑i := by omega
    have c2 : (↑i : Int) ≤ ↑s.size := by omega
    have c3 : (0 : Int) ≤ ↑i + 1 := by omega
    have c4 : (↑i + 1 : Int) ≤ ↑s.size := by omega
    clear e1 e2 e3 ei hix hd
    have c5 : IntKind.i64.wrap ((i : Int) + 1) = (i : Int) + 1 := IntWalk.i64_in _ (by omega)
    have c6 : ((i : Int) + 1).toNat = i + 1 := by omega
    go_enter Tryd.func31, Tryd.ntmps31
    go_wp2_with ((go_at_call 34; refine (int_at (R := fun w' => w' = _) (i : Int) (Tryd.stringslite_Index_one s 46 _) hix').mono ?_; rintro e w' ⟨rfl, rfl⟩))
    go_region
    go_wp2
    go_ret3
    exact ⟨ret_ssb f1.out f2.out f3.out, hr.drew⟩
theorem cut_any (s : ByteArray) (hl : s.size ≤ 9223372036854775807) (w0 w : World) (hr : Rel w0 w) :
    Calls Tryd.prog 25 #[.string s, .string ⟨#[46]⟩] w fun e w' => e = .returned (.tuple #[.string (B (cutA s)), .string (B (cutB s)), .bool (cutC s)]) ∧ Rel w0 w' := by
  go_enter Tryd.func25, Tryd.ntmps25
  go_wp2_with ((go_at_call 31; (with_reducible refine (lcut_any _ hl _ _ hr).mono ?_); rintro e w' ⟨rfl, hr'⟩))
  go_ret3
  exact ⟨ret_ssb rfl rfl rfl, hr'⟩

theorem trim_body (l : List UInt8) : trimPrefix l [45] = body l ∧ hasPrefix l [45] = negL l := by
  unfold trimPrefix hasPrefix body negL
  cases l with
  | nil => exact ⟨rfl, rfl⟩
  | cons c t =>
    by_cases h : c = 45
    · subst h; exact ⟨rfl, rfl⟩
    · have h1 : ((45 : UInt8) == c) = false := by simp [Ne.symm h]
      have h2 : (c == (45 : UInt8)) = false := by simp [h]
      simp [List.isPrefixOf, h1, h]
def bd (s : ByteArray) : ByteArray := B (body s.data.toList)
theorem bd_size (s : ByteArray) : (bd s).size ≤ s.size := by
  unfold bd body
  rw [B_size]
  have : s.data.toList.length = s.size := by simp
  split
  · rw [List.length_tail]; omega
  · omega
theorem cutp_any (s : ByteArray) (b : Bool) (hb : Hid (negL s.data.toList = b)) (w0 w : World) (hr : Rel w0 w) :
    Calls Tryd.prog 24 #[.string s, .string ⟨#[45]⟩] w fun e w' => e = .returned (.tuple #[.string (bd s), .bool b]) ∧ Rel w0 w' := by
  refine (Tryd.strings_CutPrefix s ⟨#[45]⟩ w).mono ?_
  rintro e w' ⟨rfl, rfl⟩
  obtain ⟨h1, h2⟩ := trim_body s.data.toList
  refine ⟨?_, hr⟩
  show Ending.returned (.tuple #[.string ⟨(trimPrefix s.data.toList [45]).toArray⟩, .bool (hasPrefix s.data.toList [45])]) = _
  rw [h1, h2, hb.out]
  rfl
theorem cutA_size (s : ByteArray) : (B (cutA s)).size ≤ s.size := by
  rw [B_size]
  unfold cutA
  have hl : s.data.toList.length = s.size := by simp
  unfold cut
  split
  · rw [List.length_take]; omega
  · show s.data.toList.length ≤ s.size; omega
theorem parse_no {l : List UInt8} (h : cnt (cut (body l) [46]).1 10000000000 < 0 ∨ pair (cut (body l) [46]).2.1 < 0) : 0 = prs1 l ∧ 20 = prs2 l := by
  unfold prs1 prs2; rw [prog_no h]; exact ⟨rfl, rfl⟩
theorem parse_yes {l : List UInt8} {h c : Int} {b : Bool} (e1 : cnt (cut (body l) [46]).1 10000000000 = h) (e2 : pair (cut (body l) [46]).2.1 = c) (h0 : 0 ≤ h) (c0 : 0 ≤ c) (eb : negL l = b) :
    ((1000000000000 < h * 100 + c ∨ (b = true ∧ h * 100 + c = 0)) → 0 = prs1 l ∧ 20 = prs2 l) ∧ ((h * 100 + c ≤ 1000000000000 ∧ ¬ (b = true ∧ h * 100 + c = 0)) → (if b then -(h * 100 + c) else h * 100 + c) = prs1 l ∧ 0 = prs2 l) := by
  have := prog_yes (l := l) (by rw [e1]; exact h0) (by rw [e2]; exact c0)
  rw [e1, e2, eb] at this
  unfold prs1 prs2
  rw [this]
  unfold fin
  constructor
  · intro hh
    simp only [if_pos hh]
    exact ⟨rfl, rfl⟩
  · intro hh
    have hn : ¬ (1000000000000 < h * 100 + c ∨ (b = true ∧ h * 100 + c = 0)) := fun x => x.elim (fun y => by omega) hh.2
    simp only [if_neg hn]
    exact ⟨rfl, rfl⟩
set_option maxHeartbeats 1000000 in
theorem parse_any (s : ByteArray) (hl : s.size ≤ 9223372036854775807) (w0 w : World) (hr : Rel w0 w) :
    Calls Tryd.prog 16 #[.string s] w fun e w' => Two e (prs1 s.data.toList) (prs2 s.data.toList) ∧ Rel w0 w' := by
  obtain ⟨b, hb⟩ : ∃ b, negL s.data.toList = b := ⟨_, rfl⟩
  obtain ⟨h, he1⟩ : ∃ h, cnt (cut (body s.data.toList) [46]).1 10000000000 = h := ⟨_, rfl⟩
  obtain ⟨c, he2⟩ : ∃ c, pair (cut (body s.data.toList) [46]).2.1 = c := ⟨_, rfl⟩
  have hbd := cnt_bd (cut (body s.data.toList) [46]).1 10000000000
  have cbd := pair_bd (cut (body s.data.toList) [46]).2.1
  rw [he1] at hbd
  rw [he2] at cbd
  have h1 : -1 ≤ h := by omega
  have h2 : h ≤ 10000000000 := by omega
  have c1 : -1 ≤ c := by omega
  have c2 : c ≤ 99 := by omega
  have HB := Lib.hid hb
  have HE1 := Lib.hid (show cnt (B (cutA (bd s))).data.toList 10000000000 = h by rw [B_list]; unfold cutA bd; rw [B_list]; exact he1)
  have HE2 := Lib.hid (show pair (B (cutB (bd s))).data.toList = c by rw [B_list]; unfold cutB bd; rw [B_list]; exact he2)
  have z1 := bd_size s
  have z2 := cutA_size (bd s)
  have HN := Lib.hid (parse_no (l := s.data.toList))
  rw [he1, he2] at HN
  have HY : 0 ≤ h → 0 ≤ c → _ := fun x y => parse_yes he1 he2 x y hb
  have HY := Lib.hid HY
  clear hbd cbd he1 he2 hb
  by_cases h0 : h < 0
  · go_enter Tryd.func16, Tryd.ntmps16
    go_wp2_with (first | (go_at_call 24; (with_reducible refine (cutp_any _ b HB _ _ hr).mono ?_); rintro e w' ⟨rfl, hr'⟩) | (go_at_call 25; (with_reducible refine (cut_any _ (by omega) _ _ (by assumption)).mono ?_); rintro e w' ⟨rfl, hr'⟩) | (go_at_call 18; (with_reducible refine (int_at h (count_any _ _ (by omega) _ _ (by assumption)) HE1).mono ?_); rintro e w' ⟨rfl, hr'⟩) | (go_at_call 26; (with_reducible refine (int_at c (pair_any _ _ _ (by assumption)) HE2).mono ?_); rintro e w' ⟨rfl, hr'⟩))
    go_ret2
    exact ⟨ret_two (HN.out (.inl h0)).1 (HN.out (.inl h0)).2, by assumption⟩
  · by_cases c0 : c < 0
    · go_enter Tryd.func16, Tryd.ntmps16
      go_wp2_with (first | (go_at_call 24; (with_reducible refine (cutp_any _ b HB _ _ hr).mono ?_); rintro e w' ⟨rfl, hr'⟩) | (go_at_call 25; (with_reducible refine (cut_any _ (by omega) _ _ (by assumption)).mono ?_); rintro e w' ⟨rfl, hr'⟩) | (go_at_call 18; (with_reducible refine (int_at h (count_any _ _ (by omega) _ _ (by assumption)) HE1).mono ?_); rintro e w' ⟨rfl, hr'⟩) | (go_at_call 26; (with_reducible refine (int_at c (pair_any _ _ _ (by assumption)) HE2).mono ?_); rintro e w' ⟨rfl, hr'⟩))
      go_ret2
      exact ⟨ret_two (HN.out (.inr c0)).1 (HN.out (.inr c0)).2, by assumption⟩
    · have HY2 := Lib.hid (HY.out (by omega) (by omega))
      clear HY HN
      obtain ⟨a, ha⟩ : ∃ a, a = h * 100 + c := ⟨_, rfl⟩
      rw [← ha] at HY2
      have a0 : 0 ≤ a := by omega
      have a1 : a ≤ 1000000000099 := by omega
      by_cases hbig : 1000000000000 < a
      · have HR := Lib.hid (show rt (h * 100 + c) = false by rw [← ha]; exact rt_no (.inr hbig))
        have h3 : 0 ≤ h := by omega
        have c3 : 0 ≤ c := by omega
        have HH := Lib.hid (HY2.out.1 (.inl hbig))
        clear ha h0 c0
        go_enter Tryd.func16, Tryd.ntmps16
        go_wp2_with (first | (go_at_call 24; (with_reducible refine (cutp_any _ b HB _ _ hr).mono ?_); rintro e w' ⟨rfl, hr'⟩) | (go_at_call 25; (with_reducible refine (cut_any _ (by omega) _ _ (by assumption)).mono ?_); rintro e w' ⟨rfl, hr'⟩) | (go_at_call 18; (with_reducible refine (int_at h (count_any _ _ (by omega) _ _ (by assumption)) HE1).mono ?_); rintro e w' ⟨rfl, hr'⟩) | (go_at_call 26; (with_reducible refine (int_at c (pair_any _ _ _ (by assumption)) HE2).mono ?_); rintro e w' ⟨rfl, hr'⟩) | (go_at_call 21; (with_reducible refine (bool_at false (right_any _ _) HR).mono ?_); rintro e w' ⟨rfl, rfl⟩))
        go_ret2
        exact ⟨ret_two HH.out.1 HH.out.2, by assumption⟩
      · have HR := Lib.hid (show rt (h * 100 + c) = true by rw [← ha]; exact rt_yes (by omega) (by omega))
        have bb : h * 100 + c ≤ 1000000000000 := by omega
        rw [ha] at HY2
        clear ha hbig a0 a1
        cases b
        · have HH := Lib.hid (HY2.out.2 ⟨bb, by simp⟩)
          have h3 : 0 ≤ h := by omega
          have c3 : 0 ≤ c := by omega
          clear HY2 h0 c0
          go_enter Tryd.func16, Tryd.ntmps16
          go_wp2_with (first | (go_at_call 24; (with_reducible refine (cutp_any _ false HB _ _ hr).mono ?_); rintro e w' ⟨rfl, hr'⟩) | (go_at_call 25; (with_reducible refine (cut_any _ (by omega) _ _ (by assumption)).mono ?_); rintro e w' ⟨rfl, hr'⟩) | (go_at_call 18; (with_reducible refine (int_at h (count_any _ _ (by omega) _ _ (by assumption)) HE1).mono ?_); rintro e w' ⟨rfl, hr'⟩) | (go_at_call 26; (with_reducible refine (int_at c (pair_any _ _ _ (by assumption)) HE2).mono ?_); rintro e w' ⟨rfl, hr'⟩) | (go_at_call 21; (with_reducible refine (bool_at true (right_any _ _) HR).mono ?_); rintro e w' ⟨rfl, rfl⟩))
          go_ret2
          exact ⟨ret_two HH.out.1 HH.out.2, by assumption⟩
        · by_cases hz : h * 100 + c = 0
          · have HH := Lib.hid (HY2.out.1 (.inr ⟨rfl, hz⟩))
            have hz' : ((h * 100 + c : Int) == 0) = true := by simpa using hz
            clear hz
            have h3 : 0 ≤ h := by omega
            have c3 : 0 ≤ c := by omega
            clear HY2 h0 c0
            go_enter Tryd.func16, Tryd.ntmps16
            go_wp2_with (first | (go_at_call 24; (with_reducible refine (cutp_any _ true HB _ _ hr).mono ?_); rintro e w' ⟨rfl, hr'⟩) | (go_at_call 25; (with_reducible refine (cut_any _ (by omega) _ _ (by assumption)).mono ?_); rintro e w' ⟨rfl, hr'⟩) | (go_at_call 18; (with_reducible refine (int_at h (count_any _ _ (by omega) _ _ (by assumption)) HE1).mono ?_); rintro e w' ⟨rfl, hr'⟩) | (go_at_call 26; (with_reducible refine (int_at c (pair_any _ _ _ (by assumption)) HE2).mono ?_); rintro e w' ⟨rfl, hr'⟩) | (go_at_call 21; (with_reducible refine (bool_at true (right_any _ _) HR).mono ?_); rintro e w' ⟨rfl, rfl⟩))
            go_ret2
            exact ⟨ret_two HH.out.1 HH.out.2, by assumption⟩
          · have HH := Lib.hid (HY2.out.2 ⟨bb, fun x => hz x.2⟩)
            have hz' : ((h * 100 + c : Int) == 0) = false := by simpa using hz
            clear hz
            have h3 : 0 ≤ h := by omega
            have c3 : 0 ≤ c := by omega
            clear HY2 h0 c0
            go_enter Tryd.func16, Tryd.ntmps16
            go_wp2_with (first | (go_at_call 24; (with_reducible refine (cutp_any _ true HB _ _ hr).mono ?_); rintro e w' ⟨rfl, hr'⟩) | (go_at_call 25; (with_reducible refine (cut_any _ (by omega) _ _ (by assumption)).mono ?_); rintro e w' ⟨rfl, hr'⟩) | (go_at_call 18; (with_reducible refine (int_at h (count_any _ _ (by omega) _ _ (by assumption)) HE1).mono ?_); rintro e w' ⟨rfl, hr'⟩) | (go_at_call 26; (with_reducible refine (int_at c (pair_any _ _ _ (by assumption)) HE2).mono ?_); rintro e w' ⟨rfl, hr'⟩) | (go_at_call 21; (with_reducible refine (bool_at true (right_any _ _) HR).mono ?_); rintro e w' ⟨rfl, rfl⟩))
            go_ret2
            exact ⟨ret_two HH.out.1 HH.out.2, by assumption⟩
end Go.Proofs.YtfpcpmkkeigcmaaDoor
