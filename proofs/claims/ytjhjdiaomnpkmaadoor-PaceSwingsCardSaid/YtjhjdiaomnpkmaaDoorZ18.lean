/- The printer's expr; Print, Right: all that the laws ask of the landed package tree; What the landed Print and Right tell: all that the laws ask of the program; What the landed config calls (layer 15 asks for no target: Compile and Run are left out): Clamp, Parse, Right, a strategy being a value; The landed config's bounded: numbers, compared by an array of arrays. -/
import Derived.Test.YtjhjdiaomnpkmaaDoorZL
import Derived.Test.YtjhjdiaomnpkmaaDoorZ00
import Derived.Test.YtjhjdiaomnpkmaaDoorZ01
import Derived.Test.YtjhjdiaomnpkmaaDoorZ02
import Derived.Test.YtjhjdiaomnpkmaaDoorZ03
import Derived.Test.YtjhjdiaomnpkmaaDoorZ04
import Derived.Test.YtjhjdiaomnpkmaaDoorZ05
import Derived.Test.YtjhjdiaomnpkmaaDoorZ07
import Derived.Test.YtjhjdiaomnpkmaaDoorZ13
import Derived.Test.YtjhjdiaomnpkmaaDoorZ15
import Derived.Test.YtjhjdiaomnpkmaaDoorZ16
import Derived.Test.YtjhjdiaomnpkmaaDoorZ17
namespace Go.Proofs.YtjhjdiaomnpkmaaDoor
open Go.RowKit Go.Lib
set_option linter.unusedVariables false
set_option linter.unusedSimpArgs false
theorem num_any (n : Int) (h0 : -9223372036854775808 ≤ n) (h1 : n ≤ 9223372036854775807) (w0 w : World) (hr : Rel w0 w) :
    Calls Tryd.prog 52 #[.int .i64 n] w fun e w' => e = .returned (.string (num n)) ∧ Rel w0 w' := by
  have hT : Lib.TabIs Tryd.prog w "internal/strconv.uint64pow10" .u64 Lib.pow10Tab := hr.tab
  go_enter Tryd.func52, Tryd.ntmps52
  go_wp2_with (go_at_call 67; refine (Tryd.strconv_Itoa n h0 h1 w hT).mono ?_; rintro e w' ⟨rfl, k, os, rfl⟩)
  go_ret
  exact ⟨rfl, (hr.drewN k).grow os⟩
theorem tx_of_num (a : Int) (h : 0 ≤ a) (h' : a ≤ 1000000000000) : (⟨#[]⟩ : ByteArray) ++ num (a / 100) ++ (⟨#[46]⟩ : ByteArray) ++ num (a % 100 / 10) ++ num (a % 10) = tx a := by
  have e : (⟨#[]⟩ : ByteArray) ++ num (a / 100) = num (a / 100) := B_append [] (itoa (a / 100))
  rw [e, num_pos _ (by omega), num_pos _ (by omega), num_pos _ (by omega), ← tx_parts a h h', show a % 100 / 10 = a / 10 % 10 by omega]
set_option maxHeartbeats 400000 in
theorem text_as (a : Int) (S : ByteArray) (hS : Hid (B (txt a) = S)) (h0 : 0 ≤ a) (h1 : a ≤ 1000000000000) (w0 w : World) (hr : Rel w0 w) :
    Calls Tryd.prog 50 #[.int .i64 a] w fun e w' => e = .returned (.string S) ∧ Rel w0 w' := by
  have ha : rt a = true := rt_iff.2 ⟨by omega, by omega⟩
  have z1 := num_size (a / 100) (by omega) (by omega)
  have z2 := num_size (a % 100 / 10) (by omega) (by omega)
  have z3 := num_size (a % 10) (by omega) (by omega)
  have hn : ¬ a < 0 := by omega
  have HS := Lib.hid ((tx_of_num a h0 h1).trans hS.out)
  go_enter Tryd.func50, Tryd.ntmps50
  go_wp2_with (first | (go_at_call 66; (with_reducible refine (right_any _ _).mono ?_); rintro e w' ⟨rfl, rfl⟩) | (go_at_call 52; (with_reducible refine (num_any _ (by omega) (by omega) _ _ (by assumption)).mono ?_); rintro e w' ⟨rfl, hr'⟩))
  go_ret
  exact ⟨ret_str HS.out, by assumption⟩
theorem number_as (a : Int) (S : ByteArray) (hS : Hid (B (itoa a) = S)) (h0 : 0 ≤ a) (h1 : a ≤ 1000000000000) (w0 w : World) (hr : Rel w0 w) :
    Calls Tryd.prog 52 #[.int .i64 a] w fun e w' => e = .returned (.string S) ∧ Rel w0 w' := by
  rw [← hS.out]; exact num_any a (by omega) (by omega) w0 w hr
theorem Kp.rel {b : Nat} {w w' : World} (hr : Rel w w') : Kp b w w' := fun k o hk _ _ => (hr.2.block k (Array.getElem?_eq_some_iff.1 hk).1).trans hk
theorem word_len (k : Int) : (B (wordK k)).size ≤ 6 := by
  rw [B_size]
  rcases kinds k with h | ⟨k1, k2, k3, k4, k5, k6, k7, k8, k9, k10, k11, k12, _⟩
  · rcases h with rfl | rfl | rfl | rfl | rfl | rfl | rfl | rfl | rfl | rfl | rfl | rfl <;> decide
  · rw [wordK_other ⟨k1, k2, k3, k5, k6, k7, k8, k9, k10, k11, k12⟩]; decide
theorem call_iff {d : Nat} {k n : Int} {nm : List UInt8} {l : List Ex} (hf : fitsP k n nm l) (hd : d < 32) (h1 : k ≠ 1) (h2 : k ≠ 2) (h4 : k ≠ 4) (l0 : List UInt8) :
    (fine (32 - d) (.mk k n nm l) = true ∧ l0.length + (text (.mk k n nm l)).length ≤ 2000) ↔ (∀ i (h : i < l.length), fine (32 - (d + 1)) l[i] = true) ∧ l0.length + (B (wordK k)).size + (glue true (l.map text ++ beh k n nm)).length + 1 ≤ 2000 := by
  have e : 32 - d = (32 - (d + 1)) + 1 := by omega
  rw [e, fine_fits, text_glue hf.2.2.1 h1 h2 h4, B_size]
  simp only [List.length_append]
  have h1 : ([41] : List UInt8).length = 1 := rfl
  constructor
  · rintro ⟨⟨_, a⟩, b⟩; exact ⟨a, by omega⟩
  · rintro ⟨a, b⟩; exact ⟨⟨hf, a⟩, by omega⟩
theorem leaf_iff {d : Nat} {k n : Int} {nm : List UInt8} {l : List Ex} (hf : fitsP k n nm l) (hd : d < 32) (h : k = 1 ∨ k = 2 ∨ k = 4) (l0 : List UInt8) :
    (fine (32 - d) (.mk k n nm l) = true ∧ l0.length + (text (.mk k n nm l)).length ≤ 2000) ↔ (l0 ++ text (.mk k n nm l)).length ≤ 2000 := by
  have e : 32 - d = (32 - (d + 1)) + 1 := by omega
  rw [e, fine_fits, List.length_append]
  have hl : l = [] := by
    have := hf.2.2.1
    have a0 : argsN k = 0 := by rcases h with rfl | rfl | rfl <;> rfl
    rw [a0] at this
    exact List.length_eq_zero_iff.1 (by omega)
  subst hl
  exact ⟨fun h => h.2, fun h => ⟨⟨hf, fun i hi => absurd hi (by simp)⟩, h⟩⟩
theorem pcall_nil (b : Nat) (l0 : List UInt8) (d : Nat) (T : ByteArray) (l : List Ex) (A : Option Addr) (c : Nat) (es : List El) (S : Nat → Prop) (t : Bool) (w0 w : World) (hr : Rel w0 w)
    (HRow : Hid (RowE S w0 A es)) (HSub : Hid (∀ i (h : i < es.length) (h' : i < l.length), ExAt S w0 es[i] l[i])) (hl : es.length = l.length) (HIH : Hid (∀ j (hj : j < l.length), ExprC l[j]))
    (hP : Pr w0.heap.size b l0 d w) (hd : d < 32) (hlen : l0.length ≤ 2000 + 8 * d) (zT : T.size ≤ 6) (hz : sizes l ≤ 100000)
    (ht : Hid (t = true ↔ (∀ i (h : i < l.length), fine (32 - (d + 1)) l[i] = true) ∧ l0.length + T.size + (glue true (l.map text ++ [])).length + 1 ≤ 2000))
    (M : List UInt8) (hM : Hid (M = l0 ++ (T.data.toList ++ (glue true (l.map text ++ []) ++ [41])))) :
    Calls Tryd.prog 51 #[.pointer (some ⟨b, 0, none⟩), .string T, .slice A l.length c, .slice none 0 0] w fun r w' => r = .returned (.bool t) ∧ (t = true → Pr w0.heap.size b M d w') ∧ Rel w0 w' ∧ Kp b w w' :=
  pcall_any b l0 d T l [] A none c 0 es S t w0 w hr HRow HSub hl HIH (.inl rfl) hP hd hlen zT (by simp) hz ht M hM
theorem pcall_one (b : Nat) (l0 : List UInt8) (d : Nat) (T : ByteArray) (l : List Ex) (s : ByteArray) (g : Nat) (A : Option Addr) (c : Nat) (es : List El) (S : Nat → Prop) (t : Bool) (w0 w : World) (hr : Rel w0 w)
    (HRow : Hid (RowE S w0 A es)) (HSub : Hid (∀ i (h : i < es.length) (h' : i < l.length), ExAt S w0 es[i] l[i])) (hl : es.length = l.length) (HIH : Hid (∀ j (hj : j < l.length), ExprC l[j])) (hb : Bk w g 9 #[.string s])
    (hP : Pr w0.heap.size b l0 d w) (hd : d < 32) (hlen : l0.length ≤ 2000 + 8 * d) (zT : T.size ≤ 6) (zs : s.size ≤ 100) (hz : sizes l ≤ 100000)
    (ht : Hid (t = true ↔ (∀ i (h : i < l.length), fine (32 - (d + 1)) l[i] = true) ∧ l0.length + T.size + (glue true (l.map text ++ [s.data.toList])).length + 1 ≤ 2000))
    (M : List UInt8) (hM : Hid (M = l0 ++ (T.data.toList ++ (glue true (l.map text ++ [s.data.toList]) ++ [41])))) :
    Calls Tryd.prog 51 #[.pointer (some ⟨b, 0, none⟩), .string T, .slice A l.length c, .slice (some ⟨g, 0, none⟩) 1 1] w fun r w' => r = .returned (.bool t) ∧ (t = true → Pr w0.heap.size b M d w') ∧ Rel w0 w' ∧ Kp b w w' :=
  pcall_any b l0 d T l [s] A (some ⟨g, 0, none⟩) c 1 es S t w0 w hr HRow HSub hl HIH (.inr ⟨g, s, rfl, rfl, hb⟩) hP hd hlen zT (by simpa using zs) hz ht M hM
set_option maxRecDepth 100000 in
set_option maxHeartbeats 8000000 in
theorem pexpr_any : ∀ (x : Ex), ExprC x := ex_ind fun k n nm l ih S e b l0 d t w0 w hr hx hP hd hlen hz ht => by
  obtain ⟨A, c, es, rfl, hk, hn, hm, hl, hrow, hsub⟩ := hx.open
  rw [size_mk] at hz
  have hzl : sizes l ≤ 100000 := by omega
  have hll : l.length ≤ 100000 := by have := len_le l; omega
  have HR := Lib.hid hr
  have HB := Lib.hid (Bk.new w 46 #[.int .i64 k, .int .i64 n, .string (B nm), .slice A l.length c])
  have HA := Lib.hid (hr.alloc (.cells #[.int .i64 k, .int .i64 n, .string (B nm), .slice A l.length c] 46))
  have HK := Lib.hid ((Kp.refl b w).alloc (.cells #[.int .i64 k, .int .i64 n, .string (B nm), .slice A l.length c] 46))
  have HP := Lib.hid (hP.alloc (.cells #[.int .i64 k, .int .i64 n, .string (B nm), .slice A l.length c] 46))
  obtain ⟨pp, AA, cc, y0, y1, y2, y3⟩ := HP.out.cells
  obtain ⟨W, hW⟩ : ∃ W, w.alloc (.cells #[.int .i64 k, .int .i64 n, .string (B nm), .slice A l.length c] 46) = W := ⟨_, rfl⟩
  rw [hW] at HB HA HK HP
  have HW := Lib.hid hW
  have HRow := Lib.hid hrow
  have HSub := Lib.hid hsub
  have HIH := Lib.hid (fun j (hj : j < l.length) => ih _ (List.getElem_mem (l := l) (n := j) hj))
  have HRowW := Lib.hid (hrow.mono (S' := S) HA.out.size fun g hS hl => ⟨hS, HA.out.2.block g hl⟩)
  have HSubW := Lib.hid (fun i (h : i < es.length) (h' : i < l.length) => (hsub i h h').rel HA.out)
  clear hrow hsub ih hx hP hr hW
  by_cases hd2 : d < 32
  · obtain ⟨f, hf⟩ : ∃ f : Bool, f = true ↔ fitsP k n nm l := by
      by_cases h : fitsP k n nm l
      · exact ⟨true, by simp [h]⟩
      · exact ⟨false, by simp [h]⟩
    have HFi := Lib.hid (tfits_any k n nm l hm (by omega) A c es S W W HA.out.self hl HRowW HSubW f (Lib.hid hf))
    cases f with
    | false =>
      have htf : t = false := by
        cases t with
        | false => rfl
        | true =>
          have e : 32 - d = (32 - (d + 1)) + 1 := by omega
          have h1 := (ht.out.1 rfl).1
          rw [e] at h1
          have := hf.2 ((fine_fits _ k n nm l).1 h1).1
          cases this
      subst htf
      clear hf
      go_enter Tryd.func32, Tryd.ntmps32
      go_wp2_with (go_at_call 47; rw [HW.out]; (with_reducible refine HFi.out.mono ?_); rintro e w2 ⟨rfl, h2⟩)
      go_ret
      exact ⟨rfl, (fun h => by cases h), HA.out.trans h2, HK.out.trans (Kp.rel h2)⟩
    | true =>
      have hft := hf.1 rfl
      have HFt := Lib.hid hft
      obtain ⟨T, hT⟩ : ∃ T, B (wordK k) = T := ⟨_, rfl⟩
      obtain ⟨mm, hmm⟩ : ∃ m, mostN k = m := ⟨_, rfl⟩
      obtain ⟨aa, haa⟩ : ∃ a, argsN k = a := ⟨_, rfl⟩
      have HRo := Lib.hid (And.intro hT (And.intro hmm haa))
      have zT : T.size ≤ 6 := by rw [← hT]; exact word_len k
      have hTl : T.data.toList = wordK k := by rw [← hT, B_list]
      have HTl := Lib.hid hTl
      have n0 : 0 ≤ n := hft.1.1
      have n1 : n ≤ 1000000000000 := by have := hft.1.2; have := (most_le k).1; omega
      have hk12 : k = 1 ∨ k = 2 ∨ k = 3 ∨ k = 4 ∨ k = 5 ∨ k = 6 ∨ k = 7 ∨ k = 8 ∨ k = 9 ∨ k = 10 ∨ k = 11 ∨ k = 12 := by
        rcases kinds k with h | ⟨_, _, _, _, _, _, _, _, _, _, _, _, ha, _⟩
        · exact h
        · have := hft.2.2.1; omega
      have HR2 := Lib.hid (fun (w2 : World) (h2 : Rel W w2) => HA.out.trans h2)
      clear hf hT hmm haa
      by_cases g4 : k = 1 ∨ k = 2 ∨ k = 4
      · obtain ⟨M, hM⟩ : ∃ M, M = l0 ++ text (.mk k n nm l) := ⟨_, rfl⟩
        have HMt := Lib.hid hM
        have HT := Lib.hid (show decide (M.length ≤ 2000) = t by
          rw [Bool.eq_iff_iff, decide_eq_true_iff, ht.out, hM]
          exact (leaf_iff hft hd2 g4 l0).symm)
        by_cases g1 : k = 1 ∨ k = 2
        · have HM := Lib.hid (show l0 ++ T.data.toList = M by rw [hM, text_leaf k n nm l g1, hTl])
          clear hM hft hTl hk12 g4
          rcases g1 with rfl | rfl
          all_goals
            go_enter Tryd.func32, Tryd.ntmps32
            go_wp2_with (first
              | (go_at_call 47; rw [HW.out]; (with_reducible refine HFi.out.mono ?_); rintro e w2 ⟨rfl, h2⟩; obtain ⟨⟨c0, c1, c2, c3⟩, _⟩ := (HB.out.rel h2).four)
              | (go_at_call 48; (with_reducible refine (trow_as _ T mm aa HRo _).mono ?_); rintro e w' ⟨rfl, rfl⟩)
              | (go_at_call 49; (with_reducible refine (put_as b l0 d T M HM (by omega) t HT _ _ (HR2.out _ h2) (HP.out.rel h2)).mono ?_); rintro e w3 ⟨rfl, p3, r3, k3⟩))
            go_ret
            exact ⟨rfl, (fun _ => by rw [← HMt.out]; exact p3), r3, (HK.out.trans (Kp.rel h2)).trans k3⟩
        · obtain rfl : k = 4 := by omega
          obtain ⟨s, hs⟩ : ∃ s, B (txt n) = s := ⟨_, rfl⟩
          have HS := Lib.hid hs
          have zs : s.size ≤ 43 := by rw [← hs, B_size]; exact txt_len n
          have HM := Lib.hid (show l0 ++ s.data.toList = M by rw [hM, text_four, ← hs, B_list])
          clear hM hft hTl hk12 g4 g1 hs
          go_enter Tryd.func32, Tryd.ntmps32
          go_wp2_with (first
            | (go_at_call 47; rw [HW.out]; (with_reducible refine HFi.out.mono ?_); rintro e w2 ⟨rfl, h2⟩; obtain ⟨⟨c0, c1, c2, c3⟩, _⟩ := (HB.out.rel h2).four)
            | (go_at_call 48; (with_reducible refine (trow_as _ T mm aa HRo _).mono ?_); rintro e w' ⟨rfl, rfl⟩)
            | (go_at_call 50; (with_reducible refine (text_as n s HS n0 n1 _ _ (HR2.out _ h2).self).mono ?_); rintro e w3 ⟨rfl, h3⟩)
            | (go_at_call 49; (with_reducible refine (put_as b l0 d s M HM (by omega) t HT _ _ ((HR2.out _ h2).trans h3) ((HP.out.rel h2).rel h3)).mono ?_); rintro e w4 ⟨rfl, p3, r3, k3⟩))
          go_ret
          exact ⟨rfl, (fun _ => by rw [← HMt.out]; exact p3), r3, ((HK.out.trans (Kp.rel h2)).trans (Kp.rel h3)).trans k3⟩
      · obtain ⟨M, hM⟩ : ∃ M, M = l0 ++ text (.mk k n nm l) := ⟨_, rfl⟩
        have HMt := Lib.hid hM
        have hti : t = true ↔ (∀ i (h : i < l.length), fine (32 - (d + 1)) l[i] = true) ∧ l0.length + T.size + (glue true (l.map text ++ beh k n nm)).length + 1 ≤ 2000 := by
          rw [ht.out, call_iff hft hd2 (by omega) (by omega) (by omega) l0, ← hTl, B_size]
          simp
        have hMi : M = l0 ++ (T.data.toList ++ (glue true (l.map text ++ beh k n nm) ++ [41])) := by
          rw [hM, text_glue hft.2.2.1 (by omega) (by omega) (by omega), hTl]
        clear hM
        by_cases g0 : k = 7 ∨ k = 8 ∨ k = 9 ∨ k = 10 ∨ k = 12
        · have eb : beh k n nm = [] := by unfold beh; rw [if_neg (by omega), if_neg (by omega), if_neg (by omega)]
          rw [eb] at hti hMi
          have HTi := Lib.hid hti
          have HMi := Lib.hid hMi
          clear hti hMi eb hft hTl hk12 g4
          rcases g0 with rfl | rfl | rfl | rfl | rfl
          all_goals
            go_enter Tryd.func32, Tryd.ntmps32
            go_wp2_with (first
              | (go_at_call 47; rw [HW.out]; (with_reducible refine HFi.out.mono ?_); rintro e w2 ⟨rfl, h2⟩; obtain ⟨⟨c0, c1, c2, c3⟩, _⟩ := (HB.out.rel h2).four)
              | (go_at_call 48; (with_reducible refine (trow_as _ T mm aa HRo _).mono ?_); rintro e w' ⟨rfl, rfl⟩)
              | (go_at_call 51; (with_reducible refine (pcall_nil b l0 d T l A c es S t _ _ (HR2.out _ h2) HRow HSub hl HIH (HP.out.rel h2) hd2 hlen zT hzl HTi M HMi).mono ?_); rintro e w3 ⟨rfl, p3, r3, k3⟩))
            go_ret
            exact ⟨rfl, (fun h => by rw [← HMt.out]; exact p3 h), r3, (HK.out.trans (Kp.rel h2)).trans k3⟩
        · by_cases g3 : k = 3
          · subst g3
            obtain ⟨s, hs⟩ : ∃ s, B nm = s := ⟨_, rfl⟩
            have zs : s.size ≤ 100 := by rw [← hs, B_size]; exact hm
            have eb : beh 3 n nm = [s.data.toList] := by rw [← hs, B_list]; rfl
            rw [eb] at hti hMi
            rw [hs] at HB HW HFi y2
            have HTi := Lib.hid hti
            have HMi := Lib.hid hMi
            clear hti hMi eb hft hTl hk12 g4 g0
            go_enter Tryd.func32, Tryd.ntmps32
            go_wp2_with (first
              | (go_at_call 47; rw [HW.out]; (with_reducible refine HFi.out.mono ?_); rintro e w2 ⟨rfl, h2⟩; obtain ⟨⟨c0, c1, c2, c3⟩, _⟩ := (HB.out.rel h2).four)
              | (go_at_call 48; (with_reducible refine (trow_as _ T mm aa HRo _).mono ?_); rintro e w' ⟨rfl, rfl⟩)
              | (go_at_call 51; (with_reducible refine (pcall_one b l0 d T l s w2.heap.size A c es S t _ _ ((HR2.out _ h2).alloc _) HRow HSub hl HIH (Bk.new _ _ _) ((HP.out.rel h2).alloc _) hd2 hlen zT zs hzl HTi M HMi).mono ?_); rintro e w3 ⟨rfl, p3, r3, k3⟩))
            go_ret
            exact ⟨rfl, (fun h => by rw [← HMt.out]; exact p3 h), r3, ((HK.out.trans (Kp.rel h2)).alloc _).trans k3⟩
          · by_cases g5 : k = 5
            · subst g5
              obtain ⟨s, hs⟩ : ∃ s, B (txt n) = s := ⟨_, rfl⟩
              have HS := Lib.hid hs
              have zs : s.size ≤ 100 := by rw [← hs, B_size]; have := txt_len n; omega
              have eb : beh 5 n nm = [s.data.toList] := by rw [← hs, B_list]; rfl
              rw [eb] at hti hMi
              have HTi := Lib.hid hti
              have HMi := Lib.hid hMi
              clear hti hMi eb hft hTl hk12 g4 g0 g3 hs
              go_enter Tryd.func32, Tryd.ntmps32
              go_wp2_with (first
                | (go_at_call 47; rw [HW.out]; (with_reducible refine HFi.out.mono ?_); rintro e w2 ⟨rfl, h2⟩; obtain ⟨⟨c0, c1, c2, c3⟩, _⟩ := (HB.out.rel h2).four)
                | (go_at_call 48; (with_reducible refine (trow_as _ T mm aa HRo _).mono ?_); rintro e w' ⟨rfl, rfl⟩))
              go_region_law (first
                | (rw [if_pos (by rfl)]; go_simp; go_at_call 50; (with_reducible refine (text_as n s HS n0 n1 _ _ (HR2.out _ h2).drew.self).mono ?_); rintro e w3 ⟨rfl, h3⟩; obtain ⟨⟨d0, d1, d2, d3⟩, _⟩ := ((HB.out.rel h2).drew.rel h3).four; obtain ⟨⟨e0, e1, e2, e3⟩, _⟩ := (((HB.out.rel h2).drew.rel h3).alloc (.cells #[.string s] 9)).four)
                | (rw [if_pos (by rfl)]; go_simp; go_at_call 51; (with_reducible refine (pcall_one b l0 d T l s w3.heap.size A c es S t _ _ (((HR2.out _ h2).drew.trans h3).alloc _) HRow HSub hl HIH (Bk.new _ _ _) (((HP.out.rel h2).drew.rel h3).alloc _) hd2 hlen zT zs hzl HTi M HMi).mono ?_); rintro e w4 ⟨rfl, p3, r3, k3⟩))
              all_goals
                go_wp2_with (fail)
                go_ret
                exact ⟨rfl, (fun h => by rw [← HMt.out]; exact p3 h), r3, (((HK.out.trans (Kp.rel h2.drew)).trans (Kp.rel h3)).alloc _).trans k3⟩
            · have g6 : k = 6 ∨ k = 11 := by omega
              obtain ⟨s, hs⟩ : ∃ s, B (itoa n) = s := ⟨_, rfl⟩
              have HS := Lib.hid hs
              have zs : s.size ≤ 100 := by rw [← hs, B_size]; have := itoa_len n0 n1; omega
              have eb : beh k n nm = [s.data.toList] := by rw [← hs, B_list]; unfold beh; rw [if_neg g3, if_neg g5, if_pos g6]
              rw [eb] at hti hMi
              have HTi := Lib.hid hti
              have HMi := Lib.hid hMi
              clear hti hMi eb hft hTl hk12 g4 g0 g3 g5 hs
              rcases g6 with rfl | rfl
              all_goals
                go_enter Tryd.func32, Tryd.ntmps32
                go_wp2_with (first
                  | (go_at_call 47; rw [HW.out]; (with_reducible refine HFi.out.mono ?_); rintro e w2 ⟨rfl, h2⟩; obtain ⟨⟨c0, c1, c2, c3⟩, _⟩ := (HB.out.rel h2).four)
                  | (go_at_call 48; (with_reducible refine (trow_as _ T mm aa HRo _).mono ?_); rintro e w' ⟨rfl, rfl⟩))
                go_region_law (first
                  | (rw [if_pos (by rfl)]; go_simp; go_at_call 52; (with_reducible refine (number_as n s HS n0 n1 _ _ (HR2.out _ h2).drew.self).mono ?_); rintro e w3 ⟨rfl, h3⟩; obtain ⟨⟨d0, d1, d2, d3⟩, _⟩ := ((HB.out.rel h2).drew.rel h3).four; obtain ⟨⟨e0, e1, e2, e3⟩, _⟩ := (((HB.out.rel h2).drew.rel h3).alloc (.cells #[.string s] 9)).four)
                  | (rw [if_pos (by rfl)]; go_simp; go_at_call 51; (with_reducible refine (pcall_one b l0 d T l s w3.heap.size A c es S t _ _ (((HR2.out _ h2).drew.trans h3).alloc _) HRow HSub hl HIH (Bk.new _ _ _) (((HP.out.rel h2).drew.rel h3).alloc _) hd2 hlen zT zs hzl HTi M HMi).mono ?_); rintro e w4 ⟨rfl, p3, r3, k3⟩))
                all_goals
                  go_wp2_with (fail)
                  go_ret
                  exact ⟨rfl, (fun h => by rw [← HMt.out]; exact p3 h), r3, (((HK.out.trans (Kp.rel h2.drew)).trans (Kp.rel h3)).alloc _).trans k3⟩
  · obtain rfl : d = 32 := by omega
    have htf : t = false := by
      cases t with
      | false => rfl
      | true => have := (ht.out.1 rfl).1; cases this
    subst htf
    go_enter Tryd.func32, Tryd.ntmps32
    go_wp2_with (fail)
    go_ret
    rw [HW.out]
    exact ⟨rfl, (fun h => by cases h), HA.out, HK.out⟩
end Go.Proofs.YtjhjdiaomnpkmaaDoor

namespace Go.Proofs.YtjhjdiaomnpkmaaDoor
open Go.RowKit Go.Lib
set_option linter.unusedVariables false
set_option linter.unusedSimpArgs false
theorem pr_new (w : World) (o : Obj) : Pr w.heap.size (w.heap.size + 1) [] 0 ((w.alloc o).alloc (.cells #[.pointer none, .slice none 0 0, .int .i64 0] 77)) := by
  have hb := Bk.new (w.alloc o) 77 #[.pointer none, .slice none 0 0, .int .i64 0]
  rw [World.size_alloc] at hb
  exact .inl ⟨by omega, _, hb, World.ownsRowF_of (World.ownsRow_nil _ _ _ _), by simp [Value.ownBlock]⟩
theorem right_of {x : Ex} (hc : isCond x.k = false) : rightX x = true ↔ fine (32 - 0) x = true ∧ ([] : List UInt8).length + (text x).length ≤ 2000 := by
  simp only [rightX, hc, Bool.and_eq_true, decide_eq_true_eq, List.length_nil, Nat.sub_zero, Nat.zero_add, Bool.not_false, and_true]
  constructor
  · rintro ⟨⟨a, _⟩, b⟩; exact ⟨a, b⟩
  · rintro ⟨a, b⟩; exact ⟨⟨a, by have := text_more x 32 a; omega⟩, b⟩
set_option maxRecDepth 100000 in
set_option maxHeartbeats 4000000 in
theorem tprint_any : PrintOk := fun x S e w0 w hr h hz => by
  have HR := Lib.hid hr
  obtain ⟨k, n, nm, A, m, c⟩ := e
  have hke : x.k = k := h.kind
  have HB := Lib.hid ((Bk.new w 46 #[.int .i64 k, .int .i64 n, .string (B nm), .slice A m c]).alloc (.cells #[.pointer none, .slice none 0 0, .int .i64 0] 77))
  have HA := Lib.hid ((hr.self.alloc (.cells #[.int .i64 k, .int .i64 n, .string (B nm), .slice A m c] 46)).alloc (.cells #[.pointer none, .slice none 0 0, .int .i64 0] 77))
  have HP := Lib.hid (pr_new w (.cells #[.int .i64 k, .int .i64 n, .string (B nm), .slice A m c] 46))
  obtain ⟨⟨c0, c1, c2, c3⟩, _⟩ := HB.out.four
  obtain ⟨bc, hbc⟩ : ∃ b, isCond k = b := ⟨_, rfl⟩
  have HBc := Lib.hid hbc
  cases bc with
  | true =>
    have HX := Lib.hid (show prT x = [] ∧ prE x = 1 by
      have : rightX x = false := by unfold rightX; rw [hke, hbc]; simp
      unfold prT prE; rw [this]; exact ⟨rfl, rfl⟩)
    clear h hbc
    go_enter Tryd.func26, Tryd.ntmps26
    go_wp2_with (go_at_call 31; (with_reducible refine (tcond_as k n (B nm) A m c true HBc _ _ HA.out.self).mono ?_); rintro e w2 ⟨rfl, h2⟩; obtain ⟨⟨d0, d1, d2, d3⟩, _⟩ := (HB.out.rel h2).four)
    go_ret2
    exact ⟨by rw [HX.out.1, HX.out.2]; rfl, (HR.out.trans HA.out).trans h2⟩
  | false =>
    obtain ⟨t, ht⟩ : ∃ t, rightX x = t := ⟨_, rfl⟩
    have hti : t = true ↔ fine (32 - 0) x = true ∧ ([] : List UInt8).length + (text x).length ≤ 2000 := by rw [← ht]; exact right_of (by rw [hke]; exact hbc)
    have HC := Lib.hid (fun (w2 : World) (h2 : Rel w w2) (hp : Pr w.heap.size (w.heap.size + 1) [] 0 w2) => pexpr_any x S (k, n, nm, A, m, c) (w.heap.size + 1) [] 0 t w w2 h2 h hp (by omega) (by simp) hz (Lib.hid hti))
    have HX := Lib.hid (show prT x = (if t then text x else []) ∧ prE x = (if t then 0 else 1) by unfold prT prE; rw [ht]; exact ⟨rfl, rfl⟩)
    have HNe := Lib.hid (show t = true → [] ++ text x ≠ [] from fun e => by
      have h1 := text_more x 32 (hti.1 e).1
      have h2 := size_pos x
      intro h
      rw [List.nil_append] at h
      rw [h, List.length_nil] at h1
      omega)
    clear h hbc hti ht
    cases t with
    | false =>
      go_enter Tryd.func26, Tryd.ntmps26
      go_wp2_with (first
        | (go_at_call 31; (with_reducible refine (tcond_as k n (B nm) A m c false HBc _ _ HA.out.self).mono ?_); rintro e w2 ⟨rfl, h2⟩; obtain ⟨⟨d0, d1, d2, d3⟩, _⟩ := (HB.out.rel h2).four)
        | (go_at_call 32; (with_reducible refine (HC.out _ (HA.out.trans h2) (HP.out.rel h2)).mono ?_); rintro e w3 ⟨rfl, p3, r3, k3⟩))
      go_ret2
      exact ⟨by rw [HX.out.1, HX.out.2]; rfl, HR.out.trans r3⟩
    | true =>
      go_enter Tryd.func26, Tryd.ntmps26
      go_wp2_with (first
        | (go_at_call 31; (with_reducible refine (tcond_as k n (B nm) A m c false HBc _ _ HA.out.self).mono ?_); rintro e w2 ⟨rfl, h2⟩; obtain ⟨⟨d0, d1, d2, d3⟩, _⟩ := (HB.out.rel h2).four)
        | (go_at_call 32; (with_reducible refine (HC.out _ (HA.out.trans h2) (HP.out.rel h2)).mono ?_); rintro e w3 ⟨rfl, p3, r3, k3⟩)
        | (go_at_call 33; (with_reducible refine (string_any (w.heap.size + 1) ([] ++ text x) 0 w _ r3 (by first | exact p3 rfl | exact p3 trivial) (by first | exact HNe.out rfl | exact HNe.out trivial)).mono ?_); rintro e w4 ⟨rfl, r4⟩))
      go_ret2
      exact ⟨by rw [HX.out.1, HX.out.2]; rfl, HR.out.trans r4⟩
set_option maxRecDepth 100000 in
set_option maxHeartbeats 2000000 in
theorem tright_any : RightOk := fun x S e w0 w hr h hz => by
  have HR := Lib.hid hr
  obtain ⟨k, n, nm, A, m, c⟩ := e
  have HA := Lib.hid (hr.self.alloc (.cells #[.int .i64 k, .int .i64 n, .string (B nm), .slice A m c] 46))
  have HP := Lib.hid (fun (w' : World) (h' : Rel w w') => tprint_any x S (k, n, nm, A, m, c) w' w' (hr.trans h').self (h.rel h') hz)
  obtain ⟨T, hT⟩ : ∃ T, B (prT x) = T := ⟨_, rfl⟩
  rw [hT] at HP
  clear hT
  cases hx : rightX x
  · have he : prE x = 1 := by unfold prE; rw [hx]; rfl
    rw [he] at HP
    clear h he hx
    go_enter Tryd.func23, Tryd.ntmps23
    go_wp2_with (go_at_call 26; (with_reducible refine (HP.out _ HA.out).mono ?_); rintro e w2 ⟨rfl, h2⟩)
    go_ret
    exact ⟨rfl, (HR.out.trans HA.out).trans h2⟩
  · have he : prE x = 0 := by unfold prE; rw [hx]; rfl
    rw [he] at HP
    clear h he hx
    go_enter Tryd.func23, Tryd.ntmps23
    go_wp2_with (go_at_call 26; (with_reducible refine (HP.out _ HA.out).mono ?_); rintro e w2 ⟨rfl, h2⟩)
    go_ret
    exact ⟨rfl, (HR.out.trans HA.out).trans h2⟩
end Go.Proofs.YtjhjdiaomnpkmaaDoor

namespace Go.Proofs.YtjhjdiaomnpkmaaDoor
open Go.RowKit Go.Lib
set_option linter.unusedVariables false
set_option linter.unusedSimpArgs false
/-- A value that is this expression, its blocks from lb on. -/
def XNew (lb : Nat) (w : World) (v : Value) (x : Ex) : Prop := ∃ e : El, EV e = v ∧ ExAt (fun k => lb ≤ k) w e x
theorem XNew.at {lb : Nat} {w : World} {v : Value} {x : Ex} (h : XNew lb w v x) : XAt w v x := by
  obtain ⟨e, he, hx⟩ := h
  exact ⟨_, e, he, hx⟩
theorem XNew.rel {lb : Nat} {w w' : World} {v : Value} {x : Ex} (h : XNew lb w v x) (hr : Rel w w') : XNew lb w' v x := by
  obtain ⟨e, he, hx⟩ := h
  exact ⟨e, he, hx.rel hr⟩
theorem XNew.put4 {lb g : Nat} {w : World} {v : Value} {x : Ex} (h : XNew lb w v x) (hg : g < lb) (hlb : lb ≤ w.heap.size) (a b c d : Value) : XNew lb ((((w.setCell ⟨g, 0, none⟩ a).setCell ⟨g, 1, none⟩ b).setCell ⟨g, 2, none⟩ c).setCell ⟨g, 3, none⟩ d) v x := by
  obtain ⟨e, he, hx⟩ := h
  exact ⟨e, he, hx.grown (put4_grown w g a b c d) (fun k hk => by
    have hk : lb ≤ k := hk
    exact ⟨hk, fun e => by injection e; omega⟩)⟩
theorem lparse_yes14 (t : List UInt8) (S : ByteArray) (hS : B t = S) (ht : t.length ≤ 9223372036854775807) (x : Ex) (hx : parseS t = .ok x) (w : World) (hr : Rel w w) :
    Calls Tryd.prog 22 #[.string S] w fun e w' => ∃ (k n : Int) (X : ByteArray) (A : Option Addr) (l c : Nat), e = .returned (.tuple #[.agg #[.int .i64 k, .int .i64 n, .string X, .slice A l c], .int .i64 0, .int .i64 0]) ∧ Hid (XNew w.heap.size w' (XV k n X A l c) x) ∧ Hid (Rel w w') := by
  subst hS
  have h := parseOk (B t) (by rw [B_size]; exact ht) w w hr
  rw [B_list, hx] at h
  refine h.mono ?_
  rintro e w' ⟨v, rfl, hv, hr2⟩
  exact ⟨_, _, _, _, _, _, rfl, Lib.hid ⟨v, rfl, hv⟩, Lib.hid hr2⟩
theorem lparse_no14 (t : List UInt8) (S : ByteArray) (hS : B t = S) (ht : t.length ≤ 9223372036854775807) (cd pl : Int) (hx : parseS t = .error (cd, pl)) (w : World) (hr : Rel w w) :
    Calls Tryd.prog 22 #[.string S] w fun e w' => e = .returned (.tuple #[.agg #[.int .i64 0, .int .i64 0, .string ⟨#[]⟩, .slice none 0 0], .int .i64 cd, .int .i64 pl]) ∧ Hid (Rel w w') := by
  subst hS
  have h := parseOk (B t) (by rw [B_size]; exact ht) w w hr
  rw [B_list, hx] at h
  exact h.mono fun e w' ⟨he, hr2⟩ => ⟨he, Lib.hid hr2⟩
theorem lright14 {v : Value} {x : Ex} {b : Bool} (hb : rightX x = b) (hz : size x ≤ 2001) (w : World) (h : XAt w v x) (hr : Rel w w) :
    Calls Tryd.prog 23 #[v] w fun e w' => e = .returned (.bool b) ∧ Hid (Rel w w') := by
  obtain ⟨S, e, rfl, hx⟩ := h
  subst hb
  exact (tright_any x S e w w hr hx (by omega)).mono fun e w' ⟨he, hr2⟩ => ⟨he, Lib.hid hr2⟩
end Go.Proofs.YtjhjdiaomnpkmaaDoor

namespace Go.Proofs.YtjhjdiaomnpkmaaDoor
open Go.RowKit Go.Lib
set_option linter.unusedVariables false
set_option linter.unusedSimpArgs false
/-- Row k of the numbers is fine. -/
def rowB (f c m o b : Int) (k : Nat) : Prop := match k with
  | 0 => 1 ≤ f ∧ f ≤ 1000000000000
  | 1 => f ≤ c ∧ c ≤ 1000000000000
  | 2 => 0 ≤ m ∧ m ≤ c
  | 3 => 0 ≤ o ∧ o ≤ 1048576
  | _ => 0 ≤ b ∧ b ≤ 1000000000000
theorem rows_all {f c m o b : Int} {t : List UInt8} (h : ∀ k, k < 5 → rowB f c m o b k) : numsOk (f, c, m, o, b, t) = true := by
  have h0 : 1 ≤ f ∧ f ≤ 1000000000000 := h 0 (by omega)
  have h1 : f ≤ c ∧ c ≤ 1000000000000 := h 1 (by omega)
  have h2 : 0 ≤ m ∧ m ≤ c := h 2 (by omega)
  have h3 : 0 ≤ o ∧ o ≤ 1048576 := h 3 (by omega)
  have h4 : 0 ≤ b ∧ b ≤ 1000000000000 := h 4 (by omega)
  exact nums_iff.2 (show 1 ≤ f ∧ f ≤ c ∧ c ≤ 1000000000000 ∧ 0 ≤ m ∧ m ≤ c ∧ 0 ≤ o ∧ o ≤ 1048576 ∧ 0 ≤ b ∧ b ≤ 1000000000000 by omega)
theorem rows_not {f c m o b : Int} {t : List UInt8} {k : Nat} (h : ¬ rowB f c m o b k) : numsOk (f, c, m, o, b, t) = false := by
  cases hn : numsOk (f, c, m, o, b, t) with
  | false => rfl
  | true =>
    exfalso; apply h
    have hn2 : 1 ≤ f ∧ f ≤ c ∧ c ≤ 1000000000000 ∧ 0 ≤ m ∧ m ≤ c ∧ 0 ≤ o ∧ o ≤ 1048576 ∧ 0 ≤ b ∧ b ≤ 1000000000000 := nums_iff.1 hn
    unfold rowB
    split <;> omega
abbrev RowsV (f c m o b : Int) : Array Value := #[.int .i64 f, .int .i64 1, .int .i64 1000000000000, .int .i64 c, .int .i64 f, .int .i64 1000000000000, .int .i64 m, .int .i64 0, .int .i64 c, .int .i64 o, .int .i64 0, .int .i64 1048576, .int .i64 b, .int .i64 0, .int .i64 1000000000000]
theorem rows_at (f c m o b : Int) (k : Nat) (hk : k < 5) : ∃ x y z : Int, (∀ w : World, (Instr.index 54 (.agg (RowsV f c m o b)) (.int .i64 (k : Int))).run Tryd.prog w = .ok (.agg #[.int .i64 x, .int .i64 y, .int .i64 z]) w) ∧ (rowB f c m o b k ↔ y ≤ x ∧ x ≤ z) := by
  have hc : k = 0 ∨ k = 1 ∨ k = 2 ∨ k = 3 ∨ k = 4 := by omega
  rcases hc with rfl | rfl | rfl | rfl | rfl
  · exact ⟨f, 1, 1000000000000, fun _ => by kernel_rfl, Iff.rfl⟩
  · exact ⟨c, f, 1000000000000, fun _ => by kernel_rfl, Iff.rfl⟩
  · exact ⟨m, 0, c, fun _ => by kernel_rfl, Iff.rfl⟩
  · exact ⟨o, 0, 1048576, fun _ => by kernel_rfl, Iff.rfl⟩
  · exact ⟨b, 0, 1000000000000, fun _ => by kernel_rfl, Iff.rfl⟩
set_option maxRecDepth 100000 in
set_option maxHeartbeats 8000000 in
theorem lbounded_any (f c m o b : Int) (t : List UInt8) (S : ByteArray) (w : World) (hr : Rel w w) :
    Calls Tryd.prog 21 #[.agg #[.int .i64 f, .int .i64 c, .int .i64 m, .int .i64 o, .int .i64 b, .string S]] w fun e w' => e = .returned (.bool (numsOk (f, c, m, o, b, t))) ∧ Hid (Rel w w') := by
  have HX := Lib.hid (Bk.new w 25 #[.int .i64 f, .int .i64 c, .int .i64 m, .int .i64 o, .int .i64 b, .string S])
  have R1 := Lib.hid (hr.alloc (.cells #[.int .i64 f, .int .i64 c, .int .i64 m, .int .i64 o, .int .i64 b, .string S] 25))
  obtain ⟨gx, hgx⟩ : ∃ g, w.heap.size = g := ⟨_, rfl⟩
  obtain ⟨W, hW⟩ : ∃ W, w.alloc (.cells #[.int .i64 f, .int .i64 c, .int .i64 m, .int .i64 o, .int .i64 b, .string S] 25) = W := ⟨_, rfl⟩
  rw [hW] at HX R1
  rw [hgx] at HX
  go_enter Tryd.func21, Tryd.ntmps21
  go_upto_region 1 with (fail)
  try rw [hW]
  try rw [hgx]
  clear hW hgx
  obtain ⟨⟨x0, x1, x2, x3, x4, x5⟩, _⟩ := six_of HX.out
  go_upto_region 2 with (fail)
  have R2 := Lib.hid (R1.out.alloc (.cells (RowsV f c m o b) 54))
  clear x0 x1 x2 x3 x4 x5
  have HV := Lib.hid (Bk.new W 54 (RowsV f c m o b))
  obtain ⟨V, hV⟩ : ∃ V, W.alloc (.cells (RowsV f c m o b) 54) = V := ⟨_, rfl⟩
  obtain ⟨gr, hgr⟩ : ∃ g, W.heap.size = g := ⟨_, rfl⟩
  rw [hV] at R2 HV
  rw [hgr] at HV
  try rw [hV]
  try rw [hgr]
  clear hV hgr HX R1
  go_upto_block 0 with (refine wpList_load_row rfl 54 _ rfl gr rfl 54 _ (0, 0) _ HV.out Tryd.underlying54 rfl (by kernel_rfl) ?_)
  have hrow := rows_at f c m o b
  have HRo := Lib.hid hrow
  clear hrow
  go_wp2_with (fail)
  go_loopw [27] (fun i wr => ∃ j : Nat, i = .int .i64 (j : Int) ∧ j ≤ 5 ∧ Hid (∀ k, k < j → rowB f c m o b k) ∧ Hid (Rel V wr)) (fun i _ => 5 - (RowKit.intOf i).toNat)
  case atStart => exact ⟨0, rfl, by omega, Lib.hid (fun k hk => by omega), Lib.hid R2.out.self⟩
  case round =>
    obtain ⟨j, rfl, hj, HAll, HW⟩ := hrel
    by_cases hlt : j < 5
    · obtain ⟨x, y, z, hix, hrb⟩ := HRo.out j hlt
      have hij : (j : Int) < 5 := by omega
      have HRb := Lib.hid hrb
      have HJ := Lib.hid hlt
      have HBk := Lib.hid (Bk.new wr 53 #[.int .i64 x, .int .i64 y, .int .i64 z])
      have RW := Lib.hid (HW.out.alloc (.cells #[.int .i64 x, .int .i64 y, .int .i64 z] 53))
      clear hrb hlt
      by_cases e1 : x < y
      · have d1 : decide (x < y) = true := decide_eq_true e1
        have HN := Lib.hid (rows_not (t := t) (fun h : rowB f c m o b j => by have := HRb.out.1 h; omega))
        clear e1
        go_wp2_with (fail)
        go_ret
        exact ⟨ret_bool HN.out.symm, Lib.hid (R2.out.trans RW.out)⟩
      · have d1 : decide (x < y) = false := decide_eq_false e1
        by_cases e2 : z < x
        · have d2 : decide (z < x) = true := decide_eq_true e2
          have HN := Lib.hid (rows_not (t := t) (fun h : rowB f c m o b j => by have := HRb.out.1 h; omega))
          clear e1 e2
          go_wp2_with (fail)
          go_ret
          exact ⟨ret_bool HN.out.symm, Lib.hid (R2.out.trans RW.out)⟩
        · have d2 : decide (z < x) = false := decide_eq_false e2
          have HN := Lib.hid (HRb.out.2 ⟨by omega, by omega⟩)
          clear e1 e2
          go_wp2_with (fail)
          go_roundw
          case rel => exact ⟨j + 1, by go_num, by have := HJ.out; omega, Lib.hid (fun k hk => (Nat.lt_or_ge k j).elim (fun h => HAll.out k h) (fun h => (show j = k by omega) ▸ HN.out)), Lib.hid RW.out⟩
          case measure => have := HJ.out; simp [RowKit.intOf]; omega
    · obtain rfl : j = 5 := by omega
      have HN := Lib.hid (rows_all (t := t) HAll.out)
      go_wp2_with (fail)
      go_ret
      exact ⟨ret_bool HN.out.symm, Lib.hid (R2.out.trans HW.out)⟩
end Go.Proofs.YtjhjdiaomnpkmaaDoor
