/- The printer's expr; Print, Right: all that the laws ask of the landed package tree. -/
import Derived.Test.YtcckemhelockaaaGreatDoorZL
import Derived.Test.YtcckemhelockaaaGreatDoorZ00
import Derived.Test.YtcckemhelockaaaGreatDoorZ01
import Derived.Test.YtcckemhelockaaaGreatDoorZ02
import Derived.Test.YtcckemhelockaaaGreatDoorZ03
import Derived.Test.YtcckemhelockaaaGreatDoorZ04
import Derived.Test.YtcckemhelockaaaGreatDoorZ07
import Derived.Test.YtcckemhelockaaaGreatDoorZ08
import Derived.Test.YtcckemhelockaaaGreatDoorZ09
import Derived.Test.YtcckemhelockaaaGreatDoorZ13
import Derived.Test.YtcckemhelockaaaGreatDoorZ14
import Derived.Test.YtcckemhelockaaaGreatDoorZ15
namespace Go.Proofs.YtcckemhelockaaaGreatDoor
open Go.RowKit Go.Lib
set_option linter.unusedVariables false
set_option linter.unusedSimpArgs false
theorem num_any (n : Int) (h0 : -9223372036854775808 ≤ n) (h1 : n ≤ 9223372036854775807) (w0 w : World) (hr : Rel w0 w) :
    Calls Tryz.prog 126 #[.int .i64 n] w fun e w' => e = .returned (.string (num n)) ∧ Rel w0 w' := by
  have hT : Lib.TabIs Tryz.prog w "internal/strconv.uint64pow10" .u64 Lib.pow10Tab := hr.tab
  go_enter Tryz.func126, Tryz.ntmps126
  go_wp2_with (go_at_call 138; refine (Tryz.strconv_Itoa n h0 h1 w hT).mono ?_; rintro e w' ⟨rfl, k, os, rfl⟩)
  go_ret
  exact ⟨rfl, (hr.drewN k).grow os⟩
theorem tx_of_num (a : Int) (h : 0 ≤ a) (h' : a ≤ 1000000000000) : (⟨#[]⟩ : ByteArray) ++ num (a / 100) ++ (⟨#[46]⟩ : ByteArray) ++ num (a % 100 / 10) ++ num (a % 10) = tx a := by
  have e : (⟨#[]⟩ : ByteArray) ++ num (a / 100) = num (a / 100) := B_append [] (itoa (a / 100))
  rw [e, num_pos _ (by omega), num_pos _ (by omega), num_pos _ (by omega), ← tx_parts a h h', show a % 100 / 10 = a / 10 % 10 by omega]
set_option maxHeartbeats 400000 in
theorem text_as (a : Int) (S : ByteArray) (hS : Hid (B (txt a) = S)) (h0 : 0 ≤ a) (h1 : a ≤ 1000000000000) (w0 w : World) (hr : Rel w0 w) :
    Calls Tryz.prog 124 #[.int .i64 a] w fun e w' => e = .returned (.string S) ∧ Rel w0 w' := by
  have ha : rt a = true := rt_iff.2 ⟨by omega, by omega⟩
  have z1 := num_size (a / 100) (by omega) (by omega)
  have z2 := num_size (a % 100 / 10) (by omega) (by omega)
  have z3 := num_size (a % 10) (by omega) (by omega)
  have hn : ¬ a < 0 := by omega
  have HS := Lib.hid ((tx_of_num a h0 h1).trans hS.out)
  go_enter Tryz.func124, Tryz.ntmps124
  go_wp2_with (first | (go_at_call 129; (with_reducible refine (right_any _ _).mono ?_); rintro e w' ⟨rfl, rfl⟩) | (go_at_call 126; (with_reducible refine (num_any _ (by omega) (by omega) _ _ (by assumption)).mono ?_); rintro e w' ⟨rfl, hr'⟩))
  go_ret
  exact ⟨ret_str HS.out, by assumption⟩
theorem number_as (a : Int) (S : ByteArray) (hS : Hid (B (itoa a) = S)) (h0 : 0 ≤ a) (h1 : a ≤ 1000000000000) (w0 w : World) (hr : Rel w0 w) :
    Calls Tryz.prog 126 #[.int .i64 a] w fun e w' => e = .returned (.string S) ∧ Rel w0 w' := by
  rw [← hS.out]; exact num_any a (by omega) (by omega) w0 w hr
theorem Kp.rel {b : Nat} {w w' : World} (hr : Rel w w') : Kp b w w' := fun k o hk _ _ => (hr.2.block k (Array.getElem?_eq_some_iff.1 hk).1).trans hk
theorem word_len (k : Int) : (B (wordK k)).size ≤ 6 := by
  rw [B_size]
  rcases kinds k with h | ⟨k1, k2, k3, k4, k5, k6, k7, k8, k9, k10, k11, k12, _⟩
  · rcases h with rfl | rfl | rfl | rfl | rfl | rfl | rfl | rfl | rfl | rfl | rfl | rfl <;> decide
  · rw [wordK_other ⟨k1, k2, k3, k5, k6, k7, k8, k9, k10, k11, k12⟩]; decide
theorem call_iff {d : Nat} {k n : Int} {nm : List UInt8} {l : List Ex} (hf : fitsP k n nm l) (hd : d < 32) (h1 : k ≠ 1) (h2 : k ≠ 2) (h4 : k ≠ 4) (l0 : List UInt8) :
    (fine (32 - d) (.mk k n nm l) = true ∧ l0.length + (text (.mk k n nm l)).length ≤ 2000) ↔ (∀ i (h : i < l.length), fine (32 - (d + 1)) l[i] = true) ∧ l0.length + (B (wordK k)).size + (glue true (l.map text ++ beh k n nm)).length + 1 ≤ 2000 := by
  have e : 32 - d = (32 - (d + 1)) + 1 := by omega
  rw [e, fine_fits, text_glue hf.2.2.1 h1 h2 h4, B_size]
  simp only [List.length_append]
  have h1 : ([41] : List UInt8).length = 1 := rfl
  constructor
  · rintro ⟨⟨_, a⟩, b⟩; exact ⟨a, by omega⟩
  · rintro ⟨a, b⟩; exact ⟨⟨hf, a⟩, by omega⟩
theorem leaf_iff {d : Nat} {k n : Int} {nm : List UInt8} {l : List Ex} (hf : fitsP k n nm l) (hd : d < 32) (h : k = 1 ∨ k = 2 ∨ k = 4) (l0 : List UInt8) :
    (fine (32 - d) (.mk k n nm l) = true ∧ l0.length + (text (.mk k n nm l)).length ≤ 2000) ↔ (l0 ++ text (.mk k n nm l)).length ≤ 2000 := by
  have e : 32 - d = (32 - (d + 1)) + 1 := by omega
  rw [e, fine_fits, List.length_append]
  have hl : l = [] := by
    have := hf.2.2.1
    have a0 : argsN k = 0 := by rcases h with rfl | rfl | rfl <;> rfl
    rw [a0] at this
    exact List.length_eq_zero_iff.1 (by omega)
  subst hl
  exact ⟨fun h => h.2, fun h => ⟨⟨hf, fun i hi => absurd hi (by simp)⟩, h⟩⟩
theorem pcall_nil (b : Nat) (l0 : List UInt8) (d : Nat) (T : ByteArray) (l : List Ex) (A : Option Addr) (c : Nat) (es : List El) (S : Nat → Prop) (t : Bool) (w0 w : World) (hr : Rel w0 w)
    (HRow : Hid (RowE S w0 A es)) (HSub : Hid (∀ i (h : i < es.length) (h' : i < l.length), ExAt S w0 es[i] l[i])) (hl : es.length = l.length) (HIH : Hid (∀ j (hj : j < l.length), ExprC l[j]))
    (hP : Pr w0.heap.size b l0 d w) (hd : d < 32) (hlen : l0.length ≤ 2000 + 8 * d) (zT : T.size ≤ 6) (hz : sizes l ≤ 100000)
    (ht : Hid (t = true ↔ (∀ i (h : i < l.length), fine (32 - (d + 1)) l[i] = true) ∧ l0.length + T.size + (glue true (l.map text ++ [])).length + 1 ≤ 2000))
    (M : List UInt8) (hM : Hid (M = l0 ++ (T.data.toList ++ (glue true (l.map text ++ []) ++ [41])))) :
    Calls Tryz.prog 125 #[.pointer (some ⟨b, 0, none⟩), .string T, .slice A l.length c, .slice none 0 0] w fun r w' => r = .returned (.bool t) ∧ (t = true → Pr w0.heap.size b M d w') ∧ Rel w0 w' ∧ Kp b w w' :=
  pcall_any b l0 d T l [] A none c 0 es S t w0 w hr HRow HSub hl HIH (.inl rfl) hP hd hlen zT (by simp) hz ht M hM
theorem pcall_one (b : Nat) (l0 : List UInt8) (d : Nat) (T : ByteArray) (l : List Ex) (s : ByteArray) (g : Nat) (A : Option Addr) (c : Nat) (es : List El) (S : Nat → Prop) (t : Bool) (w0 w : World) (hr : Rel w0 w)
    (HRow : Hid (RowE S w0 A es)) (HSub : Hid (∀ i (h : i < es.length) (h' : i < l.length), ExAt S w0 es[i] l[i])) (hl : es.length = l.length) (HIH : Hid (∀ j (hj : j < l.length), ExprC l[j])) (hb : Bk w g 9 #[.string s])
    (hP : Pr w0.heap.size b l0 d w) (hd : d < 32) (hlen : l0.length ≤ 2000 + 8 * d) (zT : T.size ≤ 6) (zs : s.size ≤ 100) (hz : sizes l ≤ 100000)
    (ht : Hid (t = true ↔ (∀ i (h : i < l.length), fine (32 - (d + 1)) l[i] = true) ∧ l0.length + T.size + (glue true (l.map text ++ [s.data.toList])).length + 1 ≤ 2000))
    (M : List UInt8) (hM : Hid (M = l0 ++ (T.data.toList ++ (glue true (l.map text ++ [s.data.toList]) ++ [41])))) :
    Calls Tryz.prog 125 #[.pointer (some ⟨b, 0, none⟩), .string T, .slice A l.length c, .slice (some ⟨g, 0, none⟩) 1 1] w fun r w' => r = .returned (.bool t) ∧ (t = true → Pr w0.heap.size b M d w') ∧ Rel w0 w' ∧ Kp b w w' :=
  pcall_any b l0 d T l [s] A (some ⟨g, 0, none⟩) c 1 es S t w0 w hr HRow HSub hl HIH (.inr ⟨g, s, rfl, rfl, hb⟩) hP hd hlen zT (by simpa using zs) hz ht M hM
set_option maxRecDepth 100000 in
set_option maxHeartbeats 8000000 in
theorem pexpr_any : ∀ (x : Ex), ExprC x := ex_ind fun k n nm l ih S e b l0 d t w0 w hr hx hP hd hlen hz ht => by
  obtain ⟨A, c, es, rfl, hk, hn, hm, hl, hrow, hsub⟩ := hx.open
  rw [size_mk] at hz
  have hzl : sizes l ≤ 100000 := by omega
  have hll : l.length ≤ 100000 := by have := len_le l; omega
  have HR := Lib.hid hr
  have HB := Lib.hid (Bk.new w 38 #[.int .i64 k, .int .i64 n, .string (B nm), .slice A l.length c])
  have HA := Lib.hid (hr.alloc (.cells #[.int .i64 k, .int .i64 n, .string (B nm), .slice A l.length c] 38))
  have HK := Lib.hid ((Kp.refl b w).alloc (.cells #[.int .i64 k, .int .i64 n, .string (B nm), .slice A l.length c] 38))
  have HP := Lib.hid (hP.alloc (.cells #[.int .i64 k, .int .i64 n, .string (B nm), .slice A l.length c] 38))
  obtain ⟨pp, AA, cc, y0, y1, y2, y3⟩ := HP.out.cells
  obtain ⟨W, hW⟩ : ∃ W, w.alloc (.cells #[.int .i64 k, .int .i64 n, .string (B nm), .slice A l.length c] 38) = W := ⟨_, rfl⟩
  rw [hW] at HB HA HK HP
  have HW := Lib.hid hW
  have HRow := Lib.hid hrow
  have HSub := Lib.hid hsub
  have HIH := Lib.hid (fun j (hj : j < l.length) => ih _ (List.getElem_mem (l := l) (n := j) hj))
  have HRowW := Lib.hid (hrow.mono (S' := S) HA.out.size fun g hS hl => ⟨hS, HA.out.2.block g hl⟩)
  have HSubW := Lib.hid (fun i (h : i < es.length) (h' : i < l.length) => (hsub i h h').rel HA.out)
  clear hrow hsub ih hx hP hr hW
  by_cases hd2 : d < 32
  · obtain ⟨f, hf⟩ : ∃ f : Bool, f = true ↔ fitsP k n nm l := by
      by_cases h : fitsP k n nm l
      · exact ⟨true, by simp [h]⟩
      · exact ⟨false, by simp [h]⟩
    have HFi := Lib.hid (tfits_any k n nm l hm (by omega) A c es S W W HA.out.self hl HRowW HSubW f (Lib.hid hf))
    cases f with
    | false =>
      have htf : t = false := by
        cases t with
        | false => rfl
        | true =>
          have e : 32 - d = (32 - (d + 1)) + 1 := by omega
          have h1 := (ht.out.1 rfl).1
          rw [e] at h1
          have := hf.2 ((fine_fits _ k n nm l).1 h1).1
          cases this
      subst htf
      clear hf
      go_enter Tryz.func92, Tryz.ntmps92
      go_wp2_with (go_at_call 121; rw [HW.out]; (with_reducible refine HFi.out.mono ?_); rintro e w2 ⟨rfl, h2⟩)
      go_ret
      exact ⟨rfl, (fun h => by cases h), HA.out.trans h2, HK.out.trans (Kp.rel h2)⟩
    | true =>
      have hft := hf.1 rfl
      have HFt := Lib.hid hft
      obtain ⟨T, hT⟩ : ∃ T, B (wordK k) = T := ⟨_, rfl⟩
      obtain ⟨mm, hmm⟩ : ∃ m, mostN k = m := ⟨_, rfl⟩
      obtain ⟨aa, haa⟩ : ∃ a, argsN k = a := ⟨_, rfl⟩
      have HRo := Lib.hid (And.intro hT (And.intro hmm haa))
      have zT : T.size ≤ 6 := by rw [← hT]; exact word_len k
      have hTl : T.data.toList = wordK k := by rw [← hT, B_list]
      have HTl := Lib.hid hTl
      have n0 : 0 ≤ n := hft.1.1
      have n1 : n ≤ 1000000000000 := by have := hft.1.2; have := (most_le k).1; omega
      have hk12 : k = 1 ∨ k = 2 ∨ k = 3 ∨ k = 4 ∨ k = 5 ∨ k = 6 ∨ k = 7 ∨ k = 8 ∨ k = 9 ∨ k = 10 ∨ k = 11 ∨ k = 12 := by
        rcases kinds k with h | ⟨_, _, _, _, _, _, _, _, _, _, _, _, ha, _⟩
        · exact h
        · have := hft.2.2.1; omega
      have HR2 := Lib.hid (fun (w2 : World) (h2 : Rel W w2) => HA.out.trans h2)
      clear hf hT hmm haa
      by_cases g4 : k = 1 ∨ k = 2 ∨ k = 4
      · obtain ⟨M, hM⟩ : ∃ M, M = l0 ++ text (.mk k n nm l) := ⟨_, rfl⟩
        have HMt := Lib.hid hM
        have HT := Lib.hid (show decide (M.length ≤ 2000) = t by
          rw [Bool.eq_iff_iff, decide_eq_true_iff, ht.out, hM]
          exact (leaf_iff hft hd2 g4 l0).symm)
        by_cases g1 : k = 1 ∨ k = 2
        · have HM := Lib.hid (show l0 ++ T.data.toList = M by rw [hM, text_leaf k n nm l g1, hTl])
          clear hM hft hTl hk12 g4
          rcases g1 with rfl | rfl
          all_goals
            go_enter Tryz.func92, Tryz.ntmps92
            go_wp2_with (first
              | (go_at_call 121; rw [HW.out]; (with_reducible refine HFi.out.mono ?_); rintro e w2 ⟨rfl, h2⟩; obtain ⟨⟨c0, c1, c2, c3⟩, _⟩ := (HB.out.rel h2).four)
              | (go_at_call 122; (with_reducible refine (trow_as _ T mm aa HRo _).mono ?_); rintro e w' ⟨rfl, rfl⟩)
              | (go_at_call 123; (with_reducible refine (put_as b l0 d T M HM (by omega) t HT _ _ (HR2.out _ h2) (HP.out.rel h2)).mono ?_); rintro e w3 ⟨rfl, p3, r3, k3⟩))
            go_ret
            exact ⟨rfl, (fun _ => by rw [← HMt.out]; exact p3), r3, (HK.out.trans (Kp.rel h2)).trans k3⟩
        · obtain rfl : k = 4 := by omega
          obtain ⟨s, hs⟩ : ∃ s, B (txt n) = s := ⟨_, rfl⟩
          have HS := Lib.hid hs
          have zs : s.size ≤ 43 := by rw [← hs, B_size]; exact txt_len n
          have HM := Lib.hid (show l0 ++ s.data.toList = M by rw [hM, text_four, ← hs, B_list])
          clear hM hft hTl hk12 g4 g1 hs
          go_enter Tryz.func92, Tryz.ntmps92
          go_wp2_with (first
            | (go_at_call 121; rw [HW.out]; (with_reducible refine HFi.out.mono ?_); rintro e w2 ⟨rfl, h2⟩; obtain ⟨⟨c0, c1, c2, c3⟩, _⟩ := (HB.out.rel h2).four)
            | (go_at_call 122; (with_reducible refine (trow_as _ T mm aa HRo _).mono ?_); rintro e w' ⟨rfl, rfl⟩)
            | (go_at_call 124; (with_reducible refine (text_as n s HS n0 n1 _ _ (HR2.out _ h2).self).mono ?_); rintro e w3 ⟨rfl, h3⟩)
            | (go_at_call 123; (with_reducible refine (put_as b l0 d s M HM (by omega) t HT _ _ ((HR2.out _ h2).trans h3) ((HP.out.rel h2).rel h3)).mono ?_); rintro e w4 ⟨rfl, p3, r3, k3⟩))
          go_ret
          exact ⟨rfl, (fun _ => by rw [← HMt.out]; exact p3), r3, ((HK.out.trans (Kp.rel h2)).trans (Kp.rel h3)).trans k3⟩
      · obtain ⟨M, hM⟩ : ∃ M, M = l0 ++ text (.mk k n nm l) := ⟨_, rfl⟩
        have HMt := Lib.hid hM
        have hti : t = true ↔ (∀ i (h : i < l.length), fine (32 - (d + 1)) l[i] = true) ∧ l0.length + T.size + (glue true (l.map text ++ beh k n nm)).length + 1 ≤ 2000 := by
          rw [ht.out, call_iff hft hd2 (by omega) (by omega) (by omega) l0, ← hTl, B_size]
          simp
        have hMi : M = l0 ++ (T.data.toList ++ (glue true (l.map text ++ beh k n nm) ++ [41])) := by
          rw [hM, text_glue hft.2.2.1 (by omega) (by omega) (by omega), hTl]
        clear hM
        by_cases g0 : k = 7 ∨ k = 8 ∨ k = 9 ∨ k = 10 ∨ k = 12
        · have eb : beh k n nm = [] := by unfold beh; rw [if_neg (by omega), if_neg (by omega), if_neg (by omega)]
          rw [eb] at hti hMi
          have HTi := Lib.hid hti
          have HMi := Lib.hid hMi
          clear hti hMi eb hft hTl hk12 g4
          rcases g0 with rfl | rfl | rfl | rfl | rfl
          all_goals
            go_enter Tryz.func92, Tryz.ntmps92
            go_wp2_with (first
              | (go_at_call 121; rw [HW.out]; (with_reducible refine HFi.out.mono ?_); rintro e w2 ⟨rfl, h2⟩; obtain ⟨⟨c0, c1, c2, c3⟩, _⟩ := (HB.out.rel h2).four)
              | (go_at_call 122; (with_reducible refine (trow_as _ T mm aa HRo _).mono ?_); rintro e w' ⟨rfl, rfl⟩)
              | (go_at_call 125; (with_reducible refine (pcall_nil b l0 d T l A c es S t _ _ (HR2.out _ h2) HRow HSub hl HIH (HP.out.rel h2) hd2 hlen zT hzl HTi M HMi).mono ?_); rintro e w3 ⟨rfl, p3, r3, k3⟩))
            go_ret
            exact ⟨rfl, (fun h => by rw [← HMt.out]; exact p3 h), r3, (HK.out.trans (Kp.rel h2)).trans k3⟩
        · by_cases g3 : k = 3
          · subst g3
            obtain ⟨s, hs⟩ : ∃ s, B nm = s := ⟨_, rfl⟩
            have zs : s.size ≤ 100 := by rw [← hs, B_size]; exact hm
            have eb : beh 3 n nm = [s.data.toList] := by rw [← hs, B_list]; rfl
            rw [eb] at hti hMi
            rw [hs] at HB HW HFi y2
            have HTi := Lib.hid hti
            have HMi := Lib.hid hMi
            clear hti hMi eb hft hTl hk12 g4 g0
            go_enter Tryz.func92, Tryz.ntmps92
            go_wp2_with (first
              | (go_at_call 121; rw [HW.out]; (with_reducible refine HFi.out.mono ?_); rintro e w2 ⟨rfl, h2⟩; obtain ⟨⟨c0, c1, c2, c3⟩, _⟩ := (HB.out.rel h2).four)
              | (go_at_call 122; (with_reducible refine (trow_as _ T mm aa HRo _).mono ?_); rintro e w' ⟨rfl, rfl⟩)
              | (go_at_call 125; (with_reducible refine (pcall_one b l0 d T l s w2.heap.size A c es S t _ _ ((HR2.out _ h2).alloc _) HRow HSub hl HIH (Bk.new _ _ _) ((HP.out.rel h2).alloc _) hd2 hlen zT zs hzl HTi M HMi).mono ?_); rintro e w3 ⟨rfl, p3, r3, k3⟩))
            go_ret
            exact ⟨rfl, (fun h => by rw [← HMt.out]; exact p3 h), r3, ((HK.out.trans (Kp.rel h2)).alloc _).trans k3⟩
          · by_cases g5 : k = 5
            · subst g5
              obtain ⟨s, hs⟩ : ∃ s, B (txt n) = s := ⟨_, rfl⟩
              have HS := Lib.hid hs
              have zs : s.size ≤ 100 := by rw [← hs, B_size]; have := txt_len n; omega
              have eb : beh 5 n nm = [s.data.toList] := by rw [← hs, B_list]; rfl
              rw [eb] at hti hMi
              have HTi := Lib.hid hti
              have HMi := Lib.hid hMi
              clear hti hMi eb hft hTl hk12 g4 g0 g3 hs
              go_enter Tryz.func92, Tryz.ntmps92
              go_wp2_with (first
                | (go_at_call 121; rw [HW.out]; (with_reducible refine HFi.out.mono ?_); rintro e w2 ⟨rfl, h2⟩; obtain ⟨⟨c0, c1, c2, c3⟩, _⟩ := (HB.out.rel h2).four)
                | (go_at_call 122; (with_reducible refine (trow_as _ T mm aa HRo _).mono ?_); rintro e w' ⟨rfl, rfl⟩))
              go_region_law (first
                | (rw [if_pos (by rfl)]; go_simp; go_at_call 124; (with_reducible refine (text_as n s HS n0 n1 _ _ (HR2.out _ h2).drew.self).mono ?_); rintro e w3 ⟨rfl, h3⟩; obtain ⟨⟨d0, d1, d2, d3⟩, _⟩ := ((HB.out.rel h2).drew.rel h3).four; obtain ⟨⟨e0, e1, e2, e3⟩, _⟩ := (((HB.out.rel h2).drew.rel h3).alloc (.cells #[.string s] 9)).four)
                | (rw [if_pos (by rfl)]; go_simp; go_at_call 125; (with_reducible refine (pcall_one b l0 d T l s w3.heap.size A c es S t _ _ (((HR2.out _ h2).drew.trans h3).alloc _) HRow HSub hl HIH (Bk.new _ _ _) (((HP.out.rel h2).drew.rel h3).alloc _) hd2 hlen zT zs hzl HTi M HMi).mono ?_); rintro e w4 ⟨rfl, p3, r3, k3⟩))
              all_goals
                go_wp2_with (fail)
                go_ret
                exact ⟨rfl, (fun h => by rw [← HMt.out]; exact p3 h), r3, (((HK.out.trans (Kp.rel h2.drew)).trans (Kp.rel h3)).alloc _).trans k3⟩
            · have g6 : k = 6 ∨ k = 11 := by omega
              obtain ⟨s, hs⟩ : ∃ s, B (itoa n) = s := ⟨_, rfl⟩
              have HS := Lib.hid hs
              have zs : s.size ≤ 100 := by rw [← hs, B_size]; have := itoa_len n0 n1; omega
              have eb : beh k n nm = [s.data.toList] := by rw [← hs, B_list]; unfold beh; rw [if_neg g3, if_neg g5, if_pos g6]
              rw [eb] at hti hMi
              have HTi := Lib.hid hti
              have HMi := Lib.hid hMi
              clear hti hMi eb hft hTl hk12 g4 g0 g3 g5 hs
              rcases g6 with rfl | rfl
              all_goals
                go_enter Tryz.func92, Tryz.ntmps92
                go_wp2_with (first
                  | (go_at_call 121; rw [HW.out]; (with_reducible refine HFi.out.mono ?_); rintro e w2 ⟨rfl, h2⟩; obtain ⟨⟨c0, c1, c2, c3⟩, _⟩ := (HB.out.rel h2).four)
                  | (go_at_call 122; (with_reducible refine (trow_as _ T mm aa HRo _).mono ?_); rintro e w' ⟨rfl, rfl⟩))
                go_region_law (first
                  | (rw [if_pos (by rfl)]; go_simp; go_at_call 126; (with_reducible refine (number_as n s HS n0 n1 _ _ (HR2.out _ h2).drew.self).mono ?_); rintro e w3 ⟨rfl, h3⟩; obtain ⟨⟨d0, d1, d2, d3⟩, _⟩ := ((HB.out.rel h2).drew.rel h3).four; obtain ⟨⟨e0, e1, e2, e3⟩, _⟩ := (((HB.out.rel h2).drew.rel h3).alloc (.cells #[.string s] 9)).four)
                  | (rw [if_pos (by rfl)]; go_simp; go_at_call 125; (with_reducible refine (pcall_one b l0 d T l s w3.heap.size A c es S t _ _ (((HR2.out _ h2).drew.trans h3).alloc _) HRow HSub hl HIH (Bk.new _ _ _) (((HP.out.rel h2).drew.rel h3).alloc _) hd2 hlen zT zs hzl HTi M HMi).mono ?_); rintro e w4 ⟨rfl, p3, r3, k3⟩))
                all_goals
                  go_wp2_with (fail)
                  go_ret
                  exact ⟨rfl, (fun h => by rw [← HMt.out]; exact p3 h), r3, (((HK.out.trans (Kp.rel h2.drew)).trans (Kp.rel h3)).alloc _).trans k3⟩
  · obtain rfl : d = 32 := by omega
    have htf : t = false := by
      cases t with
      | false => rfl
      | true => have := (ht.out.1 rfl).1; cases this
    subst htf
    go_enter Tryz.func92, Tryz.ntmps92
    go_wp2_with (fail)
    go_ret
    rw [HW.out]
    exact ⟨rfl, (fun h => by cases h), HA.out, HK.out⟩
end Go.Proofs.YtcckemhelockaaaGreatDoor
