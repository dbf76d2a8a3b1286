/- The law of layer 13 on sources, walked. -/
import Derived.Test.YtfplhpkolcgpiaaZL
import Derived.Test.YtfplhpkolcgpiaaZ00
import Derived.Test.YtfplhpkolcgpiaaZ01
import Derived.Test.YtfplhpkolcgpiaaZ07
import Derived.Test.YtfplhpkolcgpiaaZ10
import Derived.Test.YtfplhpkolcgpiaaZ18
import Derived.Test.YtfplhpkolcgpiaaZ25
import Derived.Test.YtfplhpkolcgpiaaZ37
import Derived.Test.YtfplhpkolcgpiaaZ38
namespace Go.Proofs.Ytfplhpkolcgpiaa
open Go.RowKit Go.Lib
set_option linter.unusedVariables false
set_option linter.unusedSimpArgs false
theorem add_next13 (a : Addr) (n : Nat) : a.add (n + 1) = ⟨(a.add n).block, (a.add n).off + 1, none⟩ := by
  unfold Addr.add
  by_cases h : n = 0
  · subst h; simp
  · simp [h]; omega
theorem pairs_at13 {w : World} {A : Option Addr} {n : Nat} {zs : List (Int × Int)} (h : PairsIn w A n zs) {w' : World} (hr : Rel w w') (j : Nat) (hj : j < zs.length) :
    ∃ (a : Addr) (x y : Int), A = some a ∧ (a.add (j * 2)).block < w'.heap.size ∧ w'.cell? (a.add (j * 2)) = some (.int .i64 x) ∧ w'.cell? ⟨(a.add (j * 2)).block, (a.add (j * 2)).off + 1, none⟩ = some (.int .i64 y) ∧ in64 x ∧ in64 y := by
  obtain ⟨_, _, hb, hp⟩ := h
  obtain ⟨a, e, hl, c0, c1⟩ := (hp.rel hr) j hj
  have := hb zs[j] (List.getElem_mem hj)
  rw [add_next13] at c1
  exact ⟨a, zs[j].1, zs[j].2, e, by rw [block_add]; exact hl, c0, c1, this.1, this.2⟩
/-- A list that grows by what sources tell keeps to eight. -/
def smallN (l : List Sn) : Prop := l.length ≤ 8 ∧ SnFit l
theorem replN_len (l : List Sn) (y : Sn) : (replN l y).length = l.length := by
  induction l with
  | nil => rfl
  | cons z r ih =>
    rw [replN]
    split
    · rfl
    · rw [List.length_cons, ih, List.length_cons]
theorem replN_mem {l : List Sn} {y x : Sn} (h : x ∈ replN l y) : x ∈ l ∨ x = y := by
  induction l with
  | nil => exact .inl h
  | cons z r ih =>
    rw [replN] at h
    split at h
    · rcases List.mem_cons.1 h with h | h
      · exact .inr h
      · exact .inl (List.mem_cons_of_mem _ h)
    · rcases List.mem_cons.1 h with h | h
      · exact .inl (by rw [h]; exact List.mem_cons_self)
      · rcases ih h with h | h
        · exact .inl (List.mem_cons_of_mem _ h)
        · exact .inr h
theorem frV_len (l : List Sn) (s : List UInt8) (n : Int) : (frV l s n).length ≤ l.length + 1 := by
  unfold frV freshB
  by_cases h : freshOk s n = true
  · rw [if_pos h]
    cases seenB l s with
    | some m =>
      by_cases hm : m < n
      · simp only [if_pos hm, replN_len]; omega
      · simp only [if_neg hm]; omega
    | none =>
      by_cases h8 : 8 ≤ l.length
      · simp only [if_pos h8]; exact Nat.zero_le _
      · simp only [if_neg h8, List.length_append, List.length_singleton]; omega
  · rw [if_neg h]; exact Nat.zero_le _
theorem small_next {l : List Sn} {s : List UInt8} {n : Int} (h : smallN l) (hs : s.length ≤ 12) (hn : in64 n) : smallN (frV l s n) := by
  unfold smallN at h ⊢
  unfold frV freshB
  have hy : ((s, n) : Sn).1.length ≤ 9223372036854775807 ∧ in64 ((s, n) : Sn).2 := ⟨by show s.length ≤ _; omega, hn⟩
  have hnil : ([] : List Sn).length ≤ 8 ∧ SnFit [] := ⟨by simp, fun x hx => by cases hx⟩
  by_cases ho : freshOk s n = true
  · rw [if_pos ho]
    cases seenB l s with
    | some m =>
      by_cases hm : m < n
      · simp only [if_pos hm]
        refine ⟨by rw [replN_len]; exact h.1, fun x hx => ?_⟩
        rcases replN_mem hx with hx | rfl
        · exact h.2 x hx
        · exact hy
      · simp only [if_neg hm]; exact h
    | none =>
      by_cases h8 : 8 ≤ l.length
      · simp only [if_pos h8]; exact hnil
      · simp only [if_neg h8]
        refine ⟨by rw [List.length_append, List.length_singleton]; omega, fun x hx => ?_⟩
        rcases List.mem_append.1 hx with hx | hx
        · exact h.2 x hx
        · rw [List.mem_singleton.1 hx]; exact hy
  · rw [if_neg ho]; exact hnil
theorem fresh_at (H : BookOk) {w0 : World} {A : Option Addr} {c : Nat} {l V : List Sn} {s : List UInt8} {S : ByteArray} {n E : Int} {I : Bool} (hS : B s = S) (hs : s.length ≤ 9223372036854775807) (h : SnArg w0 A c l) (ln L : Nat) (hn : l.length = ln) (hV : frV l s n = V) (hL : V.length = L) (hI : frI l s n = I) (hE : frE l s n = E) (W : World) (hr : Rel w0 W) :
    Calls Try.prog 23 #[.slice A ln c, .string S, .int .i64 n] W fun e w' => ∃ A2 c2, e = .returned (.tuple #[.slice A2 L c2, .bool I, .int .i64 E]) ∧ Hid (SnOwn w' W.heap.size (.slice A2 L c2) V) ∧ Hid (Rel W w') := by
  have h1 := H.2.2.2.2 l s n A c hs W hr.self (h.rel hr)
  unfold FrPost at h1
  rw [hS, hV, hI, hE, hn, hL] at h1
  exact h1.mono fun e w' ⟨A, c, he, hO, hr2⟩ => ⟨A, c, he, Lib.hid hO, Lib.hid hr2⟩
theorem rfresh_at {w0 : World} {A : Option Addr} {c : Nat} {l V : List Sn} {s : List UInt8} {S : ByteArray} {n E : Int} {I : Bool} (hS : B s = S) (hs : s.length ≤ 9223372036854775807) (h : SnArg w0 A c l) (ln L : Nat) (hn : l.length = ln) (hV : frV l s n = V) (hL : V.length = L) (hI : frI l s n = I) (hE : frE l s n = E) (W : World) (hr : Rel w0 W) :
    Calls Try.prog 24 #[.slice A ln c, .string S, .int .i64 n] W fun e w' => ∃ A2 c2, e = .returned (.tuple #[.slice A2 L c2, .bool I, .int .i64 E]) ∧ Hid (SnOwn w' W.heap.size (.slice A2 L c2) V) ∧ Hid (Rel W w') := by
  have h1 := rfresh_any l s n A c hs W hr.self (h.rel hr)
  unfold FrPost at h1
  rw [hS, hV, hI, hE, hn, hL] at h1
  exact h1.mono fun e w' ⟨A, c, he, hO, hr2⟩ => ⟨A, c, he, Lib.hid hO, Lib.hid hr2⟩
theorem seen_of {wa W : World} {ba bb : Nat} {A A' : Option Addr} {c c' : Nat} {V : List Sn} (L : Nat) (hL : V.length = L) (hle : L ≤ 9223372036854775807) (ha : SnOwn wa ba (.slice A L c) V) (hb : SnOwn W bb (.slice A' L c') V) (hr : Rel wa W) :
    Calls Try.prog 25 #[.slice A L c, .slice A' L c'] W fun e w' => e = .returned (.bool true) ∧ Hid (Rel W w') := by
  subst hL
  have h := rseen13_any V V A A' c c' W hr.self ((RowOwn.at cl2_len ha rfl).rel hr) (RowOwn.at cl2_len hb rfl) hle hle
  rw [decide_eq_true rfl] at h
  exact h.mono fun e w' ⟨he, hr2⟩ => ⟨he, Lib.hid hr2⟩
set_option maxRecDepth 100000 in
set_option maxHeartbeats 8000000 in
theorem booksources_any (H : BookOk) (A0 : Option Addr) (c0 : Nat) (any : List Sn) (A : Option Addr) (c : Nat) (zs : List (Int × Int)) (src : List UInt8) (SR : ByteArray) (hSR : B src = SR) (hsl : src.length ≤ 9223372036854775807) (seq : Int) (w : World) (hr : Rel w w) (ha : SnArg w A0 c0 any) (hz : PairsIn w A zs.length zs) (h0 : in64 seq) :
    Calls Try.prog 4 #[.slice A0 any.length c0, .slice A zs.length c, .string SR, .int .i64 seq] w fun e w' => e = .returned (.bool true) ∧ Rel w w' := by
  have HH := Lib.hid H
  have HA := Lib.hid (awake13_any H w w hr)
  have HZ := Lib.hid hz
  have HAn := Lib.hid ha
  have HSR := Lib.hid hSR
  have HSl := Lib.hid hsl
  have hzl : zs.length ≤ 9223372036854775807 := hz.2.1
  obtain ⟨na, hna⟩ : ∃ n, any.length = n := ⟨_, rfl⟩
  have HNa := Lib.hid hna
  have hna9 : na ≤ 9223372036854775806 := by have := ha.2.2.1; omega
  rw [hna]
  clear H hr hz ha hSR hsl hna
  go_enter Try.func4, Try.ntmps4
  go_upto_region 2 with (go_at_call 10; (with_reducible refine HA.out.mono ?_); rintro e w1 ⟨rfl, r1⟩; have R1 := Lib.hid r1; clear r1)
  clear HA
  have U1 := Lib.hid R1.out.self
  go_upto_block 0 with (fail)
  go_cut [10] (fun v wx => ∃ A2 L c2 l, v = .slice A2 L c2 ∧ Hid (List.length l = L) ∧ Hid (smallN l) ∧ Hid (SnArg wx A2 c2 l) ∧ Hid (Rel w wx))
  case first =>
    go_wp2_with (fail)
    go_loopw [10, 11, 12, 13, 14, 15, 16, 17, 18, 19] (fun v i _ _ _ _ _ _ _ _ wr => ∃ (j : Nat) (l : List Sn) (A2 : Option Addr) (L c2 : Nat), v = .slice A2 L c2 ∧ i = .int .i64 (j : Int) ∧ j ≤ zs.length ∧ j ≤ 40 ∧ Hid (l.length = L) ∧ Hid (smallN l) ∧ Hid (SnArg wr A2 c2 l) ∧ Hid (Rel w wr)) (fun _ i _ _ _ _ _ _ _ _ _ => zs.length - (RowKit.intOf i).toNat)
    case atStart => exact ⟨0, [], none, 0, 0, rfl, rfl, by omega, by omega, Lib.hid rfl, Lib.hid ⟨by simp, fun x hx => by cases hx⟩, Lib.hid (SnArg.nil _), R1⟩
    case round =>
      obtain ⟨j, l, A2, L, c2, rfl, rfl, hj, hj40, HL, HSm, HAr, HRw⟩ := hrel
      by_cases hlt : j < zs.length
      · by_cases h40 : j < 40
        · obtain ⟨a, x, y, rfl, hbl, k0, k1, hx, hy⟩ := pairs_at13 HZ.out HRw.out j hlt
          have hi : (j : Int) < (zs.length : Int) := by omega
          have hi40 : (j : Int) < 40 := by omega
          have nm := seller_name (pk x 60) (pk_bd x 60 (by omega)).1 (pk_bd x 60 (by omega)).2
          obtain ⟨s, hs⟩ : ∃ s, sellerL (pk x 60) = s := ⟨_, rfl⟩
          rw [hs] at nm
          obtain ⟨S, hS⟩ : ∃ S, B s = S := ⟨_, rfl⟩
          have CS := Lib.hid (sel_at (z := x) (S := S) (by rw [hs, hS]) hx)
          have hl12 := bname_len nm
          have hq := pk_bd y 50 (by omega)
          obtain ⟨Q, hQ⟩ : ∃ Q, pk y 50 = Q := ⟨_, rfl⟩
          rw [hQ] at hq
          have HQ := Lib.hid hQ
          have HY := Lib.hid hy
          obtain ⟨N, hN⟩ : ∃ N, 1 + Q = N := ⟨_, rfl⟩
          have HN := Lib.hid hN
          have hN64 : in64 N := by unfold in64; omega
          obtain ⟨V, hV⟩ : ∃ V, frV l s N = V := ⟨_, rfl⟩
          obtain ⟨I, hI⟩ : ∃ V, frI l s N = V := ⟨_, rfl⟩
          obtain ⟨E, hE⟩ : ∃ V, frE l s N = V := ⟨_, rfl⟩
          obtain ⟨M, hM⟩ : ∃ n, V.length = n := ⟨_, rfl⟩
          have HM := Lib.hid hM
          have HSv := Lib.hid (show smallN V from by rw [← hV]; exact small_next HSm.out hl12 hN64)
          have hM8 : M ≤ 8 := by rw [← hM]; exact HSv.out.1
          have C1 := Lib.hid (fun (W : World) (h : Rel wr W) => fresh_at HH.out hS (by omega) HAr.out L M HL.out hV hM hI hE W h)
          have C2 := Lib.hid (fun (W : World) (h : Rel wr W) => rfresh_at hS (by omega) HAr.out L M HL.out hV hM hI hE W h)
          obtain ⟨hq0, hq1⟩ := hq
          clear hs hS nm hl12 hQ hN hV hI hE hM hx hy hN64
          go_upto_region 7 with (go_at_call 12; (with_reducible refine (CS.out _ HRw.out.self).mono ?_); rintro e w3 ⟨rfl, r3⟩; have Q3 := Lib.hid r3.out; clear r3)
          replace k0 := (Q3.out.2.cell (p := a.add (j * 2)) hbl).trans k0
          replace k1 := (Q3.out.2.cell (p := ⟨(a.add (j * 2)).block, (a.add (j * 2)).off + 1, none⟩) hbl).trans k1
          go_upto_region 8 with (go_at_call 13; (with_reducible refine (pick13_as y 50 Q HQ HY.out (by omega) (by omega) _).mono ?_); rintro e w9 ⟨rfl, rfl⟩)
          rw [HN.out]
          clear HN HQ HY hq0 hq1 k0 k1 hbl CS
          go_upto_region 9 with (go_at_call 23; (with_reducible refine (C1.out _ Q3.out).mono ?_); rintro e w4 ⟨A4, c4, rfl, o4, r4⟩; have O4 := Lib.hid o4.out; have Q4 := Lib.hid (Q3.out.trans r4.out); have U4 := Lib.hid r4.out.self; clear o4 r4)
          go_upto_region 10 with (go_at_call 24; (with_reducible refine (C2.out _ Q4.out).mono ?_); rintro e w5 ⟨A5, c5, rfl, o5, r5⟩; have O5 := Lib.hid o5.out; have P5 := Lib.hid r5.out; have Q5 := Lib.hid (Q4.out.trans r5.out); clear o5 r5)
          have C3 := Lib.hid (seen_of M HM.out (by omega) O4.out O5.out P5.out)
          clear C1 C2
          by_cases hE0 : E = 0
          · subst hE0
            cases I with
            | true =>
              go_wp2_with (go_at_call 25; (with_reducible refine C3.out.mono ?_); rintro e w6 ⟨rfl, r6⟩; have Q6 := Lib.hid (Q5.out.trans r6.out); have P6 := Lib.hid (P5.out.trans r6.out); clear r6)
              have HAr2 := Lib.hid ((SnOwn.arg (b := V) (by rw [HM.out]; exact O4.out) HSv.out.2 (by rw [HM.out]; omega)).rel P6.out)
              go_roundw
              case rel => exact ⟨j + 1, V, A4, M, c4, rfl, by go_num, by omega, by omega, HM, HSv, HAr2, Lib.hid (HRw.out.trans Q6.out)⟩
              case measure => simp [RowKit.intOf]; omega
            | false =>
              go_wp2_with (go_at_call 25; (with_reducible refine C3.out.mono ?_); rintro e w6 ⟨rfl, r6⟩; have Q6 := Lib.hid (Q5.out.trans r6.out); have P6 := Lib.hid (P5.out.trans r6.out); clear r6)
              have HAr2 := Lib.hid ((SnOwn.arg (b := V) (by rw [HM.out]; exact O4.out) HSv.out.2 (by rw [HM.out]; omega)).rel P6.out)
              go_roundw
              case rel => exact ⟨j + 1, V, A4, M, c4, rfl, by go_num, by omega, by omega, HM, HSv, HAr2, Lib.hid (HRw.out.trans Q6.out)⟩
              case measure => simp [RowKit.intOf]; omega
          · have be : (E == 0) = false := by simpa using hE0
            have be2 : (E != E) = false := by simp
            clear hE0
            cases I with
            | true =>
              go_wp2_with (go_at_call 25; (with_reducible refine C3.out.mono ?_); rintro e w6 ⟨rfl, r6⟩; have Q6 := Lib.hid (Q5.out.trans r6.out); clear r6)
              go_roundw
              case rel => exact ⟨j + 1, l, _, L, c2, rfl, by go_num, by omega, by omega, HL, HSm, Lib.hid (HAr.out.rel Q6.out), Lib.hid (HRw.out.trans Q6.out)⟩
              case measure => simp [RowKit.intOf]; omega
            | false =>
              go_wp2_with (go_at_call 25; (with_reducible refine C3.out.mono ?_); rintro e w6 ⟨rfl, r6⟩; have Q6 := Lib.hid (Q5.out.trans r6.out); clear r6)
              go_roundw
              case rel => exact ⟨j + 1, l, _, L, c2, rfl, by go_num, by omega, by omega, HL, HSm, Lib.hid (HAr.out.rel Q6.out), Lib.hid (HRw.out.trans Q6.out)⟩
              case measure => simp [RowKit.intOf]; omega
        · have hi : (j : Int) < (zs.length : Int) := by omega
          have hi40 : ¬ (j : Int) < 40 := by omega
          go_wp2_with (fail)
          go_meet
          exact ⟨A2, L, c2, l, rfl, HL, HSm, HAr, HRw⟩
      · have hjz : j = zs.length := by omega
        subst hjz
        go_wp2_with (fail)
        all_goals
          go_meet
          exact ⟨A2, L, c2, l, rfl, HL, HSm, HAr, HRw⟩
  obtain ⟨A2, L, c2, l, rfl, HL, HSm, HAr, HRL⟩ := hcut
  have HG := Lib.hid (Bk.new wc 43 #[.slice A0 na c0, .slice A2 L c2])
  have RL := Lib.hid (HRL.out.alloc (.cells #[.slice A0 na c0, .slice A2 L c2] 43))
  have AR1 := Lib.hid (HAn.out.rel RL.out)
  have AR2 := Lib.hid (HAr.out.rel (HRL.out.self.alloc (.cells #[.slice A0 na c0, .slice A2 L c2] 43)))
  have hL8 : L ≤ 8 := by rw [← HL.out]; exact HSm.out.1
  obtain ⟨gL, hgL⟩ : ∃ g, wc.heap.size = g := ⟨_, rfl⟩
  obtain ⟨wL, hwL⟩ : ∃ W, wc.alloc (.cells #[.slice A0 na c0, .slice A2 L c2] 43) = W := ⟨_, rfl⟩
  rw [hwL] at HG RL AR1 AR2
  rw [hgL] at HG
  go_upto_block 2 with (fail)
  try rw [hwL]
  try rw [hgL]
  clear hwL hgL
  have UL := Lib.hid RL.out.self
  go_wp2_with (fail)
  go_loopw [21, 22, 23, 24, 25, 26, 27, 89] (fun _ _ _ _ _ _ _ i wr => (i = .int .i64 0 ∨ i = .int .i64 1 ∨ i = .int .i64 2) ∧ Hid (Rel wL wr)) (fun _ _ _ _ _ _ _ i _ => 2 - (RowKit.intOf i).toNat)
  case atStart => exact ⟨.inl rfl, UL⟩
  case round =>
    obtain ⟨hi, HRw⟩ := hrel
    obtain ⟨⟨g0, g1⟩, _⟩ := (HG.out.rel HRw.out).two
    rcases hi with rfl | rfl | rfl
    · obtain ⟨V, hV⟩ : ∃ V, frV any src seq = V := ⟨_, rfl⟩
      obtain ⟨I, hI⟩ : ∃ V, frI any src seq = V := ⟨_, rfl⟩
      obtain ⟨E, hE⟩ : ∃ V, frE any src seq = V := ⟨_, rfl⟩
      obtain ⟨M, hM⟩ : ∃ n, V.length = n := ⟨_, rfl⟩
      have HM := Lib.hid hM
      have hM9 : M ≤ 9223372036854775807 := by
        have h := frV_len any src seq
        rw [hV, hM, HNa.out] at h
        omega
      have C1 := Lib.hid (fun (W : World) (h : Rel wr W) => fresh_at HH.out HSR.out HSl.out (AR1.out.rel HRw.out) na M HNa.out hV hM hI hE W h)
      have C2 := Lib.hid (fun (W : World) (h : Rel wr W) => rfresh_at HSR.out HSl.out (AR1.out.rel HRw.out) na M HNa.out hV hM hI hE W h)
      have be2 : (E != E) = false := by simp
      clear hV hI hE hM
      go_upto_region 18 with (go_at_call 23; (with_reducible refine (C1.out _ HRw.out.self).mono ?_); rintro e w4 ⟨A4, c4, rfl, o4, r4⟩; have O4 := Lib.hid o4.out; have Q4 := Lib.hid r4.out; have U4 := Lib.hid r4.out.self; clear o4 r4)
      go_upto_region 19 with (go_at_call 24; (with_reducible refine (C2.out _ Q4.out).mono ?_); rintro e w5 ⟨A5, c5, rfl, o5, r5⟩; have O5 := Lib.hid o5.out; have P5 := Lib.hid r5.out; have Q5 := Lib.hid (Q4.out.trans r5.out); clear o5 r5)
      have C3 := Lib.hid (seen_of M HM.out (by omega) O4.out O5.out P5.out)
      clear C1 C2
      cases I with
      | true =>
        go_wp2_with (go_at_call 25; (with_reducible refine C3.out.mono ?_); rintro e w6 ⟨rfl, r6⟩; have Q6 := Lib.hid (Q5.out.trans r6.out); clear r6)
        go_roundw
        case rel => exact ⟨.inr (.inl rfl), Lib.hid (HRw.out.trans Q6.out)⟩
        case measure => simp [RowKit.intOf]
      | false =>
        go_wp2_with (go_at_call 25; (with_reducible refine C3.out.mono ?_); rintro e w6 ⟨rfl, r6⟩; have Q6 := Lib.hid (Q5.out.trans r6.out); clear r6)
        go_roundw
        case rel => exact ⟨.inr (.inl rfl), Lib.hid (HRw.out.trans Q6.out)⟩
        case measure => simp [RowKit.intOf]
    · obtain ⟨V, hV⟩ : ∃ V, frV l src seq = V := ⟨_, rfl⟩
      obtain ⟨I, hI⟩ : ∃ V, frI l src seq = V := ⟨_, rfl⟩
      obtain ⟨E, hE⟩ : ∃ V, frE l src seq = V := ⟨_, rfl⟩
      obtain ⟨M, hM⟩ : ∃ n, V.length = n := ⟨_, rfl⟩
      have HM := Lib.hid hM
      have hM9 : M ≤ 9223372036854775807 := by
        have h := frV_len l src seq
        rw [hV, hM, HL.out] at h
        omega
      have C1 := Lib.hid (fun (W : World) (h : Rel wr W) => fresh_at HH.out HSR.out HSl.out (AR2.out.rel HRw.out) L M HL.out hV hM hI hE W h)
      have C2 := Lib.hid (fun (W : World) (h : Rel wr W) => rfresh_at HSR.out HSl.out (AR2.out.rel HRw.out) L M HL.out hV hM hI hE W h)
      have be2 : (E != E) = false := by simp
      clear hV hI hE hM
      go_upto_region 18 with (go_at_call 23; (with_reducible refine (C1.out _ HRw.out.self).mono ?_); rintro e w4 ⟨A4, c4, rfl, o4, r4⟩; have O4 := Lib.hid o4.out; have Q4 := Lib.hid r4.out; have U4 := Lib.hid r4.out.self; clear o4 r4)
      go_upto_region 19 with (go_at_call 24; (with_reducible refine (C2.out _ Q4.out).mono ?_); rintro e w5 ⟨A5, c5, rfl, o5, r5⟩; have O5 := Lib.hid o5.out; have P5 := Lib.hid r5.out; have Q5 := Lib.hid (Q4.out.trans r5.out); clear o5 r5)
      have C3 := Lib.hid (seen_of M HM.out (by omega) O4.out O5.out P5.out)
      clear C1 C2
      cases I with
      | true =>
        go_wp2_with (go_at_call 25; (with_reducible refine C3.out.mono ?_); rintro e w6 ⟨rfl, r6⟩; have Q6 := Lib.hid (Q5.out.trans r6.out); clear r6)
        go_roundw
        case rel => exact ⟨.inr (.inr rfl), Lib.hid (HRw.out.trans Q6.out)⟩
        case measure => simp [RowKit.intOf]
      | false =>
        go_wp2_with (go_at_call 25; (with_reducible refine C3.out.mono ?_); rintro e w6 ⟨rfl, r6⟩; have Q6 := Lib.hid (Q5.out.trans r6.out); clear r6)
        go_roundw
        case rel => exact ⟨.inr (.inr rfl), Lib.hid (HRw.out.trans Q6.out)⟩
        case measure => simp [RowKit.intOf]
    · go_wp2_with (fail)
      go_ret
      exact ⟨rfl, RL.out.trans HRw.out⟩
end Go.Proofs.Ytfplhpkolcgpiaa
