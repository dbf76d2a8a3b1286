/- The law of layer 13 on all that it tells, walked. -/
import Derived.Test.YtfplhpkolcgpiaaZL
import Derived.Test.YtfplhpkolcgpiaaZ00
import Derived.Test.YtfplhpkolcgpiaaZ01
import Derived.Test.YtfplhpkolcgpiaaZ07
import Derived.Test.YtfplhpkolcgpiaaZ10
import Derived.Test.YtfplhpkolcgpiaaZ12
import Derived.Test.YtfplhpkolcgpiaaZ13
import Derived.Test.YtfplhpkolcgpiaaZ14
import Derived.Test.YtfplhpkolcgpiaaZ15
import Derived.Test.YtfplhpkolcgpiaaZ17
import Derived.Test.YtfplhpkolcgpiaaZ18
import Derived.Test.YtfplhpkolcgpiaaZ21
import Derived.Test.YtfplhpkolcgpiaaZ41
namespace Go.Proofs.Ytfplhpkolcgpiaa
open Go.RowKit Go.Lib
set_option linter.unusedVariables false
set_option linter.unusedSimpArgs false
theorem putV_len (l : List Sl) (s : List UInt8) (p k : Int) : (putV l s p k).length ≤ l.length + 1 := by
  unfold putV putB
  by_cases h : putOk s p k = true
  · rw [if_pos h]
    by_cases h1 : hasB l s = true
    · rw [if_pos h1]; simp only [repl_len]; omega
    · rw [if_neg h1]
      by_cases h8 : 8 ≤ l.length
      · rw [if_pos h8]; exact Nat.zero_le _
      · rw [if_neg h8]; simp only [List.length_append, List.length_singleton]; omega
  · rw [if_neg h]; exact Nat.zero_le _
section
variable {w0 : World} {A : Option Addr} {c : Nat} {l V : List Sl} {s : List UInt8} {S : ByteArray} {p k E : Int}
theorem put2_at (H : BookOk) (hS : B s = S) (hs : s.length ≤ 9223372036854775807) (h : SlArg w0 A c l) (n L : Nat) (hn : l.length = n) (hV : putV l s p k = V) (hL : V.length = L) (hE : putE l s p k = E) (W : World) (hr : Rel w0 W) :
    Calls Try.prog 14 #[.slice A n c, .string S, .int .i64 p, .int .i64 k] W fun e w' => ∃ A2 c2, e = .returned (.tuple #[.slice A2 L c2, .int .i64 E]) ∧ Hid (RowAt cl3 3 w' A2 V) ∧ Hid (Rel W w') := by
  have h1 := H.1 l s p k A c hs W hr.self (h.rel hr)
  unfold PutPost at h1
  rw [hS, hV, hE, hn, hL] at h1
  exact h1.mono fun e w' ⟨A, c, he, hO, hr2⟩ => ⟨A, c, he, Lib.hid (RowOwn.at cl3_len hO hL.symm), Lib.hid hr2⟩
theorem rput2_at (hS : B s = S) (hs : s.length ≤ 9223372036854775807) (h : SlArg w0 A c l) (n L : Nat) (hn : l.length = n) (hV : putV l s p k = V) (hL : V.length = L) (hE : putE l s p k = E) (W : World) (hr : Rel w0 W) :
    Calls Try.prog 15 #[.slice A n c, .string S, .int .i64 p, .int .i64 k] W fun e w' => ∃ A2 c2, e = .returned (.tuple #[.slice A2 L c2, .int .i64 E]) ∧ Hid (RowAt cl3 3 w' A2 V) ∧ Hid (Rel W w') := by
  have h1 := rput_any l s p k A c hs W hr.self (h.rel hr)
  unfold PutPost at h1
  rw [hS, hV, hE, hn, hL] at h1
  exact h1.mono fun e w' ⟨A, c, he, hO, hr2⟩ => ⟨A, c, he, Lib.hid (RowOwn.at cl3_len hO hL.symm), Lib.hid hr2⟩
theorem exp2_at (H : BookOk) (h : SlArg w0 A c l) (n L : Nat) (hn : l.length = n) (hV : expB l p k = V) (hL : V.length = L) (W : World) (hr : Rel w0 W) :
    Calls Try.prog 17 #[.slice A n c, .int .i64 p, .int .i64 k] W fun e w' => ∃ A2 c2, e = .returned (.slice A2 L c2) ∧ Hid (RowAt cl3 3 w' A2 V) ∧ Hid (Rel W w') := by
  have h1 := H.2.2.1 l A c p k W hr.self (h.rel hr)
  rw [hV, hn, hL] at h1
  exact h1.mono fun e w' ⟨A, c, he, hO, hr2⟩ => ⟨A, c, he, Lib.hid (RowOwn.at cl3_len hO hL.symm), Lib.hid hr2⟩
theorem rexp2_at (h : SlArg w0 A c l) (n L : Nat) (hn : l.length = n) (hV : expB l p k = V) (hL : V.length = L) (W : World) (hr : Rel w0 W) :
    Calls Try.prog 18 #[.slice A n c, .int .i64 p, .int .i64 k] W fun e w' => ∃ A2 c2, e = .returned (.slice A2 L c2) ∧ Hid (RowAt cl3 3 w' A2 V) ∧ Hid (Rel W w') := by
  have h1 := rexpire_any l A c p k W hr.self (h.rel hr)
  rw [hV, hn, hL] at h1
  exact h1.mono fun e w' ⟨A, c, he, hO, hr2⟩ => ⟨A, c, he, Lib.hid (RowOwn.at cl3_len hO hL.symm), Lib.hid hr2⟩
theorem drop2_at (H : BookOk) (hS : B s = S) (hs : s.length ≤ 9223372036854775807) (h : SlArg w0 A c l) (n L : Nat) (hn : l.length = n) (hV : dropB l s = V) (hL : V.length = L) (W : World) (hr : Rel w0 W) :
    Calls Try.prog 19 #[.slice A n c, .string S] W fun e w' => ∃ A2 c2, e = .returned (.slice A2 L c2) ∧ Hid (RowAt cl3 3 w' A2 V) ∧ Hid (Rel W w') := by
  have h1 := H.2.1 l A c s W hs hr.self (h.rel hr)
  rw [hS, hV, hn, hL] at h1
  exact h1.mono fun e w' ⟨A, c, he, hO, hr2⟩ => ⟨A, c, he, Lib.hid (RowOwn.at cl3_len hO hL.symm), Lib.hid hr2⟩
theorem rdrop2_at (hS : B s = S) (h : SlArg w0 A c l) (n L : Nat) (hn : l.length = n) (hV : dropB l s = V) (hL : V.length = L) (W : World) (hr : Rel w0 W) :
    Calls Try.prog 20 #[.slice A n c, .string S] W fun e w' => ∃ A2 c2, e = .returned (.slice A2 L c2) ∧ Hid (RowAt cl3 3 w' A2 V) ∧ Hid (Rel W w') := by
  have h1 := rdrop_any l A c s W hr.self (h.rel hr)
  rw [hS, hV, hn, hL] at h1
  exact h1.mono fun e w' ⟨A, c, he, hO, hr2⟩ => ⟨A, c, he, Lib.hid (RowOwn.at cl3_len hO hL.symm), Lib.hid hr2⟩
theorem off2_at (H : BookOk) (h : SlArg w0 A c l) (n : Nat) (hn : l.length = n) (W : World) (hr : Rel w0 W) :
    Calls Try.prog 21 #[.slice A n c] W fun e w' => ∃ A2 c2, e = .returned (.slice A2 n c2) ∧ Hid (RowAt cl2 2 w' A2 (offB l)) ∧ Hid (Rel W w') := by
  have h1 := H.2.2.2.1 l A c W hr.self (h.rel hr)
  have hl := off_len l
  rw [hl, hn] at h1
  exact h1.mono fun e w' ⟨A, c, he, hO, hr2⟩ => ⟨A, c, he, Lib.hid (RowOwn.at cl2_len hO (by rw [hl, hn])), Lib.hid hr2⟩
theorem roff2_at (h : SlArg w0 A c l) (n : Nat) (hn : l.length = n) (W : World) (hr : Rel w0 W) :
    Calls Try.prog 22 #[.slice A n c] W fun e w' => ∃ A2 c2, e = .returned (.slice A2 n c2) ∧ Hid (RowAt cl2 2 w' A2 (offB l)) ∧ Hid (Rel W w') := by
  have h1 := roffers_any l A c W hr.self (h.rel hr)
  have hl := off_len l
  rw [hl, hn] at h1
  exact h1.mono fun e w' ⟨A, c, he, hO, hr2⟩ => ⟨A, c, he, Lib.hid (RowOwn.at cl2_len hO (by rw [hl, hn])), Lib.hid hr2⟩
theorem same2_at {wa wb W : World} {A A' : Option Addr} {c c' : Nat} (L : Nat) (hL : V.length = L) (hle : L ≤ 9223372036854775807) (ha : Hid (RowAt cl3 3 wa A V)) (hb : Hid (RowAt cl3 3 wb A' V)) (hra : Hid (Rel wa wb)) (hrb : Rel wb W) :
    Calls Try.prog 16 #[.slice A L c, .slice A' L c'] W fun e w' => e = .returned (.bool true) ∧ Hid (Rel W w') := by
  subst hL
  have h := rsame13_any V V A A' c c' W hrb.self (ha.out.rel (hra.out.trans hrb)) (hb.out.rel hrb) hle hle
  rw [decide_eq_true rfl] at h
  exact h.mono fun e w' ⟨he, hr2⟩ => ⟨he, Lib.hid hr2⟩
end
theorem offr_eq (W : World) (xs ys : ByteArray) (xp yp : Int) : (Op.equalIn 10000 41 (.agg #[.string xs, .int .i64 xp]) (.agg #[.string ys, .int .i64 yp])).run Try.prog W = .ok (xs.toList == ys.toList && xp == yp) W := by
  simp [go_sem, part]
  by_cases h0 : xs.toList = ys.toList
  · by_cases h1 : xp = yp <;> simp [h0, h1]
  · simp [h0]
theorem two_cells {W : World} {g : Nat} {t : TypeId} {x y : Value} (h : Bk W g t #[x, y]) (j : Nat) (hj : j < 2) : W.cell? ⟨g, j, none⟩ = some (if j = 0 then x else y) := by
  have : j = 0 ∨ j = 1 := by omega
  rcases this with rfl | rfl
  · exact h.cell 0
  · exact h.cell 1
set_option maxRecDepth 100000 in
set_option maxHeartbeats 8000000 in
theorem booktells_any (H : BookOk) (A : Option Addr) (c : Nat) (zs : List Tr) (A0 : Option Addr) (c0 : Nat) (any : List Sl) (src : List UInt8) (SR : ByteArray) (hSR : B src = SR) (hsl : src.length ≤ 9223372036854775807) (price now : Int) (w : World) (hr : Rel w w) (hz : TripsIn w A zs.length zs) (ha : SlArg w A0 c0 any) (h0 : in64 price) (h1 : in64 now) :
    Calls Try.prog 3 #[.slice A zs.length c, .slice A0 any.length c0, .string SR, .int .i64 price, .int .i64 now] w fun e w' => e = .returned (.bool true) ∧ Rel w w' := by
  have HH := Lib.hid H
  have HA := Lib.hid (awake13_any H w w hr)
  have HAn := Lib.hid ha
  have HSR := Lib.hid hSR
  have HSl := Lib.hid hsl
  have HPr := Lib.hid h0
  have HNw := Lib.hid h1
  have ns := seller_name (pk price 60) (pk_bd price 60 (by omega)).1 (pk_bd price 60 (by omega)).2
  obtain ⟨s2, hs⟩ : ∃ s, sellerL (pk price 60) = s := ⟨_, rfl⟩
  rw [hs] at ns
  obtain ⟨S2, hS⟩ : ∃ S, B s2 = S := ⟨_, rfl⟩
  have CS := Lib.hid (sel_at (z := price) (S := S2) (by rw [hs, hS]) h0)
  have HS2 := Lib.hid hS
  have HL2s := Lib.hid (bname_len ns)
  obtain ⟨b, hb⟩ : ∃ b, bookS zs = b := ⟨_, rfl⟩
  have HBk := Lib.hid (fun (w1 : World) (h : Rel w w1) => book13_any A c zs w1 h.self (hz.rel h))
  rw [hb] at HBk
  obtain ⟨nb, hnb⟩ : ∃ n, b.length = n := ⟨_, rfl⟩
  obtain ⟨na, hna⟩ : ∃ n, any.length = n := ⟨_, rfl⟩
  rw [hnb] at HBk
  have HNb := Lib.hid hnb
  have HNa := Lib.hid hna
  have hp := pk_bd price 2500 (by omega)
  obtain ⟨P, hP⟩ : ∃ P, pk price 2500 = P := ⟨_, rfl⟩
  rw [hP] at hp
  have HP := Lib.hid hP
  obtain ⟨hp0, hp1⟩ := hp
  have hk := pk_bd now 60 (by omega)
  obtain ⟨K, hK⟩ : ∃ P, pk now 60 = P := ⟨_, rfl⟩
  rw [hK] at hk
  have HK := Lib.hid hK
  obtain ⟨hk0, hk1⟩ := hk
  obtain ⟨Q20, hQ20⟩ : ∃ P, pk price 20 = P := ⟨_, rfl⟩
  have HQ20 := Lib.hid hQ20
  rw [hna]
  clear H hr hz ha hSR hsl h0 h1 ns hs hS hb hnb hna hP hK hQ20
  go_enter Try.func3, Try.ntmps3
  go_upto_region 2 with (go_at_call 10; (with_reducible refine HA.out.mono ?_); rintro e w1 ⟨rfl, r1⟩; have R1 := Lib.hid r1; clear r1)
  clear HA
  go_upto_block 0 with (go_at_call 11; (with_reducible refine (HBk.out _ R1.out).mono ?_); rintro e w2 ⟨A2, c2, rfl, s2, r2⟩; have T2 := Lib.hid s2; have R2 := Lib.hid (R1.out.trans r2); clear s2 r2)
  clear HBk R1
  have HG := Lib.hid (Bk.new w2 23 #[.slice A2 nb c2, .slice A0 na c0])
  have RB := Lib.hid (R2.out.alloc (.cells #[.slice A2 nb c2, .slice A0 na c0] 23))
  have AR0 := Lib.hid (HAn.out.rel RB.out)
  have AR1 := Lib.hid (T2.out.rel (R2.out.self.alloc (.cells #[.slice A2 nb c2, .slice A0 na c0] 23)))
  obtain ⟨gB, hgB⟩ : ∃ g, w2.heap.size = g := ⟨_, rfl⟩
  obtain ⟨wB, hwB⟩ : ∃ W, w2.alloc (.cells #[.slice A2 nb c2, .slice A0 na c0] 23) = W := ⟨_, rfl⟩
  rw [hwB] at HG RB AR0 AR1
  rw [hgB] at HG
  try rw [hwB]
  try rw [hgB]
  clear hwB hgB T2 R2 HAn
  have UB := Lib.hid RB.out.self
  go_wp2_with (fail)
  go_loopw [31] (fun i wr => ∃ j : Nat, i = .int .i64 (j : Int) ∧ j ≤ 2 ∧ Hid (Rel wB wr)) (fun i _ => 2 - (RowKit.intOf i).toNat)
  case atStart => exact ⟨0, rfl, by omega, UB⟩
  case round =>
    obtain ⟨j, rfl, hj, HRb⟩ := hrel
    obtain ⟨w3, hw3⟩ : ∃ w3, w3 = wr := ⟨_, rfl⟩
    subst hw3
    by_cases hlt : j < 2
    rotate_left 1
    · obtain rfl : j = 2 := by omega
      go_wp2_with (fail)
      go_ret
      exact ⟨rfl, RB.out.trans HRb.out⟩
    have hi : (j : Int) < 2 := by omega
    obtain ⟨l, AL, ln, cL, hcell, hln, hAL⟩ : ∃ (l : List Sl) (AL : Option Addr) (ln cL : Nat), w3.cell? ⟨gB, j, none⟩ = some (.slice AL ln cL) ∧ l.length = ln ∧ SlArg wB AL cL l := by
      have h := two_cells (HG.out.rel HRb.out) j hlt
      by_cases e : j = 0
      · rw [if_pos e] at h; exact ⟨b, A2, nb, c2, h, HNb.out, AR1.out⟩
      · rw [if_neg e] at h; exact ⟨any, A0, na, c0, h, HNa.out, AR0.out⟩
    have hHln := Lib.hid hln
    have HAL := Lib.hid (hAL.rel HRb.out)
    have hl42 : ln ≤ 4398046511104 := by rw [← hln]; exact hAL.2.2.1
    clear hln hAL
    go_upto_block 2 with (go_at_call 12; (with_reducible refine (CS.out _ HRb.out.self).mono ?_); rintro e w4 ⟨rfl, r4⟩; have R4 := Lib.hid r4.out; clear r4)
    clear hcell
    have HGs := Lib.hid (Bk.new w4 9 #[.string SR, .string S2])
    have RS := Lib.hid (R4.out.alloc (.cells #[.string SR, .string S2] 9))
    obtain ⟨gS, hgS⟩ : ∃ g, w4.heap.size = g := ⟨_, rfl⟩
    obtain ⟨wS, hwS⟩ : ∃ W, w4.alloc (.cells #[.string SR, .string S2] 9) = W := ⟨_, rfl⟩
    rw [hwS] at HGs RS
    rw [hgS] at HGs
    try rw [hwS]
    try rw [hgS]
    clear hwS hgS R4
    have US := Lib.hid RS.out.self
    go_wp2_with (fail)
    go_loopw [40] (fun i wr => ∃ k : Nat, i = .int .i64 (k : Int) ∧ k ≤ 2 ∧ Hid (Rel wS wr)) (fun i _ => 2 - (RowKit.intOf i).toNat)
    case atStart => exact ⟨0, rfl, by omega, US⟩
    case round =>
      obtain ⟨k, rfl, hk, HRs⟩ := hrel
      obtain ⟨w6, hw6⟩ : ∃ w6, w6 = wr := ⟨_, rfl⟩
      subst hw6
      have RS6 := Lib.hid (RS.out.trans HRs.out)
      have HL6 := Lib.hid (HAL.out.rel RS6.out)
      by_cases hltk : k < 2
      rotate_left 1
      · obtain rfl : k = 2 := by omega
        have C1 := Lib.hid (off2_at HH.out HL6.out ln hHln.out w6 HRs.out.self)
        have C2 := Lib.hid (fun (W : World) (h : Rel w6 W) => roff2_at HL6.out ln hHln.out W h)
        have bne : ((ln : Int) != (ln : Int)) = false := by simp
        go_upto_region 20 with (go_at_call 21; (with_reducible refine C1.out.mono ?_); rintro e wP ⟨A4, c4, rfl, O4, r4⟩; have R4 := Lib.hid r4.out; clear r4)
        go_upto_region 21 with (go_at_call 22; (with_reducible refine (C2.out _ R4.out).mono ?_); rintro e w5 ⟨A5, c5, rfl, O5, r5⟩; have P5 := Lib.hid r5.out; have R5 := Lib.hid (R4.out.trans r5.out); have U5 := Lib.hid r5.out.self; clear r5)
        clear C1 C2
        go_wp2_with (fail)
        go_loopw [24] (fun i wr => ∃ q : Nat, i = .int .i64 (q : Int) ∧ q ≤ ln ∧ Hid (Rel w5 wr)) (fun i _ => ln - (RowKit.intOf i).toNat)
        case atStart => exact ⟨0, rfl, by omega, U5⟩
        case round =>
          obtain ⟨q, rfl, hq, HRq⟩ := hrel
          by_cases hltq : q < ln
          · have hiq : (q : Int) < (ln : Int) := by omega
            have hlq : q < (offB l).length := by rw [off_len, hHln.out]; exact hltq
            obtain ⟨g, off, x, rfl, _, hx, k0, k1⟩ := seen_at O4.out (P5.out.trans HRq.out) q hlq
            obtain ⟨g', off', y, rfl, _, hy, q0, q1⟩ := seen_at O5.out HRq.out q hlq
            have hyx : y = x := by rw [← hy, hx]
            subst hyx
            obtain ⟨xs, hxs⟩ : ∃ s, B y.1 = s := ⟨_, rfl⟩
            obtain ⟨xp, hxp⟩ : ∃ s, y.2 = s := ⟨_, rfl⟩
            rw [hxs] at k0 q0
            rw [hxp] at k1 q1
            have EQ := fun W => offr_eq W xs xs xp xp
            rw [show (xs.toList == xs.toList && xp == xp) = true by simp] at EQ
            clear hx hy hxs hxp
            go_upto_region 26 with (fail)
            go_quiet (fail)
            all_goals
              go_wp2_with (fail)
              go_roundw
              case rel => exact ⟨q + 1, by go_num, by omega, Lib.hid (HRq.out.drewN _)⟩
              case measure => simp [RowKit.intOf]; omega
          · obtain rfl : q = ln := by omega
            go_wp2_with (fail)
            go_roundw
            case rel => exact ⟨j + 1, by go_num, by omega, Lib.hid (HRb.out.trans (RS6.out.trans (R5.out.trans HRq.out)))⟩
            case measure => simp [RowKit.intOf]; omega
      have hik : (k : Int) < 2 := by omega
      obtain ⟨s, S, hcellS, hS, hsl⟩ : ∃ (s : List UInt8) (S : ByteArray), w6.cell? ⟨gS, k, none⟩ = some (.string S) ∧ B s = S ∧ s.length ≤ 9223372036854775807 := by
        have h := two_cells (HGs.out.rel HRs.out) k hltk
        by_cases e : k = 0
        · rw [if_pos e] at h; exact ⟨src, SR, h, HSR.out, HSl.out⟩
        · rw [if_neg e] at h; exact ⟨s2, S2, h, HS2.out, by have := HL2s.out; omega⟩
      have hHS := Lib.hid hS
      have hHsl := Lib.hid hsl
      clear hS hsl
      go_upto_block 4 with (first
        | (go_at_call 13; (with_reducible refine (pick13_as price 2500 P HP HPr.out (by omega) (by omega) _).mono ?_); rintro e w9 ⟨rfl, rfl⟩)
        | (go_at_call 13; (with_reducible refine (pick13_as now 60 K HK HNw.out (by omega) (by omega) _).mono ?_); rintro e w9 ⟨rfl, rfl⟩))
      clear hcellS
      have HGx := Lib.hid (Bk.new w6 29 #[.int .i64 price, .int .i64 now, .int .i64 (1 + P), .int .i64 K])
      have RX := Lib.hid (HRs.out.self.alloc (.cells #[.int .i64 price, .int .i64 now, .int .i64 (1 + P), .int .i64 K] 29))
      obtain ⟨gX, hgX⟩ : ∃ g, w6.heap.size = g := ⟨_, rfl⟩
      obtain ⟨wX, hwX⟩ : ∃ W, w6.alloc (.cells #[.int .i64 price, .int .i64 now, .int .i64 (1 + P), .int .i64 K] 29) = W := ⟨_, rfl⟩
      rw [hwX] at HGx RX
      rw [hgX] at HGx
      try rw [hwX]
      try rw [hgX]
      clear hwX hgX
      have UX := Lib.hid RX.out.self
      go_wp2_with (fail)
      go_loopw [55] (fun i wr => ∃ m : Nat, i = .int .i64 (m : Int) ∧ m ≤ 2 ∧ Hid (Rel wX wr)) (fun i _ => 2 - (RowKit.intOf i).toNat)
      case atStart => exact ⟨0, rfl, by omega, UX⟩
      case round =>
        obtain ⟨m, rfl, hm, HRx⟩ := hrel
        by_cases hltm : m < 2
        rotate_left 1
        · obtain rfl : m = 2 := by omega
          have HLd := Lib.hid (HL6.out.rel (RX.out.trans HRx.out))
          obtain ⟨V, hV⟩ : ∃ V, dropB l s = V := ⟨_, rfl⟩
          obtain ⟨LV, hLVe⟩ : ∃ n, V.length = n := ⟨_, rfl⟩
          have HLV := Lib.hid hLVe
          have hLV : LV ≤ 9223372036854775807 := by have h := (drop_sub l s).length_le; rw [hV, hLVe, hHln.out] at h; omega
          have C1 := Lib.hid (drop2_at HH.out hHS.out hHsl.out HLd.out ln LV hHln.out hV hLVe wr HRx.out.self)
          have C2 := Lib.hid (fun (W : World) (h : Rel wr W) => rdrop2_at hHS.out HLd.out ln LV hHln.out hV hLVe W h)
          clear hV hLVe
          go_wp2_with (first
            | (go_at_call 19; (with_reducible refine C1.out.mono ?_); rintro e wP ⟨A4, c4, rfl, O4, r4⟩; have R4 := Lib.hid r4.out; clear r4)
            | (go_at_call 20; (with_reducible refine (C2.out _ R4.out).mono ?_); rintro e w5 ⟨A5, c5, rfl, O5, r5⟩; have P5 := Lib.hid r5.out; have R5 := Lib.hid (R4.out.trans r5.out); have U5 := Lib.hid r5.out.self; clear r5)
            | (go_at_call 16; (with_reducible refine (same2_at LV HLV.out hLV O4 O5 P5 U5.out.self).mono ?_); rintro e w7 ⟨rfl, r7⟩; have R7 := Lib.hid (R5.out.trans r7.out); clear r7))
          go_roundw
          case rel => exact ⟨k + 1, by go_num, by omega, Lib.hid (HRs.out.trans (RX.out.trans (HRx.out.trans R7.out)))⟩
          case measure => simp [RowKit.intOf]; omega
        have him : (m : Int) < 2 := by omega
        obtain ⟨x0, x1, hx0, hx1, hi0, hi1⟩ : ∃ (x0 x1 : Int), wr.cell? ⟨gX, m * 2, none⟩ = some (.int .i64 x0) ∧ wr.cell? ⟨gX, m * 2 + 1, none⟩ = some (.int .i64 x1) ∧ in64 x0 ∧ in64 x1 := by
          have h := HGx.out.rel HRx.out
          have : m = 0 ∨ m = 1 := by omega
          rcases this with rfl | rfl
          · exact ⟨price, now, h.cell 0, h.cell 1, HPr.out, HNw.out⟩
          · exact ⟨1 + P, K, h.cell 2, h.cell 3, by unfold in64; omega, by unfold in64; omega⟩
        go_upto_region 11 with (fail)
        clear hx0 hx1
        have HY := Lib.hid (Bk.new wr 29 #[.int .i64 x0, .int .i64 x1])
        have RY := Lib.hid (HRx.out.alloc (.cells #[.int .i64 x0, .int .i64 x1] 29))
        obtain ⟨gY, hgY⟩ : ∃ g, wr.heap.size = g := ⟨_, rfl⟩
        obtain ⟨wY, hwY⟩ : ∃ W, wr.alloc (.cells #[.int .i64 x0, .int .i64 x1] 29) = W := ⟨_, rfl⟩
        rw [hwY] at HY RY
        rw [hgY] at HY
        try rw [hwY]
        try rw [hgY]
        clear hwY hgY
        obtain ⟨⟨y0, y1⟩, _⟩ := HY.out.two
        have HLY := Lib.hid (HL6.out.rel (RX.out.trans RY.out))
        obtain ⟨V, hV⟩ : ∃ V, putV l s x0 x1 = V := ⟨_, rfl⟩
        obtain ⟨E, hE⟩ : ∃ V, putE l s x0 x1 = V := ⟨_, rfl⟩
        obtain ⟨LV, hLVe⟩ : ∃ n, V.length = n := ⟨_, rfl⟩
        have HLV := Lib.hid hLVe
        have hLV : LV ≤ 9223372036854775807 := by have h := putV_len l s x0 x1; rw [hV, hLVe, hHln.out] at h; omega
        have C1 := Lib.hid (put2_at HH.out hHS.out hHsl.out HLY.out ln LV hHln.out hV hLVe hE wY RY.out.self)
        have C2 := Lib.hid (fun (W : World) (h : Rel wY W) => rput2_at hHS.out hHsl.out HLY.out ln LV hHln.out hV hLVe hE W h)
        have be2 : (E != E) = false := by simp
        clear hV hE hLVe hi0 hi1
        go_upto_region 12 with (go_at_call 14; (with_reducible refine C1.out.mono ?_); rintro e wP ⟨A4, c4, rfl, O4, r4⟩; have R4 := Lib.hid r4.out; clear r4)
        have HYP := Lib.hid (HY.out.rel R4.out)
        clear y0 y1
        obtain ⟨⟨y0, y1⟩, _⟩ := HYP.out.two
        go_upto_region 13 with (go_at_call 15; (with_reducible refine (C2.out _ R4.out).mono ?_); rintro e w5 ⟨A5, c5, rfl, O5, r5⟩; have P5 := Lib.hid r5.out; have R5 := Lib.hid (R4.out.trans r5.out); clear r5)
        clear C1 C2 y0 y1
        have HY5 := Lib.hid (HY.out.rel R5.out)
        have RX5 := Lib.hid (RY.out.trans R5.out)
        have HSl5 := Lib.hid (HLY.out.rel R5.out)
        have HS5 := Lib.hid R5.out.self
        obtain ⟨E1, hE1⟩ : ∃ V, expB l x1 x0 = V := ⟨_, rfl⟩
        obtain ⟨E2, hE2⟩ : ∃ V, expB l x1 Q20 = V := ⟨_, rfl⟩
        obtain ⟨L1, hL1e⟩ : ∃ n, E1.length = n := ⟨_, rfl⟩
        obtain ⟨L2, hL2e⟩ : ∃ n, E2.length = n := ⟨_, rfl⟩
        have hL1 : L1 ≤ 9223372036854775807 := by have h := List.length_filter_le (fun x : Sl => decide (x1 ≤ laterF x.2.2 x0)) l; rw [show l.filter (fun x : Sl => decide (x1 ≤ laterF x.2.2 x0)) = E1 from hE1, hL1e, hHln.out] at h; omega
        have hL2 : L2 ≤ 9223372036854775807 := by have h := List.length_filter_le (fun x : Sl => decide (x1 ≤ laterF x.2.2 Q20)) l; rw [show l.filter (fun x : Sl => decide (x1 ≤ laterF x.2.2 Q20)) = E2 from hE2, hL2e, hHln.out] at h; omega
        have HE1 := Lib.hid hE1
        have HE2 := Lib.hid hE2
        have HL1 := Lib.hid hL1e
        have HL2 := Lib.hid hL2e
        clear hE1 hE2 hL1e hL2e
        refine wp_region_held_drew (S := (fun w' => Rel w5 w')) (by kernel_rfl) HS5.out.drew (fun hHeld => ?_)
        refine held_take (i := 0) (v := ?_) (some 79) rfl rfl (by kernel_rfl) (by kernel_rfl) (by kernel_rfl) (fun _ _ _ h => h) (Or.inl ⟨by rfl, ?_⟩) hHeld ?_
        rotate_left 1
        · intro w' (h : Rel w5 w'); obtain ⟨⟨y0, y1⟩, _⟩ := (HY5.out.rel h).two; go_simp; try with_reducible rfl
        try simp only [Act.put, List.setIfInBounds_toArray, List.set_cons_zero, List.set_cons_succ]
        refine held_take (i := 1) (v := ?_) (some 80) rfl rfl (by kernel_rfl) (by kernel_rfl) (by kernel_rfl) (fun _ _ _ h => h) (Or.inl ⟨by rfl, ?_⟩) hHeld ?_
        rotate_left 1
        · intro w' (h : Rel w5 w'); obtain ⟨⟨y0, y1⟩, _⟩ := (HY5.out.rel h).two; go_simp; try with_reducible rfl
        try simp only [Act.put, List.setIfInBounds_toArray, List.set_cons_zero, List.set_cons_succ]
        refine held_one (j := 2) (by kernel_rfl) rfl (fun K hK => ?_)
        try simp only [List.getElem_toArray, List.getElem_cons_succ, List.getElem_cons_zero]
        rw [if_pos (by rfl)]
        go_simp
        go_at_call 16
        (with_reducible refine (same2_at LV HLV.out hLV O4 O5 P5 hHeld).mono ?_)
        rintro e0 w20 ⟨rfl, h20⟩
        refine hK.out _ _ (hHeld.trans h20.out) (fun hHeld => ?_)
        clear hK K
        try simp only [Act.put, List.setIfInBounds_toArray, List.set_cons_zero, List.set_cons_succ]
        refine held_take (i := 3) (v := ?_) (some 82) rfl rfl (by kernel_rfl) (by kernel_rfl) (by kernel_rfl) (fun _ _ _ h => h) (Or.inl ⟨by rfl, ?_⟩) hHeld ?_
        rotate_left 1
        · intro w' (h : Rel w5 w'); obtain ⟨⟨y0, y1⟩, _⟩ := (HY5.out.rel h).two; go_simp; try with_reducible rfl
        try simp only [Act.put, List.setIfInBounds_toArray, List.set_cons_zero, List.set_cons_succ]
        refine held_take (i := 4) (v := ?_) (some 83) rfl rfl (by kernel_rfl) (by kernel_rfl) (by kernel_rfl) (fun _ _ _ h => h) (Or.inl ⟨by rfl, ?_⟩) hHeld ?_
        rotate_left 1
        · intro w' (h : Rel w5 w'); obtain ⟨⟨y0, y1⟩, _⟩ := (HY5.out.rel h).two; go_simp; try with_reducible rfl
        try simp only [Act.put, List.setIfInBounds_toArray, List.set_cons_zero, List.set_cons_succ]
        refine held_take (i := 5) (v := ?_) (some 84) rfl rfl (by kernel_rfl) (by kernel_rfl) (by kernel_rfl) (fun _ _ _ h => h) (Or.inl ⟨by rfl, ?_⟩) hHeld ?_
        rotate_left 1
        · intro w' (h : Rel w5 w'); obtain ⟨⟨y0, y1⟩, _⟩ := (HY5.out.rel h).two; go_simp; try with_reducible rfl
        try simp only [Act.put, List.setIfInBounds_toArray, List.set_cons_zero, List.set_cons_succ]
        refine held_take (i := 6) (v := ?_) (some 85) rfl rfl (by kernel_rfl) (by kernel_rfl) (by kernel_rfl) (fun _ _ _ h => h) (Or.inl ⟨by rfl, ?_⟩) hHeld ?_
        rotate_left 1
        · intro w' (h : Rel w5 w'); obtain ⟨⟨y0, y1⟩, _⟩ := (HY5.out.rel h).two; go_simp; try with_reducible rfl
        try simp only [Act.put, List.setIfInBounds_toArray, List.set_cons_zero, List.set_cons_succ]
        refine held_take (i := 7) (v := ?_) (some 86) rfl rfl (by kernel_rfl) (by kernel_rfl) (by kernel_rfl) (fun _ _ _ h => h) (Or.inl ⟨by rfl, ?_⟩) hHeld ?_
        rotate_left 1
        · intro w' (h : Rel w5 w'); obtain ⟨⟨y0, y1⟩, _⟩ := (HY5.out.rel h).two; go_simp; try with_reducible rfl
        try simp only [Act.put, List.setIfInBounds_toArray, List.set_cons_zero, List.set_cons_succ]
        refine held_take (i := 8) (v := ?_) (some 87) rfl rfl (by kernel_rfl) (by kernel_rfl) (by kernel_rfl) (fun _ _ _ h => h) (Or.inl ⟨by rfl, ?_⟩) hHeld ?_
        rotate_left 1
        · intro w' (h : Rel w5 w'); obtain ⟨⟨y0, y1⟩, _⟩ := (HY5.out.rel h).two; go_simp; try with_reducible rfl
        try simp only [Act.put, List.setIfInBounds_toArray, List.set_cons_zero, List.set_cons_succ]
        refine held_take (i := 9) (v := ?_) (some 88) rfl rfl (by kernel_rfl) (by kernel_rfl) (by kernel_rfl) (fun _ _ _ h => h) (Or.inl ⟨by rfl, ?_⟩) hHeld ?_
        rotate_left 1
        · intro w' (h : Rel w5 w'); obtain ⟨⟨y0, y1⟩, _⟩ := (HY5.out.rel h).two; go_simp; try with_reducible rfl
        try simp only [Act.put, List.setIfInBounds_toArray, List.set_cons_zero, List.set_cons_succ]
        refine held_take (i := 10) (v := ?_) (some 89) rfl rfl (by kernel_rfl) (by kernel_rfl) (by kernel_rfl) (fun _ _ _ h => h) (Or.inl ⟨by rfl, ?_⟩) hHeld ?_
        rotate_left 1
        · intro w' (h : Rel w5 w'); obtain ⟨⟨y0, y1⟩, _⟩ := (HY5.out.rel h).two; go_simp; try with_reducible rfl
        try simp only [Act.put, List.setIfInBounds_toArray, List.set_cons_zero, List.set_cons_succ]
        refine held_take (i := 11) (v := ?_) (some 90) rfl rfl (by kernel_rfl) (by kernel_rfl) (by kernel_rfl) (fun _ _ _ h => h) (Or.inl ⟨by rfl, ?_⟩) hHeld ?_
        rotate_left 1
        · intro w' (h : Rel w5 w'); obtain ⟨⟨y0, y1⟩, _⟩ := (HY5.out.rel h).two; go_simp; try with_reducible rfl
        try simp only [Act.put, List.setIfInBounds_toArray, List.set_cons_zero, List.set_cons_succ]
        refine held_take (i := 12) (v := ?_) (some 91) rfl rfl (by kernel_rfl) (by kernel_rfl) (by kernel_rfl) (fun _ _ _ h => h) (Or.inl ⟨by rfl, ?_⟩) hHeld ?_
        rotate_left 1
        · intro w' (h : Rel w5 w'); obtain ⟨⟨y0, y1⟩, _⟩ := (HY5.out.rel h).two; go_simp; try with_reducible rfl
        try simp only [Act.put, List.setIfInBounds_toArray, List.set_cons_zero, List.set_cons_succ]
        refine held_take (i := 13) (v := ?_) (some 92) rfl rfl (by kernel_rfl) (by kernel_rfl) (by kernel_rfl) (fun _ _ _ h => h) (Or.inl ⟨by rfl, ?_⟩) hHeld ?_
        rotate_left 1
        · intro w' (h : Rel w5 w'); obtain ⟨⟨y0, y1⟩, _⟩ := (HY5.out.rel h).two; go_simp; try with_reducible rfl
        try simp only [Act.put, List.setIfInBounds_toArray, List.set_cons_zero, List.set_cons_succ]
        refine held_take (i := 14) (v := ?_) (some 93) rfl rfl (by kernel_rfl) (by kernel_rfl) (by kernel_rfl) (fun _ _ _ h => h) (Or.inl ⟨by rfl, ?_⟩) hHeld ?_
        rotate_left 1
        · intro w' (h : Rel w5 w'); obtain ⟨⟨y0, y1⟩, _⟩ := (HY5.out.rel h).two; go_simp; try with_reducible rfl
        try simp only [Act.put, List.setIfInBounds_toArray, List.set_cons_zero, List.set_cons_succ]
        refine held_take (i := 16) (v := ?_) (some 95) rfl rfl (by kernel_rfl) (by kernel_rfl) (by kernel_rfl) (fun _ _ _ h => h) (Or.inl ⟨by rfl, ?_⟩) hHeld ?_
        rotate_left 1
        · intro w' (h : Rel w5 w'); obtain ⟨⟨y0, y1⟩, _⟩ := (HY5.out.rel h).two; go_simp; try with_reducible rfl
        try simp only [Act.put, List.setIfInBounds_toArray, List.set_cons_zero, List.set_cons_succ]
        refine held_take (i := 17) (v := ?_) (some 96) rfl rfl (by kernel_rfl) (by kernel_rfl) (by kernel_rfl) (fun _ _ _ h => h) (Or.inl ⟨by rfl, ?_⟩) hHeld ?_
        rotate_left 1
        · intro w' (h : Rel w5 w'); obtain ⟨⟨y0, y1⟩, _⟩ := (HY5.out.rel h).two; go_simp; try with_reducible rfl
        try simp only [Act.put, List.setIfInBounds_toArray, List.set_cons_zero, List.set_cons_succ]
        refine held_take (i := 18) (v := ?_) (some 97) rfl rfl (by kernel_rfl) (by kernel_rfl) (by kernel_rfl) (fun _ _ _ h => h) (Or.inl ⟨by rfl, ?_⟩) hHeld ?_
        rotate_left 1
        · intro w' (h : Rel w5 w'); obtain ⟨⟨y0, y1⟩, _⟩ := (HY5.out.rel h).two; go_simp; try with_reducible rfl
        try simp only [Act.put, List.setIfInBounds_toArray, List.set_cons_zero, List.set_cons_succ]
        refine held_take (i := 19) (v := ?_) (some 98) rfl rfl (by kernel_rfl) (by kernel_rfl) (by kernel_rfl) (fun _ _ _ h => h) (Or.inl ⟨by rfl, ?_⟩) hHeld ?_
        rotate_left 1
        · intro w' (h : Rel w5 w'); obtain ⟨⟨y0, y1⟩, _⟩ := (HY5.out.rel h).two; go_simp; try with_reducible rfl
        try simp only [Act.put, List.setIfInBounds_toArray, List.set_cons_zero, List.set_cons_succ]
        refine held_take (i := 20) (v := ?_) (some 99) rfl rfl (by kernel_rfl) (by kernel_rfl) (by kernel_rfl) (fun _ _ _ h => h) (Or.inl ⟨by rfl, ?_⟩) hHeld ?_
        rotate_left 1
        · intro w' (h : Rel w5 w'); obtain ⟨⟨y0, y1⟩, _⟩ := (HY5.out.rel h).two; go_simp; try with_reducible rfl
        try simp only [Act.put, List.setIfInBounds_toArray, List.set_cons_zero, List.set_cons_succ]
        refine held_one (j := 15) (by kernel_rfl) rfl (fun K hK => ?_)
        try simp only [List.getElem_toArray, List.getElem_cons_succ, List.getElem_cons_zero]
        rw [if_pos (by rfl)]
        go_simp
        go_at_call 17
        (with_reducible refine (exp2_at HH.out HSl5.out ln L1 hHln.out HE1.out HL1.out _ hHeld).mono ?_)
        rintro e0 w21 ⟨A21, c21, rfl, O21, h21⟩
        have G21 := Lib.hid (hHeld.trans h21.out)
        refine hK.out _ _ (hHeld.trans h21.out) (fun hHeld => ?_)
        clear hK K
        try simp only [Act.put, List.setIfInBounds_toArray, List.set_cons_zero, List.set_cons_succ]
        refine held_one (j := 21) (by kernel_rfl) rfl (fun K hK => ?_)
        try simp only [List.getElem_toArray, List.getElem_cons_succ, List.getElem_cons_zero]
        rw [if_pos (by rfl)]
        go_simp
        go_at_call 18
        (with_reducible refine (rexp2_at HSl5.out ln L1 hHln.out HE1.out HL1.out _ hHeld).mono ?_)
        rintro e0 w22 ⟨A22, c22, rfl, O22, h22⟩
        have G22 := Lib.hid (hHeld.trans h22.out)
        refine hK.out _ _ (hHeld.trans h22.out) (fun hHeld => ?_)
        clear hK K
        try simp only [Act.put, List.setIfInBounds_toArray, List.set_cons_zero, List.set_cons_succ]
        refine held_one (j := 22) (by kernel_rfl) rfl (fun K hK => ?_)
        try simp only [List.getElem_toArray, List.getElem_cons_succ, List.getElem_cons_zero]
        rw [if_pos (by rfl)]
        go_simp
        go_at_call 16
        (with_reducible refine (same2_at L1 HL1.out hL1 O21 O22 h22 (Lib.hid (Rel.self hHeld)).out).mono ?_)
        rintro e0 w23 ⟨rfl, h23⟩
        refine hK.out _ _ (hHeld.trans h23.out) (fun hHeld => ?_)
        clear hK K
        try simp only [Act.put, List.setIfInBounds_toArray, List.set_cons_zero, List.set_cons_succ]
        refine held_take (i := 23) (v := ?_) (some 102) rfl rfl (by kernel_rfl) (by kernel_rfl) (by kernel_rfl) (fun _ _ _ h => h) (Or.inl ⟨by rfl, ?_⟩) hHeld ?_
        rotate_left 1
        · intro w' (h : Rel w5 w'); obtain ⟨⟨y0, y1⟩, _⟩ := (HY5.out.rel h).two; go_simp; try with_reducible rfl
        try simp only [Act.put, List.setIfInBounds_toArray, List.set_cons_zero, List.set_cons_succ]
        refine held_take (i := 24) (v := ?_) (some 103) rfl rfl (by kernel_rfl) (by kernel_rfl) (by kernel_rfl) (fun _ _ _ h => h) (Or.inl ⟨by rfl, ?_⟩) hHeld ?_
        rotate_left 1
        · intro w' (h : Rel w5 w'); obtain ⟨⟨y0, y1⟩, _⟩ := (HY5.out.rel h).two; go_simp; try with_reducible rfl
        try simp only [Act.put, List.setIfInBounds_toArray, List.set_cons_zero, List.set_cons_succ]
        refine held_take (i := 25) (v := ?_) (some 104) rfl rfl (by kernel_rfl) (by kernel_rfl) (by kernel_rfl) (fun _ _ _ h => h) (Or.inl ⟨by rfl, ?_⟩) hHeld ?_
        rotate_left 1
        · intro w' (h : Rel w5 w'); obtain ⟨⟨y0, y1⟩, _⟩ := (HY5.out.rel h).two; go_simp; try with_reducible rfl
        try simp only [Act.put, List.setIfInBounds_toArray, List.set_cons_zero, List.set_cons_succ]
        refine held_take (i := 26) (v := ?_) (some 105) rfl rfl (by kernel_rfl) (by kernel_rfl) (by kernel_rfl) (fun _ _ _ h => h) (Or.inl ⟨by rfl, ?_⟩) hHeld ?_
        rotate_left 1
        · intro w' (h : Rel w5 w'); obtain ⟨⟨y0, y1⟩, _⟩ := (HY5.out.rel h).two; go_simp; try with_reducible rfl
        try simp only [Act.put, List.setIfInBounds_toArray, List.set_cons_zero, List.set_cons_succ]
        refine held_take (i := 27) (v := ?_) (some 106) rfl rfl (by kernel_rfl) (by kernel_rfl) (by kernel_rfl) (fun _ _ _ h => h) (Or.inl ⟨by rfl, ?_⟩) hHeld ?_
        rotate_left 1
        · intro w' (h : Rel w5 w'); obtain ⟨⟨y0, y1⟩, _⟩ := (HY5.out.rel h).two; go_simp; try with_reducible rfl
        try simp only [Act.put, List.setIfInBounds_toArray, List.set_cons_zero, List.set_cons_succ]
        refine held_take (i := 28) (v := ?_) (some 107) rfl rfl (by kernel_rfl) (by kernel_rfl) (by kernel_rfl) (fun _ _ _ h => h) (Or.inl ⟨by rfl, ?_⟩) hHeld ?_
        rotate_left 1
        · intro w' (h : Rel w5 w'); obtain ⟨⟨y0, y1⟩, _⟩ := (HY5.out.rel h).two; go_simp; try with_reducible rfl
        try simp only [Act.put, List.setIfInBounds_toArray, List.set_cons_zero, List.set_cons_succ]
        refine held_take (i := 29) (v := ?_) (some 108) rfl rfl (by kernel_rfl) (by kernel_rfl) (by kernel_rfl) (fun _ _ _ h => h) (Or.inl ⟨by rfl, ?_⟩) hHeld ?_
        rotate_left 1
        · intro w' (h : Rel w5 w'); obtain ⟨⟨y0, y1⟩, _⟩ := (HY5.out.rel h).two; go_simp; try with_reducible rfl
        try simp only [Act.put, List.setIfInBounds_toArray, List.set_cons_zero, List.set_cons_succ]
        refine held_take (i := 32) (v := ?_) (some 111) rfl rfl (by kernel_rfl) (by kernel_rfl) (by kernel_rfl) (fun _ _ _ h => h) (Or.inl ⟨by rfl, ?_⟩) hHeld ?_
        rotate_left 1
        · intro w' (h : Rel w5 w'); obtain ⟨⟨y0, y1⟩, _⟩ := (HY5.out.rel h).two; go_simp; try with_reducible rfl
        try simp only [Act.put, List.setIfInBounds_toArray, List.set_cons_zero, List.set_cons_succ]
        refine held_take (i := 33) (v := ?_) (some 112) rfl rfl (by kernel_rfl) (by kernel_rfl) (by kernel_rfl) (fun _ _ _ h => h) (Or.inl ⟨by rfl, ?_⟩) hHeld ?_
        rotate_left 1
        · intro w' (h : Rel w5 w'); obtain ⟨⟨y0, y1⟩, _⟩ := (HY5.out.rel h).two; go_simp; try with_reducible rfl
        try simp only [Act.put, List.setIfInBounds_toArray, List.set_cons_zero, List.set_cons_succ]
        refine held_take (i := 34) (v := ?_) (some 113) rfl rfl (by kernel_rfl) (by kernel_rfl) (by kernel_rfl) (fun _ _ _ h => h) (Or.inl ⟨by rfl, ?_⟩) hHeld ?_
        rotate_left 1
        · intro w' (h : Rel w5 w'); obtain ⟨⟨y0, y1⟩, _⟩ := (HY5.out.rel h).two; go_simp; try with_reducible rfl
        try simp only [Act.put, List.setIfInBounds_toArray, List.set_cons_zero, List.set_cons_succ]
        refine held_take (i := 35) (v := ?_) (some 114) rfl rfl (by kernel_rfl) (by kernel_rfl) (by kernel_rfl) (fun _ _ _ h => h) (Or.inl ⟨by rfl, ?_⟩) hHeld ?_
        rotate_left 1
        · intro w' (h : Rel w5 w'); obtain ⟨⟨y0, y1⟩, _⟩ := (HY5.out.rel h).two; go_simp; try with_reducible rfl
        try simp only [Act.put, List.setIfInBounds_toArray, List.set_cons_zero, List.set_cons_succ]
        refine held_one (j := 30) (by kernel_rfl) rfl (fun K hK => ?_)
        try simp only [List.getElem_toArray, List.getElem_cons_succ, List.getElem_cons_zero]
        rw [if_pos (by rfl)]
        go_simp
        go_at_call 13
        (with_reducible refine (pick13_as price 20 Q20 HQ20 HPr.out (by omega) (by omega) _).mono ?_)
        rintro e0 w24 ⟨rfl, rfl⟩
        refine hK.out _ _ hHeld (fun hHeld => ?_)
        clear hK K
        try simp only [Act.put, List.setIfInBounds_toArray, List.set_cons_zero, List.set_cons_succ]
        refine held_one (j := 31) (by kernel_rfl) rfl (fun K hK => ?_)
        try simp only [List.getElem_toArray, List.getElem_cons_succ, List.getElem_cons_zero]
        rw [if_pos (by rfl)]
        go_simp
        go_at_call 17
        (with_reducible refine (exp2_at HH.out HSl5.out ln L2 hHln.out HE2.out HL2.out _ hHeld).mono ?_)
        rintro e0 w25 ⟨A25, c25, rfl, O25, h25⟩
        refine hK.out _ _ (hHeld.trans h25.out) (fun hHeld => ?_)
        clear hK K
        try simp only [Act.put, List.setIfInBounds_toArray, List.set_cons_zero, List.set_cons_succ]
        refine held_one (j := 36) (by kernel_rfl) rfl (fun K hK => ?_)
        try simp only [List.getElem_toArray, List.getElem_cons_succ, List.getElem_cons_zero]
        rw [if_pos (by rfl)]
        go_simp
        go_at_call 13
        (with_reducible refine (pick13_as price 20 Q20 HQ20 HPr.out (by omega) (by omega) _).mono ?_)
        rintro e0 w26 ⟨rfl, rfl⟩
        refine hK.out _ _ hHeld (fun hHeld => ?_)
        clear hK K
        try simp only [Act.put, List.setIfInBounds_toArray, List.set_cons_zero, List.set_cons_succ]
        refine held_one (j := 37) (by kernel_rfl) rfl (fun K hK => ?_)
        try simp only [List.getElem_toArray, List.getElem_cons_succ, List.getElem_cons_zero]
        rw [if_pos (by rfl)]
        go_simp
        go_at_call 18
        (with_reducible refine (rexp2_at HSl5.out ln L2 hHln.out HE2.out HL2.out _ hHeld).mono ?_)
        rintro e0 w27 ⟨A27, c27, rfl, O27, h27⟩
        refine hK.out _ _ (hHeld.trans h27.out) (fun hHeld => ?_)
        clear hK K
        try simp only [Act.put, List.setIfInBounds_toArray, List.set_cons_zero, List.set_cons_succ]
        refine held_one (j := 38) (by kernel_rfl) rfl (fun K hK => ?_)
        try simp only [List.getElem_toArray, List.getElem_cons_succ, List.getElem_cons_zero]
        rw [if_pos (by rfl)]
        go_simp
        go_at_call 16
        (with_reducible refine (same2_at L2 HL2.out hL2 O25 O27 h27 (Lib.hid (Rel.self hHeld)).out).mono ?_)
        rintro e0 w28 ⟨rfl, h28⟩
        refine hK.out _ _ (hHeld.trans h28.out) (fun hHeld => ?_)
        clear hK K
        try simp only [Act.put, List.setIfInBounds_toArray, List.set_cons_zero, List.set_cons_succ]
        refine held_take (i := 39) (v := ?_) (some 118) rfl rfl (by kernel_rfl) (by kernel_rfl) (by kernel_rfl) (fun _ _ _ h => h) (Or.inl ⟨by rfl, ?_⟩) hHeld ?_
        rotate_left 1
        · intro w' (h : Rel w5 w'); obtain ⟨⟨y0, y1⟩, _⟩ := (HY5.out.rel h).two; go_simp; try with_reducible rfl
        try simp only [Act.put, List.setIfInBounds_toArray, List.set_cons_zero, List.set_cons_succ]
        refine held_take (i := 40) (v := ?_) (some 119) rfl rfl (by kernel_rfl) (by kernel_rfl) (by kernel_rfl) (fun _ _ _ h => h) (Or.inl ⟨by rfl, ?_⟩) hHeld ?_
        rotate_left 1
        · intro w' (h : Rel w5 w'); obtain ⟨⟨y0, y1⟩, _⟩ := (HY5.out.rel h).two; go_simp; try with_reducible rfl
        try simp only [Act.put, List.setIfInBounds_toArray, List.set_cons_zero, List.set_cons_succ]
        refine wpAnyH_done (by kernel_rfl) ?_ _
        go_wp2_with (fail)
        go_roundw
        case rel => exact ⟨m + 1, by go_num, by omega, Lib.hid (RX5.out.trans hHeld)⟩
        case measure => simp [RowKit.intOf]; omega
end Go.Proofs.Ytfplhpkolcgpiaa
