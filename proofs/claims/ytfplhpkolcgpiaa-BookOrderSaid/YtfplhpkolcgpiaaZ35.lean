/- The law of layer 13 on the order of two puts, walked. -/
import Derived.Test.YtfplhpkolcgpiaaZL
import Derived.Test.YtfplhpkolcgpiaaZ00
import Derived.Test.YtfplhpkolcgpiaaZ01
import Derived.Test.YtfplhpkolcgpiaaZ07
import Derived.Test.YtfplhpkolcgpiaaZ10
import Derived.Test.YtfplhpkolcgpiaaZ14
import Derived.Test.YtfplhpkolcgpiaaZ15
import Derived.Test.YtfplhpkolcgpiaaZ16
import Derived.Test.YtfplhpkolcgpiaaZ18
import Derived.Test.YtfplhpkolcgpiaaZ19
import Derived.Test.YtfplhpkolcgpiaaZ23
import Derived.Test.YtfplhpkolcgpiaaZ24
import Derived.Test.YtfplhpkolcgpiaaZ34
namespace Go.Proofs.Ytfplhpkolcgpiaa
open Go.RowKit Go.Lib
set_option linter.unusedVariables false
set_option linter.unusedSimpArgs false
theorem put_len {b : List Sl} {s : List UInt8} {p k : Int} (ho : putOk s p k = true) (h8 : b.length < 8) : putE b s p k = 0 ∧ putB b s p k = .ok (putV b s p k) ∧ (putV b s p k).length = b.length + (if hasB b s then 0 else 1) := by
  rcases put_is (b := b) ho with ⟨h1, h2⟩ | ⟨_, h, _⟩
  · refine ⟨h1, h2, ?_⟩
    rcases put_cases h2 with ⟨_, ⟨hh, hv⟩ | ⟨hh, _, hv⟩⟩
    · rw [hv, hh, repl_len]; rfl
    · rw [hv, hh, List.length_append]; rfl
  · omega
theorem has_other {b c : List Sl} {s t : List UInt8} {p k : Int} (hp : putB b s p k = .ok c) (hst : t ≠ s) : hasB c t = hasB b t := by
  rw [Bool.eq_iff_iff, hasB_iff, hasB_iff]
  constructor
  · rintro ⟨x, hx, he⟩
    exact ⟨x, (put_other hp (by rw [he]; exact hst)).1 hx, he⟩
  · rintro ⟨x, hx, he⟩
    exact ⟨x, (put_other hp (by rw [he]; exact hst)).2 hx, he⟩
theorem order_facts {b V X W Y : List Sl} (hb : bookOk b) (h6 : b.length ≤ 6) {s t : List UInt8} (hst : s ≠ t) {p k p' k' : Int} (o1 : putOk s p k = true) (o2 : putOk t p' k' = true) (hV : putV b s p k = V) (hX : putV V t p' k' = X) (hW : putV b t p' k' = W) (hY : putV W s p k = Y) :
    (putE b s p k = 0 ∧ putE V t p' k' = 0 ∧ putE b t p' k' = 0 ∧ putE W s p k = 0) ∧ (bookOk V ∧ bookOk X ∧ bookOk W ∧ bookOk Y) ∧ X.length = Y.length ∧ ∀ x ∈ X, x ∈ Y := by
  obtain ⟨a1, a2, a3⟩ := put_len (b := b) o1 (by omega)
  rw [hV] at a2 a3
  have v7 : V.length < 8 := by rw [a3]; split <;> omega
  obtain ⟨b1, b2, b3⟩ := put_len (b := V) o2 v7
  rw [hX] at b2 b3
  obtain ⟨c1, c2, c3⟩ := put_len (b := b) o2 (by omega)
  rw [hW] at c2 c3
  have w7 : W.length < 8 := by rw [c3]; split <;> omega
  obtain ⟨d1, d2, d3⟩ := put_len (b := W) o1 w7
  rw [hY] at d2 d3
  have okV := book_put hb a2
  have okX := book_put okV b2
  have okW := book_put hb c2
  have okY := book_put okW d2
  refine ⟨⟨a1, b1, c1, d1⟩, ⟨okV, okX, okW, okY⟩, ?_, fun x hx => ?_⟩
  · rw [b3, d3, a3, c3, has_other a2 (Ne.symm hst), has_other c2 hst]; omega
  · by_cases e : x.1 = t
    · have h1 := one_mem okX.1 hx (put_has b2) e
      rw [h1]
      exact (put_other d2 (x := (t, p', k')) (Ne.symm hst)).2 (put_has c2)
    · have h2 := (put_other b2 e).1 hx
      by_cases e2 : x.1 = s
      · rw [one_mem okV.1 h2 (put_has a2) e2]; exact put_has d2
      · exact (put_other d2 e2).2 ((put_other c2 e).2 ((put_other a2 e2).1 h2))
theorem any_next {Y : List Sl} {x : Sl} {k : Nat} (h : k < Y.length) : (Y.take (k + 1)).any (fun y => decide (x = y)) = ((Y.take k).any (fun y => decide (x = y)) || decide (x = Y[k])) := by
  rw [take_next h, List.any_append]; simp
set_option maxRecDepth 100000 in
set_option maxHeartbeats 8000000 in
theorem bookorder_any (H : BookOk) (A : Option Addr) (c : Nat) (zs : List Tr) (one two price : Int) (w : World) (hr : Rel w w) (hz : TripsIn w A zs.length zs) (h0 : in64 one) (h1 : in64 two) (h2 : in64 price) :
    Calls Try.prog 8 #[.slice A zs.length c, .int .i64 one, .int .i64 two, .int .i64 price] w fun e w' => e = .returned (.bool true) ∧ Rel w w' := by
  have HH := Lib.hid H
  have HA := Lib.hid (awake13_any H w w hr)
  have ns := seller_name (pk one 60) (pk_bd one 60 (by omega)).1 (pk_bd one 60 (by omega)).2
  have nt := seller_name (pk two 60) (pk_bd two 60 (by omega)).1 (pk_bd two 60 (by omega)).2
  obtain ⟨s, hs⟩ : ∃ s, sellerL (pk one 60) = s := ⟨_, rfl⟩
  obtain ⟨t, ht⟩ : ∃ s, sellerL (pk two 60) = s := ⟨_, rfl⟩
  rw [hs] at ns
  rw [ht] at nt
  have hb3 := bl_is s t
  obtain ⟨S, hS⟩ : ∃ S, B s = S := ⟨_, rfl⟩
  obtain ⟨T, hT⟩ : ∃ S, B t = S := ⟨_, rfl⟩
  rw [hS, hT] at hb3
  have CS := Lib.hid (sel_at (z := one) (S := S) (by rw [hs, hS]) h0)
  have CT := Lib.hid (sel_at (z := two) (S := T) (by rw [ht, hT]) h1)
  have HS := Lib.hid hS
  have HT := Lib.hid hT
  have HLs := Lib.hid (bname_len ns)
  have HLt := Lib.hid (bname_len nt)
  obtain ⟨b, hb⟩ : ∃ b, bookS zs = b := ⟨_, rfl⟩
  have HBk := Lib.hid (fun (w1 : World) (h : Rel w w1) => book13_any A c zs w1 h.self (hz.rel h))
  rw [hb] at HBk
  have hok : bookOk b := by rw [← hb]; exact bookS_ok zs
  have hp := pk_bd price 2500 (by omega)
  obtain ⟨P, hP⟩ : ∃ P, pk price 2500 = P := ⟨_, rfl⟩
  rw [hP] at hp
  have HP := Lib.hid hP
  obtain ⟨hp0, hp1⟩ := hp
  obtain ⟨N, hN⟩ : ∃ N, 1 + P = N := ⟨_, rfl⟩
  have HNp := Lib.hid hN
  have n0 : 1 ≤ N := by omega
  have n1 : N ≤ 2500 := by omega
  have I2 := Lib.hid h2
  have HOk := Lib.hid hok
  have O1 := Lib.hid (show putOk s N 50 = true from put_ok_of ns (by omega) (by omega))
  have O2 := Lib.hid (show putOk t (N + 1) 51 = true from put_ok_of nt (by omega) (by omega))
  obtain ⟨n, hn⟩ : ∃ n, b.length = n := ⟨_, rfl⟩
  have HN := Lib.hid hn
  have hn8 : n ≤ 8 := by rw [← hn]; exact hok.2.1
  rw [hn] at HBk
  clear hb hs ht hS hT hP hN ns nt h0 h1 h2 H hr hz hn hok
  go_enter Try.func8, Try.ntmps8
  go_upto_region 2 with (go_at_call 10; (with_reducible refine HA.out.mono ?_); rintro e w1 ⟨rfl, r1⟩; have R1 := Lib.hid r1; clear r1)
  go_upto_region 3 with (go_at_call 11; (with_reducible refine (HBk.out _ R1.out).mono ?_); rintro e w2 ⟨A2, c2, rfl, s2, r2⟩; have S2 := Lib.hid s2; have U2 := Lib.hid r2.self; have R2 := Lib.hid (R1.out.trans r2); clear s2 r2)
  go_upto_region 4 with (go_at_call 12; (with_reducible refine (CS.out _ U2.out).mono ?_); rintro e w3 ⟨rfl, r3⟩; have Q3 := Lib.hid r3.out; have U3 := Lib.hid r3.out.self; clear r3)
  go_upto_region 5 with (go_at_call 12; (with_reducible refine (CT.out _ U3.out).mono ?_); rintro e w4 ⟨rfl, r4⟩; have Q4 := Lib.hid (Q3.out.trans r4.out); clear r4)
  have S4 := Lib.hid (S2.out.rel Q4.out)
  have R4 := Lib.hid (R2.out.trans Q4.out)
  have U4 := Lib.hid Q4.out.self
  clear HA HBk CS CT R1 R2 S2 U2 U3 Q3 Q4
  by_cases hst : s = t
  · rw [decide_eq_true hst] at hb3
    clear hst
    go_wp2_with (fail)
    go_ret
    exact ⟨rfl, R4.out⟩
  rw [decide_eq_false hst] at hb3
  have HSt := Lib.hid hst
  clear hst
  by_cases h6 : 6 < n
  · have h6' : decide ((6 : Int) < (n : Int)) = true := decide_eq_true (by omega)
    go_wp2_with (fail)
    go_ret
    exact ⟨rfl, R4.out⟩
  have h6' : decide ((6 : Int) < (n : Int)) = false := decide_eq_false (by omega)
  have h7 : n ≤ 6 := by omega
  obtain ⟨V, hV⟩ : ∃ V, putV b s N 50 = V := ⟨_, rfl⟩
  obtain ⟨X, hX⟩ : ∃ X, putV V t (N + 1) 51 = X := ⟨_, rfl⟩
  obtain ⟨W1, hW⟩ : ∃ W, putV b t (N + 1) 51 = W := ⟨_, rfl⟩
  obtain ⟨Y, hY⟩ : ∃ Y, putV W1 s N 50 = Y := ⟨_, rfl⟩
  obtain ⟨⟨f1, f2, f3, f4⟩, ⟨g1, g2, g3, g4⟩, hXY, hin⟩ := order_facts HOk.out (by rw [HN.out]; exact h7) HSt.out O1.out O2.out hV hX hW hY
  obtain ⟨lV, hlV⟩ : ∃ n, V.length = n := ⟨_, rfl⟩
  obtain ⟨lW, hlW⟩ : ∃ n, W1.length = n := ⟨_, rfl⟩
  obtain ⟨lY, hlY⟩ : ∃ n, Y.length = n := ⟨_, rfl⟩
  rw [hlY] at hXY
  have HlX := Lib.hid hXY
  have HlY := Lib.hid hlY
  have HIn := Lib.hid hin
  have HBack := Lib.hid (fun (h : hasB b s = false) => show dropB V s = b from by
    have h1 := (put_new (p := N) (k := 50) O1.out h (by rw [HN.out]; omega)).1
    rw [← hV, h1]; exact drop_back h N 50)
  have HlV := Lib.hid hlV
  have HOv := Lib.hid g1
  have hlY8 : lY ≤ 8 := by rw [← hlY]; exact g4.2.1
  have C1 := Lib.hid (fun (W : World) (h : Rel w4 W) => put_at HH.out HS.out HLs.out S4.out hV f1 g1 n lV HN.out hlV W h)
  have C2 := Lib.hid (fun (W : World) (A : Option Addr) (c : Nat) (h : SlArg W A c V) (hr : Rel W W) => put_at HH.out HT.out HLt.out h hX f2 g2 lV lY hlV hXY W hr)
  have C3 := Lib.hid (fun (W : World) (h : Rel w4 W) => put_at HH.out HT.out HLt.out S4.out hW f3 g3 n lW HN.out hlW W h)
  have C4 := Lib.hid (fun (W : World) (A : Option Addr) (c : Nat) (h : SlArg W A c W1) (hr : Rel W W) => put_at HH.out HS.out HLs.out h hY f4 g4 lW lY hlW hlY W hr)
  clear hV hX hW hY f1 f2 f3 f4 g1 g2 g3 g4 hXY hin hlV hlW hlY
  go_upto_region 8 with (go_at_call 13; (with_reducible refine (pick13_as price 2500 P HP I2.out (by omega) (by omega) _).mono ?_); rintro e w9 ⟨rfl, rfl⟩)
  rw [HNp.out]
  clear HNp HP I2 hp0 hp1
  go_upto_region 9 with (go_at_call 14; (with_reducible refine (C1.out _ U4.out).mono ?_); rintro e w5 ⟨A5, c5, rfl, s5, r5⟩; have S5 := Lib.hid s5.out; have Q5 := Lib.hid r5.out; have U5 := Lib.hid r5.out.self; clear s5 r5)
  go_upto_region 10 with (go_at_call 14; (with_reducible refine (C2.out _ _ _ S5.out U5.out).mono ?_); rintro e w6 ⟨A6, c6, rfl, s6, r6⟩; have S6 := Lib.hid s6.out; have Q6 := Lib.hid (Q5.out.trans r6.out); clear s6 r6)
  go_upto_region 11 with (go_at_call 14; (with_reducible refine (C3.out _ Q6.out).mono ?_); rintro e w7 ⟨A7, c7, rfl, s7, r7⟩; have S7 := Lib.hid s7.out; have Q7 := Lib.hid (Q6.out.trans r7.out); have T7 := Lib.hid (S6.out.rel r7.out); have U7 := Lib.hid r7.out.self; clear s7 r7)
  go_upto_region 12 with (go_at_call 14; (with_reducible refine (C4.out _ _ _ S7.out U7.out).mono ?_); rintro e w8 ⟨A8, c8, rfl, s8, r8⟩; have S8 := Lib.hid s8.out; have Q8 := Lib.hid (Q7.out.trans r8.out); have T8 := Lib.hid (T7.out.rel r8.out); have U8 := Lib.hid r8.out.self; clear s8 r8)
  clear C2 C3 C4 S5 S6 S7 T7 U5 U7 Q5 Q6 Q7
  have R8 := Lib.hid (R4.out.trans Q8.out)
  have Z8 := Lib.hid (S4.out.rel Q8.out)
  go_wp2_with (fail)
  go_loopw [20, 21, 22] (fun i _ _ wr => ∃ (j : Nat), i = .int .i64 (j : Int) ∧ j ≤ lY ∧ Hid (Rel w8 wr)) (fun i _ _ _ => lY - (RowKit.intOf i).toNat)
  case atStart => exact ⟨0, rfl, by omega, U8⟩
  case round =>
    obtain ⟨j, rfl, hj, HRo⟩ := hrel
    obtain ⟨wo, hwo⟩ : ∃ wo, wo = wr := ⟨_, rfl⟩
    subst hwo
    by_cases hlt : j < lY
    · have hlb : j < X.length := by rw [HlX.out]; exact hlt
      have hxin := HIn.out X[j] (List.getElem_mem hlb)
      obtain ⟨x, hx⟩ : ∃ x, X[j] = x := ⟨_, rfl⟩
      rw [hx] at hxin
      have HXx := Lib.hid hx
      have HXin := Lib.hid (show Y.any (fun y => decide (x = y)) = true from List.any_eq_true.2 ⟨x, hxin, decide_eq_true rfl⟩)
      have hi : (j : Int) < (lY : Int) := by omega
      clear hx hxin
      go_wp2_with (fail)
      go_loopw [21, 22] (fun h k wr => ∃ (kk : Nat) (q : Bool), h = .bool q ∧ k = .int .i64 (kk : Int) ∧ kk ≤ lY ∧ Hid ((Y.take kk).any (fun y => decide (x = y)) = q) ∧ Hid (Rel wo wr)) (fun _ k _ => lY - (RowKit.intOf k).toNat)
      case atStart => exact ⟨0, false, rfl, rfl, by omega, Lib.hid rfl, Lib.hid HRo.out.self⟩
      case round =>
        obtain ⟨kk, q, rfl, rfl, hkk, HQ, HRw⟩ := hrel
        have RW := Lib.hid (HRo.out.trans HRw.out)
        by_cases hlk : kk < lY
        · have hlY : kk < Y.length := by rw [HlY.out]; exact hlk
          have HTn := Lib.hid (any_next (x := x) hlY)
          have hik : (kk : Int) < (lY : Int) := by omega
          cases q with
          | true =>
            have HQ2 := Lib.hid (show (Y.take (kk + 1)).any (fun y => decide (x = y)) = true from by rw [HTn.out, HQ.out]; rfl)
            go_upto_region 21 with (fail)
            go_quiet (fail)
            all_goals
              go_wp2_with (fail)
              go_roundw
              case rel => exact ⟨kk + 1, true, rfl, by go_num, by omega, HQ2, Lib.hid (HRw.out.drewN _)⟩
              case measure => simp [RowKit.intOf]; omega
          | false =>
            obtain ⟨g, off, x', hA6, _, hx', k0, k1, k2⟩ := slot_at T8.out.2.2.2.2 RW.out j hlb
            rw [HXx.out] at hx'
            subst hx'
            obtain ⟨g', off', y, hA8, _, hy, q0, q1, q2⟩ := slot_at S8.out.2.2.2.2 RW.out kk hlY
            rw [hy] at HTn
            obtain ⟨xs, hxs⟩ : ∃ s, B x.1 = s := ⟨_, rfl⟩
            obtain ⟨xp, hxp⟩ : ∃ s, x.2.1 = s := ⟨_, rfl⟩
            obtain ⟨xt, hxt⟩ : ∃ s, x.2.2 = s := ⟨_, rfl⟩
            obtain ⟨ys, hys⟩ : ∃ s, B y.1 = s := ⟨_, rfl⟩
            obtain ⟨yp, hyp⟩ : ∃ s, y.2.1 = s := ⟨_, rfl⟩
            obtain ⟨yt, hyt⟩ : ∃ s, y.2.2 = s := ⟨_, rfl⟩
            have EQ := fun W => slot_is x y xs ys xp xt yp yt ⟨hxs, hxp, hxt⟩ ⟨hys, hyp, hyt⟩ W
            rw [hxs] at k0
            rw [hxp] at k1
            rw [hxt] at k2
            rw [hys] at q0
            rw [hyp] at q1
            rw [hyt] at q2
            clear hy hxs hxp hxt hys hyp hyt
            obtain ⟨d, hd⟩ : ∃ d, decide (x = y) = d := ⟨_, rfl⟩
            rw [hd] at EQ
            have HQ2 := Lib.hid (show (Y.take (kk + 1)).any (fun y => decide (x = y)) = d from by rw [HTn.out, HQ.out, hd]; rfl)
            clear hd HTn
            subst hA6
            subst hA8
            go_upto_region 21 with (fail)
            go_quiet (fail)
            all_goals
              go_wp2_with (fail)
              go_roundw
              case rel => exact ⟨kk + 1, d, rfl, by go_num, by omega, HQ2, Lib.hid (HRw.out.drewN _)⟩
              case measure => simp [RowKit.intOf]; omega
        · have hkl : kk = lY := by omega
          subst hkl
          have hq : q = true := by rw [← HQ.out, ← HlY.out, List.take_length]; exact HXin.out
          subst hq
          go_wp2_with (fail)
          go_roundw
          case rel => exact ⟨j + 1, by go_num, by omega, RW⟩
          case measure => simp [RowKit.intOf]; omega
    · have hjl : j = lY := by omega
      subst hjl
      have Z9 := Lib.hid (Z8.out.rel HRo.out)
      have U9 := Lib.hid HRo.out.self
      have Q9 := Lib.hid (Q8.out.trans HRo.out)
      have R9 := Lib.hid (R8.out.trans HRo.out)
      go_wp2_with (fail)
      go_loopw [23, 24] (fun h i wr => ∃ (kk : Nat) (q : Bool), h = .bool q ∧ i = .int .i64 (kk : Int) ∧ kk ≤ n ∧ Hid (hasB (b.take kk) s = q) ∧ Hid (Rel wo wr)) (fun _ i _ => n - (RowKit.intOf i).toNat)
      case atStart => exact ⟨0, false, rfl, rfl, by omega, Lib.hid rfl, U9⟩
      case round =>
        obtain ⟨kk, q, rfl, rfl, hkk, HQ, HRw⟩ := hrel
        by_cases hlk : kk < n
        · have hlb : kk < b.length := by rw [HN.out]; exact hlk
          have HTn := Lib.hid (has_next (s := s) hlb)
          have hik : (kk : Int) < (n : Int) := by omega
          cases q with
          | true =>
            have HQ2 := Lib.hid (show hasB (b.take (kk + 1)) s = true from by rw [HTn.out, HQ.out]; rfl)
            go_wp2_with (fail)
            go_roundw
            case rel => exact ⟨kk + 1, true, rfl, by go_num, by omega, HQ2, HRw⟩
            case measure => simp [RowKit.intOf]; omega
          | false =>
            obtain ⟨g, off, y, hA8, _, hy, q0, q1, q2⟩ := slot_at Z9.out.2.2.2.2 HRw.out kk hlb
            rw [hy] at HTn
            have hbl := bl_is y.1 s
            obtain ⟨ys, hys⟩ : ∃ s, B y.1 = s := ⟨_, rfl⟩
            rw [hys] at q0
            rw [hys, HS.out] at hbl
            clear hy hys q1 q2
            obtain ⟨d, hd⟩ : ∃ d, decide (y.1 = s) = d := ⟨_, rfl⟩
            rw [hd] at hbl
            have HQ2 := Lib.hid (show hasB (b.take (kk + 1)) s = d from by rw [HTn.out, HQ.out, hd]; rfl)
            clear hd HTn
            subst hA8
            go_wp2_with (fail)
            go_roundw
            case rel => exact ⟨kk + 1, d, rfl, by go_num, by omega, HQ2, HRw⟩
            case measure => simp [RowKit.intOf]; omega
        · have hkl : kk = n := by omega
          subst hkl
          have HQ2 := Lib.hid (show hasB b s = q from by rw [← HQ.out, ← HN.out, List.take_length])
          have R10 := Lib.hid (R9.out.trans HRw.out)
          have C10 := Lib.hid (C1.out wr (Q9.out.trans HRw.out))
          have Z10 := Lib.hid (Z9.out.rel HRw.out)
          clear C1
          go_upto_region 30 with (go_at_call 14; (with_reducible refine C10.out.mono ?_); rintro e w11 ⟨A11, c11, rfl, s11, r11⟩; have S11 := Lib.hid s11.out; have R11 := Lib.hid (R10.out.trans r11.out); have Z11 := Lib.hid (Z10.out.rel r11.out); have U11 := Lib.hid r11.out.self; clear s11 r11)
          cases q with
          | true =>
            go_wp2_with (fail)
            go_ret
            exact ⟨rfl, R11.out⟩
          | false =>
            have C11 := Lib.hid (drop_at HH.out HS.out HLs.out S11.out HOv.out (HBack.out HQ2.out) lV kk HlV.out HN.out w11 U11.out)
            go_wp2_with (first
              | (go_at_call 19; (with_reducible refine C11.out.mono ?_); rintro e w12 ⟨A12, c12, rfl, s12, r12⟩; have S12 := Lib.hid s12.out; have Q12 := Lib.hid r12.out; clear s12 r12)
              | (go_at_call 16; (with_reducible refine (same_of kk HN.out Z11.out S12.out Q12.out).mono ?_); rintro e w13 ⟨rfl, r13⟩; have Q13 := Lib.hid (Q12.out.trans r13.out); clear r13))
            go_ret
            exact ⟨rfl, R11.out.trans Q13.out⟩
end Go.Proofs.Ytfplhpkolcgpiaa
