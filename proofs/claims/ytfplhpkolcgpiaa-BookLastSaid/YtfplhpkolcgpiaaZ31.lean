/- The law of layer 13 on what was put last (the stage's theorem), walked. -/
import Derived.Test.YtfplhpkolcgpiaaZL
import Derived.Test.YtfplhpkolcgpiaaZ00
import Derived.Test.YtfplhpkolcgpiaaZ01
import Derived.Test.YtfplhpkolcgpiaaZ07
import Derived.Test.YtfplhpkolcgpiaaZ10
import Derived.Test.YtfplhpkolcgpiaaZ14
import Derived.Test.YtfplhpkolcgpiaaZ15
import Derived.Test.YtfplhpkolcgpiaaZ16
import Derived.Test.YtfplhpkolcgpiaaZ18
import Derived.Test.YtfplhpkolcgpiaaZ19
import Derived.Test.YtfplhpkolcgpiaaZ21
import Derived.Test.YtfplhpkolcgpiaaZ23
import Derived.Test.YtfplhpkolcgpiaaZ29
import Derived.Test.YtfplhpkolcgpiaaZ30
namespace Go.Proofs.Ytfplhpkolcgpiaa
open Go.RowKit Go.Lib
set_option linter.unusedVariables false
set_option linter.unusedSimpArgs false
theorem many_next {b : List Sl} {s : List UInt8} {j : Nat} (h : j < b.length) : manyB (b.take (j + 1)) s = manyB (b.take j) s + (if b[j].1 = s then 1 else 0) := by
  unfold manyB
  rw [take_next h, List.countP_append]
  by_cases e : b[j].1 = s
  · rw [if_pos e]; simp [e]
  · rw [if_neg e]; simp [e]
theorem offs_of_book {b : List Sl} (h : bookOk b) : offsOk (offB b) = true := by
  rw [offs_iff]
  refine ⟨by rw [off_len]; exact h.2.1, fun i hi => ?_⟩
  rw [off_len] at hi
  have e : ∀ k (hk : k < (offB b).length) (hk2 : k < b.length), (offB b)[k] = (b[k].1, b[k].2.1) := fun k hk hk2 => List.getElem_map ..
  refine ⟨?_, fun j hj hji => ?_⟩
  · rw [e i _ hi]
    have h1 := h.2.2 b[i] (List.getElem_mem hi)
    unfold putOk at h1
    simp only [Bool.and_eq_true, decide_eq_true_eq] at h1
    unfold offOk
    simp only [Bool.and_eq_true, decide_eq_true_eq]
    exact ⟨h1.1.1, h1.1.2⟩
  · rw [e i _ hi, e j _ (by omega)]
    intro he
    have h1 := h.1
    unfold oneB at h1
    have h2 := (List.pairwise_iff_getElem.1 h1) j i (by rw [List.length_map]; omega) (by rw [List.length_map]; exact hi) hji
    rw [List.getElem_map, List.getElem_map] at h2
    exact h2 he
theorem off_arg {w : World} {base : Nat} {A : Option Addr} {c : Nat} {l : List Sn} (h : FfOwn w base (.slice A l.length c) l) (hf : OffsFit l) : OffArg w A c l := by
  refine ⟨?_, ?_, hf, fun i hi => ?_⟩
  · rcases h.2 with ⟨h0, h1⟩ | ⟨g, cap, cur, hv, _, _, hn, _⟩
    · omega
    · injection hv with _ _ hv
      omega
  · obtain ⟨A', c', e, hc⟩ := h.slice_of
    injection e with _ _ e
    omega
  · obtain ⟨g, off, e, hl, hc⟩ := RowOwn.at cl2_len h rfl i hi
    have c0 := hc 0 (by omega)
    have c1 := hc 1 (by omega)
    exact ⟨g, off, e, hl, c0, c1⟩
theorem offs_right (H : BookOk) {w0 : World} {A : Option Addr} {c : Nat} {b : List Sl} (h : SlArg w0 A c b) (hb : bookOk b) (n : Nat) (hn : b.length = n) (W : World) (hr : Rel w0 W) :
    Calls Try.prog 21 #[.slice A n c] W fun e w' => ∃ A2 c2, e = .returned (.slice A2 n c2) ∧ Hid (OffArg w' A2 c2 (offB b)) ∧ Hid (Rel W w') := by
  have h1 := H.2.2.2.1 b A c W hr.self (h.rel hr)
  have hl := off_len b
  rw [hl, hn] at h1
  exact h1.mono fun e w' ⟨A, c, he, hO, hr2⟩ => ⟨A, c, he, Lib.hid (off_arg (base := W.heap.size) (by rw [hl, hn]; exact hO) (offs_fit (offs_of_book hb))), Lib.hid hr2⟩
theorem right_of {w0 : World} {A : Option Addr} {c : Nat} {b : List Sl} (hb : bookOk b) (n : Nat) (hn : b.length = n) (W : World) (h : OffArg W A c (offB b)) (hr : Rel w0 W) :
    Calls Try.prog 26 #[.slice A n c] W fun e w' => e = .returned (.bool true) ∧ Hid (Rel W w') := by
  have h1 := rright9_any A c (offB b) W W hr.self h
  rw [off_len, hn, offs_of_book hb] at h1
  exact h1.mono fun e w' ⟨he, hr2⟩ => ⟨he, Lib.hid hr2⟩
/-- Of two puts. -/
theorem last_facts {b : List Sl} (hb : bookOk b) {s t : List UInt8} {p k : Int} (h1 : putOk s p k = true) (h2 : putOk t (p + 1) k = true) (he : putE b s p k = 0) (D : List Sl) (hD : (putE (putV b s p k) t (p + 1) k = 0 ∧ D = putV (putV b s p k) t (p + 1) k) ∨ (putE (putV b s p k) t (p + 1) k = 50 ∧ D = putV b s p k)) :
    bookOk (putV b s p k) ∧ bookOk D ∧ manyB D s = 1 ∧ manyB D t ≤ 1 ∧ (dropB D t).length + manyB D t = D.length ∧ (s ≠ t → ∀ x ∈ D, x.1 = s → x = (s, p, k)) := by
  have hc := put_ok0 hb he
  have e1 : putB b s p k = .ok (putV b s p k) := by
    rcases put_is (b := b) h1 with h | h
    · exact h.2
    · omega
  have hin := put_has e1
  obtain ⟨C, hC⟩ : ∃ C, putV b s p k = C := ⟨_, rfl⟩
  rw [hC] at hc e1 hin hD
  rw [hC]
  have main : bookOk D ∧ hasB D s = true ∧ (s ≠ t → ∀ x ∈ D, x.1 = s → x = (s, p, k)) := by
    rcases hD with ⟨h0, rfl⟩ | ⟨h0, rfl⟩
    · have hd := put_ok0 hc h0
      have e2 : putB C t (p + 1) k = .ok (putV C t (p + 1) k) := by
        rcases put_is (b := C) h2 with h | h
        · exact h.2
        · omega
      refine ⟨hd, ?_, fun hst x hx hxs => ?_⟩
      · by_cases hst : s = t
        · exact hasB_iff.2 ⟨_, put_has e2, hst.symm⟩
        · exact hasB_iff.2 ⟨(s, p, k), (put_other e2 (x := (s, p, k)) hst).2 hin, rfl⟩
      · have hxc := (put_other e2 (x := x) (by rw [hxs]; exact hst)).1 hx
        exact one_mem hc.1 hxc hin hxs
    · exact ⟨hc, hasB_iff.2 ⟨_, hin, rfl⟩, fun hst x hx hxs => one_mem hc.1 hx hin hxs⟩
  obtain ⟨m1, m2, m3⟩ := main
  refine ⟨hc, m1, by rw [many_one m1.1, m2]; rfl, ?_, drop_len m1.1 t, m3⟩
  rw [many_one m1.1]
  split <;> omega
set_option maxRecDepth 100000 in
set_option maxHeartbeats 8000000 in
theorem booklast_any (H : BookOk) (A : Option Addr) (c : Nat) (zs : List Tr) (one two price now : Int) (w : World) (hr : Rel w w) (hz : TripsIn w A zs.length zs) (h0 : in64 one) (h1 : in64 two) (h2 : in64 price) (h3 : in64 now) :
    Calls Try.prog 5 #[.slice A zs.length c, .int .i64 one, .int .i64 two, .int .i64 price, .int .i64 now] w fun e w' => e = .returned (.bool true) ∧ Rel w w' := by
  have HH := Lib.hid H
  have HA := Lib.hid (awake13_any H w w hr)
  have ns := seller_name (pk one 60) (pk_bd one 60 (by omega)).1 (pk_bd one 60 (by omega)).2
  have nt := seller_name (pk two 60) (pk_bd two 60 (by omega)).1 (pk_bd two 60 (by omega)).2
  obtain ⟨s, hs⟩ : ∃ s, sellerL (pk one 60) = s := ⟨_, rfl⟩
  obtain ⟨t, ht⟩ : ∃ s, sellerL (pk two 60) = s := ⟨_, rfl⟩
  rw [hs] at ns
  rw [ht] at nt
  obtain ⟨S, hS⟩ : ∃ S, B s = S := ⟨_, rfl⟩
  obtain ⟨T, hT⟩ : ∃ S, B t = S := ⟨_, rfl⟩
  have CS := Lib.hid (sel_at (z := one) (S := S) (by rw [hs, hS]) h0)
  have CT := Lib.hid (sel_at (z := two) (S := T) (by rw [ht, hT]) h1)
  have HS := Lib.hid hS
  have HT := Lib.hid hT
  have HLs := Lib.hid (bname_len ns)
  have HLt := Lib.hid (bname_len nt)
  obtain ⟨b, hb⟩ : ∃ b, bookS zs = b := ⟨_, rfl⟩
  have HBk := Lib.hid (fun (w1 : World) (h : Rel w w1) => book13_any A c zs w1 h.self (hz.rel h))
  rw [hb] at HBk
  have hok : bookOk b := by rw [← hb]; exact bookS_ok zs
  have hp := pk_bd price 2500 (by omega)
  obtain ⟨P, hP⟩ : ∃ P, pk price 2500 = P := ⟨_, rfl⟩
  rw [hP] at hp
  have HP := Lib.hid hP
  obtain ⟨hp0, hp1⟩ := hp
  obtain ⟨N, hN⟩ : ∃ N, 1 + P = N := ⟨_, rfl⟩
  have HNp := Lib.hid hN
  have n0 : 1 ≤ N := by omega
  have n1 : N ≤ 2500 := by omega
  have hk := pk_bd now 1000 (by omega)
  obtain ⟨K, hK⟩ : ∃ P, pk now 1000 = P := ⟨_, rfl⟩
  rw [hK] at hk
  have HK := Lib.hid hK
  obtain ⟨hk0, hk1⟩ := hk
  have o1 : putOk s N K = true := put_ok_of ns (by omega) (by omega)
  have o2 : putOk t (N + 1) K = true := put_ok_of nt (by omega) (by omega)
  have I2 := Lib.hid h2
  have I3 := Lib.hid h3
  have HOk := Lib.hid hok
  have O1 := Lib.hid o1
  have O2 := Lib.hid o2
  obtain ⟨V, hV⟩ : ∃ V, putV b s N K = V := ⟨_, rfl⟩
  have HV := Lib.hid hV
  obtain ⟨n, hn⟩ : ∃ n, b.length = n := ⟨_, rfl⟩
  obtain ⟨m, hm⟩ : ∃ n, V.length = n := ⟨_, rfl⟩
  have HN := Lib.hid hn
  have HM := Lib.hid hm
  have hn8 : n ≤ 8 := by rw [← hn]; exact hok.2.1
  rw [hn] at HBk
  clear hb hs ht hS hT hP hN hK ns nt h0 h1 h2 h3 H hr hz hn hm hV
  go_enter Try.func5, Try.ntmps5
  go_upto_region 2 with (go_at_call 10; (with_reducible refine HA.out.mono ?_); rintro e w1 ⟨rfl, r1⟩; have R1 := Lib.hid r1; clear r1)
  go_upto_region 3 with (go_at_call 11; (with_reducible refine (HBk.out _ R1.out).mono ?_); rintro e w2 ⟨A2, c2, rfl, s2, r2⟩; have S2 := Lib.hid s2; have U2 := Lib.hid r2.self; have R2 := Lib.hid (R1.out.trans r2); clear s2 r2)
  go_upto_region 4 with (go_at_call 12; (with_reducible refine (CS.out _ U2.out).mono ?_); rintro e w3 ⟨rfl, r3⟩; have Q3 := Lib.hid r3.out; have U3 := Lib.hid r3.out.self; clear r3)
  go_upto_region 5 with (go_at_call 12; (with_reducible refine (CT.out _ U3.out).mono ?_); rintro e w4 ⟨rfl, r4⟩; have Q4 := Lib.hid (Q3.out.trans r4.out); clear r4)
  go_upto_region 6 with (go_at_call 13; (with_reducible refine (pick13_as price 2500 P HP I2.out (by omega) (by omega) _).mono ?_); rintro e w9 ⟨rfl, rfl⟩)
  rw [HNp.out]
  go_upto_region 7 with (go_at_call 13; (with_reducible refine (pick13_as now 1000 K HK I3.out (by omega) (by omega) _).mono ?_); rintro e w9 ⟨rfl, rfl⟩)
  have S4 := Lib.hid (S2.out.rel Q4.out)
  have R4 := Lib.hid (R2.out.trans Q4.out)
  have U4 := Lib.hid Q4.out.self
  clear HA HBk CS CT R1 R2 S2 U2 U3 Q3 Q4 HNp HP HK I2 I3 hp0 hp1
  rcases put_is (b := b) O1.out with ⟨hE, _⟩ | ⟨hE, h8, hno⟩
  rotate_left 1
  · have hV0 : V = [] := by
      have := (put_eight (p := N) (k := K) O1.out hno h8).1
      rw [← this]; exact HV.out.symm
    have C4 := Lib.hid (put_at HH.out HS.out HLs.out S4.out HV.out hE (by rw [hV0]; exact book_nil) n m HN.out HM.out w4 U4.out)
    have hn9 : n = 8 := by have := HN.out; omega
    subst hn9
    clear hE hno h8 hV0
    go_wp2_with (go_at_call 14; (with_reducible refine C4.out.mono ?_); rintro e w5 ⟨A5, c5, rfl, s5, r5⟩; have R5 := Lib.hid (R4.out.trans r5.out); clear s5 r5)
    go_ret
    exact ⟨rfl, R5.out⟩
  have hcok : bookOk V := by rw [← HV.out]; exact put_ok0 hok hE
  have HOc := Lib.hid hcok
  have HE0 := Lib.hid hE
  have C4 := Lib.hid (put_at HH.out HS.out HLs.out S4.out HV.out hE hcok n m HN.out HM.out w4 U4.out)
  have hm8 : m ≤ 8 := by rw [← HM.out]; exact hcok.2.1
  clear hE hcok
  go_upto_region 10 with (go_at_call 14; (with_reducible refine C4.out.mono ?_); rintro e w5 ⟨A5, c5, rfl, s5, r5⟩; have S5 := Lib.hid s5.out; have Q5 := Lib.hid r5.out; have R5 := Lib.hid (R4.out.trans r5.out); have U5 := Lib.hid r5.out.self; clear s5 r5)
  clear C4 U4 R4 Q5 S4
  rcases put_is (b := V) O2.out with ⟨hF, _⟩ | ⟨hF, h8, hno⟩
  · obtain ⟨D, hD⟩ : ∃ D, putV V t (N + 1) K = D := ⟨_, rfl⟩
    obtain ⟨lD, hlD⟩ : ∃ n, D.length = n := ⟨_, rfl⟩
    have HlD := Lib.hid hlD
    have hdok0 : bookOk D := by rw [← hD]; exact put_ok0 HOc.out hF
    have C5 := Lib.hid (put_at HH.out HT.out HLt.out S5.out hD hF hdok0 m lD HM.out HlD.out w5 U5.out)
    have HD := Lib.hid (show (putE V t (N + 1) K = 0 ∧ D = putV V t (N + 1) K) ∨ (putE V t (N + 1) K = 50 ∧ D = V) from .inl ⟨hF, hD.symm⟩)
    clear hF hD hlD hdok0
    go_upto_region 13 with (go_at_call 14; (with_reducible refine C5.out.mono ?_); rintro e w6 ⟨A6, c6, rfl, s6, r6⟩; have S6 := Lib.hid s6.out; have Q6 := Lib.hid r6.out; have R6 := Lib.hid (R5.out.trans r6.out); clear s6 r6)
    clear C5
    have hLF := last_facts HOk.out O1.out O2.out HE0.out D (by rw [HV.out]; exact HD.out)
    obtain ⟨_, hdok, hms, hmt, hdl, hxs⟩ := hLF
    have HOd := Lib.hid hdok
    have HMs := Lib.hid hms
    have HMt := Lib.hid hmt
    have HXs := Lib.hid hxs
    obtain ⟨X, hX⟩ : ∃ X, dropB D t = X := ⟨_, rfl⟩
    have HX := Lib.hid hX
    obtain ⟨lX, hlX⟩ : ∃ n, X.length = n := ⟨_, rfl⟩
    have HlX := Lib.hid hlX
    have hD8 : lD ≤ 8 := by rw [← HlD.out]; exact hdok.2.1
    have HSum := Lib.hid (show lX + manyB D t = lD by rw [← HlX.out, ← HX.out, ← HlD.out]; exact hdl)
    have C6 := Lib.hid (drop_at HH.out HT.out HLt.out S6.out HOd.out HX.out lD lX HlD.out HlX.out w6 Q6.out.self)
    clear hdok hms hmt hdl hxs hX hlX
    go_upto_region 14 with (go_at_call 19; (with_reducible refine C6.out.mono ?_); rintro e w7 ⟨A7, c7, rfl, s7, r7⟩; have Q7 := Lib.hid (Q6.out.trans r7.out); have R7 := Lib.hid (R6.out.trans r7.out); have S7 := Lib.hid (S6.out.rel r7.out); have U7 := Lib.hid r7.out.self; clear s7 r7)
    clear C6 Q6 R6
    go_wp2_with (fail)
    go_loopw [22, 23, 24] (fun mm tt i wr => ∃ (j a d : Nat), mm = .int .i64 (a : Int) ∧ tt = .int .i64 (d : Int) ∧ i = .int .i64 (j : Int) ∧ j ≤ lD ∧ a ≤ j ∧ d ≤ j ∧ Hid (manyB (D.take j) s = a) ∧ Hid (manyB (D.take j) t = d) ∧ Hid (Rel w7 wr)) (fun _ _ i _ => lD - (RowKit.intOf i).toNat)
    case atStart => exact ⟨0, 0, 0, rfl, rfl, rfl, by omega, by omega, by omega, Lib.hid rfl, Lib.hid rfl, U7⟩
    case round =>
      obtain ⟨j, a, d, rfl, rfl, rfl, hj, haj, hdj, HAm, HDm, HRw⟩ := hrel
      by_cases hlt : j < lD
      · have hlb : j < D.length := by rw [HlD.out]; exact hlt
        have HTs := Lib.hid (many_next (s := s) hlb)
        have HTt := Lib.hid (many_next (s := t) hlb)
        have hun := fun (hst : s ≠ t) (hs : D[j].1 = s) => HXs.out hst D[j] (List.getElem_mem hlb) hs
        obtain ⟨g, off, x, hA2, _, hx, k0, k1, k2⟩ := slot_at S7.out.2.2.2.2 HRw.out j hlb
        rw [hx] at HTs HTt hun
        have hi : (j : Int) < (lD : Int) := by omega
        have hb1 := bl_is x.1 s
        have hb2 := bl_is x.1 t
        have hb3 := bl_is s t
        obtain ⟨xs, hxs⟩ : ∃ s, B x.1 = s := ⟨_, rfl⟩
        obtain ⟨xp, hxp⟩ : ∃ s, x.2.1 = s := ⟨_, rfl⟩
        obtain ⟨xt, hxt⟩ : ∃ s, x.2.2 = s := ⟨_, rfl⟩
        have EQ := fun W => slot_is x (s, N, K) xs S xp xt N K ⟨hxs, hxp, hxt⟩ ⟨HS.out, rfl, rfl⟩ W
        rw [hxs] at k0
        rw [hxp] at k1
        rw [hxt] at k2
        rw [hxs, HS.out] at hb1
        rw [hxs, HT.out] at hb2
        rw [HS.out, HT.out] at hb3
        have HUn := Lib.hid hun
        clear hxs hxp hxt hx hun
        subst hA2
        by_cases e1 : x.1 = s
        · rw [decide_eq_true e1] at hb1
          by_cases e3 : s = t
          · have e2 : x.1 = t := e1.trans e3
            rw [decide_eq_true e2] at hb2
            rw [decide_eq_true e3] at hb3
            obtain ⟨q, hq⟩ : ∃ q, decide (x = (s, N, K)) = q := ⟨_, rfl⟩
            rw [hq] at EQ
            clear hq
            rw [if_pos e1] at HTs
            rw [if_pos e2] at HTt
            clear e1 e2 e3
            cases q with
            | true =>
              go_wp2_with (fail)
              go_roundw
              case rel => exact ⟨j + 1, a + 1, d + 1, by go_num, by go_num, by go_num, by omega, by omega, by omega, Lib.hid (by (rw [HTs.out, HAm.out]; try rfl)), Lib.hid (by (rw [HTt.out, HDm.out]; try rfl)), HRw⟩
              case measure => simp [RowKit.intOf]; omega
            | false =>
              go_wp2_with (fail)
              go_roundw
              case rel => exact ⟨j + 1, a + 1, d + 1, by go_num, by go_num, by go_num, by omega, by omega, by omega, Lib.hid (by (rw [HTs.out, HAm.out]; try rfl)), Lib.hid (by (rw [HTt.out, HDm.out]; try rfl)), HRw⟩
              case measure => simp [RowKit.intOf]; omega
          · have e2 : x.1 ≠ t := fun h => e3 (e1.symm.trans h)
            rw [decide_eq_false e2] at hb2
            rw [decide_eq_false e3] at hb3
            have e4 := HUn.out e3 e1
            rw [decide_eq_true e4] at EQ
            rw [if_pos e1] at HTs
            rw [if_neg e2] at HTt
            clear e1 e2 e3 e4
            go_wp2_with (fail)
            go_roundw
            case rel => exact ⟨j + 1, a + 1, d, by go_num, rfl, by go_num, by omega, by omega, by omega, Lib.hid (by (rw [HTs.out, HAm.out]; try rfl)), Lib.hid (by (rw [HTt.out, HDm.out]; try rfl)), HRw⟩
            case measure => simp [RowKit.intOf]; omega
        · rw [decide_eq_false e1] at hb1
          rw [if_neg e1] at HTs
          clear EQ hb3
          by_cases e2 : x.1 = t
          · rw [decide_eq_true e2] at hb2
            rw [if_pos e2] at HTt
            clear e1 e2
            go_wp2_with (fail)
            go_roundw
            case rel => exact ⟨j + 1, a, d + 1, rfl, by go_num, by go_num, by omega, by omega, by omega, Lib.hid (by (rw [HTs.out, HAm.out]; try rfl)), Lib.hid (by (rw [HTt.out, HDm.out]; try rfl)), HRw⟩
            case measure => simp [RowKit.intOf]; omega
          · rw [decide_eq_false e2] at hb2
            rw [if_neg e2] at HTt
            clear e1 e2
            go_wp2_with (fail)
            go_roundw
            case rel => exact ⟨j + 1, a, d, rfl, rfl, by go_num, by omega, by omega, by omega, Lib.hid (by (rw [HTs.out, HAm.out]; try rfl)), Lib.hid (by (rw [HTt.out, HDm.out]; try rfl)), HRw⟩
            case measure => simp [RowKit.intOf]; omega
      · have hjl : j = lD := by omega
        subst hjl
        have ha : a = 1 := by rw [← HAm.out, ← HlD.out, List.take_length]; exact HMs.out
        subst ha
        have hd1 : d ≤ 1 := by rw [← HDm.out, ← HlD.out, List.take_length]; exact HMt.out
        have hsum : (lX : Int) = (j : Int) - (d : Int) := by
          have h1 := HSum.out
          have h2 : manyB D t = d := by rw [← HDm.out, ← HlD.out, List.take_length]
          omega
        have hb9 : ((lX : Int) == (j : Int) - (d : Int)) = true := by rw [hsum]; simp
        have hd2 : decide ((d : Int) ≤ 1) = true := decide_eq_true (by omega)
        clear hsum
        have T7 := Lib.hid (S5.out.rel (Q7.out.trans HRw.out))
        have C7 := Lib.hid (offs_right HH.out T7.out HOc.out m HM.out wr HRw.out.self)
        go_wp2_with (first
          | (go_at_call 21; (with_reducible refine C7.out.mono ?_); rintro e w8 ⟨A8, c8, rfl, o8, r8⟩; have O8 := Lib.hid o8.out; have R8 := Lib.hid r8.out; clear o8 r8)
          | (go_at_call 26; (with_reducible refine (right_of HOc.out m HM.out _ O8.out R8.out.self).mono ?_); rintro e w9 ⟨rfl, r9⟩; have R9 := Lib.hid (R8.out.trans r9.out); clear r9))
        go_ret
        exact ⟨rfl, R7.out.trans (HRw.out.trans R9.out)⟩

  · obtain ⟨V2, hV2⟩ : ∃ D, putV V t (N + 1) K = D := ⟨_, rfl⟩
    have hV0 : V2 = [] := by rw [← hV2]; exact (put_eight (p := N + 1) (k := K) O2.out hno h8).1
    obtain ⟨l2, hl2⟩ : ∃ n, V2.length = n := ⟨_, rfl⟩
    have C5 := Lib.hid (put_at HH.out HT.out HLt.out S5.out hV2 hF (by rw [hV0]; exact book_nil) m l2 HM.out hl2 w5 U5.out)
    clear hno h8 hV2 hl2 hV0
    go_upto_region 13 with (go_at_call 14; (with_reducible refine C5.out.mono ?_); rintro e w6 ⟨A6, c6, rfl, s6, r6⟩; have S6 := Lib.hid (S5.out.rel r6.out); have Q6 := Lib.hid r6.out; have R6 := Lib.hid (R5.out.trans r6.out); clear s6 r6)
    clear C5
    obtain ⟨D, hD⟩ : ∃ D, V = D := ⟨_, rfl⟩
    have HlD := Lib.hid (show D.length = m by rw [← hD, HM.out])
    have HD := Lib.hid (show (putE V t (N + 1) K = 0 ∧ D = putV V t (N + 1) K) ∨ (putE V t (N + 1) K = 50 ∧ D = V) from .inr ⟨hF, hD.symm⟩)
    rw [hD] at S6
    clear hD hF
    have hLF := last_facts HOk.out O1.out O2.out HE0.out D (by rw [HV.out]; exact HD.out)
    obtain ⟨_, hdok, hms, hmt, hdl, hxs⟩ := hLF
    have HOd := Lib.hid hdok
    have HMs := Lib.hid hms
    have HMt := Lib.hid hmt
    have HXs := Lib.hid hxs
    obtain ⟨X, hX⟩ : ∃ X, dropB D t = X := ⟨_, rfl⟩
    have HX := Lib.hid hX
    obtain ⟨lX, hlX⟩ : ∃ n, X.length = n := ⟨_, rfl⟩
    have HlX := Lib.hid hlX
    have hD8 : m ≤ 8 := by rw [← HlD.out]; exact hdok.2.1
    have HSum := Lib.hid (show lX + manyB D t = m by rw [← HlX.out, ← HX.out, ← HlD.out]; exact hdl)
    have C6 := Lib.hid (drop_at HH.out HT.out HLt.out S6.out HOd.out HX.out m lX HlD.out HlX.out w6 Q6.out.self)
    clear hdok hms hmt hdl hxs hX hlX
    go_upto_region 14 with (go_at_call 19; (with_reducible refine C6.out.mono ?_); rintro e w7 ⟨A7, c7, rfl, s7, r7⟩; have Q7 := Lib.hid (Q6.out.trans r7.out); have R7 := Lib.hid (R6.out.trans r7.out); have S7 := Lib.hid (S6.out.rel r7.out); have U7 := Lib.hid r7.out.self; clear s7 r7)
    clear C6 Q6 R6
    go_wp2_with (fail)
    go_loopw [22, 23, 24] (fun mm tt i wr => ∃ (j a d : Nat), mm = .int .i64 (a : Int) ∧ tt = .int .i64 (d : Int) ∧ i = .int .i64 (j : Int) ∧ j ≤ m ∧ a ≤ j ∧ d ≤ j ∧ Hid (manyB (D.take j) s = a) ∧ Hid (manyB (D.take j) t = d) ∧ Hid (Rel w7 wr)) (fun _ _ i _ => m - (RowKit.intOf i).toNat)
    case atStart => exact ⟨0, 0, 0, rfl, rfl, rfl, by omega, by omega, by omega, Lib.hid rfl, Lib.hid rfl, U7⟩
    case round =>
      obtain ⟨j, a, d, rfl, rfl, rfl, hj, haj, hdj, HAm, HDm, HRw⟩ := hrel
      by_cases hlt : j < m
      · have hlb : j < D.length := by rw [HlD.out]; exact hlt
        have HTs := Lib.hid (many_next (s := s) hlb)
        have HTt := Lib.hid (many_next (s := t) hlb)
        have hun := fun (hst : s ≠ t) (hs : D[j].1 = s) => HXs.out hst D[j] (List.getElem_mem hlb) hs
        obtain ⟨g, off, x, hA2, _, hx, k0, k1, k2⟩ := slot_at S7.out.2.2.2.2 HRw.out j hlb
        rw [hx] at HTs HTt hun
        have hi : (j : Int) < (m : Int) := by omega
        have hb1 := bl_is x.1 s
        have hb2 := bl_is x.1 t
        have hb3 := bl_is s t
        obtain ⟨xs, hxs⟩ : ∃ s, B x.1 = s := ⟨_, rfl⟩
        obtain ⟨xp, hxp⟩ : ∃ s, x.2.1 = s := ⟨_, rfl⟩
        obtain ⟨xt, hxt⟩ : ∃ s, x.2.2 = s := ⟨_, rfl⟩
        have EQ := fun W => slot_is x (s, N, K) xs S xp xt N K ⟨hxs, hxp, hxt⟩ ⟨HS.out, rfl, rfl⟩ W
        rw [hxs] at k0
        rw [hxp] at k1
        rw [hxt] at k2
        rw [hxs, HS.out] at hb1
        rw [hxs, HT.out] at hb2
        rw [HS.out, HT.out] at hb3
        have HUn := Lib.hid hun
        clear hxs hxp hxt hx hun
        subst hA2
        by_cases e1 : x.1 = s
        · rw [decide_eq_true e1] at hb1
          by_cases e3 : s = t
          · have e2 : x.1 = t := e1.trans e3
            rw [decide_eq_true e2] at hb2
            rw [decide_eq_true e3] at hb3
            obtain ⟨q, hq⟩ : ∃ q, decide (x = (s, N, K)) = q := ⟨_, rfl⟩
            rw [hq] at EQ
            clear hq
            rw [if_pos e1] at HTs
            rw [if_pos e2] at HTt
            clear e1 e2 e3
            cases q with
            | true =>
              go_wp2_with (fail)
              go_roundw
              case rel => exact ⟨j + 1, a + 1, d + 1, by go_num, by go_num, by go_num, by omega, by omega, by omega, Lib.hid (by (rw [HTs.out, HAm.out]; try rfl)), Lib.hid (by (rw [HTt.out, HDm.out]; try rfl)), HRw⟩
              case measure => simp [RowKit.intOf]; omega
            | false =>
              go_wp2_with (fail)
              go_roundw
              case rel => exact ⟨j + 1, a + 1, d + 1, by go_num, by go_num, by go_num, by omega, by omega, by omega, Lib.hid (by (rw [HTs.out, HAm.out]; try rfl)), Lib.hid (by (rw [HTt.out, HDm.out]; try rfl)), HRw⟩
              case measure => simp [RowKit.intOf]; omega
          · have e2 : x.1 ≠ t := fun h => e3 (e1.symm.trans h)
            rw [decide_eq_false e2] at hb2
            rw [decide_eq_false e3] at hb3
            have e4 := HUn.out e3 e1
            rw [decide_eq_true e4] at EQ
            rw [if_pos e1] at HTs
            rw [if_neg e2] at HTt
            clear e1 e2 e3 e4
            go_wp2_with (fail)
            go_roundw
            case rel => exact ⟨j + 1, a + 1, d, by go_num, rfl, by go_num, by omega, by omega, by omega, Lib.hid (by (rw [HTs.out, HAm.out]; try rfl)), Lib.hid (by (rw [HTt.out, HDm.out]; try rfl)), HRw⟩
            case measure => simp [RowKit.intOf]; omega
        · rw [decide_eq_false e1] at hb1
          rw [if_neg e1] at HTs
          clear EQ hb3
          by_cases e2 : x.1 = t
          · rw [decide_eq_true e2] at hb2
            rw [if_pos e2] at HTt
            clear e1 e2
            go_wp2_with (fail)
            go_roundw
            case rel => exact ⟨j + 1, a, d + 1, rfl, by go_num, by go_num, by omega, by omega, by omega, Lib.hid (by (rw [HTs.out, HAm.out]; try rfl)), Lib.hid (by (rw [HTt.out, HDm.out]; try rfl)), HRw⟩
            case measure => simp [RowKit.intOf]; omega
          · rw [decide_eq_false e2] at hb2
            rw [if_neg e2] at HTt
            clear e1 e2
            go_wp2_with (fail)
            go_roundw
            case rel => exact ⟨j + 1, a, d, rfl, rfl, by go_num, by omega, by omega, by omega, Lib.hid (by (rw [HTs.out, HAm.out]; try rfl)), Lib.hid (by (rw [HTt.out, HDm.out]; try rfl)), HRw⟩
            case measure => simp [RowKit.intOf]; omega
      · have hjl : j = m := by omega
        subst hjl
        have ha : a = 1 := by rw [← HAm.out, ← HlD.out, List.take_length]; exact HMs.out
        subst ha
        have hd1 : d ≤ 1 := by rw [← HDm.out, ← HlD.out, List.take_length]; exact HMt.out
        have hsum : (lX : Int) = (j : Int) - (d : Int) := by
          have h1 := HSum.out
          have h2 : manyB D t = d := by rw [← HDm.out, ← HlD.out, List.take_length]
          omega
        have hb9 : ((lX : Int) == (j : Int) - (d : Int)) = true := by rw [hsum]; simp
        have hd2 : decide ((d : Int) ≤ 1) = true := decide_eq_true (by omega)
        clear hsum
        have T7 := Lib.hid (S5.out.rel (Q7.out.trans HRw.out))
        have C7 := Lib.hid (offs_right HH.out T7.out HOc.out j HM.out wr HRw.out.self)
        go_wp2_with (first
          | (go_at_call 21; (with_reducible refine C7.out.mono ?_); rintro e w8 ⟨A8, c8, rfl, o8, r8⟩; have O8 := Lib.hid o8.out; have R8 := Lib.hid r8.out; clear o8 r8)
          | (go_at_call 26; (with_reducible refine (right_of HOc.out j HM.out _ O8.out R8.out.self).mono ?_); rintro e w9 ⟨rfl, r9⟩; have R9 := Lib.hid (R8.out.trans r9.out); clear r9))
        go_ret
        exact ⟨rfl, R7.out.trans (HRw.out.trans R9.out)⟩
end Go.Proofs.Ytfplhpkolcgpiaa
