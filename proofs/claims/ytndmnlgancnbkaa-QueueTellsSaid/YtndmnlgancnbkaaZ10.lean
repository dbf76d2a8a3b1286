/- Layer 16, the landed code: an item moved up, down, to where it may stand. -/
import Derived.Test.YtndmnlgancnbkaaZL
import Derived.Test.YtndmnlgancnbkaaZ00
import Derived.Test.YtndmnlgancnbkaaZ01
import Derived.Test.YtndmnlgancnbkaaZ02
import Derived.Test.YtndmnlgancnbkaaZ03
import Derived.Test.YtndmnlgancnbkaaZ08
import Derived.Test.YtndmnlgancnbkaaZ09
namespace Go.Proofs.Ytndmnlgancnbkaa
open Go.RowKit Go.Lib
set_option linter.unusedVariables false
set_option linter.unusedSimpArgs false
theorem Ke.rel_to {S : Nat → Prop} {w w' : World} (h : Ke S w w') (hr : Rel w w) : Rel w' w' := ⟨hr.1, Below.refl _ _⟩
set_option maxRecDepth 100000 in
set_option maxHeartbeats 4000000 in
theorem rise_any {w : World} {g b : Nat} {m : Int} {v : Value} {l L : List It} (h : Hb w g b m v l) (hr : Rel w w) (ho : Rowed l L) {i : Nat} (hi : i < l.length) (ha : OrdAt l i) :
    Calls Try.prog 58 #[.pointer (some ⟨g, 0, none⟩), .int .i64 (i : Int)] w fun e w' => e = .returned (.tuple #[]) ∧ ∃ l', Hb w' g b m v l' ∧ Rowed l' L ∧ OrdDn l' i ∧ Ke (SoF g b v) w w' := by
  rcases h.hm.form with ⟨_, e⟩ | ⟨q, c, rfl, hlc, hc, hq, hat, hf⟩
  · subst e; simp at hi
  obtain ⟨n, hn⟩ : ∃ n, l.length = n := ⟨_, rfl⟩
  have hle : n ≤ 1000 := by rw [← hn]; exact h.cap
  rw [hn] at h hlc hi ⊢
  have HR := Lib.hid hr
  have H0 := Lib.hid h
  have HO0 := Lib.hid ho
  have HA0 := Lib.hid ha
  have HN0 := Lib.hid hn
  clear h hr hat hf hn hq ho ha
  go_enter Try.func58, Try.ntmps58
  go_wp2_with (fail)
  go_loopw [1] (fun p wr => ∃ (j : Nat) (lj : List It), p = .int .i64 (j : Int) ∧ j < n ∧ Hid (lj.length = n) ∧ Hid (Hb wr g b m (.slice (some ⟨q, 0, none⟩) n c) lj) ∧ Hid (Rowed lj L) ∧ Hid (j = i ∧ OrdAt lj j ∨ OrdUp lj j) ∧ Hid (Ke (SoF g b (.slice (some ⟨q, 0, none⟩) n c)) w wr)) (fun p _ => (RowKit.intOf p).toNat)
  case atStart => exact ⟨i, l, rfl, hi, HN0, H0, HO0, Lib.hid (.inl ⟨rfl, HA0.out⟩), Lib.hid (Ke.refl _ _)⟩
  case round =>
    obtain ⟨j, lj, rfl, hj, HN, HH, HO, HX, HK⟩ := hrel
    have HRw := Lib.hid (HK.out.rel_to HR.out)
    by_cases h0 : j = 0
    · subst h0
      have HE := Lib.hid (show OrdDn lj i by
        rcases HX.out with ⟨e, hx⟩ | hx
        · rw [← e]; exact any_dn hx (.inl rfl)
        · exact (ord_up (up_done hx (.inl rfl)) i).2)
      clear HX
      go_wp2_with (fail)
      go_end0
      exact ⟨rfl, lj, HH.out, HO.out, HE.out, HK.out⟩
    · have hc0 : (0 : Int) < (j : Int) := by omega
      obtain ⟨p, hp⟩ : ∃ p, parN j = p := ⟨_, rfl⟩
      have hpe : p = (j - 1) / 2 := hp.symm
      have hp1 : ((j : Int) - 1).tdiv 2 = (p : Int) := by
        rw [Int.tdiv_eq_ediv_of_nonneg (by omega)]; omega
      have hpj : p < j := by omega
      have hpn : p < n := by omega
      have hj' : (j : Int) < (n : Int) := by omega
      have hp' : (p : Int) < (n : Int) := by omega
      obtain ⟨⟨k0, k1, k2⟩, f0, f1, f2⟩ := HH.out.box.three
      obtain ⟨⟨xk, xp⟩, hx⟩ : ∃ x, atI lj j = x := ⟨_, rfl⟩
      obtain ⟨⟨yk, yp⟩, hy⟩ : ∃ x, atI lj p = x := ⟨_, rfl⟩
      obtain ⟨x0, x1, _, _⟩ := HH.out.hm.at (by rw [HN.out]; exact hj) hx
      obtain ⟨y0, y1, _, _⟩ := HH.out.hm.at (by rw [HN.out]; exact hpn) hy
      have HJ := Lib.hid (show j < lj.length by rw [HN.out]; exact hj)
      have HP := Lib.hid (show p < lj.length by rw [HN.out]; exact hpn)
      have HXX := Lib.hid hx
      have HYY := Lib.hid hy
      have HPP := Lib.hid hp
      have HLn := Lib.hid (show (swpI lj j p).length = n by rw [swp_len]; exact HN.out)
      obtain ⟨u, hu⟩ : ∃ u, urgB (xk, xp) (yk, yp) = u := ⟨_, rfl⟩
      have HU := Lib.hid hu
      clear hx hy hu hp hpe
      cases u with
      | true =>
        go_upto_region 2 with (fail)
        go_still_tail 14, (by kernel_rfl)
        go_wp2_with (first | (go_at_call 67; (with_reducible refine (ahead_at xk xp yk yp _ HU.out _ HRw.out.drew.self).mono ?_); rintro e w1 ⟨rfl, r1⟩; have R1 := Lib.hid r1; have HH1 := Lib.hid (HH.out.rel (HRw.out.drew.trans r1)); clear r1) | (go_at_call 61; (with_reducible refine (swap_any HH1.out HJ.out HP.out).mono ?_); rintro e w2 ⟨rfl, s1, s2⟩; have HS1 := Lib.hid s1; have HS2 := Lib.hid s2; clear s1 s2))
        go_roundw
        case rel =>
          refine ⟨p, swpI lj j p, rfl, hpn, HLn, HS1, Lib.hid (HO.out.swp HJ.out HP.out), Lib.hid (.inr ?_), Lib.hid ((HK.out.rl (HRw.out.drew.trans R1.out)).on HS2.out)⟩
          have hurg : urgH (atI lj j) (atI lj (parN j)) := by rw [HPP.out, HXX.out, HYY.out]; exact urgB_iff.1 HU.out
          have hup : OrdUp lj j := by
            rcases HX.out with ⟨e, hx⟩ | hx
            · exact any_up hx (by omega) hurg
            · exact hx
          have := up_step hup (by omega) HJ.out hurg
          rw [HPP.out] at this
          exact this
        case measure => simp [RowKit.intOf]; omega
      | false =>
        have HE := Lib.hid (show OrdDn lj i by
          have hno : noU (atI lj (parN j)) (atI lj j) := by rw [HPP.out, HXX.out, HYY.out]; exact urgB_not HU.out
          rcases HX.out with ⟨e, hx⟩ | hx
          · rw [← e]; exact any_dn hx (.inr hno)
          · exact (ord_up (up_done hx (.inr hno)) i).2)
        go_upto_region 2 with (fail)
        go_still_tail 14, (by kernel_rfl)
        go_wp2_with (go_at_call 67; (with_reducible refine (ahead_at xk xp yk yp _ HU.out _ HRw.out.drew.self).mono ?_); rintro e w1 ⟨rfl, r1⟩; have R1 := Lib.hid r1; have HH1 := Lib.hid (HH.out.rel (HRw.out.drew.trans r1)); clear r1)
        exact bodyPost_ret (v := .tuple #[]) (by simp [results, Try.results58, go_sem]) rfl ⟨rfl, lj, HH1.out, HO.out, HE.out, HK.out.rl (HRw.out.drew.trans R1.out)⟩
set_option maxRecDepth 100000 in
set_option maxHeartbeats 4000000 in
theorem sink_any {w : World} {g b : Nat} {m : Int} {v : Value} {l L : List It} (h : Hb w g b m v l) (hr : Rel w w) (ho : Rowed l L) {i : Nat} (hi : i < l.length) (ha : OrdDn l i) :
    Calls Try.prog 59 #[.pointer (some ⟨g, 0, none⟩), .int .i64 (i : Int)] w fun e w' => e = .returned (.tuple #[]) ∧ ∃ l', Hb w' g b m v l' ∧ Rowed l' L ∧ OrdH l' ∧ Ke (SoF g b v) w w' := by
  obtain ⟨n, hn⟩ : ∃ n, l.length = n := ⟨_, rfl⟩
  have hle : n ≤ 1000 := by rw [← hn]; exact h.cap
  have HR := Lib.hid hr
  have H0 := Lib.hid h
  have HO0 := Lib.hid ho
  have HA0 := Lib.hid ha
  have HN0 := Lib.hid hn
  rw [hn] at hi
  clear h hr hn ho ha
  go_enter Try.func59, Try.ntmps59
  go_wp2_with (fail)
  go_loopw [1] (fun p wr => ∃ (j : Nat) (lj : List It), p = .int .i64 (j : Int) ∧ j < n ∧ Hid (lj.length = n) ∧ Hid (Hb wr g b m v lj) ∧ Hid (Rowed lj L) ∧ Hid (OrdDn lj j) ∧ Hid (Ke (SoF g b v) w wr)) (fun p _ => n - (RowKit.intOf p).toNat)
  case atStart => exact ⟨i, l, rfl, hi, HN0, H0, HO0, HA0, Lib.hid (Ke.refl _ _)⟩
  case round =>
    obtain ⟨j, lj, rfl, hj, HN, HH, HO, HX, HK⟩ := hrel
    have HRw := Lib.hid (HK.out.rel_to HR.out)
    have HJ := Lib.hid (show j < lj.length by rw [HN.out]; exact hj)
    obtain ⟨p, hp⟩ : ∃ p, firstF lj j = p := ⟨_, rfl⟩
    have HF := Lib.hid (first_any HH.out HRw.out HJ.out)
    rw [hp] at HF
    have HP := Lib.hid hp
    clear hp
    by_cases he : p = j
    · subst he
      have HE := Lib.hid (first_stop HJ.out HX.out HP.out)
      clear HX HP
      go_wp2_with (go_at_call 68; (with_reducible refine HF.out.mono ?_); rintro e w1 ⟨rfl, r1⟩; have R1 := Lib.hid r1; clear r1)
      exact bodyPost_ret (v := .tuple #[]) (by simp [results, Try.results59, go_sem]) rfl ⟨rfl, lj, HH.out.rel R1.out, HO.out, HE.out, HK.out.rl R1.out⟩
    · have hne : ¬ (p : Int) = (j : Int) := by omega
      obtain ⟨h1, h2, h3⟩ := first_go HJ.out HX.out (by rw [HP.out]; exact he)
      rw [HP.out] at h1 h2 h3
      have HG := Lib.hid h2
      have HD := Lib.hid h3
      have HLn := Lib.hid (show (swpI lj j p).length = n by rw [swp_len]; exact HN.out)
      have hpn : p < n := by rw [← HN.out]; exact h2
      clear h2 h3 HP
      go_wp2_with (first | (go_at_call 68; (with_reducible refine HF.out.mono ?_); rintro e w1 ⟨rfl, r1⟩; have R1 := Lib.hid r1; have HH1 := Lib.hid (HH.out.rel r1); clear r1) | (go_at_call 61; (with_reducible refine (swap_any HH1.out HJ.out HG.out).mono ?_); rintro e w2 ⟨rfl, s1, s2⟩; have HS1 := Lib.hid s1; have HS2 := Lib.hid s2; clear s1 s2))
      go_roundw
      case rel => exact ⟨p, swpI lj j p, rfl, hpn, HLn, HS1, Lib.hid (HO.out.swp HJ.out HG.out), HD, Lib.hid ((HK.out.rl R1.out).on HS2.out)⟩
      case measure => simp [RowKit.intOf]; omega
set_option maxRecDepth 100000 in
set_option maxHeartbeats 4000000 in
theorem settle_any {w : World} {g b : Nat} {m : Int} {v : Value} {l L : List It} (h : Hb w g b m v l) (hr : Rel w w) (ho : Rowed l L) {i : Nat} (hi : i < l.length) (ha : OrdAt l i) :
    Calls Try.prog 44 #[.pointer (some ⟨g, 0, none⟩), .int .i64 (i : Int)] w fun e w' => e = .returned (.tuple #[]) ∧ ∃ l', Hb w' g b m v l' ∧ Rowed l' L ∧ OrdH l' ∧ Ke (SoF g b v) w w' := by
  have H1 := Lib.hid (rise_any h hr ho hi ha)
  have HR := Lib.hid hr
  have HL := Lib.hid (show l.length = L.length from ho.len)
  have HI := Lib.hid hi
  clear h hr ho ha hi
  go_enter Try.func44, Try.ntmps44
  go_wp2_with (first | (go_at_call 58; (with_reducible refine H1.out.mono ?_); rintro e w1 ⟨rfl, l1, a1, a2, a3, a4⟩; have A1 := Lib.hid a1; have A2 := Lib.hid a2; have A3 := Lib.hid a3; have A4 := Lib.hid a4; clear a1 a2 a3 a4) | (go_at_call 59; (with_reducible refine (sink_any A1.out (A4.out.rel_to HR.out) A2.out (by rw [A2.out.len, ← HL.out]; exact HI.out) A3.out).mono ?_); rintro e w2 ⟨rfl, l2, b1, b2, b3, b4⟩; have B1 := Lib.hid b1; have B2 := Lib.hid b2; have B3 := Lib.hid b3; have B4 := Lib.hid b4; clear b1 b2 b3 b4))
  go_end0
  exact ⟨rfl, l2, B1.out, B2.out, B3.out, A4.out.on B4.out⟩
end Go.Proofs.Ytndmnlgancnbkaa
