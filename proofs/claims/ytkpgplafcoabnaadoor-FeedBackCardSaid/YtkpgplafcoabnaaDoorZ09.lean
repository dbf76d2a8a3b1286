/- The landed package feed: Decode; all that the laws ask. -/
import Derived.Test.YtkpgplafcoabnaaDoorZL
import Derived.Test.YtkpgplafcoabnaaDoorZ00
import Derived.Test.YtkpgplafcoabnaaDoorZ01
import Derived.Test.YtkpgplafcoabnaaDoorZ02
import Derived.Test.YtkpgplafcoabnaaDoorZ03
import Derived.Test.YtkpgplafcoabnaaDoorZ06
import Derived.Test.YtkpgplafcoabnaaDoorZ07
import Derived.Test.YtkpgplafcoabnaaDoorZ08
namespace Go.Proofs.YtkpgplafcoabnaaDoor
open Go.RowKit Go.Lib
set_option linter.unusedVariables false
set_option linter.unusedSimpArgs false
set_option maxRecDepth 100000 in
set_option maxHeartbeats 4000000 in
theorem fdec_long (s : List UInt8) (hl : s.length ≤ 9223372036854775807) (h : 100 < s.length) (w0 w : World) (hr : Rel w0 w) :
    Calls Tryd.prog 16 #[.string (B s)] w (DecPost w0 s) := by
  have hd : decF s = .error (60, 0) := by unfold decF; rw [if_pos h]
  have HD := Lib.hid (decV_bad hd)
  have HA := Lib.hid (hr.alloc (.cells #[.string ⟨#[]⟩, .int .i64 0, .string ⟨#[]⟩, .string ⟨#[]⟩, .int .i64 0] 23))
  have HX := Lib.hid (Bk.new w 23 #[.string ⟨#[]⟩, .int .i64 0, .string ⟨#[]⟩, .string ⟨#[]⟩, .int .i64 0])
  have hs := B_size s
  have hz := hr.size
  obtain ⟨⟨r0, r1, r2, r3, r4⟩, _⟩ := five_of HX.out
  have t1 : decide ((100 : Int) < (s.length : Int)) = true := decide_eq_true (by omega)
  have h9 : (100 : Int) < (s.length : Int) := by omega
  clear hr hd h hl
  go_enter Tryd.func16, Tryd.ntmps16
  go_wp2_with (fail)
  exact bodyPost_ret (v := .tuple #[.agg #[.string ⟨#[]⟩, .int .i64 0, .string ⟨#[]⟩, .string ⟨#[]⟩, .int .i64 0], .int .i64 60, .int .i64 0]) (by simp [results, Tryd.results16, go_sem, r0, r1, r2, r3, r4]) rfl ⟨by rw [HD.out.1, HD.out.2.1, HD.out.2.2]; rfl, HA.out⟩
set_option maxRecDepth 100000 in
set_option maxHeartbeats 4000000 in
theorem fdec_not (s : List UInt8) (h : s.length ≤ 100) (h5 : (fieldsF s).length ≠ 5) (w0 w : World) (hr : Rel w0 w) :
    Calls Tryd.prog 16 #[.string (B s)] w (DecPost w0 s) := by
  have hd : decF s = .error (111, 0) := by
    unfold decF
    rw [if_neg (by omega)]
    match hf : fieldsF s, h5 with
    | [], _ => rfl
    | [_], _ => rfl
    | [_, _], _ => rfl
    | [_, _, _], _ => rfl
    | [_, _, _, _], _ => rfl
    | [_, _, _, _, _], h => exact absurd rfl h
    | _ :: _ :: _ :: _ :: _ :: _ :: _, _ => rfl
  have HD := Lib.hid (decV_bad hd)
  have HP := Lib.hid (fun (w1 : World) (hh : Rel w1 w1) => fparted_no s (by omega) h5 w1 w1 hh)
  have HR := Lib.hid hr
  have HA := Lib.hid (hr.self.alloc (.cells #[.string ⟨#[]⟩, .int .i64 0, .string ⟨#[]⟩, .string ⟨#[]⟩, .int .i64 0] 23))
  have HX := Lib.hid (Bk.new w 23 #[.string ⟨#[]⟩, .int .i64 0, .string ⟨#[]⟩, .string ⟨#[]⟩, .int .i64 0])
  obtain ⟨W, hW⟩ : ∃ W, w.alloc (.cells #[.string ⟨#[]⟩, .int .i64 0, .string ⟨#[]⟩, .string ⟨#[]⟩, .int .i64 0] 23) = W := ⟨_, rfl⟩
  rw [hW] at HA HX
  have hs := B_size s
  have t1 : decide ((100 : Int) < (s.length : Int)) = false := decide_eq_false (by omega)
  clear hr hd h5
  go_enter Tryd.func16, Tryd.ntmps16
  go_upto_region 3 with (fail)
  try rw [hW]
  clear hW
  go_upto_region 4 with (go_at_call 25; (with_reducible refine (HP.out _ HA.out.self).mono ?_); rintro e w1 ⟨rfl, h1⟩; have R1 := Lib.hid h1; clear h1)
  have HX1 := Lib.hid ((HX.out.rel R1.out).alloc (.cells #[.string ⟨#[]⟩, .string ⟨#[]⟩, .string ⟨#[]⟩, .string ⟨#[]⟩, .string ⟨#[]⟩] 45))
  have RA := Lib.hid (((HR.out.trans HA.out).trans R1.out).alloc (.cells #[.string ⟨#[]⟩, .string ⟨#[]⟩, .string ⟨#[]⟩, .string ⟨#[]⟩, .string ⟨#[]⟩] 45))
  obtain ⟨W1, hW1⟩ : ∃ W1, w1.alloc (.cells #[.string ⟨#[]⟩, .string ⟨#[]⟩, .string ⟨#[]⟩, .string ⟨#[]⟩, .string ⟨#[]⟩] 45) = W1 := ⟨_, rfl⟩
  rw [hW1] at HX1 RA
  try rw [hW1]
  clear hW1
  obtain ⟨⟨y0, y1, y2, y3, y4⟩, y5, y6, y7, y8, y9⟩ := five_of HX1.out
  obtain ⟨⟨r0, r1, r2, r3, r4⟩, _⟩ := five_of (HX1.out.put5 (.string ⟨#[]⟩) (.int .i64 0) (.string ⟨#[]⟩) (.string ⟨#[]⟩) (.int .i64 0))
  go_wp2_with (fail)
  exact bodyPost_ret (v := .tuple #[.agg #[.string ⟨#[]⟩, .int .i64 0, .string ⟨#[]⟩, .string ⟨#[]⟩, .int .i64 0], .int .i64 111, .int .i64 0]) (by simp [results, Tryd.results16, go_sem, r0, r1, r2, r3, r4]) rfl ⟨by rw [HD.out.1, HD.out.2.1, HD.out.2.2]; rfl, Rel.put5 RA.out HR.out.size _ _ _ _ _⟩
set_option maxRecDepth 100000 in
set_option maxHeartbeats 4000000 in
theorem fdec_five (s a b c d e : List UInt8) (h : s.length ≤ 100) (hf : fieldsF s = [a, b, c, d, e]) (w0 w : World) (hr : Rel w0 w) :
    Calls Tryd.prog 16 #[.string (B s)] w (DecPost w0 s) := by
  have hd : decF s = match firstF 0 [a, b, c, d, e] with | some i => .error (112, i) | none => .ok (a, seqF b, c, d, priceF e) := by unfold decF; rw [if_neg (by omega), hf]; rfl
  have hlen : ∀ x ∈ fieldsF s, x.length ≤ 1000000 := fun x hx => by have := field_len s x hx; omega
  have hcl := fields_clean s
  rw [hf] at hlen hcl
  have hu := unlike_first (hcl a (by simp)) (hcl b (by simp)) (hcl c (by simp)) (hcl d (by simp)) (hcl e (by simp))
  have HP := Lib.hid (fun (w1 : World) (hh : Rel w1 w1) => fparted_yes s a b c d e (by omega) hf w1 w1 hh)
  have HQ := Lib.hid (fun (w1 : World) (hh : Rel w1 w1) => fread_any a b c d e (hlen a (by simp)) (hlen b (by simp)) (hlen c (by simp)) (hlen d (by simp)) (hlen e (by simp)) w1 w1 hh)
  obtain ⟨sq, hsq⟩ : ∃ q, cnt b 1000000000000 = q := ⟨_, rfl⟩
  obtain ⟨pr, hpr⟩ : ∃ q, prR e = q := ⟨_, rfl⟩
  have hrd : rdF a b c d e = (a, sq, c, d, pr) := by unfold rdF; rw [hsq, hpr]
  have hfit : FdFit (a, sq, c, d, pr) := by
    have la := hlen a (by simp)
    have lc := hlen c (by simp)
    have ld := hlen d (by simp)
    have b1 := cnt_bd b 1000000000000
    have b2 : -1000000000000 ≤ pr ∧ pr ≤ 1000000000000 := by
      rw [← hpr]; unfold prR
      cases hp : prs e with
      | none => simp
      | some n => exact rt_iff.1 (txt_of_prs hp).1
    refine ⟨?_, ?_, ?_, ?_, ?_⟩ <;> simp only <;> omega
  rw [hrd] at HQ hu
  have HW := Lib.hid (fun (w1 : World) (hh : Rel w1 w1) => fwritten_any (a, sq, c, d, pr) hfit w1 w1 hh)
  clear hlen hcl hsq hpr hrd hfit hf
  have hs := B_size s
  have t9 : decide ((100 : Int) < (s.length : Int)) = false := decide_eq_false (by omega)
  have HR := Lib.hid hr
  have HA := Lib.hid (hr.self.alloc (.cells #[.string ⟨#[]⟩, .int .i64 0, .string ⟨#[]⟩, .string ⟨#[]⟩, .int .i64 0] 23))
  have HX := Lib.hid (Bk.new w 23 #[.string ⟨#[]⟩, .int .i64 0, .string ⟨#[]⟩, .string ⟨#[]⟩, .int .i64 0])
  obtain ⟨W, hW⟩ : ∃ W, w.alloc (.cells #[.string ⟨#[]⟩, .int .i64 0, .string ⟨#[]⟩, .string ⟨#[]⟩, .int .i64 0] 23) = W := ⟨_, rfl⟩
  rw [hW] at HA HX
  have HQ := Lib.hid (show ∀ w1 : World, Rel w1 w1 → Calls Tryd.prog 26 #[.agg #[.string (B a), .string (B b), .string (B c), .string (B d), .string (B e)]] w1 fun r w' => r = .returned (.agg #[.string (B a), .int .i64 sq, .string (B c), .string (B d), .int .i64 pr]) ∧ Rel w1 w' from HQ.out)
  have HW := Lib.hid (show ∀ w1 : World, Rel w1 w1 → Calls Tryd.prog 20 #[.agg #[.string (B a), .int .i64 sq, .string (B c), .string (B d), .int .i64 pr]] w1 fun r w' => r = .returned (.agg #[.string (B (nmT a)), .string (B (sqT sq)), .string (B (nmT c)), .string (B (nmT d)), .string (B (prT pr))]) ∧ Rel w1 w' from HW.out)
  obtain ⟨v0, hv0⟩ : ∃ v, nmT a = v := ⟨_, rfl⟩
  obtain ⟨v1, hv1⟩ : ∃ v, sqT sq = v := ⟨_, rfl⟩
  obtain ⟨v2, hv2⟩ : ∃ v, nmT c = v := ⟨_, rfl⟩
  obtain ⟨v3, hv3⟩ : ∃ v, nmT d = v := ⟨_, rfl⟩
  obtain ⟨v4, hv4⟩ : ∃ v, prT pr = v := ⟨_, rfl⟩
  have hwr : wrF (a, sq, c, d, pr) = [v0, v1, v2, v3, v4] := by show [nmT a, sqT sq, nmT c, nmT d, prT pr] = _; rw [hv0, hv1, hv2, hv3, hv4]
  rw [hv0, hv1, hv2, hv3, hv4] at HW
  rw [hwr] at hu
  have HU := Lib.hid hu
  have HD := Lib.hid hd
  have HL := Lib.hid (fun (w1 : World) (hh : Rel w1 w1) => funlike_any v0 v1 v2 v3 v4 a b c d e w1 w1 hh)
  clear hr hd hu hwr hv0 hv1 hv2 hv3 hv4
  go_enter Tryd.func16, Tryd.ntmps16
  go_upto_region 3 with (fail)
  try rw [hW]
  clear hW
  go_upto_region 6 with (go_at_call 25; (with_reducible refine (HP.out _ HA.out.self).mono ?_); rintro e1 w1 ⟨rfl, h1⟩; have R1 := Lib.hid h1; clear h1)
  have HX1 := Lib.hid ((HX.out.rel R1.out).alloc (.cells #[.string (B a), .string (B b), .string (B c), .string (B d), .string (B e)] 45))
  have RA := Lib.hid ((HA.out.trans R1.out).alloc (.cells #[.string (B a), .string (B b), .string (B c), .string (B d), .string (B e)] 45))
  have HL1 := Lib.hid (Bk.new w1 45 #[.string (B a), .string (B b), .string (B c), .string (B d), .string (B e)])
  obtain ⟨g1, hg1⟩ : ∃ g, w1.heap.size = g := ⟨_, rfl⟩
  obtain ⟨W1, hW1⟩ : ∃ W1, w1.alloc (.cells #[.string (B a), .string (B b), .string (B c), .string (B d), .string (B e)] 45) = W1 := ⟨_, rfl⟩
  rw [hW1] at HX1 RA HL1
  rw [hg1] at HL1
  try rw [hW1]
  try rw [hg1]
  clear hW1 hg1
  obtain ⟨⟨l0, l1, l2, l3, l4⟩, _⟩ := five_of HL1.out
  go_upto_region 7 with (go_at_call 26; (with_reducible refine (HQ.out _ RA.out.self).mono ?_); rintro e2 w2 ⟨rfl, h2⟩; have R2 := Lib.hid h2; clear h2)
  have HX2 := Lib.hid ((HX1.out.rel R2.out).alloc (.cells #[.string (B a), .int .i64 sq, .string (B c), .string (B d), .int .i64 pr] 23))
  have RB := Lib.hid ((RA.out.trans R2.out).alloc (.cells #[.string (B a), .int .i64 sq, .string (B c), .string (B d), .int .i64 pr] 23))
  have HL2 := Lib.hid ((HL1.out.rel R2.out).alloc (.cells #[.string (B a), .int .i64 sq, .string (B c), .string (B d), .int .i64 pr] 23))
  have HF2 := Lib.hid (Bk.new w2 23 #[.string (B a), .int .i64 sq, .string (B c), .string (B d), .int .i64 pr])
  obtain ⟨g2, hg2⟩ : ∃ g, w2.heap.size = g := ⟨_, rfl⟩
  obtain ⟨W2, hW2⟩ : ∃ W2, w2.alloc (.cells #[.string (B a), .int .i64 sq, .string (B c), .string (B d), .int .i64 pr] 23) = W2 := ⟨_, rfl⟩
  rw [hW2] at HX2 RB HL2 HF2
  rw [hg2] at HF2
  try rw [hW2]
  try rw [hg2]
  clear hW2 hg2 l0 l1 l2 l3 l4
  obtain ⟨⟨l0, l1, l2, l3, l4⟩, _⟩ := five_of HF2.out
  go_upto_region 8 with (go_at_call 20; (with_reducible refine (HW.out _ RB.out.self).mono ?_); rintro e3 w3 ⟨rfl, h3⟩; have R3 := Lib.hid h3; clear h3)
  have HX3 := Lib.hid ((HX2.out.rel R3.out).alloc (.cells #[.string (B v0), .string (B v1), .string (B v2), .string (B v3), .string (B v4)] 45))
  have RC := Lib.hid ((RB.out.trans R3.out).alloc (.cells #[.string (B v0), .string (B v1), .string (B v2), .string (B v3), .string (B v4)] 45))
  have HL3 := Lib.hid ((HL2.out.rel R3.out).alloc (.cells #[.string (B v0), .string (B v1), .string (B v2), .string (B v3), .string (B v4)] 45))
  have HF3 := Lib.hid ((HF2.out.rel R3.out).alloc (.cells #[.string (B v0), .string (B v1), .string (B v2), .string (B v3), .string (B v4)] 45))
  have HV3 := Lib.hid (Bk.new w3 45 #[.string (B v0), .string (B v1), .string (B v2), .string (B v3), .string (B v4)])
  obtain ⟨g3, hg3⟩ : ∃ g, w3.heap.size = g := ⟨_, rfl⟩
  obtain ⟨W3, hW3⟩ : ∃ W3, w3.alloc (.cells #[.string (B v0), .string (B v1), .string (B v2), .string (B v3), .string (B v4)] 45) = W3 := ⟨_, rfl⟩
  rw [hW3] at HX3 RC HL3 HF3 HV3
  rw [hg3] at HV3
  try rw [hW3]
  try rw [hg3]
  clear hW3 hg3 l0 l1 l2 l3 l4
  obtain ⟨⟨l0, l1, l2, l3, l4⟩, _⟩ := five_of HL3.out
  obtain ⟨⟨f0, f1, f2, f3, f4⟩, _⟩ := five_of HF3.out
  obtain ⟨⟨u0, u1, u2, u3, u4⟩, _⟩ := five_of HV3.out
  obtain ⟨⟨y0, y1, y2, y3, y4⟩, y5, y6, y7, y8, y9⟩ := five_of HX3.out
  cases hfst : firstF 0 [a, b, c, d, e] with
  | some i =>
    have hu2 := HU.out
    have hd2 := HD.out
    rw [hfst] at hu2 hd2
    simp only at hu2 hd2
    have HD := Lib.hid (decV_bad hd2)
    have EQ := fun W => eq_fields_no W v0 v1 v2 v3 v4 a b c d e hu2.1
    have HUn := Lib.hid hu2.2
    have HL := Lib.hid (fun (w1 : World) (hh : Rel w1 w1) => by have := HL.out w1 hh; rw [hu2.2] at this; exact this)
    obtain ⟨⟨r0, r1, r2, r3, r4⟩, _⟩ := five_of HX3.out
    clear hu2 hd2 hfst HU
    clear r0 r1 r2 r3 r4
    go_wp2_with (go_at_call 27; (with_reducible refine (HL.out _ RC.out.self).mono ?_); rintro e4 w4 ⟨rfl, h4⟩; have R4 := Lib.hid h4; obtain ⟨⟨y0, y1, y2, y3, y4⟩, y5, y6, y7, y8, y9⟩ := five_of (HX3.out.rel h4); clear h4)
    obtain ⟨⟨r0, r1, r2, r3, r4⟩, _⟩ := five_of ((HX3.out.rel R4.out).put5 (.string ⟨#[]⟩) (.int .i64 0) (.string ⟨#[]⟩) (.string ⟨#[]⟩) (.int .i64 0))
    exact bodyPost_ret (v := .tuple #[.agg #[.string ⟨#[]⟩, .int .i64 0, .string ⟨#[]⟩, .string ⟨#[]⟩, .int .i64 0], .int .i64 112, .int .i64 (i : Int)]) (by simp [results, Tryd.results16, go_sem, r0, r1, r2, r3, r4]) rfl ⟨by rw [HD.out.1, HD.out.2.1, HD.out.2.2]; rfl, Rel.put5 ((HR.out.trans RC.out).trans R4.out) HR.out.size _ _ _ _ _⟩
  | none =>
    have hu2 := HU.out
    have hd2 := HD.out
    rw [hfst] at hu2 hd2
    simp only at hu2 hd2
    have HD := Lib.hid (decV_ok hd2)
    obtain ⟨hu3, hu4⟩ := hu2
    injection hu3 with e0 hu3
    injection hu3 with e1 hu3
    injection hu3 with e2 hu3
    injection hu3 with e3 hu3
    injection hu3 with e4 hu3
    subst e0; subst e1; subst e2; subst e3; subst e4
    have EQ := fun W => eq_fields_yes W _ v0 v1 v2 v3 v4 rfl
    have HD := Lib.hid (show decV s = (v0, sq, v2, v3, pr) ∧ decE s = 0 ∧ decN s = 0 from ⟨by rw [HD.out.1, hu4], HD.out.2⟩)
    obtain ⟨⟨r0, r1, r2, r3, r4⟩, _⟩ := five_of (HX3.out.put5 (.string (B v0)) (.int .i64 sq) (.string (B v2)) (.string (B v3)) (.int .i64 pr))
    clear hd2 hfst HU hu4
    go_wp2_with (fail)
    exact bodyPost_ret (v := .tuple #[.agg #[.string (B v0), .int .i64 sq, .string (B v2), .string (B v3), .int .i64 pr], .int .i64 0, .int .i64 0]) (by simp [results, Tryd.results16, go_sem, r0, r1, r2, r3, r4]) rfl ⟨by rw [HD.out.1, HD.out.2.1, HD.out.2.2], Rel.put5 (HR.out.trans RC.out) HR.out.size _ _ _ _ _⟩
theorem fdecode_any (s : List UInt8) (hl : s.length ≤ 9223372036854775807) (w0 w : World) (hr : Rel w0 w) :
    Calls Tryd.prog 16 #[.string (B s)] w (DecPost w0 s) := by
  rcases Nat.lt_or_ge 100 s.length with h | h
  · exact fdec_long s hl h w0 w hr
  · by_cases h5 : (fieldsF s).length = 5
    · match hf : fieldsF s, h5 with
      | [a, b, c, d, e], _ => exact fdec_five s a b c d e h hf w0 w hr
    · exact fdec_not s h h5 w0 w hr
/-- All that the laws ask of the landed package feed. -/
theorem feedOk : FeedOk := ⟨fun f w0 w hf hr => fright_any f hf w0 w hr, fun f w0 w hf hr => fencode_any f hf w0 w hr, fun s w0 w hl hr => fdecode_any s hl w0 w hr⟩
end Go.Proofs.YtkpgplafcoabnaaDoor
