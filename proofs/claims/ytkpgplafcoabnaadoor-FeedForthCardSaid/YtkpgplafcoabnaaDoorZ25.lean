/- FeedForth, over what the program is asked. -/
import Derived.Test.YtkpgplafcoabnaaDoorZL
import Derived.Test.YtkpgplafcoabnaaDoorZ00
import Derived.Test.YtkpgplafcoabnaaDoorZ01
import Derived.Test.YtkpgplafcoabnaaDoorZ02
import Derived.Test.YtkpgplafcoabnaaDoorZ03
import Derived.Test.YtkpgplafcoabnaaDoorZ06
import Derived.Test.YtkpgplafcoabnaaDoorZ11
import Derived.Test.YtkpgplafcoabnaaDoorZ13
import Derived.Test.YtkpgplafcoabnaaDoorZ16
import Derived.Test.YtkpgplafcoabnaaDoorZ18
namespace Go.Proofs.YtkpgplafcoabnaaDoor
open Go.RowKit Go.Lib
set_option linter.unusedVariables false
set_option linter.unusedSimpArgs false
theorem decF_err {s : List UInt8} {e : Int × Int} (h : decF s = .error e) : (e = (60, 0) ∨ e = (111, 0)) ∨ ∃ i : Nat, i ≤ 4 ∧ e = (112, (i : Int)) := by
  unfold decF at h
  by_cases hl : 100 < s.length
  · rw [if_pos hl] at h; injection h with h; exact .inl (.inl h.symm)
  rw [if_neg hl] at h
  match hf : fieldsF s, h with
  | [a, b, c, d, x], h =>
    simp only at h
    cases hb : firstF 0 [a, b, c, d, x] with
    | none => rw [hb] at h; cases h
    | some i =>
      rw [hb] at h
      injection h with h
      refine .inr ⟨i, ?_, h.symm⟩
      simp only [firstF] at hb
      split at hb
      · split at hb
        · split at hb
          · split at hb
            · split at hb
              · cases hb
              · injection hb; omega
            · injection hb; omega
          · injection hb; omega
        · injection hb; omega
      · injection hb; omega
  | [], h => injection h with h; exact .inl (.inr h.symm)
  | [_], h => injection h with h; exact .inl (.inr h.symm)
  | [_, _], h => injection h with h; exact .inl (.inr h.symm)
  | [_, _, _], h => injection h with h; exact .inl (.inr h.symm)
  | [_, _, _, _], h => injection h with h; exact .inl (.inr h.symm)
  | _ :: _ :: _ :: _ :: _ :: _ :: _, h => injection h with h; exact .inl (.inr h.symm)
set_option maxRecDepth 100000 in
set_option maxHeartbeats 4000000 in
theorem FeedForth_at (H : FeedOk) (s0 : ByteArray) (r0 r1 r2 r3 r4 : Int) (at' : Int) (M : ByteArray) (hf : RawFit (r0, r1, r2, r3, r4)) (hat : i64 at') (hs0 : s0.size ≤ 140737488351232) (hM : M.size ≤ 140737488351232) (w : World) (hr : Rel w w) :
    Calls Tryd.prog 5 #[.string s0, .agg #[.int .i64 r0, .int .i64 r1, .int .i64 r2, .int .i64 r3, .int .i64 r4], .int .i64 at', .string M] w fun e w' => e = .returned (.bool true) ∧ Rel w w' := by
  obtain ⟨f, hff⟩ : ∃ f, lineF (r0, r1, r2, r3, r4) = f := ⟨_, rfl⟩
  have rf : rightF f = true := by rw [← hff]; exact line_right _
  obtain ⟨xa, xc, xd, xn, xp, hx, x0, x1, x2, x3, x4⟩ := mk5 f
  have HL1 := Lib.hid (show ∀ w1 : World, Rel w1 w1 → Calls Tryd.prog 10 #[.agg #[.int .i64 r0, .int .i64 r1, .int .i64 r2, .int .i64 r3, .int .i64 r4]] w1 fun e w' => e = .returned (.agg #[.string xa, .int .i64 xn, .string xc, .string xd, .int .i64 xp]) ∧ Rel w1 w' from fun w1 h => line_at (r0, r1, r2, r3, r4) hf (.agg #[.string xa, .int .i64 xn, .string xc, .string xd, .int .i64 xp]) (by rw [hff, hx]) w1 h)
  obtain ⟨S, hS⟩ : ∃ S, B (encT f) = S := ⟨_, rfl⟩
  have zS : S.size ≤ 69 := by rw [← hS, B_size, (encT_yes rf).1]; exact fdtext_len rf
  have HE1 := Lib.hid (fun (w1 : World) (h : Rel w1 w1) => enc_at H f (right_fit rf) _ hx S hS 0 (encT_yes rf).2 w1 h)
  obtain ⟨p, hp⟩ : ∃ p, pk at' ((S.size : Int) + 1) = p := ⟨_, rfl⟩
  obtain ⟨p0, p1⟩ := pk_bd at' ((S.size : Int) + 1) (by omega)
  rw [hp] at p0 p1
  have HP := Lib.hid hp
  simp only [i64] at hat
  have HR := Lib.hid hr
  have HAw := Lib.hid (fun (w1 : World) (h : Rel w1 w1) => awake12_any H w1 w1 h)
  have HA0 := Lib.hid (hr.alloc (.cells #[.int .i64 r0, .int .i64 r1, .int .i64 r2, .int .i64 r3, .int .i64 r4] 24))
  have HX0 := Lib.hid (Bk.new w 24 #[.int .i64 r0, .int .i64 r1, .int .i64 r2, .int .i64 r3, .int .i64 r4])
  obtain ⟨W0, hW0⟩ : ∃ W0, w.alloc (.cells #[.int .i64 r0, .int .i64 r1, .int .i64 r2, .int .i64 r3, .int .i64 r4] 24) = W0 := ⟨_, rfl⟩
  rw [hW0] at HA0 HX0
  have HH := Lib.hid H
  clear hr hf hff hS hx hp x0 x1 x2 x3 x4 H
  go_enter Tryd.func5, Tryd.ntmps5
  go_upto_region 1 with (fail)
  try rw [hW0]
  clear hW0
  go_upto_region 4 with (first
    | (go_at_call 9; (with_reducible refine (HAw.out _ HA0.out.self).mono ?_); rintro e0 W1 ⟨rfl, h1⟩; have HW1 := Lib.hid h1; obtain ⟨⟨d0, d1, d2, d3, d4⟩, _⟩ := five_of (HX0.out.rel h1); clear h1)
    | (go_at_call 10; (with_reducible refine (HL1.out _ HW1.out.self).mono ?_); rintro e0 w2 ⟨rfl, h2⟩; have HW2 := Lib.hid h2; clear h2)
    | (go_at_call 11; (with_reducible refine (HE1.out _ HW2.out.self).mono ?_); rintro e0 w3 ⟨rfl, h3⟩; have HW3 := Lib.hid ((HW1.out.trans HW2.out).trans h3); clear h3)
    | (go_at_call 15; (with_reducible refine (pick12_as at' ((S.size : Int) + 1) p HP hat.1 hat.2 (by omega) (by omega) _).mono ?_); rintro e w4 ⟨rfl, rfl⟩))
  obtain ⟨k, rfl⟩ : ∃ k : Nat, p = k := ⟨p.toNat, by omega⟩
  have hk : k ≤ S.size := by omega
  obtain ⟨P, E1⟩ : ∃ P, S.extract 0 k = P := ⟨_, rfl⟩
  obtain ⟨Q, E2⟩ : ∃ Q, P ++ M = Q := ⟨_, rfl⟩
  obtain ⟨R', E5⟩ : ∃ R, S.extract k S.size = R := ⟨_, rfl⟩
  obtain ⟨X3, E6⟩ : ∃ X, Q ++ R' = X := ⟨_, rfl⟩
  have zP : P.size ≤ 100 := by rw [← E1, ByteArray.size_extract]; omega
  have zQ : Q.size ≤ 140737488351332 := by rw [← E2, ByteArray.size_append]; omega
  have zR' : R'.size ≤ 100 := by rw [← E5, ByteArray.size_extract]; omega
  have zX3 : X3.size ≤ 140737488351432 := by rw [← E6, ByteArray.size_append]; omega
  obtain ⟨m, hm⟩ : ∃ m : Nat, (if (S.size : Int) < (k : Int) + (M.size : Int) then (S.size : Int) else (k : Int) + (M.size : Int)) = (m : Int) := ⟨min S.size (k + M.size), by split <;> omega⟩
  have hmS : m ≤ S.size := by split at hm <;> omega
  have hm2 : min ((k : Int) + (M.size : Int)) (S.size : Int) = (m : Int) := by split at hm <;> omega
  obtain ⟨R, E3⟩ : ∃ R, S.extract m S.size = R := ⟨_, rfl⟩
  obtain ⟨X2, E4⟩ : ∃ X, Q ++ R = X := ⟨_, rfl⟩
  have zR : R.size ≤ 100 := by rw [← E3, ByteArray.size_extract]; omega
  have zX2 : X2.size ≤ 140737488351432 := by rw [← E4, ByteArray.size_append]; omega
  have hk1 : (k : Int) ≤ (S.size : Int) := by omega
  have hm1 : (m : Int) ≤ (S.size : Int) := by omega
  have c1 : ¬ 9223372036854775807 < P.size + M.size := by omega
  have c2 : ¬ 9223372036854775807 < Q.size + R.size := by omega
  have c3 : ¬ 9223372036854775807 < Q.size + R'.size := by omega
  have hw : IntKind.i64.wrap ((k : Int) + (M.size : Int)) = (k : Int) + (M.size : Int) := by rw [IntKind.wrap_i64]; omega
  clear zP zQ zR zR' d0 d1 d2 d3 d4
  go_cut [57, 58, 59] (fun s n i wx => ∃ (V : World) (gs : Nat), V = wx ∧ s = .slice (some ⟨gs, 0, none⟩) 3 3 ∧ n = .int .i64 3 ∧ i = .int .i64 0 ∧ Hid (Rel w3 V) ∧ Hid (Bk V gs 9 #[.string s0, .string X2, .string X3]))
  case first =>
    go_region_law (fail)
    go_wp2_with (fail)
    try simp only [Act.put, List.getElem_toArray, List.getElem_cons_succ, List.getElem_cons_zero, List.setIfInBounds_toArray, List.set_cons_zero, List.set_cons_succ]
    go_meet
    exact ⟨_, w3.heap.size, rfl, rfl, rfl, rfl, Lib.hid (HW3.out.self.alloc _).drew, Lib.hid (Bk.new w3 9 #[.string s0, .string X2, .string X3]).drew⟩
  obtain ⟨V, gs, rfl, rfl, rfl, rfl, R2, HSl⟩ := hcut
  obtain ⟨Xs, hXs⟩ : ∃ X : Nat → ByteArray, X = fun j => [s0, X2, X3].getD j ⟨#[]⟩ := ⟨_, rfl⟩
  have HC := Lib.hid (show ∀ j, j < 3 → V.cell? ⟨gs, j, none⟩ = some (.string (Xs j)) ∧ (Xs j).size ≤ 140737488351432 from fun j hj => by
    subst hXs
    have b0 := HSl.out.cell 0
    have b1 := HSl.out.cell 1
    have b2 := HSl.out.cell 2
    have ways : j = 0 ∨ j = 1 ∨ j = 2 := by omega
    rcases ways with rfl | rfl | rfl
    · exact ⟨b0, by show s0.size ≤ _; omega⟩
    · exact ⟨b1, zX2⟩
    · exact ⟨b2, zX3⟩)
  have HA := Lib.hid ((HA0.out.trans HW3.out).trans R2.out)
  clear hXs E1 E2 E3 E4 E5 E6 c1 c2 c3 hw hm hm2 hk1 hm1 zX2 zX3
  go_upto_block 0 with (fail)
  go_wp2_with (fail)
  go_loopw [59] (fun i wr => ∃ j : Nat, j ≤ 3 ∧ i = .int .i64 (j : Int) ∧ Hid (Rel V wr)) (fun i _ => 3 - (RowKit.intOf i).toNat)
  case atStart => exact ⟨0, by omega, rfl, Lib.hid R2.out.self⟩
  case round =>
    obtain ⟨j, hj, rfl, HRw⟩ := hrel
    by_cases hlt : j < 3
    · obtain ⟨hc0, hsz⟩ := HC.out j hlt
      have hc := (HRw.out.2.cell (p := ⟨gs, j, none⟩) HSl.out.lt).trans hc0
      obtain ⟨x, hxx⟩ : ∃ x, Xs j = x := ⟨_, rfl⟩
      rw [hxx] at hc hsz
      clear hc0 hxx
      obtain ⟨l, hl⟩ : ∃ l, x.data.toList = l := ⟨_, rfl⟩
      have hlx : B l = x := by rw [← hl, B_of]
      have hll : l.length ≤ 9223372036854775807 := by have := B_size l; rw [hlx] at this; omega
      cases hd : decF l with
      | ok f1 =>
        obtain ⟨rf1, ht1⟩ := dec_ok hd
        have hd1 := decV_ok hd
        obtain ⟨ya, yc, yd, yn, yp, hy, _⟩ := mk5 f1
        have HD1 := Lib.hid (fun (w1 : World) (hr1 : Rel w1 w1) => dec_at HH.out l x hlx hll _ ((congrArg FV hd1.1).trans hy) 0 0 hd1.2.1 hd1.2.2 w1 hr1)
        have HE2 := Lib.hid (fun (w1 : World) (hr1 : Rel w1 w1) => enc_at HH.out f1 (right_fit rf1) _ hy x (by rw [(encT_yes rf1).1, ht1, hlx]) 0 (encT_yes rf1).2 w1 hr1)
        have HR2 := Lib.hid (fun (w1 : World) (hr1 : Rel w1 w1) => rig_at HH.out f1 (right_fit rf1) _ hy true rf1 w1 hr1)
        clear hl hlx hll hd rf1 ht1 hd1 hy hsz
        go_upto_region 8 with (go_at_call 16; (with_reducible refine (HD1.out _ HRw.out.self).mono ?_); rintro e0 w4 ⟨rfl, h4⟩; have G4 := Lib.hid ((HRw.out.trans h4).alloc (.cells #[.string ya, .int .i64 yn, .string yc, .string yd, .int .i64 yp] 23)); have HB4 := Lib.hid (Bk.new w4 23 #[.string ya, .int .i64 yn, .string yc, .string yd, .int .i64 yp]); clear h4)
        obtain ⟨gc, hgc⟩ : ∃ g, w4.heap.size = g := ⟨_, rfl⟩
        obtain ⟨V4, hV4⟩ : ∃ V4, w4.alloc (.cells #[.string ya, .int .i64 yn, .string yc, .string yd, .int .i64 yp] 23) = V4 := ⟨_, rfl⟩
        rw [hV4] at G4 HB4
        rw [hgc] at HB4
        try rw [hV4]
        try rw [hgc]
        clear hV4 hgc hc
        obtain ⟨⟨b0, b1, b2, b3, b4⟩, _⟩ := five_of HB4.out
        go_wp2_with (first
          | (go_at_call 11; (with_reducible refine (HE2.out _ G4.out.self).mono ?_); rintro e0 w5 ⟨rfl, h5⟩; have G5 := Lib.hid (G4.out.trans h5); obtain ⟨⟨b0, b1, b2, b3, b4⟩, _⟩ := five_of (HB4.out.rel h5); clear h5)
          | (go_at_call 13; (with_reducible refine (HR2.out _ G5.out.self).mono ?_); rintro e0 w6 ⟨rfl, h6⟩; have G6 := Lib.hid (G5.out.trans h6); clear h6))
        go_roundw
        case rel => exact ⟨j + 1, by omega, by go_num, Lib.hid G6.out⟩
        case measure => simp [RowKit.intOf]; omega
      | error e =>
        have hd1 := decV_bad hd
        have EQ := zero_is
        rcases decF_err hd with (rfl | rfl) | ⟨i, hi, rfl⟩
        all_goals
          have HD1 := Lib.hid (fun (w1 : World) (hr1 : Rel w1 w1) => dec_at HH.out l x hlx hll (.agg #[.string ⟨#[]⟩, .int .i64 0, .string ⟨#[]⟩, .string ⟨#[]⟩, .int .i64 0]) (by rw [hd1.1]; rfl) _ _ hd1.2.1 hd1.2.2 w1 hr1)
          simp only at HD1
          try have hi4 : (i : Int) ≤ 4 := by omega
          try have hi5 : decide ((4 : Int) < (i : Int)) = false := decide_eq_false (by omega)
          clear hl hlx hll hd hd1 hsz
          go_upto_region 8 with (go_at_call 16; (with_reducible refine (HD1.out _ HRw.out.self).mono ?_); rintro e0 w4 ⟨rfl, h4⟩; have G4 := Lib.hid ((HRw.out.trans h4).alloc (.cells #[.string ⟨#[]⟩, .int .i64 0, .string ⟨#[]⟩, .string ⟨#[]⟩, .int .i64 0] 23)); have HB4 := Lib.hid (Bk.new w4 23 #[.string ⟨#[]⟩, .int .i64 0, .string ⟨#[]⟩, .string ⟨#[]⟩, .int .i64 0]); clear h4)
          obtain ⟨gc, hgc⟩ : ∃ g, w4.heap.size = g := ⟨_, rfl⟩
          obtain ⟨V4, hV4⟩ : ∃ V4, w4.alloc (.cells #[.string ⟨#[]⟩, .int .i64 0, .string ⟨#[]⟩, .string ⟨#[]⟩, .int .i64 0] 23) = V4 := ⟨_, rfl⟩
          rw [hV4] at G4 HB4
          rw [hgc] at HB4
          try rw [hV4]
          try rw [hgc]
          clear hV4 hgc hc
          obtain ⟨⟨b0, b1, b2, b3, b4⟩, _⟩ := five_of HB4.out
          go_wp2_with (fail)
          go_roundw
          case rel => exact ⟨j + 1, by omega, by go_num, Lib.hid G4.out⟩
          case measure => simp [RowKit.intOf]; omega
    · obtain rfl : j = 3 := by omega
      go_wp2_with (fail)
      go_ret
      exact ⟨rfl, HA.out.trans HRw.out⟩
end Go.Proofs.YtkpgplafcoabnaaDoor
