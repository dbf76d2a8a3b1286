/- The law's raw book, walked. -/
import Derived.Test.YtfplhpkolcgpiaaZL
import Derived.Test.YtfplhpkolcgpiaaZ00
import Derived.Test.YtfplhpkolcgpiaaZ01
import Derived.Test.YtfplhpkolcgpiaaZ12
import Derived.Test.YtfplhpkolcgpiaaZ13
import Derived.Test.YtfplhpkolcgpiaaZ14
namespace Go.Proofs.Ytfplhpkolcgpiaa
open Go.RowKit Go.Lib
set_option linter.unusedVariables false
set_option linter.unusedSimpArgs false
theorem step_drop {b : List Sl} {i : Nat} {x y z : Int} (h : pk x 8 = 0) : stepB b i (x, y, z) = dropB b (sellerL (pk y 60)) := by
  unfold stepB; exact if_pos h
theorem step_exp {b : List Sl} {i : Nat} {x y z : Int} (h0 : ¬ pk x 8 = 0) (h : pk x 8 = 1) : stepB b i (x, y, z) = expB b i (pk z 12) := by
  unfold stepB; rw [if_neg h0]; exact if_pos h
theorem step_put {b : List Sl} {i : Nat} {x y z : Int} (h0 : ¬ pk x 8 = 0) (h : ¬ pk x 8 = 1) : stepB b i (x, y, z) = if putE b (sellerL (pk y 60)) (1 + pk z 2500) i = 0 then putV b (sellerL (pk y 60)) (1 + pk z 2500) i else b := by
  unfold stepB; rw [if_neg h0]; exact if_neg h
set_option maxRecDepth 100000 in
set_option maxHeartbeats 8000000 in
theorem book13_any (A : Option Addr) (c : Nat) (zs : List Tr) (w : World) (hr : Rel w w) (hz : TripsIn w A zs.length zs) :
    Calls Try.prog 11 #[.slice A zs.length c] w fun e w' => ∃ A2 c2, e = .returned (.slice A2 (bookS zs).length c2) ∧ SlArg w' A2 c2 (bookS zs) ∧ Rel w w' := by
  have HR := Lib.hid hr
  have HZ := Lib.hid hz
  have hzl : zs.length ≤ 9223372036854775807 := hz.2.1
  clear hz hr
  go_enter Try.func11, Try.ntmps11
  go_upto_block 0 with (fail)
  go_cut [3] (fun v wx => ∃ A2 c2, v = .slice A2 (bookS zs).length c2 ∧ Hid (SlArg wx A2 c2 (bookS zs)) ∧ Hid (Rel w wx))
  case first =>
    go_wp2_with (fail)
    go_loopw [3, 4] (fun v i wr => ∃ (j : Nat) (b : List Sl) (A2 : Option Addr) (c2 : Nat), j ≤ zs.length ∧ j ≤ 30 ∧ i = .int .i64 (j : Int) ∧ v = .slice A2 b.length c2 ∧ Hid (bookTo zs j = b) ∧ Hid (SlArg wr A2 c2 b) ∧ Hid (Rel w wr)) (fun _ i _ => zs.length - (RowKit.intOf i).toNat)
    case atStart => exact ⟨0, [], none, 0, by omega, by omega, rfl, rfl, Lib.hid rfl, Lib.hid (SlArg.nil _), HR⟩
    case round =>
      obtain ⟨j, b, A2, c2, hj, hj30, rfl, rfl, HBk, HSl, HRw⟩ := hrel
      by_cases hlt : j < zs.length
      · by_cases h30 : j < 30
        · obtain ⟨a, x, y, z, rfl, hbl, c0, c1, c3, hxy, hx, hy, hz⟩ := trips_at HZ.out HRw.out j hlt
          have HXY := Lib.hid hxy
          have HSt := Lib.hid (show bookTo zs (j + 1) = stepB b j (x, y, z) from by rw [bookTo_next hlt, HBk.out, hxy])
          have HOk := Lib.hid (show bookOk b from by rw [← HBk.out]; exact bookTo_ok _ _)
          have hi : (j : Int) < (zs.length : Int) := by omega
          have hi30 : (j : Int) < 30 := by omega
          have hwr := HRw.out.size
          have hsl : (sellerL (pk y 60)).length ≤ 12 := bname_len (seller_name (pk y 60) (pk_bd y 60 (by omega)).1 (pk_bd y 60 (by omega)).2)
          have hSe := fun (w0 w : World) (hr : Rel w0 w) => seller_any y hy.1 hy.2 w0 w hr
          obtain ⟨s, hs⟩ : ∃ s, sellerL (pk y 60) = s := ⟨_, rfl⟩
          rw [hs] at hSe hsl
          have HSs := Lib.hid hs
          obtain ⟨X, hX⟩ : ∃ X, B s = X := ⟨_, rfl⟩
          rw [hX] at hSe
          have HX := Lib.hid hX
          have HSe := Lib.hid hSe
          have hp8 := pk_bd x 8 (by omega)
          obtain ⟨P, hP⟩ : ∃ P, pk x 8 = P := ⟨_, rfl⟩
          rw [hP] at hp8
          have HP := Lib.hid hP
          have HPx := Lib.hid hx
          have HPz := Lib.hid hz
          clear hxy hSe hs hX hP hx hz hy
          go_upto_region 6 with (go_at_call 12; (with_reducible refine (HSe.out _ _ HRw.out.self).mono ?_); rintro e w1 ⟨rfl, r1⟩)
          have R1 := Lib.hid r1
          have RT := Lib.hid (HRw.out.trans r1)
          have SL1 := Lib.hid (HSl.out.rel r1)
          have S1 := Lib.hid (HRw.out.trans r1).self
          have S2 := Lib.hid r1.self
          have d0 := (r1.2.cell (p := a.add (j * 3)) (by omega)).trans c0
          have d2 := (r1.2.cell (p := ⟨(a.add (j * 3)).block, (a.add (j * 3)).off + 2, none⟩) (by show (a.add (j * 3)).block < _; omega)).trans c3
          clear c0 c1 c3 r1
          by_cases h0 : P = 0
          · have b0 : (P == 0) = true := by rw [h0]; rfl
            have HD := Lib.hid (rdrop_any b A2 c2 s w1 S2.out SL1.out)
            have HE := Lib.hid (show bookTo zs (j + 1) = dropB b s from by rw [HSt.out, step_drop (HP.out.trans h0), HSs.out])
            rw [HX.out] at HD
            clear h0
            go_wp2_with (first
              | (go_at_call 13; (with_reducible refine (pick13_as x 8 P HP HPx.out (by omega) (by omega) _).mono ?_); rintro e w2 ⟨rfl, rfl⟩)
              | (go_at_call 20; (with_reducible refine HD.out.mono ?_); rintro e w2 ⟨A3, c3, rfl, hO, hr2⟩))
            have HO := Lib.hid (BkOwn.arg_ok hO (book_drop HOk.out s))
            have HR2 := Lib.hid (RT.out.trans hr2)
            go_roundw
            case rel => exact ⟨j + 1, dropB b s, A3, c3, by omega, by omega, by go_num, rfl, HE, HO, HR2⟩
            case measure => simp [RowKit.intOf]; omega
          · have b0 : (P == 0) = false := by simpa using h0
            by_cases h1 : P = 1
            · have b1 : (P == 1) = true := by rw [h1]; rfl
              have hq := pk_bd z 12 (by omega)
              obtain ⟨Q, hQ⟩ : ∃ Q, pk z 12 = Q := ⟨_, rfl⟩
              rw [hQ] at hq
              have HQ := Lib.hid hQ
              have HD := Lib.hid (rexpire_any b A2 c2 j Q w1 S2.out SL1.out)
              have HE := Lib.hid (show bookTo zs (j + 1) = expB b j Q from by rw [HSt.out, step_exp (by rw [HP.out]; exact h0) (HP.out.trans h1), hQ])
              clear h0 h1 hQ
              go_wp2_with (first
                | (go_at_call 13; (with_reducible refine (pick13_as x 8 P HP HPx.out (by omega) (by omega) _).mono ?_); rintro e w2 ⟨rfl, rfl⟩)
                | (go_at_call 13; (with_reducible refine (pick13_as z 12 Q HQ HPz.out (by omega) (by omega) _).mono ?_); rintro e w2 ⟨rfl, rfl⟩)
                | (go_at_call 18; (with_reducible refine HD.out.mono ?_); rintro e w2 ⟨A3, c3, rfl, hO, hr2⟩))
              have HO := Lib.hid (BkOwn.arg_ok hO (book_exp HOk.out j Q))
              have HR2 := Lib.hid (RT.out.trans hr2)
              go_roundw
              case rel => exact ⟨j + 1, expB b j Q, A3, c3, by omega, by omega, by go_num, rfl, HE, HO, HR2⟩
              case measure => simp [RowKit.intOf]; omega
            · have b1 : (P == 1) = false := by simpa using h1
              have hq := pk_bd z 2500 (by omega)
              obtain ⟨Q, hQ⟩ : ∃ Q, pk z 2500 = Q := ⟨_, rfl⟩
              rw [hQ] at hq
              have HQ := Lib.hid hQ
              have hput := rput_any b s (1 + Q) j A2 c2 (by omega) w1 S2.out SL1.out
              unfold PutPost at hput
              have HE := Lib.hid (show bookTo zs (j + 1) = (if putE b s (1 + Q) j = 0 then putV b s (1 + Q) j else b) from by rw [HSt.out, step_put (by rw [HP.out]; exact h0) (by rw [HP.out]; exact h1), HSs.out, hQ])
              have HVk := Lib.hid (fun (h : putE b s (1 + Q) j = 0) => put_ok0 HOk.out h)
              obtain ⟨E, hE⟩ : ∃ E, putE b s (1 + Q) j = E := ⟨_, rfl⟩
              obtain ⟨V, hV⟩ : ∃ V, putV b s (1 + Q) j = V := ⟨_, rfl⟩
              rw [hE, hV] at hput HE HVk
              rw [HX.out] at hput
              have HD := Lib.hid hput
              clear h0 h1 hQ hput hE hV
              by_cases hE0 : E = 0
              · have be : (E == 0) = true := by rw [hE0]; rfl
                have HE2 := Lib.hid (show bookTo zs (j + 1) = V from by rw [HE.out, if_pos hE0])
                have HVo := Lib.hid (HVk.out hE0)
                clear hE0
                go_wp2_with (first
                  | (go_at_call 13; (with_reducible refine (pick13_as x 8 P HP HPx.out (by omega) (by omega) _).mono ?_); rintro e w2 ⟨rfl, rfl⟩)
                  | (go_at_call 13; (with_reducible refine (pick13_as z 2500 Q HQ HPz.out (by omega) (by omega) _).mono ?_); rintro e w2 ⟨rfl, rfl⟩)
                  | (go_at_call 15; (with_reducible refine HD.out.mono ?_); rintro e w2 ⟨A3, c3, rfl, hO, hr2⟩; have HO := Lib.hid (BkOwn.arg_ok hO HVo.out); have HR2 := Lib.hid (RT.out.trans hr2); clear hO hr2))
                go_roundw
                case rel => exact ⟨j + 1, V, A3, c3, by omega, by omega, by go_num, rfl, HE2, HO, HR2⟩
                case measure => simp [RowKit.intOf]; omega
              · have be : (E == 0) = false := by simpa using hE0
                have HE2 := Lib.hid (show bookTo zs (j + 1) = b from by rw [HE.out, if_neg hE0])
                clear hE0
                go_wp2_with (first
                  | (go_at_call 13; (with_reducible refine (pick13_as x 8 P HP HPx.out (by omega) (by omega) _).mono ?_); rintro e w2 ⟨rfl, rfl⟩)
                  | (go_at_call 13; (with_reducible refine (pick13_as z 2500 Q HQ HPz.out (by omega) (by omega) _).mono ?_); rintro e w2 ⟨rfl, rfl⟩)
                  | (go_at_call 15; (with_reducible refine HD.out.mono ?_); rintro e w2 ⟨A3, c3, rfl, hO, hr2⟩; have HO := Lib.hid (SL1.out.rel hr2); have HR2 := Lib.hid (RT.out.trans hr2); clear hO hr2))
                go_roundw
                case rel => exact ⟨j + 1, b, A2, c2, by omega, by omega, by go_num, rfl, HE2, HO, HR2⟩
                case measure => simp [RowKit.intOf]; omega
        · have HE := Lib.hid (show b = bookS zs by rw [← HBk.out]; unfold bookS; rw [show min zs.length 30 = j by omega])
          have hi30 : ¬ (j : Int) < 30 := by omega
          have hi : (j : Int) < (zs.length : Int) := by omega
          go_wp2_with (fail)
          go_meet
          exact ⟨A2, c2, by rw [← HE.out], by rw [← HE.out]; exact HSl, HRw⟩
      · obtain rfl : j = zs.length := by omega
        have HE := Lib.hid (show b = bookS zs by rw [← HBk.out]; unfold bookS; rw [show min zs.length 30 = zs.length by omega])
        go_wp2_with (fail)
        all_goals
          go_meet
          exact ⟨A2, c2, by rw [← HE.out], by rw [← HE.out]; exact HSl, HRw⟩
  obtain ⟨A2, c2, rfl, hO, hRL⟩ := hcut
  go_wp2_with (fail)
  go_ret
  exact ⟨A2, c2, rfl, hO.out, hRL.out⟩
end Go.Proofs.Ytfplhpkolcgpiaa
