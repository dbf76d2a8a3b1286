/- The walk of DecShape. -/
import Derived.Test.YtfpcpmkkeigcmaaDoorDecLawB
import Derived.Test.YtfpcpmkkeigcmaaDoorDecMathD
namespace Go.Proofs.YtfpcpmkkeigcmaaDoor
open Go.RowKit Go.Lib
set_option linter.unusedVariables false
set_option linter.unusedSimpArgs false

theorem shape_end (x : Int) (h : x ≠ 0) (h1 : -10000000000 ≤ x) (h2 : x ≤ 10000000000) : (tx (100 * x)).extract (if x < 0 then 1 else 0) (tx (100 * x)).size = B (noDot ((txt x).dropWhile isP)) ++ ⟨#[46, 48, 48]⟩ := by
  rw [shape_txt h (by omega) (by omega)]
  have e3 : (⟨#[46, 48, 48]⟩ : ByteArray) = B [46, 48, 48] := rfl
  rw [e3, B_append]
  unfold tx
  rw [txt_hund h h1 h2]
  by_cases hx : x < 0
  · rw [if_pos hx, if_pos hx]
    have := B_tail 45 (decDigits x.natAbs ++ [46, 48, 48])
    rw [B_size]
    simpa using this
  · rw [if_neg hx, if_neg hx, B_size, B_extract, List.nil_append, List.take_length]
theorem B_len {x : Int} {n : Nat} (h : (tx x).size = n) : (txt x).length = n := by rw [← h]; unfold tx; rw [B_size]
theorem B_one {l : List UInt8} {k : Nat} {d : UInt8} (h : l[k]? = some d) : (B l).extract k (k + 1) = B [d] := by
  obtain ⟨hk, rfl⟩ := List.getElem?_eq_some_iff.1 h
  apply ByteArray.ext
  apply Array.ext'
  simp [B]
  rw [List.drop_eq_getElem_cons hk]
  rfl
theorem drop_at {l : List UInt8} {k : Nat} {d : UInt8} (h : l[k]? = some d) : l.drop k = d :: l.drop (k + 1) := by
  obtain ⟨hk, rfl⟩ := List.getElem?_eq_some_iff.1 h
  exact List.drop_eq_getElem_cons hk
theorem tx_zero : tx 0 = ⟨#[48, 46, 48, 48]⟩ := tx_lit 0 [48, 46, 48, 48] (by decide)
set_option maxHeartbeats 2000000 in
set_option maxRecDepth 100000 in
theorem DecShape_walk (a0 : Int) (w : World) (w0 : (Lit.int .i64 a0).wf = true) (hT : Tab w) :
    Calls Tryd.prog 6 #[.int .i64 a0] w fun e w' => e = .returned (.bool true) ∧ Below w.heap.size w w' := by
  have hr := Rel.start hT
  obtain ⟨u0, u1⟩ := bd64 w0
  obtain ⟨x, hx⟩ : ∃ x, pk a0 20000000001 = x + 10000000000 := ⟨pk a0 20000000001 - 10000000000, by omega⟩
  have bp := pk_bd a0 20000000001 (by omega)
  rw [hx] at bp
  have b0 : -10000000000 ≤ x := by omega
  have b1 : x ≤ 10000000000 := by omega
  have HP := Lib.hid hx
  clear hx bp
  obtain ⟨m, c, t, hm, hd, hc, hi⟩ := txt_four (x := x) (by omega) (by omega)
  have zz := tx_size x
  have HB : (tx x).size = m + 4 := by unfold tx; rw [B_size]; exact hm
  rw [HB] at zz
  have HB0 := Lib.hid HB
  have c1 : decide ((m : Int) + 4 < 4) = false := by simp; omega
  have c2 : (m : Int) + 4 - 3 = (m : Int) + 1 := by omega
  have c3 : ((m : Int) + 1).toNat = m + 1 := by omega
  have HD : ∀ h, (tx x)[m + 1]'h = 46 := fun h => B_at hd h
  have H0 : ∀ h, (tx x)[0]'h = c := fun h => B_at (t := txt x) (by rw [hc]; rfl) h
  have zt := tx_size (100 * x)
  obtain ⟨T, hTx⟩ : ∃ T, tx (100 * x) = T := ⟨_, rfl⟩
  have HTX := Lib.hid hTx
  rw [hTx] at zt
  by_cases hx0 : x = 0
  · subst hx0
    have hc45 : ((c.toNat : Int) == 45) = false := by
      simp only [beq_eq_false_iff_ne]; intro e; have := hi.1 (by omega); omega
    have hT0 : T = ⟨#[48, 46, 48, 48]⟩ := by rw [← hTx]; exact tx_zero
    have HE1 : (tx 0).extract 0 (m + 4) = (⟨#[48, 46, 48, 48]⟩ : ByteArray) := by
      have h4 : m + 4 = (tx 0).size := HB.symm
      rw [h4, tx_zero]; rfl
    have HE2 : (⟨#[48]⟩ : ByteArray) ++ ⟨#[46, 48, 48]⟩ = ⟨#[48, 46, 48, 48]⟩ := rfl
    clear hT0
    clear hi hTx hm hd hc
    go_enter Tryd.func6, Tryd.ntmps6
    go_wp2_with (first
      | (go_at_call 9; (with_reducible refine (awake_any _ _ hr).mono ?_); rintro e wa ⟨rfl, ha⟩)
      | (go_at_call 11; (with_reducible refine (int_at (0 + 10000000000) (pick_any a0 _ u0 u1 (by omega) (by omega) _) HP).mono ?_); rintro e w' ⟨rfl, rfl⟩)
      | (go_at_call 12; (first | (with_reducible refine (text_at _ 0 (by omega) (by omega) (by omega) _ _ (by assumption)).mono ?_)); rintro e w' ⟨rfl, hr'⟩))
    go_loop [9] (fun l => l = .int .i64 0) (fun _ => 0)
    case atStart => exact rfl
    case round =>
      subst hrel
      go_wp2_with (fail)
      go_loop [10, 11] (fun v i => ∃ (k : Nat) (wl : List UInt8), k ≤ m + 4 ∧ i = .int .i64 (k : Int) ∧ v = .string (B wl) ∧ (B wl).size ≤ k) (fun _ i => m + 4 - (RowKit.intOf i).toNat)
      case atStart => exact ⟨0, [], by omega, rfl, rfl, Nat.le_refl _⟩
      case round =>
        obtain ⟨k, wl, hk, rfl, rfl, hw⟩ := hrel
        by_cases hlt : k < m + 4
        · obtain ⟨d, hd⟩ : ∃ d, (txt 0)[k]? = some d := ⟨_, List.getElem?_eq_getElem (by rw [B_len HB0.out]; exact hlt)⟩
          have HG : ∀ h, (tx 0)[k]'h = d := fun h => B_at hd h
          have HX : (tx 0).extract k (k + 1) = B [d] := B_one hd
          have HBB := B_append wl [d]
          have z5 : (B [d]).size ≤ 1 := Nat.le_refl _
          have z6 : (B (wl ++ [d])).size ≤ k + 1 := by rw [← HBB, app_size]; omega
          have n1 : ¬ 9223372036854775807 < (B wl).size + (B [d]).size := by omega
          clear hd
          by_cases h46 : d.toNat = 46
          · have h46' : ((d.toNat : Int) != 46) = false := by simp; omega
            clear h46
            go_wp2_with (fail)
            go_round
            case rel => exact ⟨k + 1, wl, by omega, by go_num, rfl, by omega⟩
            case measure => simp [RowKit.intOf]; omega
          · have h46' : ((d.toNat : Int) != 46) = true := by simp; omega
            clear h46
            go_wp2_with (fail)
            go_round
            case rel => exact ⟨k + 1, wl ++ [d], by omega, by go_num, rfl, z6⟩
            case measure => simp [RowKit.intOf]; omega
        · obtain rfl : k = m + 4 := by omega
          go_wp2_with (fail)
          go_ret
          exact ⟨rfl, Rel.below (by assumption)⟩
  · have hx1 : (x == 0) = false := by simpa using hx0
    have hx2 : (x != 0) = true := by simpa using hx0
    have HE := Lib.hid (shape_end x hx0 b0 b1)
    rw [hTx] at HE
    have HNE := Lib.hid (show (txt x).dropWhile isP ≠ [] from fun e => by
      have := shape_txt hx0 (by omega) (by omega)
      rw [e] at this
      have h2 := (dd_all x.natAbs).2.2.2
      rw [← this] at h2
      cases h2)
    have hsz : T.size = (B (noDot ((txt x).dropWhile isP))).size + 3 + (if x < 0 then 1 else 0) := by
      rw [← hTx]; unfold tx
      rw [shape_txt hx0 (by omega) (by omega), txt_hund hx0 b0 b1, B_size, B_size]
      split <;> simp <;> omega
    obtain ⟨G, hG⟩ : ∃ G, noDot ((txt x).dropWhile isP) = G := ⟨_, rfl⟩
    rw [hG] at HE hsz
    have HG := Lib.hid hG
    have zG : (B G).size ≤ 43 := by omega
    clear hTx hm hd hc hx0 hG
    by_cases hxs : x < 0
    · have hs1 : x < 0 := by omega
      have hc45 : ((c.toNat : Int) == 45) = true := by simp only [beq_iff_eq]; have := hi.2 hxs; omega
      have zs : 1 ≤ T.size := by rw [hsz]; omega
      have HY : T.extract 1 T.size = B G ++ ⟨#[46, 48, 48]⟩ := by have := HE.out; rw [if_pos hxs] at this; exact this
      have HBq : (B G).size + 3 ≤ 100 := by omega
      clear hi hsz HE hxs
      go_enter Tryd.func6, Tryd.ntmps6
      go_wp2_with (first
        | (go_at_call 9; (with_reducible refine (awake_any _ _ hr).mono ?_); rintro e wa ⟨rfl, ha⟩)
        | (go_at_call 11; (with_reducible refine (int_at (x + 10000000000) (pick_any a0 _ u0 u1 (by omega) (by omega) _) HP).mono ?_); rintro e w' ⟨rfl, rfl⟩)
        | (go_at_call 12; (first | (with_reducible refine (text_at _ x (by omega) (by omega) (by omega) _ _ (by assumption)).mono ?_) | (with_reducible refine (str_at _ (text_at _ (100 * x) (by omega) (by omega) (by omega) _ _ (by assumption)) HTX).mono ?_)); rintro e w' ⟨rfl, hr'⟩))
      go_loop [9] (fun l => ∃ k : Nat, k ≤ m + 4 ∧ l = .int .i64 (k : Int) ∧ Hid (((txt x).drop k).dropWhile isP = (txt x).dropWhile isP)) (fun l => m + 4 - (RowKit.intOf l).toNat)
      case atStart => exact ⟨0, by omega, rfl, Lib.hid rfl⟩
      case round =>
        obtain ⟨k, hk, rfl, HK⟩ := hrel
        by_cases hlt : k < m + 4
        · have hlt' : k < (txt x).length := by rw [B_len HB0.out]; exact hlt
          obtain ⟨d, hd⟩ : ∃ d, (txt x)[k]? = some d := ⟨_, List.getElem?_eq_getElem hlt'⟩
          have HGk : ∀ h, (tx x)[k]'h = d := fun h => B_at hd h
          have HS := Lib.hid (drop_at hd)
          clear hd hlt'
          by_cases p1 : d.toNat = 48
          · have p1' : ((d.toNat : Int) == 48) = true := by simp; omega
            have HP1 := Lib.hid (show isP d = true by rw [UInt8.toNat_inj.1 (show d.toNat = (48 : UInt8).toNat from p1)]; decide)
            clear p1
            go_wp2_with (fail)
            go_round
            case rel => exact ⟨k + 1, by omega, by go_num, Lib.hid (by rw [← HK.out, HS.out, skip_go HP1.out])⟩
            case measure => simp [RowKit.intOf]; omega
          · have p1' : ((d.toNat : Int) == 48) = false := by simp; omega
            by_cases p2 : d.toNat = 46
            · have p2' : ((d.toNat : Int) == 46) = true := by simp; omega
              have HP1 := Lib.hid (show isP d = true by rw [UInt8.toNat_inj.1 (show d.toNat = (46 : UInt8).toNat from p2)]; decide)
              clear p1 p2
              go_wp2_with (fail)
              go_round
              case rel => exact ⟨k + 1, by omega, by go_num, Lib.hid (by rw [← HK.out, HS.out, skip_go HP1.out])⟩
              case measure => simp [RowKit.intOf]; omega
            · have p2' : ((d.toNat : Int) == 46) = false := by simp; omega
              by_cases p3 : d.toNat = 45
              · have p3' : ((d.toNat : Int) == 45) = true := by simp; omega
                have HP1 := Lib.hid (show isP d = true by rw [UInt8.toNat_inj.1 (show d.toNat = (45 : UInt8).toNat from p3)]; decide)
                clear p1 p2 p3
                go_wp2_with (fail)
                go_round
                case rel => exact ⟨k + 1, by omega, by go_num, Lib.hid (by rw [← HK.out, HS.out, skip_go HP1.out])⟩
                case measure => simp [RowKit.intOf]; omega
              · have p3' : ((d.toNat : Int) == 45) = false := by simp; omega
                have HD1 := Lib.hid (show (txt x).drop k = (txt x).dropWhile isP by rw [← HK.out, HS.out, skip_no (isP_no p1 p2 p3)])
                clear p1 p2 p3
                go_wp2_with (fail)
                go_loop [10, 11] (fun v i => ∃ (k : Nat) (wl : List UInt8), k ≤ m + 4 ∧ i = .int .i64 (k : Int) ∧ v = .string (B wl) ∧ (B wl).size ≤ k ∧ Hid (wl ++ noDot ((txt x).drop k) = G)) (fun _ i => m + 4 - (RowKit.intOf i).toNat)
                case atStart => exact ⟨k, [], by omega, rfl, rfl, Nat.zero_le _, Lib.hid (by rw [HD1.out, HG.out]; rfl)⟩
                case round =>
                  obtain ⟨k2, wl, hk2, rfl, rfl, hw, HW⟩ := hrel
                  by_cases hlt2 : k2 < m + 4
                  · have hlt3 : k2 < (txt x).length := by rw [B_len HB0.out]; exact hlt2
                    obtain ⟨d2, hd2⟩ : ∃ d, (txt x)[k2]? = some d := ⟨_, List.getElem?_eq_getElem hlt3⟩
                    have HG2 : ∀ h, (tx x)[k2]'h = d2 := fun h => B_at hd2 h
                    have HX : (tx x).extract k2 (k2 + 1) = B [d2] := B_one hd2
                    have HBB := B_append wl [d2]
                    have HS2 := Lib.hid (drop_at hd2)
                    have z5 : (B [d2]).size ≤ 1 := Nat.le_refl _
                    have z6 : (B (wl ++ [d2])).size ≤ k2 + 1 := by rw [← HBB, app_size]; omega
                    have n1 : ¬ 9223372036854775807 < (B wl).size + (B [d2]).size := by omega
                    clear hd2 hlt3
                    by_cases h46 : d2.toNat = 46
                    · have h46' : ((d2.toNat : Int) != 46) = false := by simp; omega
                      have HN := Lib.hid (show noDot ((txt x).drop k2) = noDot ((txt x).drop (k2 + 1)) by rw [HS2.out, UInt8.toNat_inj.1 (show d2.toNat = (46 : UInt8).toNat from h46), noDot_dot])
                      clear h46
                      go_wp2_with (fail)
                      go_round
                      case rel => exact ⟨k2 + 1, wl, by omega, by go_num, rfl, by omega, Lib.hid (by rw [← HW.out, HN.out])⟩
                      case measure => simp [RowKit.intOf]; omega
                    · have h46' : ((d2.toNat : Int) != 46) = true := by simp; omega
                      have HN := Lib.hid (show noDot ((txt x).drop k2) = d2 :: noDot ((txt x).drop (k2 + 1)) by rw [HS2.out, noDot_go _ h46])
                      clear h46
                      go_wp2_with (fail)
                      go_round
                      case rel => exact ⟨k2 + 1, wl ++ [d2], by omega, by go_num, rfl, z6, Lib.hid (by rw [← HW.out, HN.out]; simp)⟩
                      case measure => simp [RowKit.intOf]; omega
                  · obtain rfl : k2 = m + 4 := by omega
                    obtain rfl : wl = G := by
                      have := HW.out
                      rw [List.drop_eq_nil_of_le (by rw [B_len HB0.out]; exact Nat.le_refl _)] at this
                      simpa [noDot] using this
                    clear hw
                    go_wp2_with (fail)
                    go_ret
                    exact ⟨rfl, Rel.below (by assumption)⟩
        · exfalso
          apply HNE.out
          rw [← HK.out, List.drop_eq_nil_of_le (by rw [B_len HB0.out]; omega)]
          rfl
    · have hs1 : ¬ x < 0 := by omega
      have hc45 : ((c.toNat : Int) == 45) = false := by simp only [beq_eq_false_iff_ne]; intro e; exact hxs (hi.1 (by omega))
      have zs : 0 ≤ T.size := by rw [hsz]; omega
      have HY : T.extract 0 T.size = B G ++ ⟨#[46, 48, 48]⟩ := by have := HE.out; rw [if_neg hxs] at this; exact this
      have HBq : (B G).size + 3 ≤ 100 := by omega
      clear hi hsz HE hxs
      go_enter Tryd.func6, Tryd.ntmps6
      go_wp2_with (first
        | (go_at_call 9; (with_reducible refine (awake_any _ _ hr).mono ?_); rintro e wa ⟨rfl, ha⟩)
        | (go_at_call 11; (with_reducible refine (int_at (x + 10000000000) (pick_any a0 _ u0 u1 (by omega) (by omega) _) HP).mono ?_); rintro e w' ⟨rfl, rfl⟩)
        | (go_at_call 12; (first | (with_reducible refine (text_at _ x (by omega) (by omega) (by omega) _ _ (by assumption)).mono ?_) | (with_reducible refine (str_at _ (text_at _ (100 * x) (by omega) (by omega) (by omega) _ _ (by assumption)) HTX).mono ?_)); rintro e w' ⟨rfl, hr'⟩))
      go_loop [9] (fun l => ∃ k : Nat, k ≤ m + 4 ∧ l = .int .i64 (k : Int) ∧ Hid (((txt x).drop k).dropWhile isP = (txt x).dropWhile isP)) (fun l => m + 4 - (RowKit.intOf l).toNat)
      case atStart => exact ⟨0, by omega, rfl, Lib.hid rfl⟩
      case round =>
        obtain ⟨k, hk, rfl, HK⟩ := hrel
        by_cases hlt : k < m + 4
        · have hlt' : k < (txt x).length := by rw [B_len HB0.out]; exact hlt
          obtain ⟨d, hd⟩ : ∃ d, (txt x)[k]? = some d := ⟨_, List.getElem?_eq_getElem hlt'⟩
          have HGk : ∀ h, (tx x)[k]'h = d := fun h => B_at hd h
          have HS := Lib.hid (drop_at hd)
          clear hd hlt'
          by_cases p1 : d.toNat = 48
          · have p1' : ((d.toNat : Int) == 48) = true := by simp; omega
            have HP1 := Lib.hid (show isP d = true by rw [UInt8.toNat_inj.1 (show d.toNat = (48 : UInt8).toNat from p1)]; decide)
            clear p1
            go_wp2_with (fail)
            go_round
            case rel => exact ⟨k + 1, by omega, by go_num, Lib.hid (by rw [← HK.out, HS.out, skip_go HP1.out])⟩
            case measure => simp [RowKit.intOf]; omega
          · have p1' : ((d.toNat : Int) == 48) = false := by simp; omega
            by_cases p2 : d.toNat = 46
            · have p2' : ((d.toNat : Int) == 46) = true := by simp; omega
              have HP1 := Lib.hid (show isP d = true by rw [UInt8.toNat_inj.1 (show d.toNat = (46 : UInt8).toNat from p2)]; decide)
              clear p1 p2
              go_wp2_with (fail)
              go_round
              case rel => exact ⟨k + 1, by omega, by go_num, Lib.hid (by rw [← HK.out, HS.out, skip_go HP1.out])⟩
              case measure => simp [RowKit.intOf]; omega
            · have p2' : ((d.toNat : Int) == 46) = false := by simp; omega
              by_cases p3 : d.toNat = 45
              · have p3' : ((d.toNat : Int) == 45) = true := by simp; omega
                have HP1 := Lib.hid (show isP d = true by rw [UInt8.toNat_inj.1 (show d.toNat = (45 : UInt8).toNat from p3)]; decide)
                clear p1 p2 p3
                go_wp2_with (fail)
                go_round
                case rel => exact ⟨k + 1, by omega, by go_num, Lib.hid (by rw [← HK.out, HS.out, skip_go HP1.out])⟩
                case measure => simp [RowKit.intOf]; omega
              · have p3' : ((d.toNat : Int) == 45) = false := by simp; omega
                have HD1 := Lib.hid (show (txt x).drop k = (txt x).dropWhile isP by rw [← HK.out, HS.out, skip_no (isP_no p1 p2 p3)])
                clear p1 p2 p3
                go_wp2_with (fail)
                go_loop [10, 11] (fun v i => ∃ (k : Nat) (wl : List UInt8), k ≤ m + 4 ∧ i = .int .i64 (k : Int) ∧ v = .string (B wl) ∧ (B wl).size ≤ k ∧ Hid (wl ++ noDot ((txt x).drop k) = G)) (fun _ i => m + 4 - (RowKit.intOf i).toNat)
                case atStart => exact ⟨k, [], by omega, rfl, rfl, Nat.zero_le _, Lib.hid (by rw [HD1.out, HG.out]; rfl)⟩
                case round =>
                  obtain ⟨k2, wl, hk2, rfl, rfl, hw, HW⟩ := hrel
                  by_cases hlt2 : k2 < m + 4
                  · have hlt3 : k2 < (txt x).length := by rw [B_len HB0.out]; exact hlt2
                    obtain ⟨d2, hd2⟩ : ∃ d, (txt x)[k2]? = some d := ⟨_, List.getElem?_eq_getElem hlt3⟩
                    have HG2 : ∀ h, (tx x)[k2]'h = d2 := fun h => B_at hd2 h
                    have HX : (tx x).extract k2 (k2 + 1) = B [d2] := B_one hd2
                    have HBB := B_append wl [d2]
                    have HS2 := Lib.hid (drop_at hd2)
                    have z5 : (B [d2]).size ≤ 1 := Nat.le_refl _
                    have z6 : (B (wl ++ [d2])).size ≤ k2 + 1 := by rw [← HBB, app_size]; omega
                    have n1 : ¬ 9223372036854775807 < (B wl).size + (B [d2]).size := by omega
                    clear hd2 hlt3
                    by_cases h46 : d2.toNat = 46
                    · have h46' : ((d2.toNat : Int) != 46) = false := by simp; omega
                      have HN := Lib.hid (show noDot ((txt x).drop k2) = noDot ((txt x).drop (k2 + 1)) by rw [HS2.out, UInt8.toNat_inj.1 (show d2.toNat = (46 : UInt8).toNat from h46), noDot_dot])
                      clear h46
                      go_wp2_with (fail)
                      go_round
                      case rel => exact ⟨k2 + 1, wl, by omega, by go_num, rfl, by omega, Lib.hid (by rw [← HW.out, HN.out])⟩
                      case measure => simp [RowKit.intOf]; omega
                    · have h46' : ((d2.toNat : Int) != 46) = true := by simp; omega
                      have HN := Lib.hid (show noDot ((txt x).drop k2) = d2 :: noDot ((txt x).drop (k2 + 1)) by rw [HS2.out, noDot_go _ h46])
                      clear h46
                      go_wp2_with (fail)
                      go_round
                      case rel => exact ⟨k2 + 1, wl ++ [d2], by omega, by go_num, rfl, z6, Lib.hid (by rw [← HW.out, HN.out]; simp)⟩
                      case measure => simp [RowKit.intOf]; omega
                  · obtain rfl : k2 = m + 4 := by omega
                    obtain rfl : wl = G := by
                      have := HW.out
                      rw [List.drop_eq_nil_of_le (by rw [B_len HB0.out]; exact Nat.le_refl _)] at this
                      simpa [noDot] using this
                    clear hw
                    go_wp2_with (fail)
                    go_ret
                    exact ⟨rfl, Rel.below (by assumption)⟩
        · exfalso
          apply HNE.out
          rw [← HK.out, List.drop_eq_nil_of_le (by rw [B_len HB0.out]; omega)]
          rfl
end Go.Proofs.YtfpcpmkkeigcmaaDoor
