/- The walk of LexKinds. -/
import Derived.Test.YtodeelbgonkdfaaLexLawBase
namespace Go.Proofs.Ytodeelbgonkdfaa
open Go.RowKit Go.Lib
set_option linter.unusedVariables false
set_option linter.unusedSimpArgs false

set_option maxRecDepth 100000 in
set_option maxHeartbeats 4000000 in
theorem LexKinds_at (H : AllOk) (s : ByteArray) (hs : s.size ≤ 140737488351232) (kind n : Int) (w : World) (k0 : -9223372036854775808 ≤ kind) (k1 : kind ≤ 9223372036854775807) (n0 : -9223372036854775808 ≤ n) (n1 : n ≤ 9223372036854775807) (hr : Rel w w) :
    Calls Try.prog 8 #[.string s, .int .i64 kind, .int .i64 n] w fun e w' => e = .returned (.bool true) ∧ Below w.heap.size w w' := by
  have H := Lib.hid H
  obtain ⟨P, hP⟩ : ∃ P, B (pcL kind n) = P := ⟨_, rfl⟩
  obtain ⟨S, hS⟩ : ∃ S, B (sellerL (pk n 60)) = S := ⟨_, rfl⟩
  have HP := Lib.hid hP
  have HS := Lib.hid hS
  have zP : P.size ≤ 9 := by rw [← hP, B_size]; exact pc_len _ _
  have zS : S.size ≤ 9 := by rw [← hS, B_size]; exact seller_len n
  have q1 : ¬ 9223372036854775807 < S.size + 1 := by omega
  obtain ⟨T, hT46⟩ : ∃ T, S ++ (⟨#[46]⟩ : ByteArray) = T := ⟨_, rfl⟩
  have zT : T.size ≤ 10 := by rw [← hT46, ByteArray.size_append]; exact Nat.succ_le_succ zS
  clear hP hS
  go_enter Try.func8, Try.ntmps8
  go_upto_block 0 with (first
    | (go_at_call 9; (with_reducible refine (awake_any H.out _ _ hr.self).mono ?_); rintro e w1 ⟨rfl, h1⟩)
    | (go_at_call 10; (with_reducible refine (str_at _ (piece_any kind n k0 k1 n0 n1 _ _ h1.self) HP).mono ?_); rintro e w2 ⟨rfl, h2⟩)
    | (go_at_call 19; (with_reducible refine (str_at _ (seller_any n n0 n1 _ _ h2.self) HS).mono ?_); rintro e w3 ⟨rfl, h3⟩)
    | (go_at_call 19; (with_reducible refine (str_at _ (seller_any n n0 n1 _ _ h3.self) HS).mono ?_); rintro e w4 ⟨rfl, h4⟩))
  obtain ⟨W, hW⟩ : ∃ W, w4.alloc (.cells #[.string s, .string P, .string S, .string T] 9) = W := ⟨_, rfl⟩
  have HS0 := Lib.hid (hW ▸ Bk.new w4 9 #[.string s, .string P, .string S, .string T])
  have HRW := Lib.hid (hW ▸ ((((hr.trans h1).trans h2).trans h3).trans h4).alloc (.cells #[.string s, .string P, .string S, .string T] 9))
  have HWS := Lib.hid HRW.out.self
  try rw [hW]
  clear hW
  clear hT46
  go_wp2_with (fail)
  go_loopw [27] (fun q wr => ∃ j : Nat, j ≤ 4 ∧ q = .int .i64 j ∧ Rel W wr) (fun q _ => 4 - (intOf q).toNat)
  case atStart => exact ⟨0, by omega, rfl, HWS.out⟩
  case round =>
    obtain ⟨j, hj, rfl, hR2⟩ := hrel
    by_cases hlt : j < 4
    · obtain ⟨X, hX, zX⟩ : ∃ X : ByteArray, wr.cell? ⟨w4.heap.size, j, none⟩ = some (.string X) ∧ X.size ≤ 140737488351232 := by
        have hc := (HS0.out.rel hR2).cell j
        match j, hlt with
        | 0, _ => exact ⟨s, hc, hs⟩
        | 1, _ => exact ⟨P, hc, by omega⟩
        | 2, _ => exact ⟨S, hc, by omega⟩
        | 3, _ => exact ⟨_, hc, by omega⟩
      go_upto_region 6 with (go_at_call 12; (with_reducible refine (lex_post H.out X (by omega) _ _ hR2.self).mono ?_); rintro e w5 ⟨ts, A', c', err, place, rfl, h5, hT, hO⟩)
      have HO := Lib.hid hO
      have HT := Lib.hid hT
      clear hO hT
      by_cases he : err = 0
      · subst he
        obtain ⟨hXl, rfl, us, rfl, hg, ho, hle⟩ := HO.out.good
        have HG := Lib.hid hg
        have HTL := Lib.hid (show (us ++ [((5 : Int), ([] : List UInt8), (0 : Int), (X.data.toList.length : Int))]).length = us.length + 1 by simp)
        rw [HTL.out]
        clear hg ho hle hXl
        rcases us with _ | ⟨⟨k, x, nn, p⟩, _ | ⟨u, us⟩⟩
        · go_wp2_with (fail)
          go_roundw
          case rel => exact ⟨j + 1, by omega, by go_num, hR2.trans h5⟩
          case measure => simp [intOf]; omega
        · obtain ⟨g, off, rfl, hgb, t0, t1, t2, t3⟩ := HT.out.one 0 (by simp)
          have gd := (HG.out (k, x, nn, p) (by simp)).1
          simp only [List.getElem_cons_zero, Nat.zero_mul, Nat.add_zero] at t0 t1 t2 t3
          by_cases hx : B x = X
          · subst hx
            go_upto_region 8 with (fail)
            obtain ⟨gy, hgy⟩ : ∃ gy, w5.heap.size = gy := ⟨_, rfl⟩
            have HTB := Lib.hid (Bk.new w5 36 #[.int .i64 k, .string (B x), .int .i64 nn, .int .i64 p])
            have HR8 := Lib.hid ((hR2.trans h5).alloc (.cells #[.int .i64 k, .string (B x), .int .i64 nn, .int .i64 p] 36))
            rw [hgy] at HTB ⊢
            obtain ⟨W8, hW8⟩ : ∃ W8, w5.alloc (.cells #[.int .i64 k, .string (B x), .int .i64 nn, .int .i64 p] 36) = W8 := ⟨_, rfl⟩
            rw [hW8] at HTB HR8 ⊢
            obtain ⟨⟨y0, y1, y2, y3⟩, _⟩ := HTB.out.four
            have hS8 := HR8.out.self
            clear hW8 hgy t0 t1 t2 t3
            rcases kind_ways gd with ⟨rfl, rfl, hnm, hwd⟩ | ⟨rfl, rfl, hnm, hwd⟩ | ⟨rfl, ⟨n0, n1⟩, hnm, hwd⟩ | ⟨rfl, n0, hnm, hwd⟩ | ⟨⟨d1, d2, d3, d4⟩, rfl, hnm, hwd⟩
            · have HNm := Lib.hid (show isName (B x).data.toList = true by rw [B_list]; exact hnm)
              have HWd := Lib.hid (show isWord (B x).data.toList = false by rw [B_list]; exact hwd)
              clear hnm hwd gd
              go_wp2_with (first
                | (go_at_call 15; (with_reducible refine (name_is H.out (B x) true HNm (by omega) W8 _ (by assumption)).mono ?_); rintro e w9 ⟨rfl, h9⟩; obtain ⟨⟨y0, y1, y2, y3⟩, _⟩ := (HTB.out.rel h9).four)
                | (go_at_call 17; (with_reducible refine (word_is H.out (B x) false HWd (by omega) W8 _ (by assumption)).mono ?_); rintro e w9 ⟨rfl, h9⟩; obtain ⟨⟨y0, y1, y2, y3⟩, _⟩ := (HTB.out.rel h9).four))
              go_roundw
              case rel => exact ⟨j + 1, by omega, by go_num, HR8.out.trans h9⟩
              case measure => simp [intOf]; omega
            · have HNm := Lib.hid (show isName (B x).data.toList = false by rw [B_list]; exact hnm)
              have HWd := Lib.hid (show isWord (B x).data.toList = true by rw [B_list]; exact hwd)
              clear hnm hwd gd
              go_wp2_with (first
                | (go_at_call 15; (with_reducible refine (name_is H.out (B x) false HNm (by omega) W8 _ (by assumption)).mono ?_); rintro e w9 ⟨rfl, h9⟩; obtain ⟨⟨y0, y1, y2, y3⟩, _⟩ := (HTB.out.rel h9).four)
                | (go_at_call 17; (with_reducible refine (word_is H.out (B x) true HWd (by omega) W8 _ (by assumption)).mono ?_); rintro e w9 ⟨rfl, h9⟩; obtain ⟨⟨y0, y1, y2, y3⟩, _⟩ := (HTB.out.rel h9).four))
              go_roundw
              case rel => exact ⟨j + 1, by omega, by go_num, HR8.out.trans h9⟩
              case measure => simp [intOf]; omega
            · have HNm := Lib.hid (show isName (B x).data.toList = false by rw [B_list]; exact hnm)
              have HWd := Lib.hid (show isWord (B x).data.toList = false by rw [B_list]; exact hwd)
              clear hnm hwd gd
              go_wp2_with (first
                | (go_at_call 15; (with_reducible refine (name_is H.out (B x) false HNm (by omega) W8 _ (by assumption)).mono ?_); rintro e w9 ⟨rfl, h9⟩; obtain ⟨⟨y0, y1, y2, y3⟩, _⟩ := (HTB.out.rel h9).four)
                | (go_at_call 17; (with_reducible refine (word_is H.out (B x) false HWd (by omega) W8 _ (by assumption)).mono ?_); rintro e w9 ⟨rfl, h9⟩; obtain ⟨⟨y0, y1, y2, y3⟩, _⟩ := (HTB.out.rel h9).four))
              go_roundw
              case rel => exact ⟨j + 1, by omega, by go_num, HR8.out.trans h9⟩
              case measure => simp [intOf]; omega
            · have HNm := Lib.hid (show isName (B x).data.toList = false by rw [B_list]; exact hnm)
              have HWd := Lib.hid (show isWord (B x).data.toList = false by rw [B_list]; exact hwd)
              clear hnm hwd gd
              go_wp2_with (first
                | (go_at_call 15; (with_reducible refine (name_is H.out (B x) false HNm (by omega) W8 _ (by assumption)).mono ?_); rintro e w9 ⟨rfl, h9⟩; obtain ⟨⟨y0, y1, y2, y3⟩, _⟩ := (HTB.out.rel h9).four)
                | (go_at_call 17; (with_reducible refine (word_is H.out (B x) false HWd (by omega) W8 _ (by assumption)).mono ?_); rintro e w9 ⟨rfl, h9⟩; obtain ⟨⟨y0, y1, y2, y3⟩, _⟩ := (HTB.out.rel h9).four))
              go_roundw
              case rel => exact ⟨j + 1, by omega, by go_num, HR8.out.trans h9⟩
              case measure => simp [intOf]; omega
            · have HNm := Lib.hid (show isName (B x).data.toList = false by rw [B_list]; exact hnm)
              have HWd := Lib.hid (show isWord (B x).data.toList = false by rw [B_list]; exact hwd)
              clear hnm hwd gd
              go_wp2_with (first
                | (go_at_call 15; (with_reducible refine (name_is H.out (B x) false HNm (by omega) W8 _ (by assumption)).mono ?_); rintro e w9 ⟨rfl, h9⟩; obtain ⟨⟨y0, y1, y2, y3⟩, _⟩ := (HTB.out.rel h9).four)
                | (go_at_call 17; (with_reducible refine (word_is H.out (B x) false HWd (by omega) W8 _ (by assumption)).mono ?_); rintro e w9 ⟨rfl, h9⟩; obtain ⟨⟨y0, y1, y2, y3⟩, _⟩ := (HTB.out.rel h9).four))
              go_roundw
              case rel => exact ⟨j + 1, by omega, by go_num, HR8.out.trans h9⟩
              case measure => simp [intOf]; omega
          · have hne := list_ne hx
            clear hx gd
            go_wp2_with (fail)
            go_roundw
            case rel => exact ⟨j + 1, by omega, by go_num, hR2.trans h5⟩
            case measure => simp [intOf]; omega
        · go_wp2_with (fail)
          go_roundw
          case rel => exact ⟨j + 1, by omega, by go_num, hR2.trans h5⟩
          case measure => simp [intOf]; omega
      · have he' : (err != 0) = true := by simpa using he
        clear he
        go_wp2_with (fail)
        go_roundw
        case rel => exact ⟨j + 1, by omega, by go_num, hR2.trans h5⟩
        case measure => simp [intOf]; omega
    · obtain rfl : j = 4 := by omega
      go_wp2_with (fail)
      go_ret
      exact ⟨rfl, (HRW.out.trans hR2).2⟩
end Go.Proofs.Ytodeelbgonkdfaa
