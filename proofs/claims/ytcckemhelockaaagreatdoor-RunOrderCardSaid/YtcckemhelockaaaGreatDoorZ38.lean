/- Code of raw numbers, as the laws of layer 11 make it. -/
import Derived.Test.YtcckemhelockaaaGreatDoorZL
import Derived.Test.YtcckemhelockaaaGreatDoorZ00
import Derived.Test.YtcckemhelockaaaGreatDoorZ01
import Derived.Test.YtcckemhelockaaaGreatDoorZ02
import Derived.Test.YtcckemhelockaaaGreatDoorZ03
import Derived.Test.YtcckemhelockaaaGreatDoorZ24
import Derived.Test.YtcckemhelockaaaGreatDoorZ28
import Derived.Test.YtcckemhelockaaaGreatDoorZ37
namespace Go.Proofs.YtcckemhelockaaaGreatDoor
open Go.RowKit Go.Lib
set_option linter.unusedVariables false
set_option linter.unusedSimpArgs false
theorem some_len1 (zs : List (Int × Int)) (n j : Nat) (t : In) : (someTo zs n j ++ [t]).length = j + 1 := by rw [List.length_append, some_len]; rfl
theorem some_step (zs : List (Int × Int)) (n j : Nat) (hj : j < zs.length) (z : Int × Int) (hz : zs[j] = z) : someTo zs n (j + 1) = someTo zs n j ++ [someAt n j z] := by
  rw [someTo]
  have : zs.getD j (0, 0) = z := by rw [List.getD_eq_getElem?_getD, List.getElem?_eq_getElem hj, ← hz]; rfl
  rw [this]
set_option maxRecDepth 100000 in
set_option maxHeartbeats 8000000 in
theorem some_any (A : Option Addr) (c : Nat) (zs : List (Int × Int)) (w0 w : World) (hr : Rel w0 w) (hz : PairsIn w A zs.length zs) :
    Calls Tryz.prog 11 #[.slice A zs.length c] w fun e w' => ∃ A2 c2, e = .returned (.slice A2 (someL zs).length c2) ∧ InsOwn w' w.heap.size (.slice A2 (someL zs).length c2) (someL zs) ∧ Rel w0 w' := by
  have HR := Lib.hid hr
  have HS := Lib.hid hr.self
  have HZ := Lib.hid hz
  have hzl : zs.length ≤ 9223372036854775807 := hz.2.1
  have HL := Lib.hid (show (someL zs).length = min zs.length 12 from some_len _ _ _)
  obtain ⟨n, hn⟩ : ∃ n, min zs.length 12 = n := ⟨_, rfl⟩
  have HN := Lib.hid (show someL zs = someTo zs n n by unfold someL; rw [hn])
  have hn12 : n ≤ 12 := by omega
  have hnz : n ≤ zs.length := by omega
  rw [hn] at HL
  clear hz hr
  go_enter Tryz.func11, Tryz.ntmps11
  go_upto_region 2 with (fail)
  go_cut [4] (fun v wx => v = .int .i64 (n : Int) ∧ w = wx)
  case first =>
    by_cases h12 : zs.length ≤ 12
    · have e1 : n = zs.length := by omega
      go_wp2_with (fail)
      all_goals
        go_meet
        exact ⟨by congr 1; omega, rfl⟩
    · have e1 : n = 12 := by omega
      go_wp2_with (fail)
      all_goals
        go_meet
        exact ⟨by congr 1; omega, rfl⟩
  obtain ⟨rfl, rfl⟩ := hcut
  clear hn
  go_wp2_with (fail)
  go_loopw [3, 5] (fun v i wr => ∃ (j : Nat) (A2 : Option Addr) (c2 : Nat), j ≤ n ∧ i = .int .i64 (j : Int) ∧ v = .slice A2 j c2 ∧ InsOwn wr w.heap.size (.slice A2 j c2) (someTo zs n j) ∧ Rel w wr) (fun _ i _ => n - (RowKit.intOf i).toNat)
  case atStart => exact ⟨0, none, 0, by omega, rfl, rfl, InsOwn.nil _ _, HS.out⟩
  case round =>
    obtain ⟨j, A2, c2, hj, rfl, rfl, hO, hRw⟩ := hrel
    have HRw := Lib.hid hRw
    have HO := Lib.hid hO
    clear hO
    by_cases hlt : j < n
    · obtain ⟨a, x, y, rfl, c0, c1, hxy, hx, hy⟩ := pairs9_at HZ.out hRw j (by omega)
      have hp13 := pk_bd x 13 (by omega)
      have HOp := Lib.hid (show pk x 13 = pk x 13 from rfl)
      have HSt := Lib.hid (some_step zs n j (by omega) (x, y) hxy)
      have H900 := pk_bd y 900 (by omega)
      have H1e5 := pk_bd y 100001 (by omega)
      have H9 := pk_bd y 9 (by omega)
      have H3 := pk_bd y 3 (by omega)
      have HL0 := pk_bd y ((n : Int) - (j : Int)) (by omega)
      obtain ⟨x0, x1⟩ := hx
      obtain ⟨y0, y1⟩ := hy
      have lt1 : (j : Int) < (n : Int) := by omega
      have lt2 : (j : Int) < (zs.length : Int) := by omega
      have q1 : IntKind.i64.wrap ((j : Int) + 1) = (j : Int) + 1 := IntWalk.i64_in _ (by omega)
      have q2 : IntKind.i64.wrap ((n : Int) - (j : Int)) = (n : Int) - (j : Int) := IntWalk.i64_in _ (by omega)
      have hbl := blk_of_cell c1
      rw [block_add] at hbl
      obtain ⟨o1, ho1⟩ : ∃ o1, pk x 13 = o1 := ⟨_, rfl⟩
      have HO1 := Lib.hid ho1
      rw [ho1] at hp13
      clear hxy hRw HOp
      have ways : o1 = 0 ∨ o1 = 1 ∨ o1 = 2 ∨ o1 = 3 ∨ o1 = 4 ∨ o1 = 5 ∨ o1 = 6 ∨ o1 = 7 ∨ o1 = 8 ∨ o1 = 9 ∨ o1 = 10 ∨ o1 = 11 ∨ o1 = 12 := by omega
      rcases ways with rfl | rfl | rfl | rfl | rfl | rfl | rfl | rfl | rfl | rfl | rfl | rfl | rfl
      · by_cases h7 : y.tmod 7 = 0
        · skip
          obtain ⟨K, hK⟩ : ∃ K, pk y 900 = K := ⟨_, rfl⟩
          have HK := Lib.hid hK
          rw [hK] at H900
          have hrow : some wr.heap.size ≠ (Value.slice A2 j c2).ownBlock := fun e => by have := (HO.out.row.lt _ e.symm).2; omega
          clear hK
          have t7 : (y.tmod 7 == 0) = true := by simpa using h7
          obtain ⟨⟨u0, u1, u2⟩, u3, u4, u5⟩ := three_of11 (Bk.new wr 45 #[.int .i64 1, .int .i64 K, .string ⟨#[]⟩])
          have c1' : (wr.alloc (.cells #[.int .i64 1, .int .i64 K, .string ⟨#[]⟩] 45)).cell? ⟨(a.add (j * 2)).block, (a.add (j * 2)).off + 1, none⟩ = some (.int .i64 y) := (World.cell?_alloc_lt wr _ _ (by rw [block_add]; exact hbl)).trans c1
          have cA : (wr.alloc (.cells #[.int .i64 1, .int .i64 0, .string ⟨#[]⟩] 45)).cell? ⟨(a.add (j * 2)).block, (a.add (j * 2)).off + 1, none⟩ = some (.int .i64 y) := (World.cell?_alloc_lt wr _ _ (by rw [block_add]; exact hbl)).trans c1
          have HV := Lib.hid (show someAt n j (x, y) = (1, 1000000000000, []) by unfold someAt; simp only [HO1.out]; rw [if_pos h7]; rfl)
          obtain ⟨⟨d0, d1, d2⟩, e0, e1, e2⟩ := three_of11 (Bk.new wr 45 #[.int .i64 1, .int .i64 0, .string ⟨#[]⟩])
          have HBf := Lib.hid (show Bk (wr.alloc (.cells #[.int .i64 1, .int .i64 1000000000000, .string ⟨#[]⟩] 45)) wr.heap.size 45 #[.int .i64 1, .int .i64 1000000000000, .string ⟨#[]⟩] from Bk.new wr 45 #[.int .i64 1, .int .i64 1000000000000, .string ⟨#[]⟩])
          have HRf := Lib.hid (show Rel w (wr.alloc (.cells #[.int .i64 1, .int .i64 1000000000000, .string ⟨#[]⟩] 45)) from HRw.out.alloc (.cells #[.int .i64 1, .int .i64 1000000000000, .string ⟨#[]⟩] 45))
          have HOf := Lib.hid (show InsOwn (wr.alloc (.cells #[.int .i64 1, .int .i64 1000000000000, .string ⟨#[]⟩] 45)) w.heap.size (.slice A2 j c2) (someTo zs n j) from HO.out.row.alloc (.cells #[.int .i64 1, .int .i64 1000000000000, .string ⟨#[]⟩] 45))
          clear HO
          go_upto_region 23 with (first
            | 
          (go_at_call 21; (with_reducible refine (pk11_as x 13 0 HO1 x0 x1 (by omega) (by omega) _).mono ?_); rintro e w9 ⟨rfl, rfl⟩)  | (go_at_call 21; (with_reducible refine (pk11_as y 900 K HK y0 y1 (by omega) (by omega) _).mono ?_); rintro e w9 ⟨rfl, rfl⟩))
          obtain ⟨V, hV⟩ : ∃ V, wr.alloc (.cells #[.int .i64 1, .int .i64 1000000000000, .string ⟨#[]⟩] 45) = V := ⟨_, rfl⟩
          rw [hV] at HBf HRf HOf
          try rw [hV]
          obtain ⟨⟨f0, f1, f2⟩, _⟩ := three_of11 HBf.out
          have hrs : w.heap.size ≤ (V.alloc (.cells #[.int .i64 1, .int .i64 1000000000000, .string ⟨#[]⟩] 45)).heap.size := (HRf.out.alloc _).size
          have HIn := Lib.hid (InsAt.of_bk (l := [(1, 1000000000000, [])]) (Bk.new V 45 #[.int .i64 1, .int .i64 1000000000000, .string ⟨#[]⟩]))
          clear hV
          go_wp2_with (at_builtin; (refine wpList_plain rfl fun K' hK => wp_iapp _ _ rfl (base := w.heap.size) (v := .slice A2 j c2) (os := someTo zs n j) rfl (HOf.out.row.alloc _) (A := some ⟨V.heap.size, 0, none⟩) (c := 1) (n := 1) (l := [(1, 1000000000000, [])]) rfl rfl (fun e => by cases e) HIn.out (by simp) (by rw [some_len]; omega) hrs fun v5 w5 own5 g5 b5 => hK _ _ ?_); have OW := Lib.hid own5; have RW := Lib.hid ((HRf.out.alloc _).grown g5 (fun q hq => (HOf.out.row.lt q hq).1)); clear own5 g5 b5)
          obtain ⟨A5, c5, hv5⟩ := OW.out.slice_of
          rw [some_len1] at hv5
          subst hv5
          go_roundw
          case rel => exact ⟨j + 1, A5, c5, by omega, by go_num, rfl, by rw [HSt.out, HV.out]; exact OW.out, RW.out⟩
          case measure => simp [RowKit.intOf]; omega
        · skip
          obtain ⟨K, hK⟩ : ∃ K, pk y 900 = K := ⟨_, rfl⟩
          have HK := Lib.hid hK
          rw [hK] at H900
          have hrow : some wr.heap.size ≠ (Value.slice A2 j c2).ownBlock := fun e => by have := (HO.out.row.lt _ e.symm).2; omega
          clear hK
          have t7 : (y.tmod 7 == 0) = false := by simpa using h7
          obtain ⟨⟨u0, u1, u2⟩, u3, u4, u5⟩ := three_of11 (Bk.new wr 45 #[.int .i64 1, .int .i64 K, .string ⟨#[]⟩])
          have c1' : (wr.alloc (.cells #[.int .i64 1, .int .i64 K, .string ⟨#[]⟩] 45)).cell? ⟨(a.add (j * 2)).block, (a.add (j * 2)).off + 1, none⟩ = some (.int .i64 y) := (World.cell?_alloc_lt wr _ _ (by rw [block_add]; exact hbl)).trans c1
          have cA : (wr.alloc (.cells #[.int .i64 1, .int .i64 0, .string ⟨#[]⟩] 45)).cell? ⟨(a.add (j * 2)).block, (a.add (j * 2)).off + 1, none⟩ = some (.int .i64 y) := (World.cell?_alloc_lt wr _ _ (by rw [block_add]; exact hbl)).trans c1
          have HV := Lib.hid (show someAt n j (x, y) = (1, K, []) by unfold someAt; simp only [HO1.out]; rw [if_neg h7, HK.out]; rfl)
          obtain ⟨⟨d0, d1, d2⟩, e0, e1, e2⟩ := three_of11 (Bk.new wr 45 #[.int .i64 1, .int .i64 0, .string ⟨#[]⟩])
          have HBf := Lib.hid (show Bk (wr.alloc (.cells #[.int .i64 1, .int .i64 (K), .string ⟨#[]⟩] 45)) wr.heap.size 45 #[.int .i64 1, .int .i64 (K), .string ⟨#[]⟩] from Bk.new wr 45 #[.int .i64 1, .int .i64 (K), .string ⟨#[]⟩])
          have HRf := Lib.hid (show Rel w (wr.alloc (.cells #[.int .i64 1, .int .i64 (K), .string ⟨#[]⟩] 45)) from HRw.out.alloc (.cells #[.int .i64 1, .int .i64 (K), .string ⟨#[]⟩] 45))
          have HOf := Lib.hid (show InsOwn (wr.alloc (.cells #[.int .i64 1, .int .i64 (K), .string ⟨#[]⟩] 45)) w.heap.size (.slice A2 j c2) (someTo zs n j) from HO.out.row.alloc (.cells #[.int .i64 1, .int .i64 (K), .string ⟨#[]⟩] 45))
          clear HO
          go_upto_region 23 with (first
            | 
          (go_at_call 21; (with_reducible refine (pk11_as x 13 0 HO1 x0 x1 (by omega) (by omega) _).mono ?_); rintro e w9 ⟨rfl, rfl⟩)  | (go_at_call 21; (with_reducible refine (pk11_as y 900 K HK y0 y1 (by omega) (by omega) _).mono ?_); rintro e w9 ⟨rfl, rfl⟩))
          obtain ⟨V, hV⟩ : ∃ V, wr.alloc (.cells #[.int .i64 1, .int .i64 (K), .string ⟨#[]⟩] 45) = V := ⟨_, rfl⟩
          rw [hV] at HBf HRf HOf
          try rw [hV]
          obtain ⟨⟨f0, f1, f2⟩, _⟩ := three_of11 HBf.out
          have hrs : w.heap.size ≤ (V.alloc (.cells #[.int .i64 1, .int .i64 (K), .string ⟨#[]⟩] 45)).heap.size := (HRf.out.alloc _).size
          have HIn := Lib.hid (InsAt.of_bk (l := [(1, K, [])]) (Bk.new V 45 #[.int .i64 1, .int .i64 (K), .string ⟨#[]⟩]))
          clear hV
          go_wp2_with (at_builtin; (refine wpList_plain rfl fun K' hK => wp_iapp _ _ rfl (base := w.heap.size) (v := .slice A2 j c2) (os := someTo zs n j) rfl (HOf.out.row.alloc _) (A := some ⟨V.heap.size, 0, none⟩) (c := 1) (n := 1) (l := [(1, K, [])]) rfl rfl (fun e => by cases e) HIn.out (by simp) (by rw [some_len]; omega) hrs fun v5 w5 own5 g5 b5 => hK _ _ ?_); have OW := Lib.hid own5; have RW := Lib.hid ((HRf.out.alloc _).grown g5 (fun q hq => (HOf.out.row.lt q hq).1)); clear own5 g5 b5)
          obtain ⟨A5, c5, hv5⟩ := OW.out.slice_of
          rw [some_len1] at hv5
          subst hv5
          go_roundw
          case rel => exact ⟨j + 1, A5, c5, by omega, by go_num, rfl, by rw [HSt.out, HV.out]; exact OW.out, RW.out⟩
          case measure => simp [RowKit.intOf]; omega
      · skip
        skip
        have cA : (wr.alloc (.cells #[.int .i64 2, .int .i64 0, .string ⟨#[]⟩] 45)).cell? ⟨(a.add (j * 2)).block, (a.add (j * 2)).off + 1, none⟩ = some (.int .i64 y) := (World.cell?_alloc_lt wr _ _ (by rw [block_add]; exact hbl)).trans c1
        have HV := Lib.hid (show someAt n j (x, y) = (2, 0, []) by unfold someAt; simp only [HO1.out]; rfl)
        obtain ⟨⟨d0, d1, d2⟩, e0, e1, e2⟩ := three_of11 (Bk.new wr 45 #[.int .i64 2, .int .i64 0, .string ⟨#[]⟩])
        have HBf := Lib.hid (show Bk (wr.alloc (.cells #[.int .i64 2, .int .i64 0, .string ⟨#[]⟩] 45)) wr.heap.size 45 #[.int .i64 2, .int .i64 0, .string ⟨#[]⟩] from Bk.new wr 45 #[.int .i64 2, .int .i64 0, .string ⟨#[]⟩])
        have HRf := Lib.hid (show Rel w (wr.alloc (.cells #[.int .i64 2, .int .i64 0, .string ⟨#[]⟩] 45)) from HRw.out.alloc (.cells #[.int .i64 2, .int .i64 0, .string ⟨#[]⟩] 45))
        have HOf := Lib.hid (show InsOwn (wr.alloc (.cells #[.int .i64 2, .int .i64 0, .string ⟨#[]⟩] 45)) w.heap.size (.slice A2 j c2) (someTo zs n j) from HO.out.row.alloc (.cells #[.int .i64 2, .int .i64 0, .string ⟨#[]⟩] 45))
        clear HO
        go_upto_region 23 with (first
          | 
        (go_at_call 21; (with_reducible refine (pk11_as x 13 1 HO1 x0 x1 (by omega) (by omega) _).mono ?_); rintro e w9 ⟨rfl, rfl⟩))
        obtain ⟨V, hV⟩ : ∃ V, wr.alloc (.cells #[.int .i64 2, .int .i64 0, .string ⟨#[]⟩] 45) = V := ⟨_, rfl⟩
        rw [hV] at HBf HRf HOf
        try rw [hV]
        obtain ⟨⟨f0, f1, f2⟩, _⟩ := three_of11 HBf.out
        have hrs : w.heap.size ≤ (V.alloc (.cells #[.int .i64 2, .int .i64 0, .string ⟨#[]⟩] 45)).heap.size := (HRf.out.alloc _).size
        have HIn := Lib.hid (InsAt.of_bk (l := [(2, 0, [])]) (Bk.new V 45 #[.int .i64 2, .int .i64 0, .string ⟨#[]⟩]))
        clear hV
        go_wp2_with (at_builtin; (refine wpList_plain rfl fun K' hK => wp_iapp _ _ rfl (base := w.heap.size) (v := .slice A2 j c2) (os := someTo zs n j) rfl (HOf.out.row.alloc _) (A := some ⟨V.heap.size, 0, none⟩) (c := 1) (n := 1) (l := [(2, 0, [])]) rfl rfl (fun e => by cases e) HIn.out (by simp) (by rw [some_len]; omega) hrs fun v5 w5 own5 g5 b5 => hK _ _ ?_); have OW := Lib.hid own5; have RW := Lib.hid ((HRf.out.alloc _).grown g5 (fun q hq => (HOf.out.row.lt q hq).1)); clear own5 g5 b5)
        obtain ⟨A5, c5, hv5⟩ := OW.out.slice_of
        rw [some_len1] at hv5
        subst hv5
        go_roundw
        case rel => exact ⟨j + 1, A5, c5, by omega, by go_num, rfl, by rw [HSt.out, HV.out]; exact OW.out, RW.out⟩
        case measure => simp [RowKit.intOf]; omega
      · skip
        skip
        have cA : (wr.alloc (.cells #[.int .i64 3, .int .i64 0, .string ⟨#[]⟩] 45)).cell? ⟨(a.add (j * 2)).block, (a.add (j * 2)).off + 1, none⟩ = some (.int .i64 y) := (World.cell?_alloc_lt wr _ _ (by rw [block_add]; exact hbl)).trans c1
        have HV := Lib.hid (show someAt n j (x, y) = (3, 0, []) by unfold someAt; simp only [HO1.out]; rfl)
        obtain ⟨⟨d0, d1, d2⟩, e0, e1, e2⟩ := three_of11 (Bk.new wr 45 #[.int .i64 3, .int .i64 0, .string ⟨#[]⟩])
        have HBf := Lib.hid (show Bk (wr.alloc (.cells #[.int .i64 3, .int .i64 0, .string ⟨#[]⟩] 45)) wr.heap.size 45 #[.int .i64 3, .int .i64 0, .string ⟨#[]⟩] from Bk.new wr 45 #[.int .i64 3, .int .i64 0, .string ⟨#[]⟩])
        have HRf := Lib.hid (show Rel w (wr.alloc (.cells #[.int .i64 3, .int .i64 0, .string ⟨#[]⟩] 45)) from HRw.out.alloc (.cells #[.int .i64 3, .int .i64 0, .string ⟨#[]⟩] 45))
        have HOf := Lib.hid (show InsOwn (wr.alloc (.cells #[.int .i64 3, .int .i64 0, .string ⟨#[]⟩] 45)) w.heap.size (.slice A2 j c2) (someTo zs n j) from HO.out.row.alloc (.cells #[.int .i64 3, .int .i64 0, .string ⟨#[]⟩] 45))
        clear HO
        go_upto_region 23 with (first
          | 
        (go_at_call 21; (with_reducible refine (pk11_as x 13 2 HO1 x0 x1 (by omega) (by omega) _).mono ?_); rintro e w9 ⟨rfl, rfl⟩))
        obtain ⟨V, hV⟩ : ∃ V, wr.alloc (.cells #[.int .i64 3, .int .i64 0, .string ⟨#[]⟩] 45) = V := ⟨_, rfl⟩
        rw [hV] at HBf HRf HOf
        try rw [hV]
        obtain ⟨⟨f0, f1, f2⟩, _⟩ := three_of11 HBf.out
        have hrs : w.heap.size ≤ (V.alloc (.cells #[.int .i64 3, .int .i64 0, .string ⟨#[]⟩] 45)).heap.size := (HRf.out.alloc _).size
        have HIn := Lib.hid (InsAt.of_bk (l := [(3, 0, [])]) (Bk.new V 45 #[.int .i64 3, .int .i64 0, .string ⟨#[]⟩]))
        clear hV
        go_wp2_with (at_builtin; (refine wpList_plain rfl fun K' hK => wp_iapp _ _ rfl (base := w.heap.size) (v := .slice A2 j c2) (os := someTo zs n j) rfl (HOf.out.row.alloc _) (A := some ⟨V.heap.size, 0, none⟩) (c := 1) (n := 1) (l := [(3, 0, [])]) rfl rfl (fun e => by cases e) HIn.out (by simp) (by rw [some_len]; omega) hrs fun v5 w5 own5 g5 b5 => hK _ _ ?_); have OW := Lib.hid own5; have RW := Lib.hid ((HRf.out.alloc _).grown g5 (fun q hq => (HOf.out.row.lt q hq).1)); clear own5 g5 b5)
        obtain ⟨A5, c5, hv5⟩ := OW.out.slice_of
        rw [some_len1] at hv5
        subst hv5
        go_roundw
        case rel => exact ⟨j + 1, A5, c5, by omega, by go_num, rfl, by rw [HSt.out, HV.out]; exact OW.out, RW.out⟩
        case measure => simp [RowKit.intOf]; omega
      · have h3 : pk y 3 = 0 ∨ pk y 3 = 1 ∨ pk y 3 = 2 := by omega
        rcases h3 with h3 | h3 | h3
        · skip
          have HK := Lib.hid h3
          have hrow : some wr.heap.size ≠ (Value.slice A2 j c2).ownBlock := fun e => by have := (HO.out.row.lt _ e.symm).2; omega
          have v5 := (Bk.new (wr.alloc (.cells #[.int .i64 4, .int .i64 0, .string ⟨#[]⟩] 45)) 9 #[.string ⟨#[97, 48]⟩, .string ⟨#[98, 111, 98, 48]⟩, .string ⟨#[120, 49, 48]⟩]).cell 0
          rw [World.size_alloc] at v5
          simp only [List.getElem?_toArray, List.getElem?_cons_succ, List.getElem?_cons_zero] at v5
          obtain ⟨⟨u0, u1, u2⟩, u3, u4, u5⟩ := three_of11 ((Bk.new wr 45 #[.int .i64 4, .int .i64 0, .string ⟨#[]⟩]).alloc (.cells #[.string ⟨#[97, 48]⟩, .string ⟨#[98, 111, 98, 48]⟩, .string ⟨#[120, 49, 48]⟩] 9))
          have cA : (wr.alloc (.cells #[.int .i64 4, .int .i64 0, .string ⟨#[]⟩] 45)).cell? ⟨(a.add (j * 2)).block, (a.add (j * 2)).off + 1, none⟩ = some (.int .i64 y) := (World.cell?_alloc_lt wr _ _ (by rw [block_add]; exact hbl)).trans c1
          have cB : ((wr.alloc (.cells #[.int .i64 4, .int .i64 0, .string ⟨#[]⟩] 45)).alloc (.cells #[.string ⟨#[97, 48]⟩, .string ⟨#[98, 111, 98, 48]⟩, .string ⟨#[120, 49, 48]⟩] 9)).cell? ⟨(a.add (j * 2)).block, (a.add (j * 2)).off + 1, none⟩ = some (.int .i64 y) := (World.cell?_alloc_lt _ _ _ (by rw [block_add, World.size_alloc]; omega)).trans cA
          have HV := Lib.hid (show someAt n j (x, y) = (4, 0, [97, 48]) by unfold someAt; simp only [HO1.out]; rw [HK.out]; rfl)
          obtain ⟨⟨d0, d1, d2⟩, e0, e1, e2⟩ := three_of11 (Bk.new wr 45 #[.int .i64 4, .int .i64 0, .string ⟨#[]⟩])
          have HBf := Lib.hid (show Bk ((wr.alloc (.cells #[.int .i64 4, .int .i64 0, .string ⟨#[97, 48]⟩] 45)).alloc (.cells #[.string ⟨#[97, 48]⟩, .string ⟨#[98, 111, 98, 48]⟩, .string ⟨#[120, 49, 48]⟩] 9)) wr.heap.size 45 #[.int .i64 4, .int .i64 0, .string ⟨#[97, 48]⟩] from (Bk.new wr 45 #[.int .i64 4, .int .i64 0, .string ⟨#[97, 48]⟩]).alloc (.cells #[.string ⟨#[97, 48]⟩, .string ⟨#[98, 111, 98, 48]⟩, .string ⟨#[120, 49, 48]⟩] 9))
          have HRf := Lib.hid (show Rel w ((wr.alloc (.cells #[.int .i64 4, .int .i64 0, .string ⟨#[97, 48]⟩] 45)).alloc (.cells #[.string ⟨#[97, 48]⟩, .string ⟨#[98, 111, 98, 48]⟩, .string ⟨#[120, 49, 48]⟩] 9)) from (HRw.out.alloc (.cells #[.int .i64 4, .int .i64 0, .string ⟨#[97, 48]⟩] 45)).alloc (.cells #[.string ⟨#[97, 48]⟩, .string ⟨#[98, 111, 98, 48]⟩, .string ⟨#[120, 49, 48]⟩] 9))
          have HOf := Lib.hid (show InsOwn ((wr.alloc (.cells #[.int .i64 4, .int .i64 0, .string ⟨#[97, 48]⟩] 45)).alloc (.cells #[.string ⟨#[97, 48]⟩, .string ⟨#[98, 111, 98, 48]⟩, .string ⟨#[120, 49, 48]⟩] 9)) w.heap.size (.slice A2 j c2) (someTo zs n j) from (HO.out.row.alloc (.cells #[.int .i64 4, .int .i64 0, .string ⟨#[97, 48]⟩] 45)).alloc (.cells #[.string ⟨#[97, 48]⟩, .string ⟨#[98, 111, 98, 48]⟩, .string ⟨#[120, 49, 48]⟩] 9))
          clear HO
          go_upto_region 23 with (first
            | 
          (go_at_call 21; (with_reducible refine (pk11_as x 13 3 HO1 x0 x1 (by omega) (by omega) _).mono ?_); rintro e w9 ⟨rfl, rfl⟩)  | (go_at_call 21; (with_reducible refine (pk11_as y 3 0 HK y0 y1 (by omega) (by omega) _).mono ?_); rintro e w9 ⟨rfl, rfl⟩))
          obtain ⟨V, hV⟩ : ∃ V, (wr.alloc (.cells #[.int .i64 4, .int .i64 0, .string ⟨#[97, 48]⟩] 45)).alloc (.cells #[.string ⟨#[97, 48]⟩, .string ⟨#[98, 111, 98, 48]⟩, .string ⟨#[120, 49, 48]⟩] 9) = V := ⟨_, rfl⟩
          rw [hV] at HBf HRf HOf
          try rw [hV]
          obtain ⟨⟨f0, f1, f2⟩, _⟩ := three_of11 HBf.out
          have hrs : w.heap.size ≤ (V.alloc (.cells #[.int .i64 4, .int .i64 0, .string ⟨#[97, 48]⟩] 45)).heap.size := (HRf.out.alloc _).size
          have HIn := Lib.hid (InsAt.of_bk (l := [(4, 0, [97, 48])]) (Bk.new V 45 #[.int .i64 4, .int .i64 0, .string ⟨#[97, 48]⟩]))
          clear hV
          go_wp2_with (at_builtin; (refine wpList_plain rfl fun K' hK => wp_iapp _ _ rfl (base := w.heap.size) (v := .slice A2 j c2) (os := someTo zs n j) rfl (HOf.out.row.alloc _) (A := some ⟨V.heap.size, 0, none⟩) (c := 1) (n := 1) (l := [(4, 0, [97, 48])]) rfl rfl (fun e => by cases e) HIn.out (by simp) (by rw [some_len]; omega) hrs fun v5 w5 own5 g5 b5 => hK _ _ ?_); have OW := Lib.hid own5; have RW := Lib.hid ((HRf.out.alloc _).grown g5 (fun q hq => (HOf.out.row.lt q hq).1)); clear own5 g5 b5)
          obtain ⟨A5, c5, hv5⟩ := OW.out.slice_of
          rw [some_len1] at hv5
          subst hv5
          go_roundw
          case rel => exact ⟨j + 1, A5, c5, by omega, by go_num, rfl, by rw [HSt.out, HV.out]; exact OW.out, RW.out⟩
          case measure => simp [RowKit.intOf]; omega
        · skip
          have HK := Lib.hid h3
          have hrow : some wr.heap.size ≠ (Value.slice A2 j c2).ownBlock := fun e => by have := (HO.out.row.lt _ e.symm).2; omega
          have v5 := (Bk.new (wr.alloc (.cells #[.int .i64 4, .int .i64 0, .string ⟨#[]⟩] 45)) 9 #[.string ⟨#[97, 48]⟩, .string ⟨#[98, 111, 98, 48]⟩, .string ⟨#[120, 49, 48]⟩]).cell 1
          rw [World.size_alloc] at v5
          simp only [List.getElem?_toArray, List.getElem?_cons_succ, List.getElem?_cons_zero] at v5
          obtain ⟨⟨u0, u1, u2⟩, u3, u4, u5⟩ := three_of11 ((Bk.new wr 45 #[.int .i64 4, .int .i64 0, .string ⟨#[]⟩]).alloc (.cells #[.string ⟨#[97, 48]⟩, .string ⟨#[98, 111, 98, 48]⟩, .string ⟨#[120, 49, 48]⟩] 9))
          have cA : (wr.alloc (.cells #[.int .i64 4, .int .i64 0, .string ⟨#[]⟩] 45)).cell? ⟨(a.add (j * 2)).block, (a.add (j * 2)).off + 1, none⟩ = some (.int .i64 y) := (World.cell?_alloc_lt wr _ _ (by rw [block_add]; exact hbl)).trans c1
          have cB : ((wr.alloc (.cells #[.int .i64 4, .int .i64 0, .string ⟨#[]⟩] 45)).alloc (.cells #[.string ⟨#[97, 48]⟩, .string ⟨#[98, 111, 98, 48]⟩, .string ⟨#[120, 49, 48]⟩] 9)).cell? ⟨(a.add (j * 2)).block, (a.add (j * 2)).off + 1, none⟩ = some (.int .i64 y) := (World.cell?_alloc_lt _ _ _ (by rw [block_add, World.size_alloc]; omega)).trans cA
          have HV := Lib.hid (show someAt n j (x, y) = (4, 0, [98, 111, 98, 48]) by unfold someAt; simp only [HO1.out]; rw [HK.out]; rfl)
          obtain ⟨⟨d0, d1, d2⟩, e0, e1, e2⟩ := three_of11 (Bk.new wr 45 #[.int .i64 4, .int .i64 0, .string ⟨#[]⟩])
          have HBf := Lib.hid (show Bk ((wr.alloc (.cells #[.int .i64 4, .int .i64 0, .string ⟨#[98, 111, 98, 48]⟩] 45)).alloc (.cells #[.string ⟨#[97, 48]⟩, .string ⟨#[98, 111, 98, 48]⟩, .string ⟨#[120, 49, 48]⟩] 9)) wr.heap.size 45 #[.int .i64 4, .int .i64 0, .string ⟨#[98, 111, 98, 48]⟩] from (Bk.new wr 45 #[.int .i64 4, .int .i64 0, .string ⟨#[98, 111, 98, 48]⟩]).alloc (.cells #[.string ⟨#[97, 48]⟩, .string ⟨#[98, 111, 98, 48]⟩, .string ⟨#[120, 49, 48]⟩] 9))
          have HRf := Lib.hid (show Rel w ((wr.alloc (.cells #[.int .i64 4, .int .i64 0, .string ⟨#[98, 111, 98, 48]⟩] 45)).alloc (.cells #[.string ⟨#[97, 48]⟩, .string ⟨#[98, 111, 98, 48]⟩, .string ⟨#[120, 49, 48]⟩] 9)) from (HRw.out.alloc (.cells #[.int .i64 4, .int .i64 0, .string ⟨#[98, 111, 98, 48]⟩] 45)).alloc (.cells #[.string ⟨#[97, 48]⟩, .string ⟨#[98, 111, 98, 48]⟩, .string ⟨#[120, 49, 48]⟩] 9))
          have HOf := Lib.hid (show InsOwn ((wr.alloc (.cells #[.int .i64 4, .int .i64 0, .string ⟨#[98, 111, 98, 48]⟩] 45)).alloc (.cells #[.string ⟨#[97, 48]⟩, .string ⟨#[98, 111, 98, 48]⟩, .string ⟨#[120, 49, 48]⟩] 9)) w.heap.size (.slice A2 j c2) (someTo zs n j) from (HO.out.row.alloc (.cells #[.int .i64 4, .int .i64 0, .string ⟨#[98, 111, 98, 48]⟩] 45)).alloc (.cells #[.string ⟨#[97, 48]⟩, .string ⟨#[98, 111, 98, 48]⟩, .string ⟨#[120, 49, 48]⟩] 9))
          clear HO
          go_upto_region 23 with (first
            | 
          (go_at_call 21; (with_reducible refine (pk11_as x 13 3 HO1 x0 x1 (by omega) (by omega) _).mono ?_); rintro e w9 ⟨rfl, rfl⟩)  | (go_at_call 21; (with_reducible refine (pk11_as y 3 1 HK y0 y1 (by omega) (by omega) _).mono ?_); rintro e w9 ⟨rfl, rfl⟩))
          obtain ⟨V, hV⟩ : ∃ V, (wr.alloc (.cells #[.int .i64 4, .int .i64 0, .string ⟨#[98, 111, 98, 48]⟩] 45)).alloc (.cells #[.string ⟨#[97, 48]⟩, .string ⟨#[98, 111, 98, 48]⟩, .string ⟨#[120, 49, 48]⟩] 9) = V := ⟨_, rfl⟩
          rw [hV] at HBf HRf HOf
          try rw [hV]
          obtain ⟨⟨f0, f1, f2⟩, _⟩ := three_of11 HBf.out
          have hrs : w.heap.size ≤ (V.alloc (.cells #[.int .i64 4, .int .i64 0, .string ⟨#[98, 111, 98, 48]⟩] 45)).heap.size := (HRf.out.alloc _).size
          have HIn := Lib.hid (InsAt.of_bk (l := [(4, 0, [98, 111, 98, 48])]) (Bk.new V 45 #[.int .i64 4, .int .i64 0, .string ⟨#[98, 111, 98, 48]⟩]))
          clear hV
          go_wp2_with (at_builtin; (refine wpList_plain rfl fun K' hK => wp_iapp _ _ rfl (base := w.heap.size) (v := .slice A2 j c2) (os := someTo zs n j) rfl (HOf.out.row.alloc _) (A := some ⟨V.heap.size, 0, none⟩) (c := 1) (n := 1) (l := [(4, 0, [98, 111, 98, 48])]) rfl rfl (fun e => by cases e) HIn.out (by simp) (by rw [some_len]; omega) hrs fun v5 w5 own5 g5 b5 => hK _ _ ?_); have OW := Lib.hid own5; have RW := Lib.hid ((HRf.out.alloc _).grown g5 (fun q hq => (HOf.out.row.lt q hq).1)); clear own5 g5 b5)
          obtain ⟨A5, c5, hv5⟩ := OW.out.slice_of
          rw [some_len1] at hv5
          subst hv5
          go_roundw
          case rel => exact ⟨j + 1, A5, c5, by omega, by go_num, rfl, by rw [HSt.out, HV.out]; exact OW.out, RW.out⟩
          case measure => simp [RowKit.intOf]; omega
        · skip
          have HK := Lib.hid h3
          have hrow : some wr.heap.size ≠ (Value.slice A2 j c2).ownBlock := fun e => by have := (HO.out.row.lt _ e.symm).2; omega
          have v5 := (Bk.new (wr.alloc (.cells #[.int .i64 4, .int .i64 0, .string ⟨#[]⟩] 45)) 9 #[.string ⟨#[97, 48]⟩, .string ⟨#[98, 111, 98, 48]⟩, .string ⟨#[120, 49, 48]⟩]).cell 2
          rw [World.size_alloc] at v5
          simp only [List.getElem?_toArray, List.getElem?_cons_succ, List.getElem?_cons_zero] at v5
          obtain ⟨⟨u0, u1, u2⟩, u3, u4, u5⟩ := three_of11 ((Bk.new wr 45 #[.int .i64 4, .int .i64 0, .string ⟨#[]⟩]).alloc (.cells #[.string ⟨#[97, 48]⟩, .string ⟨#[98, 111, 98, 48]⟩, .string ⟨#[120, 49, 48]⟩] 9))
          have cA : (wr.alloc (.cells #[.int .i64 4, .int .i64 0, .string ⟨#[]⟩] 45)).cell? ⟨(a.add (j * 2)).block, (a.add (j * 2)).off + 1, none⟩ = some (.int .i64 y) := (World.cell?_alloc_lt wr _ _ (by rw [block_add]; exact hbl)).trans c1
          have cB : ((wr.alloc (.cells #[.int .i64 4, .int .i64 0, .string ⟨#[]⟩] 45)).alloc (.cells #[.string ⟨#[97, 48]⟩, .string ⟨#[98, 111, 98, 48]⟩, .string ⟨#[120, 49, 48]⟩] 9)).cell? ⟨(a.add (j * 2)).block, (a.add (j * 2)).off + 1, none⟩ = some (.int .i64 y) := (World.cell?_alloc_lt _ _ _ (by rw [block_add, World.size_alloc]; omega)).trans cA
          have HV := Lib.hid (show someAt n j (x, y) = (4, 0, [120, 49, 48]) by unfold someAt; simp only [HO1.out]; rw [HK.out]; rfl)
          obtain ⟨⟨d0, d1, d2⟩, e0, e1, e2⟩ := three_of11 (Bk.new wr 45 #[.int .i64 4, .int .i64 0, .string ⟨#[]⟩])
          have HBf := Lib.hid (show Bk ((wr.alloc (.cells #[.int .i64 4, .int .i64 0, .string ⟨#[120, 49, 48]⟩] 45)).alloc (.cells #[.string ⟨#[97, 48]⟩, .string ⟨#[98, 111, 98, 48]⟩, .string ⟨#[120, 49, 48]⟩] 9)) wr.heap.size 45 #[.int .i64 4, .int .i64 0, .string ⟨#[120, 49, 48]⟩] from (Bk.new wr 45 #[.int .i64 4, .int .i64 0, .string ⟨#[120, 49, 48]⟩]).alloc (.cells #[.string ⟨#[97, 48]⟩, .string ⟨#[98, 111, 98, 48]⟩, .string ⟨#[120, 49, 48]⟩] 9))
          have HRf := Lib.hid (show Rel w ((wr.alloc (.cells #[.int .i64 4, .int .i64 0, .string ⟨#[120, 49, 48]⟩] 45)).alloc (.cells #[.string ⟨#[97, 48]⟩, .string ⟨#[98, 111, 98, 48]⟩, .string ⟨#[120, 49, 48]⟩] 9)) from (HRw.out.alloc (.cells #[.int .i64 4, .int .i64 0, .string ⟨#[120, 49, 48]⟩] 45)).alloc (.cells #[.string ⟨#[97, 48]⟩, .string ⟨#[98, 111, 98, 48]⟩, .string ⟨#[120, 49, 48]⟩] 9))
          have HOf := Lib.hid (show InsOwn ((wr.alloc (.cells #[.int .i64 4, .int .i64 0, .string ⟨#[120, 49, 48]⟩] 45)).alloc (.cells #[.string ⟨#[97, 48]⟩, .string ⟨#[98, 111, 98, 48]⟩, .string ⟨#[120, 49, 48]⟩] 9)) w.heap.size (.slice A2 j c2) (someTo zs n j) from (HO.out.row.alloc (.cells #[.int .i64 4, .int .i64 0, .string ⟨#[120, 49, 48]⟩] 45)).alloc (.cells #[.string ⟨#[97, 48]⟩, .string ⟨#[98, 111, 98, 48]⟩, .string ⟨#[120, 49, 48]⟩] 9))
          clear HO
          go_upto_region 23 with (first
            | 
          (go_at_call 21; (with_reducible refine (pk11_as x 13 3 HO1 x0 x1 (by omega) (by omega) _).mono ?_); rintro e w9 ⟨rfl, rfl⟩)  | (go_at_call 21; (with_reducible refine (pk11_as y 3 2 HK y0 y1 (by omega) (by omega) _).mono ?_); rintro e w9 ⟨rfl, rfl⟩))
          obtain ⟨V, hV⟩ : ∃ V, (wr.alloc (.cells #[.int .i64 4, .int .i64 0, .string ⟨#[120, 49, 48]⟩] 45)).alloc (.cells #[.string ⟨#[97, 48]⟩, .string ⟨#[98, 111, 98, 48]⟩, .string ⟨#[120, 49, 48]⟩] 9) = V := ⟨_, rfl⟩
          rw [hV] at HBf HRf HOf
          try rw [hV]
          obtain ⟨⟨f0, f1, f2⟩, _⟩ := three_of11 HBf.out
          have hrs : w.heap.size ≤ (V.alloc (.cells #[.int .i64 4, .int .i64 0, .string ⟨#[120, 49, 48]⟩] 45)).heap.size := (HRf.out.alloc _).size
          have HIn := Lib.hid (InsAt.of_bk (l := [(4, 0, [120, 49, 48])]) (Bk.new V 45 #[.int .i64 4, .int .i64 0, .string ⟨#[120, 49, 48]⟩]))
          clear hV
          go_wp2_with (at_builtin; (refine wpList_plain rfl fun K' hK => wp_iapp _ _ rfl (base := w.heap.size) (v := .slice A2 j c2) (os := someTo zs n j) rfl (HOf.out.row.alloc _) (A := some ⟨V.heap.size, 0, none⟩) (c := 1) (n := 1) (l := [(4, 0, [120, 49, 48])]) rfl rfl (fun e => by cases e) HIn.out (by simp) (by rw [some_len]; omega) hrs fun v5 w5 own5 g5 b5 => hK _ _ ?_); have OW := Lib.hid own5; have RW := Lib.hid ((HRf.out.alloc _).grown g5 (fun q hq => (HOf.out.row.lt q hq).1)); clear own5 g5 b5)
          obtain ⟨A5, c5, hv5⟩ := OW.out.slice_of
          rw [some_len1] at hv5
          subst hv5
          go_roundw
          case rel => exact ⟨j + 1, A5, c5, by omega, by go_num, rfl, by rw [HSt.out, HV.out]; exact OW.out, RW.out⟩
          case measure => simp [RowKit.intOf]; omega
      · by_cases h7 : y.tmod 7 = 0
        · skip
          obtain ⟨K, hK⟩ : ∃ K, pk y 900 = K := ⟨_, rfl⟩
          have HK := Lib.hid hK
          rw [hK] at H900
          have hrow : some wr.heap.size ≠ (Value.slice A2 j c2).ownBlock := fun e => by have := (HO.out.row.lt _ e.symm).2; omega
          clear hK
          have t7 : (y.tmod 7 == 0) = true := by simpa using h7
          obtain ⟨⟨u0, u1, u2⟩, u3, u4, u5⟩ := three_of11 (Bk.new wr 45 #[.int .i64 5, .int .i64 K, .string ⟨#[]⟩])
          have c1' : (wr.alloc (.cells #[.int .i64 5, .int .i64 K, .string ⟨#[]⟩] 45)).cell? ⟨(a.add (j * 2)).block, (a.add (j * 2)).off + 1, none⟩ = some (.int .i64 y) := (World.cell?_alloc_lt wr _ _ (by rw [block_add]; exact hbl)).trans c1
          have cA : (wr.alloc (.cells #[.int .i64 5, .int .i64 0, .string ⟨#[]⟩] 45)).cell? ⟨(a.add (j * 2)).block, (a.add (j * 2)).off + 1, none⟩ = some (.int .i64 y) := (World.cell?_alloc_lt wr _ _ (by rw [block_add]; exact hbl)).trans c1
          have HV := Lib.hid (show someAt n j (x, y) = (5, 1000000000000, []) by unfold someAt; simp only [HO1.out]; rw [if_pos h7]; rfl)
          obtain ⟨⟨d0, d1, d2⟩, e0, e1, e2⟩ := three_of11 (Bk.new wr 45 #[.int .i64 5, .int .i64 0, .string ⟨#[]⟩])
          have HBf := Lib.hid (show Bk (wr.alloc (.cells #[.int .i64 5, .int .i64 1000000000000, .string ⟨#[]⟩] 45)) wr.heap.size 45 #[.int .i64 5, .int .i64 1000000000000, .string ⟨#[]⟩] from Bk.new wr 45 #[.int .i64 5, .int .i64 1000000000000, .string ⟨#[]⟩])
          have HRf := Lib.hid (show Rel w (wr.alloc (.cells #[.int .i64 5, .int .i64 1000000000000, .string ⟨#[]⟩] 45)) from HRw.out.alloc (.cells #[.int .i64 5, .int .i64 1000000000000, .string ⟨#[]⟩] 45))
          have HOf := Lib.hid (show InsOwn (wr.alloc (.cells #[.int .i64 5, .int .i64 1000000000000, .string ⟨#[]⟩] 45)) w.heap.size (.slice A2 j c2) (someTo zs n j) from HO.out.row.alloc (.cells #[.int .i64 5, .int .i64 1000000000000, .string ⟨#[]⟩] 45))
          clear HO
          go_upto_region 23 with (first
            | 
          (go_at_call 21; (with_reducible refine (pk11_as x 13 4 HO1 x0 x1 (by omega) (by omega) _).mono ?_); rintro e w9 ⟨rfl, rfl⟩)  | (go_at_call 21; (with_reducible refine (pk11_as y 900 K HK y0 y1 (by omega) (by omega) _).mono ?_); rintro e w9 ⟨rfl, rfl⟩))
          obtain ⟨V, hV⟩ : ∃ V, wr.alloc (.cells #[.int .i64 5, .int .i64 1000000000000, .string ⟨#[]⟩] 45) = V := ⟨_, rfl⟩
          rw [hV] at HBf HRf HOf
          try rw [hV]
          obtain ⟨⟨f0, f1, f2⟩, _⟩ := three_of11 HBf.out
          have hrs : w.heap.size ≤ (V.alloc (.cells #[.int .i64 5, .int .i64 1000000000000, .string ⟨#[]⟩] 45)).heap.size := (HRf.out.alloc _).size
          have HIn := Lib.hid (InsAt.of_bk (l := [(5, 1000000000000, [])]) (Bk.new V 45 #[.int .i64 5, .int .i64 1000000000000, .string ⟨#[]⟩]))
          clear hV
          go_wp2_with (at_builtin; (refine wpList_plain rfl fun K' hK => wp_iapp _ _ rfl (base := w.heap.size) (v := .slice A2 j c2) (os := someTo zs n j) rfl (HOf.out.row.alloc _) (A := some ⟨V.heap.size, 0, none⟩) (c := 1) (n := 1) (l := [(5, 1000000000000, [])]) rfl rfl (fun e => by cases e) HIn.out (by simp) (by rw [some_len]; omega) hrs fun v5 w5 own5 g5 b5 => hK _ _ ?_); have OW := Lib.hid own5; have RW := Lib.hid ((HRf.out.alloc _).grown g5 (fun q hq => (HOf.out.row.lt q hq).1)); clear own5 g5 b5)
          obtain ⟨A5, c5, hv5⟩ := OW.out.slice_of
          rw [some_len1] at hv5
          subst hv5
          go_roundw
          case rel => exact ⟨j + 1, A5, c5, by omega, by go_num, rfl, by rw [HSt.out, HV.out]; exact OW.out, RW.out⟩
          case measure => simp [RowKit.intOf]; omega
        · skip
          obtain ⟨K, hK⟩ : ∃ K, pk y 900 = K := ⟨_, rfl⟩
          have HK := Lib.hid hK
          rw [hK] at H900
          have hrow : some wr.heap.size ≠ (Value.slice A2 j c2).ownBlock := fun e => by have := (HO.out.row.lt _ e.symm).2; omega
          clear hK
          have t7 : (y.tmod 7 == 0) = false := by simpa using h7
          obtain ⟨⟨u0, u1, u2⟩, u3, u4, u5⟩ := three_of11 (Bk.new wr 45 #[.int .i64 5, .int .i64 K, .string ⟨#[]⟩])
          have c1' : (wr.alloc (.cells #[.int .i64 5, .int .i64 K, .string ⟨#[]⟩] 45)).cell? ⟨(a.add (j * 2)).block, (a.add (j * 2)).off + 1, none⟩ = some (.int .i64 y) := (World.cell?_alloc_lt wr _ _ (by rw [block_add]; exact hbl)).trans c1
          have cA : (wr.alloc (.cells #[.int .i64 5, .int .i64 0, .string ⟨#[]⟩] 45)).cell? ⟨(a.add (j * 2)).block, (a.add (j * 2)).off + 1, none⟩ = some (.int .i64 y) := (World.cell?_alloc_lt wr _ _ (by rw [block_add]; exact hbl)).trans c1
          have HV := Lib.hid (show someAt n j (x, y) = (5, K, []) by unfold someAt; simp only [HO1.out]; rw [if_neg h7, HK.out]; rfl)
          obtain ⟨⟨d0, d1, d2⟩, e0, e1, e2⟩ := three_of11 (Bk.new wr 45 #[.int .i64 5, .int .i64 0, .string ⟨#[]⟩])
          have HBf := Lib.hid (show Bk (wr.alloc (.cells #[.int .i64 5, .int .i64 (K), .string ⟨#[]⟩] 45)) wr.heap.size 45 #[.int .i64 5, .int .i64 (K), .string ⟨#[]⟩] from Bk.new wr 45 #[.int .i64 5, .int .i64 (K), .string ⟨#[]⟩])
          have HRf := Lib.hid (show Rel w (wr.alloc (.cells #[.int .i64 5, .int .i64 (K), .string ⟨#[]⟩] 45)) from HRw.out.alloc (.cells #[.int .i64 5, .int .i64 (K), .string ⟨#[]⟩] 45))
          have HOf := Lib.hid (show InsOwn (wr.alloc (.cells #[.int .i64 5, .int .i64 (K), .string ⟨#[]⟩] 45)) w.heap.size (.slice A2 j c2) (someTo zs n j) from HO.out.row.alloc (.cells #[.int .i64 5, .int .i64 (K), .string ⟨#[]⟩] 45))
          clear HO
          go_upto_region 23 with (first
            | 
          (go_at_call 21; (with_reducible refine (pk11_as x 13 4 HO1 x0 x1 (by omega) (by omega) _).mono ?_); rintro e w9 ⟨rfl, rfl⟩)  | (go_at_call 21; (with_reducible refine (pk11_as y 900 K HK y0 y1 (by omega) (by omega) _).mono ?_); rintro e w9 ⟨rfl, rfl⟩))
          obtain ⟨V, hV⟩ : ∃ V, wr.alloc (.cells #[.int .i64 5, .int .i64 (K), .string ⟨#[]⟩] 45) = V := ⟨_, rfl⟩
          rw [hV] at HBf HRf HOf
          try rw [hV]
          obtain ⟨⟨f0, f1, f2⟩, _⟩ := three_of11 HBf.out
          have hrs : w.heap.size ≤ (V.alloc (.cells #[.int .i64 5, .int .i64 (K), .string ⟨#[]⟩] 45)).heap.size := (HRf.out.alloc _).size
          have HIn := Lib.hid (InsAt.of_bk (l := [(5, K, [])]) (Bk.new V 45 #[.int .i64 5, .int .i64 (K), .string ⟨#[]⟩]))
          clear hV
          go_wp2_with (at_builtin; (refine wpList_plain rfl fun K' hK => wp_iapp _ _ rfl (base := w.heap.size) (v := .slice A2 j c2) (os := someTo zs n j) rfl (HOf.out.row.alloc _) (A := some ⟨V.heap.size, 0, none⟩) (c := 1) (n := 1) (l := [(5, K, [])]) rfl rfl (fun e => by cases e) HIn.out (by simp) (by rw [some_len]; omega) hrs fun v5 w5 own5 g5 b5 => hK _ _ ?_); have OW := Lib.hid own5; have RW := Lib.hid ((HRf.out.alloc _).grown g5 (fun q hq => (HOf.out.row.lt q hq).1)); clear own5 g5 b5)
          obtain ⟨A5, c5, hv5⟩ := OW.out.slice_of
          rw [some_len1] at hv5
          subst hv5
          go_roundw
          case rel => exact ⟨j + 1, A5, c5, by omega, by go_num, rfl, by rw [HSt.out, HV.out]; exact OW.out, RW.out⟩
          case measure => simp [RowKit.intOf]; omega
      · skip
        obtain ⟨K, hK⟩ : ∃ K, pk y 100001 = K := ⟨_, rfl⟩
        have HK := Lib.hid hK
        rw [hK] at H1e5
        have hrow : some wr.heap.size ≠ (Value.slice A2 j c2).ownBlock := fun e => by have := (HO.out.row.lt _ e.symm).2; omega
        clear hK
        have cA : (wr.alloc (.cells #[.int .i64 6, .int .i64 0, .string ⟨#[]⟩] 45)).cell? ⟨(a.add (j * 2)).block, (a.add (j * 2)).off + 1, none⟩ = some (.int .i64 y) := (World.cell?_alloc_lt wr _ _ (by rw [block_add]; exact hbl)).trans c1
        have HV := Lib.hid (show someAt n j (x, y) = (6, K, []) by unfold someAt; simp only [HO1.out]; rw [HK.out]; rfl)
        obtain ⟨⟨d0, d1, d2⟩, e0, e1, e2⟩ := three_of11 (Bk.new wr 45 #[.int .i64 6, .int .i64 0, .string ⟨#[]⟩])
        have HBf := Lib.hid (show Bk (wr.alloc (.cells #[.int .i64 6, .int .i64 (K), .string ⟨#[]⟩] 45)) wr.heap.size 45 #[.int .i64 6, .int .i64 (K), .string ⟨#[]⟩] from Bk.new wr 45 #[.int .i64 6, .int .i64 (K), .string ⟨#[]⟩])
        have HRf := Lib.hid (show Rel w (wr.alloc (.cells #[.int .i64 6, .int .i64 (K), .string ⟨#[]⟩] 45)) from HRw.out.alloc (.cells #[.int .i64 6, .int .i64 (K), .string ⟨#[]⟩] 45))
        have HOf := Lib.hid (show InsOwn (wr.alloc (.cells #[.int .i64 6, .int .i64 (K), .string ⟨#[]⟩] 45)) w.heap.size (.slice A2 j c2) (someTo zs n j) from HO.out.row.alloc (.cells #[.int .i64 6, .int .i64 (K), .string ⟨#[]⟩] 45))
        clear HO
        go_upto_region 23 with (first
          | 
        (go_at_call 21; (with_reducible refine (pk11_as x 13 5 HO1 x0 x1 (by omega) (by omega) _).mono ?_); rintro e w9 ⟨rfl, rfl⟩)  | (go_at_call 21; (with_reducible refine (pk11_as y 100001 K HK y0 y1 (by omega) (by omega) _).mono ?_); rintro e w9 ⟨rfl, rfl⟩))
        obtain ⟨V, hV⟩ : ∃ V, wr.alloc (.cells #[.int .i64 6, .int .i64 (K), .string ⟨#[]⟩] 45) = V := ⟨_, rfl⟩
        rw [hV] at HBf HRf HOf
        try rw [hV]
        obtain ⟨⟨f0, f1, f2⟩, _⟩ := three_of11 HBf.out
        have hrs : w.heap.size ≤ (V.alloc (.cells #[.int .i64 6, .int .i64 (K), .string ⟨#[]⟩] 45)).heap.size := (HRf.out.alloc _).size
        have HIn := Lib.hid (InsAt.of_bk (l := [(6, K, [])]) (Bk.new V 45 #[.int .i64 6, .int .i64 (K), .string ⟨#[]⟩]))
        clear hV
        go_wp2_with (at_builtin; (refine wpList_plain rfl fun K' hK => wp_iapp _ _ rfl (base := w.heap.size) (v := .slice A2 j c2) (os := someTo zs n j) rfl (HOf.out.row.alloc _) (A := some ⟨V.heap.size, 0, none⟩) (c := 1) (n := 1) (l := [(6, K, [])]) rfl rfl (fun e => by cases e) HIn.out (by simp) (by rw [some_len]; omega) hrs fun v5 w5 own5 g5 b5 => hK _ _ ?_); have OW := Lib.hid own5; have RW := Lib.hid ((HRf.out.alloc _).grown g5 (fun q hq => (HOf.out.row.lt q hq).1)); clear own5 g5 b5)
        obtain ⟨A5, c5, hv5⟩ := OW.out.slice_of
        rw [some_len1] at hv5
        subst hv5
        go_roundw
        case rel => exact ⟨j + 1, A5, c5, by omega, by go_num, rfl, by rw [HSt.out, HV.out]; exact OW.out, RW.out⟩
        case measure => simp [RowKit.intOf]; omega
      · skip
        skip
        have cA : (wr.alloc (.cells #[.int .i64 7, .int .i64 0, .string ⟨#[]⟩] 45)).cell? ⟨(a.add (j * 2)).block, (a.add (j * 2)).off + 1, none⟩ = some (.int .i64 y) := (World.cell?_alloc_lt wr _ _ (by rw [block_add]; exact hbl)).trans c1
        have HV := Lib.hid (show someAt n j (x, y) = (7, 0, []) by unfold someAt; simp only [HO1.out]; rfl)
        obtain ⟨⟨d0, d1, d2⟩, e0, e1, e2⟩ := three_of11 (Bk.new wr 45 #[.int .i64 7, .int .i64 0, .string ⟨#[]⟩])
        have HBf := Lib.hid (show Bk (wr.alloc (.cells #[.int .i64 7, .int .i64 0, .string ⟨#[]⟩] 45)) wr.heap.size 45 #[.int .i64 7, .int .i64 0, .string ⟨#[]⟩] from Bk.new wr 45 #[.int .i64 7, .int .i64 0, .string ⟨#[]⟩])
        have HRf := Lib.hid (show Rel w (wr.alloc (.cells #[.int .i64 7, .int .i64 0, .string ⟨#[]⟩] 45)) from HRw.out.alloc (.cells #[.int .i64 7, .int .i64 0, .string ⟨#[]⟩] 45))
        have HOf := Lib.hid (show InsOwn (wr.alloc (.cells #[.int .i64 7, .int .i64 0, .string ⟨#[]⟩] 45)) w.heap.size (.slice A2 j c2) (someTo zs n j) from HO.out.row.alloc (.cells #[.int .i64 7, .int .i64 0, .string ⟨#[]⟩] 45))
        clear HO
        go_upto_region 23 with (first
          | 
        (go_at_call 21; (with_reducible refine (pk11_as x 13 6 HO1 x0 x1 (by omega) (by omega) _).mono ?_); rintro e w9 ⟨rfl, rfl⟩))
        obtain ⟨V, hV⟩ : ∃ V, wr.alloc (.cells #[.int .i64 7, .int .i64 0, .string ⟨#[]⟩] 45) = V := ⟨_, rfl⟩
        rw [hV] at HBf HRf HOf
        try rw [hV]
        obtain ⟨⟨f0, f1, f2⟩, _⟩ := three_of11 HBf.out
        have hrs : w.heap.size ≤ (V.alloc (.cells #[.int .i64 7, .int .i64 0, .string ⟨#[]⟩] 45)).heap.size := (HRf.out.alloc _).size
        have HIn := Lib.hid (InsAt.of_bk (l := [(7, 0, [])]) (Bk.new V 45 #[.int .i64 7, .int .i64 0, .string ⟨#[]⟩]))
        clear hV
        go_wp2_with (at_builtin; (refine wpList_plain rfl fun K' hK => wp_iapp _ _ rfl (base := w.heap.size) (v := .slice A2 j c2) (os := someTo zs n j) rfl (HOf.out.row.alloc _) (A := some ⟨V.heap.size, 0, none⟩) (c := 1) (n := 1) (l := [(7, 0, [])]) rfl rfl (fun e => by cases e) HIn.out (by simp) (by rw [some_len]; omega) hrs fun v5 w5 own5 g5 b5 => hK _ _ ?_); have OW := Lib.hid own5; have RW := Lib.hid ((HRf.out.alloc _).grown g5 (fun q hq => (HOf.out.row.lt q hq).1)); clear own5 g5 b5)
        obtain ⟨A5, c5, hv5⟩ := OW.out.slice_of
        rw [some_len1] at hv5
        subst hv5
        go_roundw
        case rel => exact ⟨j + 1, A5, c5, by omega, by go_num, rfl, by rw [HSt.out, HV.out]; exact OW.out, RW.out⟩
        case measure => simp [RowKit.intOf]; omega
      · skip
        skip
        have cA : (wr.alloc (.cells #[.int .i64 8, .int .i64 0, .string ⟨#[]⟩] 45)).cell? ⟨(a.add (j * 2)).block, (a.add (j * 2)).off + 1, none⟩ = some (.int .i64 y) := (World.cell?_alloc_lt wr _ _ (by rw [block_add]; exact hbl)).trans c1
        have HV := Lib.hid (show someAt n j (x, y) = (8, 0, []) by unfold someAt; simp only [HO1.out]; rfl)
        obtain ⟨⟨d0, d1, d2⟩, e0, e1, e2⟩ := three_of11 (Bk.new wr 45 #[.int .i64 8, .int .i64 0, .string ⟨#[]⟩])
        have HBf := Lib.hid (show Bk (wr.alloc (.cells #[.int .i64 8, .int .i64 0, .string ⟨#[]⟩] 45)) wr.heap.size 45 #[.int .i64 8, .int .i64 0, .string ⟨#[]⟩] from Bk.new wr 45 #[.int .i64 8, .int .i64 0, .string ⟨#[]⟩])
        have HRf := Lib.hid (show Rel w (wr.alloc (.cells #[.int .i64 8, .int .i64 0, .string ⟨#[]⟩] 45)) from HRw.out.alloc (.cells #[.int .i64 8, .int .i64 0, .string ⟨#[]⟩] 45))
        have HOf := Lib.hid (show InsOwn (wr.alloc (.cells #[.int .i64 8, .int .i64 0, .string ⟨#[]⟩] 45)) w.heap.size (.slice A2 j c2) (someTo zs n j) from HO.out.row.alloc (.cells #[.int .i64 8, .int .i64 0, .string ⟨#[]⟩] 45))
        clear HO
        go_upto_region 23 with (first
          | 
        (go_at_call 21; (with_reducible refine (pk11_as x 13 7 HO1 x0 x1 (by omega) (by omega) _).mono ?_); rintro e w9 ⟨rfl, rfl⟩))
        obtain ⟨V, hV⟩ : ∃ V, wr.alloc (.cells #[.int .i64 8, .int .i64 0, .string ⟨#[]⟩] 45) = V := ⟨_, rfl⟩
        rw [hV] at HBf HRf HOf
        try rw [hV]
        obtain ⟨⟨f0, f1, f2⟩, _⟩ := three_of11 HBf.out
        have hrs : w.heap.size ≤ (V.alloc (.cells #[.int .i64 8, .int .i64 0, .string ⟨#[]⟩] 45)).heap.size := (HRf.out.alloc _).size
        have HIn := Lib.hid (InsAt.of_bk (l := [(8, 0, [])]) (Bk.new V 45 #[.int .i64 8, .int .i64 0, .string ⟨#[]⟩]))
        clear hV
        go_wp2_with (at_builtin; (refine wpList_plain rfl fun K' hK => wp_iapp _ _ rfl (base := w.heap.size) (v := .slice A2 j c2) (os := someTo zs n j) rfl (HOf.out.row.alloc _) (A := some ⟨V.heap.size, 0, none⟩) (c := 1) (n := 1) (l := [(8, 0, [])]) rfl rfl (fun e => by cases e) HIn.out (by simp) (by rw [some_len]; omega) hrs fun v5 w5 own5 g5 b5 => hK _ _ ?_); have OW := Lib.hid own5; have RW := Lib.hid ((HRf.out.alloc _).grown g5 (fun q hq => (HOf.out.row.lt q hq).1)); clear own5 g5 b5)
        obtain ⟨A5, c5, hv5⟩ := OW.out.slice_of
        rw [some_len1] at hv5
        subst hv5
        go_roundw
        case rel => exact ⟨j + 1, A5, c5, by omega, by go_num, rfl, by rw [HSt.out, HV.out]; exact OW.out, RW.out⟩
        case measure => simp [RowKit.intOf]; omega
      · skip
        obtain ⟨K, hK⟩ : ∃ K, pk y ((n : Int) - (j : Int)) = K := ⟨_, rfl⟩
        have HK := Lib.hid hK
        rw [hK] at HL0
        have hrow : some wr.heap.size ≠ (Value.slice A2 j c2).ownBlock := fun e => by have := (HO.out.row.lt _ e.symm).2; omega
        have q3 : IntKind.i64.wrap ((j : Int) + 1 + K) = (j : Int) + 1 + K := IntWalk.i64_in _ (by omega)
        clear hK
        have cA : (wr.alloc (.cells #[.int .i64 9, .int .i64 0, .string ⟨#[]⟩] 45)).cell? ⟨(a.add (j * 2)).block, (a.add (j * 2)).off + 1, none⟩ = some (.int .i64 y) := (World.cell?_alloc_lt wr _ _ (by rw [block_add]; exact hbl)).trans c1
        have HV := Lib.hid (show someAt n j (x, y) = (9, (j : Int) + 1 + K, []) by unfold someAt; simp only [HO1.out]; rw [HK.out]; rfl)
        obtain ⟨⟨d0, d1, d2⟩, e0, e1, e2⟩ := three_of11 (Bk.new wr 45 #[.int .i64 9, .int .i64 0, .string ⟨#[]⟩])
        have HBf := Lib.hid (show Bk (wr.alloc (.cells #[.int .i64 9, .int .i64 ((j : Int) + 1 + K), .string ⟨#[]⟩] 45)) wr.heap.size 45 #[.int .i64 9, .int .i64 ((j : Int) + 1 + K), .string ⟨#[]⟩] from Bk.new wr 45 #[.int .i64 9, .int .i64 ((j : Int) + 1 + K), .string ⟨#[]⟩])
        have HRf := Lib.hid (show Rel w (wr.alloc (.cells #[.int .i64 9, .int .i64 ((j : Int) + 1 + K), .string ⟨#[]⟩] 45)) from HRw.out.alloc (.cells #[.int .i64 9, .int .i64 ((j : Int) + 1 + K), .string ⟨#[]⟩] 45))
        have HOf := Lib.hid (show InsOwn (wr.alloc (.cells #[.int .i64 9, .int .i64 ((j : Int) + 1 + K), .string ⟨#[]⟩] 45)) w.heap.size (.slice A2 j c2) (someTo zs n j) from HO.out.row.alloc (.cells #[.int .i64 9, .int .i64 ((j : Int) + 1 + K), .string ⟨#[]⟩] 45))
        clear HO
        go_upto_region 23 with (first
          | 
        (go_at_call 21; (with_reducible refine (pk11_as x 13 8 HO1 x0 x1 (by omega) (by omega) _).mono ?_); rintro e w9 ⟨rfl, rfl⟩)  | (go_at_call 21; (with_reducible refine (pk11_as y ((n : Int) - (j : Int)) K HK y0 y1 (by omega) (by omega) _).mono ?_); rintro e w9 ⟨rfl, rfl⟩))
        obtain ⟨V, hV⟩ : ∃ V, wr.alloc (.cells #[.int .i64 9, .int .i64 ((j : Int) + 1 + K), .string ⟨#[]⟩] 45) = V := ⟨_, rfl⟩
        rw [hV] at HBf HRf HOf
        try rw [hV]
        obtain ⟨⟨f0, f1, f2⟩, _⟩ := three_of11 HBf.out
        have hrs : w.heap.size ≤ (V.alloc (.cells #[.int .i64 9, .int .i64 ((j : Int) + 1 + K), .string ⟨#[]⟩] 45)).heap.size := (HRf.out.alloc _).size
        have HIn := Lib.hid (InsAt.of_bk (l := [(9, (j : Int) + 1 + K, [])]) (Bk.new V 45 #[.int .i64 9, .int .i64 ((j : Int) + 1 + K), .string ⟨#[]⟩]))
        clear hV
        go_wp2_with (at_builtin; (refine wpList_plain rfl fun K' hK => wp_iapp _ _ rfl (base := w.heap.size) (v := .slice A2 j c2) (os := someTo zs n j) rfl (HOf.out.row.alloc _) (A := some ⟨V.heap.size, 0, none⟩) (c := 1) (n := 1) (l := [(9, (j : Int) + 1 + K, [])]) rfl rfl (fun e => by cases e) HIn.out (by simp) (by rw [some_len]; omega) hrs fun v5 w5 own5 g5 b5 => hK _ _ ?_); have OW := Lib.hid own5; have RW := Lib.hid ((HRf.out.alloc _).grown g5 (fun q hq => (HOf.out.row.lt q hq).1)); clear own5 g5 b5)
        obtain ⟨A5, c5, hv5⟩ := OW.out.slice_of
        rw [some_len1] at hv5
        subst hv5
        go_roundw
        case rel => exact ⟨j + 1, A5, c5, by omega, by go_num, rfl, by rw [HSt.out, HV.out]; exact OW.out, RW.out⟩
        case measure => simp [RowKit.intOf]; omega
      · skip
        obtain ⟨K, hK⟩ : ∃ K, pk y 9 = K := ⟨_, rfl⟩
        have HK := Lib.hid hK
        rw [hK] at H9
        have hrow : some wr.heap.size ≠ (Value.slice A2 j c2).ownBlock := fun e => by have := (HO.out.row.lt _ e.symm).2; omega
        clear hK
        have cA : (wr.alloc (.cells #[.int .i64 10, .int .i64 0, .string ⟨#[]⟩] 45)).cell? ⟨(a.add (j * 2)).block, (a.add (j * 2)).off + 1, none⟩ = some (.int .i64 y) := (World.cell?_alloc_lt wr _ _ (by rw [block_add]; exact hbl)).trans c1
        have HV := Lib.hid (show someAt n j (x, y) = (10, K, []) by unfold someAt; simp only [HO1.out]; rw [HK.out]; rfl)
        obtain ⟨⟨d0, d1, d2⟩, e0, e1, e2⟩ := three_of11 (Bk.new wr 45 #[.int .i64 10, .int .i64 0, .string ⟨#[]⟩])
        have HBf := Lib.hid (show Bk (wr.alloc (.cells #[.int .i64 10, .int .i64 (K), .string ⟨#[]⟩] 45)) wr.heap.size 45 #[.int .i64 10, .int .i64 (K), .string ⟨#[]⟩] from Bk.new wr 45 #[.int .i64 10, .int .i64 (K), .string ⟨#[]⟩])
        have HRf := Lib.hid (show Rel w (wr.alloc (.cells #[.int .i64 10, .int .i64 (K), .string ⟨#[]⟩] 45)) from HRw.out.alloc (.cells #[.int .i64 10, .int .i64 (K), .string ⟨#[]⟩] 45))
        have HOf := Lib.hid (show InsOwn (wr.alloc (.cells #[.int .i64 10, .int .i64 (K), .string ⟨#[]⟩] 45)) w.heap.size (.slice A2 j c2) (someTo zs n j) from HO.out.row.alloc (.cells #[.int .i64 10, .int .i64 (K), .string ⟨#[]⟩] 45))
        clear HO
        go_upto_region 23 with (first
          | 
        (go_at_call 21; (with_reducible refine (pk11_as x 13 9 HO1 x0 x1 (by omega) (by omega) _).mono ?_); rintro e w9 ⟨rfl, rfl⟩)  | (go_at_call 21; (with_reducible refine (pk11_as y 9 K HK y0 y1 (by omega) (by omega) _).mono ?_); rintro e w9 ⟨rfl, rfl⟩))
        obtain ⟨V, hV⟩ : ∃ V, wr.alloc (.cells #[.int .i64 10, .int .i64 (K), .string ⟨#[]⟩] 45) = V := ⟨_, rfl⟩
        rw [hV] at HBf HRf HOf
        try rw [hV]
        obtain ⟨⟨f0, f1, f2⟩, _⟩ := three_of11 HBf.out
        have hrs : w.heap.size ≤ (V.alloc (.cells #[.int .i64 10, .int .i64 (K), .string ⟨#[]⟩] 45)).heap.size := (HRf.out.alloc _).size
        have HIn := Lib.hid (InsAt.of_bk (l := [(10, K, [])]) (Bk.new V 45 #[.int .i64 10, .int .i64 (K), .string ⟨#[]⟩]))
        clear hV
        go_wp2_with (at_builtin; (refine wpList_plain rfl fun K' hK => wp_iapp _ _ rfl (base := w.heap.size) (v := .slice A2 j c2) (os := someTo zs n j) rfl (HOf.out.row.alloc _) (A := some ⟨V.heap.size, 0, none⟩) (c := 1) (n := 1) (l := [(10, K, [])]) rfl rfl (fun e => by cases e) HIn.out (by simp) (by rw [some_len]; omega) hrs fun v5 w5 own5 g5 b5 => hK _ _ ?_); have OW := Lib.hid own5; have RW := Lib.hid ((HRf.out.alloc _).grown g5 (fun q hq => (HOf.out.row.lt q hq).1)); clear own5 g5 b5)
        obtain ⟨A5, c5, hv5⟩ := OW.out.slice_of
        rw [some_len1] at hv5
        subst hv5
        go_roundw
        case rel => exact ⟨j + 1, A5, c5, by omega, by go_num, rfl, by rw [HSt.out, HV.out]; exact OW.out, RW.out⟩
        case measure => simp [RowKit.intOf]; omega
      · skip
        skip
        have cA : (wr.alloc (.cells #[.int .i64 11, .int .i64 0, .string ⟨#[]⟩] 45)).cell? ⟨(a.add (j * 2)).block, (a.add (j * 2)).off + 1, none⟩ = some (.int .i64 y) := (World.cell?_alloc_lt wr _ _ (by rw [block_add]; exact hbl)).trans c1
        have HV := Lib.hid (show someAt n j (x, y) = (11, 0, []) by unfold someAt; simp only [HO1.out]; rfl)
        obtain ⟨⟨d0, d1, d2⟩, e0, e1, e2⟩ := three_of11 (Bk.new wr 45 #[.int .i64 11, .int .i64 0, .string ⟨#[]⟩])
        have HBf := Lib.hid (show Bk (wr.alloc (.cells #[.int .i64 11, .int .i64 0, .string ⟨#[]⟩] 45)) wr.heap.size 45 #[.int .i64 11, .int .i64 0, .string ⟨#[]⟩] from Bk.new wr 45 #[.int .i64 11, .int .i64 0, .string ⟨#[]⟩])
        have HRf := Lib.hid (show Rel w (wr.alloc (.cells #[.int .i64 11, .int .i64 0, .string ⟨#[]⟩] 45)) from HRw.out.alloc (.cells #[.int .i64 11, .int .i64 0, .string ⟨#[]⟩] 45))
        have HOf := Lib.hid (show InsOwn (wr.alloc (.cells #[.int .i64 11, .int .i64 0, .string ⟨#[]⟩] 45)) w.heap.size (.slice A2 j c2) (someTo zs n j) from HO.out.row.alloc (.cells #[.int .i64 11, .int .i64 0, .string ⟨#[]⟩] 45))
        clear HO
        go_upto_region 23 with (first
          | 
        (go_at_call 21; (with_reducible refine (pk11_as x 13 10 HO1 x0 x1 (by omega) (by omega) _).mono ?_); rintro e w9 ⟨rfl, rfl⟩))
        obtain ⟨V, hV⟩ : ∃ V, wr.alloc (.cells #[.int .i64 11, .int .i64 0, .string ⟨#[]⟩] 45) = V := ⟨_, rfl⟩
        rw [hV] at HBf HRf HOf
        try rw [hV]
        obtain ⟨⟨f0, f1, f2⟩, _⟩ := three_of11 HBf.out
        have hrs : w.heap.size ≤ (V.alloc (.cells #[.int .i64 11, .int .i64 0, .string ⟨#[]⟩] 45)).heap.size := (HRf.out.alloc _).size
        have HIn := Lib.hid (InsAt.of_bk (l := [(11, 0, [])]) (Bk.new V 45 #[.int .i64 11, .int .i64 0, .string ⟨#[]⟩]))
        clear hV
        go_wp2_with (at_builtin; (refine wpList_plain rfl fun K' hK => wp_iapp _ _ rfl (base := w.heap.size) (v := .slice A2 j c2) (os := someTo zs n j) rfl (HOf.out.row.alloc _) (A := some ⟨V.heap.size, 0, none⟩) (c := 1) (n := 1) (l := [(11, 0, [])]) rfl rfl (fun e => by cases e) HIn.out (by simp) (by rw [some_len]; omega) hrs fun v5 w5 own5 g5 b5 => hK _ _ ?_); have OW := Lib.hid own5; have RW := Lib.hid ((HRf.out.alloc _).grown g5 (fun q hq => (HOf.out.row.lt q hq).1)); clear own5 g5 b5)
        obtain ⟨A5, c5, hv5⟩ := OW.out.slice_of
        rw [some_len1] at hv5
        subst hv5
        go_roundw
        case rel => exact ⟨j + 1, A5, c5, by omega, by go_num, rfl, by rw [HSt.out, HV.out]; exact OW.out, RW.out⟩
        case measure => simp [RowKit.intOf]; omega
      · skip
        obtain ⟨K, hK⟩ : ∃ K, pk y ((n : Int) - (j : Int)) = K := ⟨_, rfl⟩
        have HK := Lib.hid hK
        rw [hK] at HL0
        have hrow : some wr.heap.size ≠ (Value.slice A2 j c2).ownBlock := fun e => by have := (HO.out.row.lt _ e.symm).2; omega
        have q3 : IntKind.i64.wrap ((j : Int) + 1 + K) = (j : Int) + 1 + K := IntWalk.i64_in _ (by omega)
        clear hK
        have cA : (wr.alloc (.cells #[.int .i64 12, .int .i64 0, .string ⟨#[]⟩] 45)).cell? ⟨(a.add (j * 2)).block, (a.add (j * 2)).off + 1, none⟩ = some (.int .i64 y) := (World.cell?_alloc_lt wr _ _ (by rw [block_add]; exact hbl)).trans c1
        have HV := Lib.hid (show someAt n j (x, y) = (12, (j : Int) + 1 + K, []) by unfold someAt; simp only [HO1.out]; rw [HK.out]; rfl)
        obtain ⟨⟨d0, d1, d2⟩, e0, e1, e2⟩ := three_of11 (Bk.new wr 45 #[.int .i64 12, .int .i64 0, .string ⟨#[]⟩])
        have HBf := Lib.hid (show Bk (wr.alloc (.cells #[.int .i64 12, .int .i64 ((j : Int) + 1 + K), .string ⟨#[]⟩] 45)) wr.heap.size 45 #[.int .i64 12, .int .i64 ((j : Int) + 1 + K), .string ⟨#[]⟩] from Bk.new wr 45 #[.int .i64 12, .int .i64 ((j : Int) + 1 + K), .string ⟨#[]⟩])
        have HRf := Lib.hid (show Rel w (wr.alloc (.cells #[.int .i64 12, .int .i64 ((j : Int) + 1 + K), .string ⟨#[]⟩] 45)) from HRw.out.alloc (.cells #[.int .i64 12, .int .i64 ((j : Int) + 1 + K), .string ⟨#[]⟩] 45))
        have HOf := Lib.hid (show InsOwn (wr.alloc (.cells #[.int .i64 12, .int .i64 ((j : Int) + 1 + K), .string ⟨#[]⟩] 45)) w.heap.size (.slice A2 j c2) (someTo zs n j) from HO.out.row.alloc (.cells #[.int .i64 12, .int .i64 ((j : Int) + 1 + K), .string ⟨#[]⟩] 45))
        clear HO
        go_upto_region 23 with (first
          | 
        (go_at_call 21; (with_reducible refine (pk11_as x 13 11 HO1 x0 x1 (by omega) (by omega) _).mono ?_); rintro e w9 ⟨rfl, rfl⟩)  | (go_at_call 21; (with_reducible refine (pk11_as y ((n : Int) - (j : Int)) K HK y0 y1 (by omega) (by omega) _).mono ?_); rintro e w9 ⟨rfl, rfl⟩))
        obtain ⟨V, hV⟩ : ∃ V, wr.alloc (.cells #[.int .i64 12, .int .i64 ((j : Int) + 1 + K), .string ⟨#[]⟩] 45) = V := ⟨_, rfl⟩
        rw [hV] at HBf HRf HOf
        try rw [hV]
        obtain ⟨⟨f0, f1, f2⟩, _⟩ := three_of11 HBf.out
        have hrs : w.heap.size ≤ (V.alloc (.cells #[.int .i64 12, .int .i64 ((j : Int) + 1 + K), .string ⟨#[]⟩] 45)).heap.size := (HRf.out.alloc _).size
        have HIn := Lib.hid (InsAt.of_bk (l := [(12, (j : Int) + 1 + K, [])]) (Bk.new V 45 #[.int .i64 12, .int .i64 ((j : Int) + 1 + K), .string ⟨#[]⟩]))
        clear hV
        go_wp2_with (at_builtin; (refine wpList_plain rfl fun K' hK => wp_iapp _ _ rfl (base := w.heap.size) (v := .slice A2 j c2) (os := someTo zs n j) rfl (HOf.out.row.alloc _) (A := some ⟨V.heap.size, 0, none⟩) (c := 1) (n := 1) (l := [(12, (j : Int) + 1 + K, [])]) rfl rfl (fun e => by cases e) HIn.out (by simp) (by rw [some_len]; omega) hrs fun v5 w5 own5 g5 b5 => hK _ _ ?_); have OW := Lib.hid own5; have RW := Lib.hid ((HRf.out.alloc _).grown g5 (fun q hq => (HOf.out.row.lt q hq).1)); clear own5 g5 b5)
        obtain ⟨A5, c5, hv5⟩ := OW.out.slice_of
        rw [some_len1] at hv5
        subst hv5
        go_roundw
        case rel => exact ⟨j + 1, A5, c5, by omega, by go_num, rfl, by rw [HSt.out, HV.out]; exact OW.out, RW.out⟩
        case measure => simp [RowKit.intOf]; omega
      · skip
        obtain ⟨K, hK⟩ : ∃ K, pk y ((n : Int) - (j : Int)) = K := ⟨_, rfl⟩
        have HK := Lib.hid hK
        rw [hK] at HL0
        have hrow : some wr.heap.size ≠ (Value.slice A2 j c2).ownBlock := fun e => by have := (HO.out.row.lt _ e.symm).2; omega
        have q3 : IntKind.i64.wrap ((j : Int) + 1 + K) = (j : Int) + 1 + K := IntWalk.i64_in _ (by omega)
        clear hK
        have cA : (wr.alloc (.cells #[.int .i64 13, .int .i64 0, .string ⟨#[]⟩] 45)).cell? ⟨(a.add (j * 2)).block, (a.add (j * 2)).off + 1, none⟩ = some (.int .i64 y) := (World.cell?_alloc_lt wr _ _ (by rw [block_add]; exact hbl)).trans c1
        have HV := Lib.hid (show someAt n j (x, y) = (13, (j : Int) + 1 + K, []) by unfold someAt; simp only [HO1.out]; rw [HK.out]; rfl)
        obtain ⟨⟨d0, d1, d2⟩, e0, e1, e2⟩ := three_of11 (Bk.new wr 45 #[.int .i64 13, .int .i64 0, .string ⟨#[]⟩])
        have HBf := Lib.hid (show Bk (wr.alloc (.cells #[.int .i64 13, .int .i64 ((j : Int) + 1 + K), .string ⟨#[]⟩] 45)) wr.heap.size 45 #[.int .i64 13, .int .i64 ((j : Int) + 1 + K), .string ⟨#[]⟩] from Bk.new wr 45 #[.int .i64 13, .int .i64 ((j : Int) + 1 + K), .string ⟨#[]⟩])
        have HRf := Lib.hid (show Rel w (wr.alloc (.cells #[.int .i64 13, .int .i64 ((j : Int) + 1 + K), .string ⟨#[]⟩] 45)) from HRw.out.alloc (.cells #[.int .i64 13, .int .i64 ((j : Int) + 1 + K), .string ⟨#[]⟩] 45))
        have HOf := Lib.hid (show InsOwn (wr.alloc (.cells #[.int .i64 13, .int .i64 ((j : Int) + 1 + K), .string ⟨#[]⟩] 45)) w.heap.size (.slice A2 j c2) (someTo zs n j) from HO.out.row.alloc (.cells #[.int .i64 13, .int .i64 ((j : Int) + 1 + K), .string ⟨#[]⟩] 45))
        clear HO
        go_upto_region 23 with (first
          | 
        (go_at_call 21; (with_reducible refine (pk11_as x 13 12 HO1 x0 x1 (by omega) (by omega) _).mono ?_); rintro e w9 ⟨rfl, rfl⟩)  | (go_at_call 21; (with_reducible refine (pk11_as y ((n : Int) - (j : Int)) K HK y0 y1 (by omega) (by omega) _).mono ?_); rintro e w9 ⟨rfl, rfl⟩))
        obtain ⟨V, hV⟩ : ∃ V, wr.alloc (.cells #[.int .i64 13, .int .i64 ((j : Int) + 1 + K), .string ⟨#[]⟩] 45) = V := ⟨_, rfl⟩
        rw [hV] at HBf HRf HOf
        try rw [hV]
        obtain ⟨⟨f0, f1, f2⟩, _⟩ := three_of11 HBf.out
        have hrs : w.heap.size ≤ (V.alloc (.cells #[.int .i64 13, .int .i64 ((j : Int) + 1 + K), .string ⟨#[]⟩] 45)).heap.size := (HRf.out.alloc _).size
        have HIn := Lib.hid (InsAt.of_bk (l := [(13, (j : Int) + 1 + K, [])]) (Bk.new V 45 #[.int .i64 13, .int .i64 ((j : Int) + 1 + K), .string ⟨#[]⟩]))
        clear hV
        go_wp2_with (at_builtin; (refine wpList_plain rfl fun K' hK => wp_iapp _ _ rfl (base := w.heap.size) (v := .slice A2 j c2) (os := someTo zs n j) rfl (HOf.out.row.alloc _) (A := some ⟨V.heap.size, 0, none⟩) (c := 1) (n := 1) (l := [(13, (j : Int) + 1 + K, [])]) rfl rfl (fun e => by cases e) HIn.out (by simp) (by rw [some_len]; omega) hrs fun v5 w5 own5 g5 b5 => hK _ _ ?_); have OW := Lib.hid own5; have RW := Lib.hid ((HRf.out.alloc _).grown g5 (fun q hq => (HOf.out.row.lt q hq).1)); clear own5 g5 b5)
        obtain ⟨A5, c5, hv5⟩ := OW.out.slice_of
        rw [some_len1] at hv5
        subst hv5
        go_roundw
        case rel => exact ⟨j + 1, A5, c5, by omega, by go_num, rfl, by rw [HSt.out, HV.out]; exact OW.out, RW.out⟩
        case measure => simp [RowKit.intOf]; omega
    · obtain rfl : j = n := by omega
      clear hRw
      go_wp2_with (fail)
      go_ret
      exact ⟨A2, c2, by rw [HL.out]; rfl, by rw [HL.out, HN.out]; exact HO.out, HR.out.trans HRw.out⟩
end Go.Proofs.YtcckemhelockaaaGreatDoor
