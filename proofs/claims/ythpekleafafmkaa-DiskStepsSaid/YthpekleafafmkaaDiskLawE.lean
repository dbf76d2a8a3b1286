/- The walk of DiskTells. -/
import Derived.Test.YthpekleafafmkaaDiskLawA
namespace Go.Proofs.Ythpekleafafmkaa
open Go.RowKit Go.Lib
set_option linter.unusedVariables false
set_option linter.unusedSimpArgs false

theorem short3000 (s : ByteArray) : ∃ (j : Nat) (t : ByteArray), (if (3000 : Int) < (s.size : Int) then (3000 : Int) else (s.size : Int)) = (j : Int) ∧ (j : Int) ≤ (s.size : Int) ∧ s.extract 0 j = t ∧ t.size ≤ 3000 := by
  refine ⟨min 3000 s.size, s.extract 0 (min 3000 s.size), by split <;> omega, by omega, rfl, ?_⟩
  rw [ByteArray.size_extract]; omega
set_option maxRecDepth 100000 in
set_option maxHeartbeats 4000000 in
theorem DiskTells_at (H : DiskOk) (K P : ByteArray) (s : ByteArray) (n : Int) (hK : K.size ≤ 9223372036854775807) (hP : P.size ≤ 9223372036854775807) (hs : s.size ≤ 9223372036854775807) (hn : (Lit.int .i64 n).wf = true) (w : World) (hr : Rel w w) :
    Calls Try.prog 3 #[D K P, .string s, .int .i64 n] w fun e w' => e = .returned (.bool true) ∧ Below w.heap.size w w' := by
  have H := Lib.hid H
  obtain ⟨j, t, q1, q2, q3, zt⟩ := short3000 s
  have hb0 := Bk.new w 23 #[.string K, .string P]
  have hr0 := hr.alloc (.cells #[.string K, .string P] 23)
  obtain ⟨k, hkk⟩ : ∃ k, pk n 40 = k := ⟨_, rfl⟩
  have kb := pk_bd n 40 (by omega)
  rw [hkk] at kb
  obtain ⟨k0, k1⟩ := kb
  have HKK := Lib.hid hkk
  obtain ⟨u0, u1⟩ := wf_bd hn
  clear hkk
  go_enter Try.func3, Try.ntmps3
  go_upto_region 4 with (first
    | (go_at_call 8; (with_reducible refine (awake_of H.out _ _ hr0.self).mono ?_); rintro e w1 ⟨rfl, h1⟩; obtain ⟨⟨a0, a1⟩, _⟩ := (hb0.rel h1).two)
    | (go_at_call 9; (with_reducible refine (small_of K P hK hP _ _ h1.self).mono ?_); rintro e w2 ⟨⟨K', P', zK, zP, rfl⟩, h2⟩))
  have HD := Bk.new w2 23 #[.string K', .string P']
  have R2 := ((hr0.trans h1).trans h2).alloc (.cells #[.string K', .string P'] 23)
  obtain ⟨W0, hW0⟩ : ∃ W, w2.alloc (.cells #[.string K', .string P'] 23) = W := ⟨_, rfl⟩
  rw [hW0] at HD R2 ⊢
  clear hW0 h1 h2 a0 a1 hb0 hr0 q1 q2 q3
  go_wp2_with (go_at_call 10; (with_reducible refine (pick_as n 40 k HKK u0 u1 (by omega) (by omega) _).mono ?_); rintro e w3 ⟨rfl, rfl⟩)
  have HD1 := HD.alloc (.cells #[.int .i64 n, .int .i64 k, .int .i64 (-1)] 3)
  have HI := Bk.new W0 3 #[.int .i64 n, .int .i64 k, .int .i64 (-1)]
  have R3 := R2.alloc (.cells #[.int .i64 n, .int .i64 k, .int .i64 (-1)] 3)
  obtain ⟨W, hW⟩ : ∃ W, W0.alloc (.cells #[.int .i64 n, .int .i64 k, .int .i64 (-1)] 3) = W := ⟨_, rfl⟩
  rw [hW] at HD1 HI R3 ⊢
  have HIC : ∀ (wx : World), Rel W wx → ∀ (j : Nat), j < 3 → ∃ v, wx.cell? ⟨W0.heap.size, j, none⟩ = some (.int .i64 v) ∧ (Lit.int .i64 v).wf = true := by
    intro wx hx j hj
    rw [(HI.rel hx).cell]
    match j, hj with
    | 0, _ => exact ⟨n, rfl, hn⟩
    | 1, _ => exact ⟨k, rfl, wf_int _ (by omega) (by omega)⟩
    | 2, _ => exact ⟨-1, rfl, by decide⟩
  have HIC := Lib.hid HIC
  have HDD := Lib.hid HD1
  have HR3 := Lib.hid R3
  have HRS := Lib.hid R3.self
  obtain ⟨A, hA⟩ : ∃ A, K' ++ P' = A := ⟨_, rfl⟩
  obtain ⟨Q, hQ⟩ : ∃ A, P' ++ t = A := ⟨_, rfl⟩
  have zA : A.size ≤ 6000 := by rw [← hA, ByteArray.size_append]; omega
  have HA1 := Lib.hid hA
  have HQ1 := Lib.hid hQ
  have z9 : K'.size + P'.size + t.size ≤ 1000000 := by omega
  clear hW HD HD1 HI R2 R3 hA hQ HKK k0 k1 u0 u1
  go_loopw [29] (fun i wr => ∃ j : Nat, j ≤ 3 ∧ i = .int .i64 j ∧ Rel W wr) (fun i _ => 3 - (intOf i).toNat)
  case atStart => exact ⟨0, by omega, rfl, HRS.out⟩
  case round =>
    obtain ⟨j, hj, rfl, hR2⟩ := hrel
    by_cases hlt : j < 3
    · obtain ⟨v, hv, wv⟩ := HIC.out wr hR2 j hlt
      obtain ⟨⟨d0, d1⟩, _⟩ := (HDD.out.rel hR2).two
      obtain ⟨C, hC⟩ : ∃ A, K' ++ fst' P' v = A := ⟨_, rfl⟩
      obtain ⟨B, hB⟩ : ∃ A, fst' (K' ++ P') v = A := ⟨_, rfl⟩
      have HC1 := Lib.hid hC
      have HB1 := Lib.hid hB
      have HRW := Lib.hid hR2
      have k4 : (C.toList != C.toList) = false := by simp
      have k5 : (B.toList != B.toList) = false := by simp
      clear hC hB hR2
      go_wp2_with (fail)
      go_region_held3 (fun w' => w'.cell? ⟨w2.heap.size, 0, none⟩ = some (.string K') ∧ w'.cell? ⟨w2.heap.size, 1, none⟩ = some (.string P'))
        (first
          | go_keep
          | exact ⟨d0, d1⟩)
        (first
          | (go_at_call 11; (with_reducible refine (crash_of H.out K' P' v C HC1 (by omega) (by omega) wv _ _ HRW.out.drew.self).mono ?_); rintro e wa ⟨rfl, ha⟩; have hta := (HRW.out.drew).trans ha; obtain ⟨⟨d0, d1⟩, _⟩ := (HDD.out.rel hta).two)
          | (go_at_call 12; (with_reducible refine (rcrash_of K' P' v C HC1 (by omega) (by omega) wv _ _ ha.self).mono ?_); rintro e wb ⟨rfl, hb⟩; have htb := (hta).trans hb; obtain ⟨⟨d0, d1⟩, _⟩ := (HDD.out.rel htb).two)
          | (go_at_call 13; (with_reducible refine (cut_of H.out K' P' v B HB1 (by omega) (by omega) wv _ _ hb.self).mono ?_); rintro e wc ⟨rfl, hc⟩; have htc := (htb).trans hc; obtain ⟨⟨d0, d1⟩, _⟩ := (HDD.out.rel htc).two)
          | (go_at_call 14; (with_reducible refine (rcut_of K' P' v B HB1 (by omega) (by omega) wv _ _ hc.self).mono ?_); rintro e wd ⟨rfl, hd⟩; have htd := (htc).trans hd; obtain ⟨⟨d0, d1⟩, _⟩ := (HDD.out.rel htd).two))
      all_goals
        go_wp2_with (fail)
        go_roundw
        case rel => exact ⟨j + 1, by omega, by go_num, htd⟩
        case measure => simp [intOf]; omega
    · obtain rfl : j = 3 := by omega
      obtain ⟨⟨d0, d1⟩, _⟩ := (HDD.out.rel hR2).two
      have HDR := Lib.hid (HDD.out.rel hR2)
      go_upto_region 12 with (first
        | (go_at_call 15; (with_reducible refine (app_of H.out K' P' t Q HQ1 z9 _ _ hR2.self).mono ?_); rintro e w3 ⟨rfl, h3⟩; have HD3 := HDR.out.rel h3; obtain ⟨⟨d0, d1⟩, _⟩ := (HD3.alloc (.cells #[.string K', .string Q] 23)).two)
        | (go_at_call 16; (with_reducible refine (rapp_of K' P' t Q HQ1 z9 _ _ (h3.alloc _).self).mono ?_); rintro e w4 ⟨rfl, h4⟩))
      have BA := (Bk.new w3 23 #[.string K', .string Q]).rel h4
      have BA' := BA.alloc (.cells #[.string K', .string Q] 23)
      have BB := Bk.new w4 23 #[.string K', .string Q]
      have BD := ((HD3.alloc (.cells #[.string K', .string Q] 23)).rel h4).alloc (.cells #[.string K', .string Q] 23)
      have R5 := ((((HR3.out.trans hR2).trans h3).alloc (.cells #[.string K', .string Q] 23)).trans h4).alloc (.cells #[.string K', .string Q] 23)
      obtain ⟨W5, hW5⟩ : ∃ W, w4.alloc (.cells #[.string K', .string Q] 23) = W := ⟨_, rfl⟩
      rw [hW5] at BA' BB BD R5 ⊢
      have HXA := Lib.hid BA'
      have HXB := Lib.hid BB
      have HDE := Lib.hid BD
      have HRX := Lib.hid R5.self
      have HR5 := Lib.hid R5
      clear d0 d1
      obtain ⟨⟨d0, d1⟩, _⟩ := BD.two
      obtain ⟨⟨x0, x1⟩, _⟩ := BA'.two
      obtain ⟨⟨y0, y1⟩, _⟩ := BB.two
      clear BA BA' BB BD R5 hW5 h3 h4 hR2 HD3
      go_wp2_with (fail)
      go_region_held3 (fun w' => w'.cell? ⟨w2.heap.size, 0, none⟩ = some (.string K') ∧ w'.cell? ⟨w2.heap.size, 1, none⟩ = some (.string P') ∧ w'.cell? ⟨w3.heap.size, 0, none⟩ = some (.string K') ∧ w'.cell? ⟨w3.heap.size, 1, none⟩ = some (.string Q) ∧ w'.cell? ⟨w4.heap.size, 0, none⟩ = some (.string K') ∧ w'.cell? ⟨w4.heap.size, 1, none⟩ = some (.string Q))
        (first
          | go_keep
          | exact ⟨d0, d1, x0, x1, y0, y1⟩)
        (first
          | (go_at_call 17; (with_reducible refine (sync_of H.out K' P' A HA1 (by omega) (by omega) _ _ HRX.out.drew.self).mono ?_); rintro e wa ⟨rfl, ha⟩; have hta := (HRX.out.drew).trans ha; obtain ⟨⟨d0, d1⟩, _⟩ := (HDE.out.rel hta).two; obtain ⟨⟨x0, x1⟩, _⟩ := (HXA.out.rel hta).two; obtain ⟨⟨y0, y1⟩, _⟩ := (HXB.out.rel hta).two)
          | (go_at_call 18; (with_reducible refine (rsync_of K' P' A HA1 (by omega) (by omega) _ _ ha.self).mono ?_); rintro e wb ⟨rfl, hb⟩; have htb := (hta).trans hb; obtain ⟨⟨d0, d1⟩, _⟩ := (HDE.out.rel htb).two; obtain ⟨⟨x0, x1⟩, _⟩ := (HXA.out.rel htb).two; obtain ⟨⟨y0, y1⟩, _⟩ := (HXB.out.rel htb).two)
          | (go_at_call 19; (with_reducible refine (all_of H.out K' P' A HA1 (by omega) (by omega) _ _ hb.self).mono ?_); rintro e wc ⟨rfl, hc⟩; have htc := (htb).trans hc; obtain ⟨⟨d0, d1⟩, _⟩ := (HDE.out.rel htc).two; obtain ⟨⟨x0, x1⟩, _⟩ := (HXA.out.rel htc).two; obtain ⟨⟨y0, y1⟩, _⟩ := (HXB.out.rel htc).two)
          | (go_at_call 20; (with_reducible refine (rall_of K' P' A HA1 (by omega) (by omega) _ _ hc.self).mono ?_); rintro e wd ⟨rfl, hd⟩; have htd := (htc).trans hd; obtain ⟨⟨d0, d1⟩, _⟩ := (HDE.out.rel htd).two; obtain ⟨⟨x0, x1⟩, _⟩ := (HXA.out.rel htd).two; obtain ⟨⟨y0, y1⟩, _⟩ := (HXB.out.rel htd).two))
      all_goals
        go_wp2_with (fail)
        go_ret
        exact ⟨rfl, (HR5.out.trans htd).2⟩
end Go.Proofs.Ythpekleafafmkaa
