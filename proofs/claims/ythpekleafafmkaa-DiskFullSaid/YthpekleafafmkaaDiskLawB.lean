/- The walk of DiskTorn. -/
import Derived.Test.YthpekleafafmkaaDiskLawA
namespace Go.Proofs.Ythpekleafafmkaa
open Go.RowKit Go.Lib
set_option linter.unusedVariables false
set_option linter.unusedSimpArgs false

theorem fst_E0 (m : Int) : fst' E0 m = E0 := (fst_nil E0 m rfl).symm
theorem torn_size (K P : ByteArray) (n : Int) : K.size ≤ (K ++ fst' P n).size ∧ (K ++ fst' P n).size ≤ (K ++ P).size := by
  have := cl_le n P.size
  rw [ByteArray.size_append, ByteArray.size_append, fst_size]; omega
theorem torn_pre (K P : ByteArray) (n : Int) : (K ++ P).extract 0 (K ++ fst' P n).size = K ++ fst' P n := by
  have h := fst_nat (K ++ P) (K ++ fst' P n).size (by have := (torn_size K P n).2; omega)
  rw [h]
  apply ba_ext
  rw [ext_eq]
  have e : ((K ++ fst' P n).size : Int).toNat = (K ++ fst' P n).data.toList.length := by rw [Int.toNat_natCast, Array.length_toList]; rfl
  rw [e, ByteArray.data_append, ByteArray.data_append, Array.toList_append, Array.toList_append, ext_eq, List.take_append]
  simp only [List.length_append]
  rw [List.take_of_length_le (by omega), show K.data.toList.length + (List.take n.toNat P.data.toList).length - K.data.toList.length = (List.take n.toNat P.data.toList).length by omega, List.length_take]
  congr 1
  rcases Nat.le_total n.toNat P.data.toList.length with h | h
  · rw [Nat.min_eq_left h]
  · rw [Nat.min_eq_right h, List.take_of_length_le (Nat.le_refl _), List.take_of_length_le h]
set_option maxRecDepth 100000 in
set_option maxHeartbeats 4000000 in
theorem DiskTorn_at (H : DiskOk) (K P : ByteArray) (n m : Int) (hK : K.size ≤ 9223372036854775807) (hP : P.size ≤ 9223372036854775807) (hn : (Lit.int .i64 n).wf = true) (hm : (Lit.int .i64 m).wf = true) (w : World) (hr : Rel w w) :
    Calls Try.prog 4 #[D K P, .int .i64 n, .int .i64 m] w fun e w' => e = .returned (.bool true) ∧ Below w.heap.size w w' := by
  have H := Lib.hid H
  have hb0 := Bk.new w 23 #[.string K, .string P]
  have hr0 := hr.alloc (.cells #[.string K, .string P] 23)
  go_enter Try.func4, Try.ntmps4
  go_upto_region 3 with (first
    | (go_at_call 8; (with_reducible refine (awake_of H.out _ _ hr0.self).mono ?_); rintro e w1 ⟨rfl, h1⟩; obtain ⟨⟨a0, a1⟩, _⟩ := (hb0.rel h1).two)
    | (go_at_call 9; (with_reducible refine (small_of K P hK hP _ _ h1.self).mono ?_); rintro e w2 ⟨⟨K', P', zK, zP, rfl⟩, h2⟩))
  have HD := Bk.new w2 23 #[.string K', .string P']
  have R2 := ((hr0.trans h1).trans h2).alloc (.cells #[.string K', .string P'] 23)
  obtain ⟨z1, z2⟩ := torn_size K' P' n
  have z3 := torn_pre K' P' n
  obtain ⟨C, hC⟩ : ∃ C, K' ++ fst' P' n = C := ⟨_, rfl⟩
  obtain ⟨A, hA⟩ : ∃ A, K' ++ P' = A := ⟨_, rfl⟩
  have zA : A.size ≤ 6000 := by rw [← hA, ByteArray.size_append]; omega
  rw [hC] at z1 z2 z3
  rw [hA] at z2 z3
  have zC : C.size ≤ 6000 := by omega
  have y1 : (K'.size : Int) ≤ (C.size : Int) := by omega
  have y2 : (C.size : Int) ≤ (A.size : Int) := by omega
  have HC1 := Lib.hid hC
  have HA1 := Lib.hid hA
  have HN := Lib.hid (app_nil C)
  have HNA := Lib.hid (app_nil A)
  have HCM := Lib.hid (show C ++ fst' E0 m = C by rw [fst_E0]; exact app_nil C)
  have HAM := Lib.hid (show A ++ fst' E0 m = A by rw [fst_E0]; exact app_nil A)
  clear hC hA h1 h2 a0 a1 hb0 hr0
  go_upto_region 6 with (first
    | (go_at_call 11; (with_reducible refine (crash_of H.out K' P' n C HC1 (by omega) (by omega) hn _ _ R2.self).mono ?_); rintro e w3 ⟨rfl, h3⟩; have HD3 := HD.rel h3; obtain ⟨⟨a0, a1⟩, _⟩ := (HD3.alloc (.cells #[.string C, .string E0] 23)).two)
    | (go_at_call 19; (with_reducible refine (all_of H.out K' P' A HA1 (by omega) (by omega) _ _ (h3.alloc _).self).mono ?_); rintro e w4 ⟨rfl, h4⟩; have HC4 := (Bk.new w3 23 #[.string C, .string E0]).rel h4; obtain ⟨⟨b0, b1⟩, _⟩ := HC4.two)
    | (go_at_call 19; (with_reducible refine (all_of H.out C E0 C HN (by omega) (by decide) _ _ h4.self).mono ?_); rintro e w5 ⟨rfl, h5⟩))
  have HC5 := HC4.rel h5
  have HD5 := ((HD3.alloc (.cells #[.string C, .string E0] 23)).rel h4).rel h5
  have R5 := ((((R2.trans h3).alloc (.cells #[.string C, .string E0] 23)).trans h4).trans h5)
  have HC := Lib.hid HC5
  have HDD := Lib.hid HD5
  have HR := Lib.hid R5.self
  have HR5 := Lib.hid R5
  clear a0 a1 b0 b1
  obtain ⟨⟨a0, a1⟩, _⟩ := HC5.two
  obtain ⟨⟨d0, d1⟩, _⟩ := HD5.two
  clear HC4 HD3 h3 h4 h5 HD R2 HC5 HD5 R5
  go_wp2_with (fail)
  go_region_held3 (fun w' => w'.cell? ⟨w3.heap.size, 0, none⟩ = some (.string C) ∧ w'.cell? ⟨w3.heap.size, 1, none⟩ = some (.string E0) ∧ w'.cell? ⟨w2.heap.size, 0, none⟩ = some (.string K') ∧ w'.cell? ⟨w2.heap.size, 1, none⟩ = some (.string P'))
    (first
      | go_keep
      | exact ⟨a0, a1, d0, d1⟩)
    (first
      | (go_at_call 11; (with_reducible refine (crash_of H.out C E0 m C HCM (by omega) (by decide) hm _ _ HR.out.drew.self).mono ?_); rintro e wa ⟨rfl, ha⟩; have hta := (HR.out.drew).trans ha; obtain ⟨⟨a0, a1⟩, _⟩ := (HC.out.rel hta).two; obtain ⟨⟨d0, d1⟩, _⟩ := (HDD.out.rel hta).two)
      | (go_at_call 17; (with_reducible refine (sync_of H.out K' P' A HA1 (by omega) (by omega) _ _ ha.self).mono ?_); rintro e wb ⟨rfl, hb⟩; have htb := (hta).trans hb; obtain ⟨⟨a0, a1⟩, _⟩ := (HC.out.rel htb).two; obtain ⟨⟨d0, d1⟩, _⟩ := (HDD.out.rel htb).two)
      | (go_at_call 11; (with_reducible refine (crash_of H.out A E0 m A HAM (by omega) (by decide) hm _ _ hb.self).mono ?_); rintro e wc ⟨rfl, hc⟩; have htc := (htb).trans hc; obtain ⟨⟨a0, a1⟩, _⟩ := (HC.out.rel htc).two; obtain ⟨⟨d0, d1⟩, _⟩ := (HDD.out.rel htc).two)
      | (go_at_call 17; (with_reducible refine (sync_of H.out K' P' A HA1 (by omega) (by omega) _ _ hc.self).mono ?_); rintro e wd ⟨rfl, hd⟩; have htd := (htc).trans hd; obtain ⟨⟨a0, a1⟩, _⟩ := (HC.out.rel htd).two; obtain ⟨⟨d0, d1⟩, _⟩ := (HDD.out.rel htd).two)
      | (go_at_call 17; (with_reducible refine (sync_of H.out K' P' A HA1 (by omega) (by omega) _ _ hd.self).mono ?_); rintro e we ⟨rfl, he⟩; have hte := (htd).trans he; obtain ⟨⟨a0, a1⟩, _⟩ := (HC.out.rel hte).two; obtain ⟨⟨d0, d1⟩, _⟩ := (HDD.out.rel hte).two)
      | (go_at_call 19; (with_reducible refine (all_of H.out A E0 A HNA (by omega) (by decide) _ _ he.self).mono ?_); rintro e wf ⟨rfl, hf⟩; have htf := (hte).trans hf; obtain ⟨⟨a0, a1⟩, _⟩ := (HC.out.rel htf).two; obtain ⟨⟨d0, d1⟩, _⟩ := (HDD.out.rel htf).two)
      | (go_at_call 17; (with_reducible refine (sync_of H.out C E0 C HN (by omega) (by decide) _ _ hf.self).mono ?_); rintro e wg ⟨rfl, hg⟩; have htg := (htf).trans hg; obtain ⟨⟨a0, a1⟩, _⟩ := (HC.out.rel htg).two; obtain ⟨⟨d0, d1⟩, _⟩ := (HDD.out.rel htg).two))
  all_goals
    go_wp2_with (fail)
    go_ret
    exact ⟨rfl, (HR5.out.trans htg).2⟩
end Go.Proofs.Ythpekleafafmkaa
