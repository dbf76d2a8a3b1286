/- The walk of DiskCuts. -/
import Derived.Test.YthpekleafafmkaaDiskAwake
namespace Go.Proofs.Ythpekleafafmkaa
open Go.RowKit Go.Lib
set_option linter.unusedVariables false
set_option linter.unusedSimpArgs false

theorem ext_eq (s : ByteArray) (n : Int) : (fst' s n).data.toList = s.data.toList.take n.toNat := by
  unfold fst' cl
  rw [ByteArray.data_extract, Array.toList_extract]
  simp only [List.extract_eq_take_drop, List.drop_zero, Nat.sub_zero]
  have e : s.data.toList.length = s.size := by simp
  by_cases h : n.toNat ≤ s.size
  · rw [Nat.min_eq_left h]
  · rw [Nat.min_eq_right (by omega), List.take_of_length_le (by omega), List.take_of_length_le (by omega)]
theorem ba_ext {a b : ByteArray} (h : a.data.toList = b.data.toList) : a = b := by
  cases a; cases b; simp at h; simp [h]
theorem fst_fst (s : ByteArray) (n m : Int) : fst' (fst' s n) m = fst' s (if m < n then m else n) := by
  apply ba_ext
  rw [ext_eq, ext_eq, ext_eq, List.take_take]
  congr 1
  split <;> omega
theorem fst_append (a t : ByteArray) : fst' (a ++ t) (a.size : Int) = a := by
  apply ba_ext
  rw [ext_eq, ByteArray.data_append, Array.toList_append]
  have e : a.data.toList.length = a.size := by simp
  exact List.take_left' (by omega)
theorem app_nil (a : ByteArray) : a ++ E0 = a := by
  apply ba_ext
  rw [ByteArray.data_append, Array.toList_append]
  exact List.append_nil _
theorem nil_app (a : ByteArray) : E0 ++ a = a := by
  apply ba_ext
  rw [ByteArray.data_append, Array.toList_append]
  exact List.nil_append _
theorem awake_of (H : DiskOk) (w0 w : World) (hr : Rel w0 w) :
    Calls Try.prog 8 #[] w fun e w' => e = .returned (.bool true) ∧ Rel w0 w' := awake_any H w0 w hr
theorem wf_bd {x : Int} (h : (Lit.int .i64 x).wf = true) : -9223372036854775808 ≤ x ∧ x ≤ 9223372036854775807 := by
  simp [Lit.wf, IntKind.min, IntKind.max, IntKind.bits, IntKind.signed] at h; omega
theorem wf_int (x : Int) (h : -9223372036854775808 ≤ x) (h' : x ≤ 9223372036854775807) : (Lit.int .i64 x).wf = true := by
  simp [Lit.wf, IntKind.min, IntKind.max, IntKind.bits, IntKind.signed]; omega
theorem short100 (s : ByteArray) : ∃ (j : Nat) (t : ByteArray), (if (100 : Int) < (s.size : Int) then (100 : Int) else (s.size : Int)) = (j : Int) ∧ (j : Int) ≤ (s.size : Int) ∧ s.extract 0 j = t ∧ t.size ≤ 100 := by
  refine ⟨min 100 s.size, s.extract 0 (min 100 s.size), by split <;> omega, by omega, rfl, ?_⟩
  rw [ByteArray.size_extract]; omega
set_option maxRecDepth 100000 in
set_option maxHeartbeats 4000000 in
theorem DiskCuts_at (H : DiskOk) (K P : ByteArray) (n m : Int) (s : ByteArray) (hK : K.size ≤ 9223372036854775807) (hP : P.size ≤ 9223372036854775807) (hn : (Lit.int .i64 n).wf = true) (hm : (Lit.int .i64 m).wf = true) (hs : s.size ≤ 9223372036854775807) (w : World) (hr : Rel w w) :
    Calls Try.prog 6 #[D K P, .int .i64 n, .int .i64 m, .string s] w fun e w' => e = .returned (.bool true) ∧ Below w.heap.size w w' := by
  have H := Lib.hid H
  obtain ⟨j, t, hj, hj', ht, zt⟩ := short100 s
  have hb0 := Bk.new w 23 #[.string K, .string P]
  have hr0 := hr.alloc (.cells #[.string K, .string P] 23)
  go_enter Try.func6, Try.ntmps6
  go_upto_region 4 with (first
    | (go_at_call 8; (with_reducible refine (awake_of H.out _ _ hr0.self).mono ?_); rintro e w1 ⟨rfl, h1⟩; obtain ⟨⟨a0, a1⟩, _⟩ := (hb0.rel h1).two)
    | (go_at_call 9; (with_reducible refine (small_of K P hK hP _ _ h1.self).mono ?_); rintro e w2 ⟨⟨K', P', zK, zP, rfl⟩, h2⟩))
  have HD := Bk.new w2 23 #[.string K', .string P']
  have R2 := ((hr0.trans h1).trans h2).alloc (.cells #[.string K', .string P'] 23)
  obtain ⟨A, hA⟩ : ∃ A, fst' (K' ++ P') n = A := ⟨_, rfl⟩
  obtain ⟨B, hB⟩ : ∃ B, fst' A m = B := ⟨_, rfl⟩
  obtain ⟨X, hX⟩ : ∃ X, A ++ t = X := ⟨_, rfl⟩
  obtain ⟨q, hq⟩ : ∃ q, (if m < n then m else n) = q := ⟨_, rfl⟩
  have zA : A.size ≤ 6000 := by
    have := cl_le n (K' ++ P').size
    rw [← hA, fst_size]; rw [ByteArray.size_append] at this ⊢; omega
  have zX : X.size ≤ 6100 := by rw [← hX, ByteArray.size_append]; omega
  have HA1 := Lib.hid hA
  have HB1 := Lib.hid (show fst' (A ++ E0) m = B by rw [app_nil]; exact hB)
  have HT1 := Lib.hid (nil_app t)
  have HQ1 := Lib.hid (show fst' (K' ++ P') q = B by rw [← hB, ← hA, fst_fst, hq])
  have HX1 := Lib.hid hX
  have HC1 := Lib.hid (show A ++ fst' t 0 = A by rw [← fst_lo t 0 (by omega)]; exact app_nil A)
  have HE1 := Lib.hid (show fst' (A ++ t) (A.size : Int) = A from fst_append A t)
  have HN1 := Lib.hid (app_nil A)
  have wq : (Lit.int .i64 q).wf = true := by rw [← hq]; split <;> assumption
  have wA : (Lit.int .i64 (A.size : Int)).wf = true := wf_int _ (by omega) (by omega)
  have zE : A.size + E0.size + t.size ≤ 1000000 := by rw [show E0.size = 0 from rfl]; omega
  clear hA hB hX h1 h2 a0 a1 hb0 hr0
  go_upto_region 7 with (first
    | (go_at_call 13; (with_reducible refine (cut_of H.out K' P' n A HA1 (by omega) (by omega) hn _ _ R2.self).mono ?_); rintro e w3 ⟨rfl, h3⟩; have HD3 := HD.rel h3)
    | (go_at_call 13; (with_reducible refine (cut_of H.out A E0 m B HB1 (by omega) (by decide) hm _ _ (h3.alloc _).self).mono ?_); rintro e w4 ⟨rfl, h4⟩; have HA4 := (Bk.new w3 23 #[.string A, .string E0]).rel h4; obtain ⟨⟨a0, a1⟩, _⟩ := (HA4.alloc (.cells #[.string B, .string E0] 23)).two)
    | (go_at_call 15; (with_reducible refine (app_of H.out A E0 t t HT1 zE _ _ (h4.alloc _).self).mono ?_); rintro e w5 ⟨rfl, h5⟩))
  have HB5 := (Bk.new w4 23 #[.string B, .string E0]).rel h5
  have HA5 := (HA4.alloc (.cells #[.string B, .string E0] 23)).rel h5
  have HD5 := ((((HD3.alloc (.cells #[.string A, .string E0] 23)).rel h4)).alloc (.cells #[.string B, .string E0] 23)).rel h5
  have R5 := (((((R2.trans h3).alloc (.cells #[.string A, .string E0] 23)).trans h4).alloc (.cells #[.string B, .string E0] 23)).trans h5).alloc (.cells #[.string A, .string t] 23)
  have HX6 := Bk.new w5 23 #[.string A, .string t]
  have HB6 := HB5.alloc (.cells #[.string A, .string t] 23)
  have HA6 := HA5.alloc (.cells #[.string A, .string t] 23)
  have HD6 := HD5.alloc (.cells #[.string A, .string t] 23)
  obtain ⟨W, hW⟩ : ∃ W, w5.alloc (.cells #[.string A, .string t] 23) = W := ⟨_, rfl⟩
  rw [hW] at HA6 HB6 HD6 HX6 R5 ⊢
  clear hW HB5 HA5 HD5 HA4 HD3 h3 h4 h5 HD R2 a0 a1
  obtain ⟨⟨a0, a1⟩, _⟩ := HA6.two
  obtain ⟨⟨b0, b1⟩, _⟩ := HB6.two
  obtain ⟨⟨d0, d1⟩, _⟩ := HD6.two
  obtain ⟨⟨x0, x1⟩, _⟩ := HX6.two
  have HA := Lib.hid HA6
  have HB := Lib.hid HB6
  have HDD := Lib.hid HD6
  have HXX := Lib.hid HX6
  have HR := Lib.hid (R5.self)
  have HR5 := Lib.hid R5
  have HS := Lib.hid R5.self
  have hXs : X.toList = X.toList := rfl
  have cX : ¬ 9223372036854775807 < A.size + t.size := by omega
  have cX' : A ++ t = X := HX1.out
  clear HA6 HB6 HD6 HX6 R5  hj hj' ht
  go_wp2_with (fail)
  go_region_held3 (fun w' => w'.cell? ⟨w3.heap.size, 0, none⟩ = some (.string A) ∧ w'.cell? ⟨w3.heap.size, 1, none⟩ = some (.string E0) ∧ w'.cell? ⟨w4.heap.size, 0, none⟩ = some (.string B) ∧ w'.cell? ⟨w4.heap.size, 1, none⟩ = some (.string E0) ∧ w'.cell? ⟨w2.heap.size, 0, none⟩ = some (.string K') ∧ w'.cell? ⟨w2.heap.size, 1, none⟩ = some (.string P') ∧ w'.cell? ⟨w5.heap.size, 0, none⟩ = some (.string A) ∧ w'.cell? ⟨w5.heap.size, 1, none⟩ = some (.string t))
    (first
      | go_keep
      | exact ⟨a0, a1, b0, b1, d0, d1, x0, x1⟩)
    (first
      | (go_at_call 13; (with_reducible refine (cut_of H.out K' P' q B HQ1 (by omega) (by omega) wq _ _ HS.out.drew.self).mono ?_); rintro e wa ⟨rfl, ha⟩; have hta := (HR.out.drew).trans ha; obtain ⟨⟨a0, a1⟩, _⟩ := (HA.out.rel hta).two; obtain ⟨⟨b0, b1⟩, _⟩ := (HB.out.rel hta).two; obtain ⟨⟨d0, d1⟩, _⟩ := (HDD.out.rel hta).two; obtain ⟨⟨x0, x1⟩, _⟩ := (HXX.out.rel hta).two)
      | (go_at_call 19; (with_reducible refine (all_of H.out A t X HX1 (by omega) (by omega) _ _ ha.self).mono ?_); rintro e wb ⟨rfl, hb⟩; have htb := (hta).trans hb; obtain ⟨⟨a0, a1⟩, _⟩ := (HA.out.rel htb).two; obtain ⟨⟨b0, b1⟩, _⟩ := (HB.out.rel htb).two; obtain ⟨⟨d0, d1⟩, _⟩ := (HDD.out.rel htb).two; obtain ⟨⟨x0, x1⟩, _⟩ := (HXX.out.rel htb).two)
      | (go_at_call 19; (with_reducible refine (all_of H.out A E0 A HN1 (by omega) (by decide) _ _ hb.self).mono ?_); rintro e wc ⟨rfl, hc⟩; have htc := (htb).trans hc; obtain ⟨⟨a0, a1⟩, _⟩ := (HA.out.rel htc).two; obtain ⟨⟨b0, b1⟩, _⟩ := (HB.out.rel htc).two; obtain ⟨⟨d0, d1⟩, _⟩ := (HDD.out.rel htc).two; obtain ⟨⟨x0, x1⟩, _⟩ := (HXX.out.rel htc).two)
      | (go_at_call 11; (with_reducible refine (crash_of H.out A t 0 A HC1 (by omega) (by omega) (by decide) _ _ hc.self).mono ?_); rintro e wd ⟨rfl, hd⟩; have htd := (htc).trans hd; obtain ⟨⟨a0, a1⟩, _⟩ := (HA.out.rel htd).two; obtain ⟨⟨b0, b1⟩, _⟩ := (HB.out.rel htd).two; obtain ⟨⟨d0, d1⟩, _⟩ := (HDD.out.rel htd).two; obtain ⟨⟨x0, x1⟩, _⟩ := (HXX.out.rel htd).two)
      | (go_at_call 19; (with_reducible refine (all_of H.out A E0 A HN1 (by omega) (by decide) _ _ hd.self).mono ?_); rintro e we ⟨rfl, he⟩; have hte := (htd).trans he; obtain ⟨⟨a0, a1⟩, _⟩ := (HA.out.rel hte).two; obtain ⟨⟨b0, b1⟩, _⟩ := (HB.out.rel hte).two; obtain ⟨⟨d0, d1⟩, _⟩ := (HDD.out.rel hte).two; obtain ⟨⟨x0, x1⟩, _⟩ := (HXX.out.rel hte).two)
      | (go_at_call 13; (with_reducible refine (cut_of H.out A t (A.size : Int) A HE1 (by omega) (by omega) wA _ _ he.self).mono ?_); rintro e wf ⟨rfl, hf⟩; have htf := (hte).trans hf; obtain ⟨⟨a0, a1⟩, _⟩ := (HA.out.rel htf).two; obtain ⟨⟨b0, b1⟩, _⟩ := (HB.out.rel htf).two; obtain ⟨⟨d0, d1⟩, _⟩ := (HDD.out.rel htf).two; obtain ⟨⟨x0, x1⟩, _⟩ := (HXX.out.rel htf).two))
  all_goals
    go_wp2_with (fail)
    go_ret
    exact ⟨rfl, (HR5.out.trans htf).2⟩
end Go.Proofs.Ythpekleafafmkaa
