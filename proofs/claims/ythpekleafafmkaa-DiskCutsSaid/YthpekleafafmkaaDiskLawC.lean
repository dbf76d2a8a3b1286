/- The walk of DiskSteps. -/
import Derived.Test.YthpekleafafmkaaDiskAwake
import Derived.Test.YthpekleafafmkaaDiskLawA
namespace Go.Proofs.Ythpekleafafmkaa
open Go.RowKit Go.Lib
set_option linter.unusedVariables false
set_option linter.unusedSimpArgs false

theorem short500 (s : ByteArray) : ∃ (j : Nat) (t : ByteArray), (if (500 : Int) < (s.size : Int) then (500 : Int) else (s.size : Int)) = (j : Int) ∧ (j : Int) ≤ (s.size : Int) ∧ s.extract 0 j = t ∧ t.size ≤ 500 := by
  refine ⟨min 500 s.size, s.extract 0 (min 500 s.size), by split <;> omega, by omega, rfl, ?_⟩
  rw [ByteArray.size_extract]; omega
theorem min_fst (s : ByteArray) (k : Int) (h : 0 ≤ k) : ∃ (j : Nat), (if (s.size : Int) < k then (s.size : Int) else k) = (j : Int) ∧ (j : Int) ≤ (s.size : Int) ∧ s.extract 0 j = fst' s k := by
  refine ⟨min s.size k.toNat, by split <;> omega, by omega, ?_⟩
  unfold fst' cl; rw [Nat.min_comm]
set_option maxRecDepth 100000 in
set_option maxHeartbeats 4000000 in
theorem DiskSteps_at (H : DiskOk) (one two three : ByteArray) (keep : Int) (h1' : one.size ≤ 9223372036854775807) (h2' : two.size ≤ 9223372036854775807) (h3' : three.size ≤ 9223372036854775807) (hk : (Lit.int .i64 keep).wf = true) (w : World) (hr : Rel w w) :
    Calls Try.prog 7 #[.string one, .string two, .string three, .int .i64 keep] w fun e w' => e = .returned (.bool true) ∧ Below w.heap.size w w' := by
  have H := Lib.hid H
  obtain ⟨ja, a, q1, q2, q3, za⟩ := short500 one
  obtain ⟨jb, b, q4, q5, q6, zb⟩ := short500 two
  obtain ⟨jc, c, q7, q8, q9, zc⟩ := short500 three
  obtain ⟨k, hkk⟩ : ∃ k, pk keep 600 = k := ⟨_, rfl⟩
  have kb := pk_bd keep 600 (by omega)
  rw [hkk] at kb
  obtain ⟨k0, k1⟩ := kb
  have HKK := Lib.hid hkk
  obtain ⟨u0, u1⟩ := wf_bd hk
  obtain ⟨AB, hAB⟩ : ∃ x, a ++ b = x := ⟨_, rfl⟩
  obtain ⟨ABC, hABC⟩ : ∃ x, AB ++ c = x := ⟨_, rfl⟩
  have zAB : AB.size ≤ 1000 := by rw [← hAB, ByteArray.size_append]; omega
  obtain ⟨j1, m1, m2, m3⟩ := min_fst c k k0
  obtain ⟨j2, m4, m5, m6⟩ := min_fst AB k k0
  obtain ⟨ck, hck⟩ : ∃ x, fst' c k = x := ⟨_, rfl⟩
  obtain ⟨abk, habk⟩ : ∃ x, fst' AB k = x := ⟨_, rfl⟩
  rw [hck] at m3
  rw [habk] at m6
  obtain ⟨Z, hZ⟩ : ∃ x, AB ++ ck = x := ⟨_, rfl⟩
  have zck : ck.size ≤ 500 := by rw [← hck, fst_size]; have := cl_le k c.size; omega
  have zabk : abk.size ≤ 1000 := by rw [← habk, fst_size]; have := cl_le k AB.size; omega
  have zZ : Z.size ≤ 1500 := by rw [← hZ, ByteArray.size_append]; omega
  have wk : (Lit.int .i64 k).wf = true := wf_int _ (by omega) (by omega)
  have HA0 := Lib.hid (nil_app a)
  have HAB := Lib.hid hAB
  have HAB0 := Lib.hid (nil_app AB)
  have HC0 := Lib.hid (nil_app c)
  have HABC := Lib.hid hABC
  have HZ1 := Lib.hid (show AB ++ fst' c k = Z by rw [hck]; exact hZ)
  have HZ2 := Lib.hid (app_nil Z)
  have HY1 := Lib.hid (show E0 ++ fst' AB k = abk by rw [habk]; exact nil_app abk)
  have HY2 := Lib.hid (app_nil abk)
  have zE : E0.size = 0 := rfl
  have c1 : ¬ 9223372036854775807 < a.size + b.size := by omega
  have c2 : ¬ 9223372036854775807 < AB.size + c.size := by omega
  have c3 : ¬ 9223372036854775807 < AB.size + ck.size := by omega
  clear hkk hck habk
  go_enter Try.func7, Try.ntmps7
  go_upto_region 10 with (first
    | (go_at_call 8; (with_reducible refine (awake_of H.out _ _ hr.self).mono ?_); rintro e w1 ⟨rfl, h1⟩)
    | (go_at_call 15; (with_reducible refine (app_of H.out E0 E0 a a HA0 (by omega) _ _ h1.self).mono ?_); rintro e w2 ⟨rfl, h2⟩)
    | (go_at_call 15; (with_reducible refine (app_of H.out E0 a b AB HAB (by omega) _ _ (h2.alloc _).self).mono ?_); rintro e w3 ⟨rfl, h3⟩)
    | (go_at_call 17; (with_reducible refine (sync_of H.out E0 AB AB HAB0 (by omega) (by omega) _ _ (h3.alloc _).self).mono ?_); rintro e w4 ⟨rfl, h4⟩; have HY4 := (Bk.new w3 23 #[.string E0, .string AB]).rel h4)
    | (go_at_call 15; (with_reducible refine (app_of H.out AB E0 c c HC0 (by omega) _ _ h4.self).mono ?_); rintro e w5 ⟨rfl, h5⟩; have HY5 := HY4.rel h5)
    | (go_at_call 15; (with_reducible refine (app_of H.out E0 E0 AB AB HAB0 (by omega) _ _ (h5.alloc _).self).mono ?_); rintro e w6 ⟨rfl, h6⟩)
    | (go_at_call 10; (with_reducible refine (pick_as keep 600 k HKK u0 u1 (by omega) (by omega) _).mono ?_); rintro e w7 ⟨rfl, rfl⟩))
  have BZ := (Bk.new w5 23 #[.string AB, .string c]).rel h6
  have BY := (HY5.alloc (.cells #[.string AB, .string c] 23)).rel h6
  have BW := Bk.new w6 23 #[.string E0, .string AB]
  have BZ' := BZ.alloc (.cells #[.string E0, .string AB] 23)
  have BY' := BY.alloc (.cells #[.string E0, .string AB] 23)
  have R6 := (((h1.trans h2).alloc (.cells #[.string E0, .string a] 23)).trans h3).alloc (.cells #[.string E0, .string AB] 23)
  have R7 := ((((R6.trans h4).trans h5).alloc (.cells #[.string AB, .string c] 23)).trans h6).alloc (.cells #[.string E0, .string AB] 23)
  obtain ⟨W, hW⟩ : ∃ W, w6.alloc (.cells #[.string E0, .string AB] 23) = W := ⟨_, rfl⟩
  rw [hW] at BW BZ' BY' R7 ⊢
  have HZZ := Lib.hid BZ'
  have HYY := Lib.hid BY'
  have HWW := Lib.hid BW
  have HR := Lib.hid R7.self
  have HR5 := Lib.hid R7
  obtain ⟨⟨y0, y1⟩, _⟩ := BY'.two
  obtain ⟨⟨z0, z1⟩, _⟩ := BZ'.two
  obtain ⟨⟨v0, v1⟩, _⟩ := BW.two
  clear BZ BY BW BZ' BY' R6 R7 hW h1 h2 h3 h4 h5 h6 HY4 HY5 q1 q2 q3 q4 q5 q6 q7 q8 q9
  clear h1' h2' h3' hk za zb u0 u1 HKK HA0 HAB HC0
  go_wp2_with (fail)
  simp only [List.append_eq, List.cons_append, List.nil_append]
  go_region_held3 (fun w' => w'.cell? ⟨w3.heap.size, 0, none⟩ = some (.string E0) ∧ w'.cell? ⟨w3.heap.size, 1, none⟩ = some (.string AB) ∧ w'.cell? ⟨w5.heap.size, 0, none⟩ = some (.string AB) ∧ w'.cell? ⟨w5.heap.size, 1, none⟩ = some (.string c) ∧ w'.cell? ⟨w6.heap.size, 0, none⟩ = some (.string E0) ∧ w'.cell? ⟨w6.heap.size, 1, none⟩ = some (.string AB))
    (first
      | go_keep
      | exact ⟨y0, y1, z0, z1, v0, v1⟩)
    (first
      | (go_at_call 19; (with_reducible refine (all_of H.out AB c ABC HABC (by omega) (by omega) _ _ HR.out.drew.self).mono ?_); rintro e wa ⟨rfl, ha⟩; have hta := (HR.out.drew).trans ha; obtain ⟨⟨y0, y1⟩, _⟩ := (HYY.out.rel hta).two; obtain ⟨⟨z0, z1⟩, _⟩ := (HZZ.out.rel hta).two; obtain ⟨⟨v0, v1⟩, _⟩ := (HWW.out.rel hta).two)
      | (go_at_call 11; (with_reducible refine (crash_of H.out AB c k Z HZ1 (by omega) (by omega) wk _ _ ha.self).mono ?_); rintro e wb ⟨rfl, hb⟩; have htb := (hta).trans hb; obtain ⟨⟨y0, y1⟩, _⟩ := (HYY.out.rel htb).two; obtain ⟨⟨z0, z1⟩, _⟩ := (HZZ.out.rel htb).two; obtain ⟨⟨v0, v1⟩, _⟩ := (HWW.out.rel htb).two)
      | (go_at_call 19; (with_reducible refine (all_of H.out Z E0 Z HZ2 (by omega) (by omega) _ _ hb.self).mono ?_); rintro e wc ⟨rfl, hc⟩; have htc := (htb).trans hc; obtain ⟨⟨y0, y1⟩, _⟩ := (HYY.out.rel htc).two; obtain ⟨⟨z0, z1⟩, _⟩ := (HZZ.out.rel htc).two; obtain ⟨⟨v0, v1⟩, _⟩ := (HWW.out.rel htc).two)
      | (go_at_call 11; (with_reducible refine (crash_of H.out E0 AB k abk HY1 (by omega) (by omega) wk _ _ hc.self).mono ?_); rintro e wd ⟨rfl, hd⟩; have htd := (htc).trans hd; obtain ⟨⟨y0, y1⟩, _⟩ := (HYY.out.rel htd).two; obtain ⟨⟨z0, z1⟩, _⟩ := (HZZ.out.rel htd).two; obtain ⟨⟨v0, v1⟩, _⟩ := (HWW.out.rel htd).two)
      | (go_at_call 19; (with_reducible refine (all_of H.out abk E0 abk HY2 (by omega) (by omega) _ _ hd.self).mono ?_); rintro e we ⟨rfl, he⟩; have hte := (htd).trans he; obtain ⟨⟨y0, y1⟩, _⟩ := (HYY.out.rel hte).two; obtain ⟨⟨z0, z1⟩, _⟩ := (HZZ.out.rel hte).two; obtain ⟨⟨v0, v1⟩, _⟩ := (HWW.out.rel hte).two))
  all_goals
    go_wp2_with (fail)
    go_ret
    exact ⟨rfl, (HR5.out.trans hte).2⟩
end Go.Proofs.Ythpekleafafmkaa
