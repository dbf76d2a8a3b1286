/- The walk of DiskFull. -/
import Derived.Test.YthpekleafafmkaaDiskLawA
namespace Go.Proofs.Ythpekleafafmkaa
open Go.RowKit Go.Lib
set_option linter.unusedVariables false
set_option linter.unusedSimpArgs false

def strSize : Value → Nat
  | .string s => s.size
  | _ => 0
theorem pow_step (i : Nat) (h : 16 * 2 ^ i < 1000000) : i + 1 ≤ 16 := by
  rcases Nat.lt_or_ge i 16 with h' | h'
  · omega
  · have := Nat.pow_le_pow_right (n := 2) (by omega) h'
    omega
theorem pow_end (i : Nat) (h : ¬ 16 * 2 ^ i < 1000000) (hi : i ≤ 16) : 16 * 2 ^ i = 1048576 := by
  rcases Nat.lt_or_ge i 16 with h' | h'
  · have : 2 ^ i ≤ 2 ^ 15 := Nat.pow_le_pow_right (by omega) (by omega)
    omega
  · obtain rfl : i = 16 := by omega
    rfl
set_option maxRecDepth 100000 in
set_option maxHeartbeats 4000000 in
theorem DiskFull_at (H : DiskOk) (n : Int) (s : ByteArray) (hn : (Lit.int .i64 n).wf = true) (hs : s.size ≤ 9223372036854775807) (w : World) (hr : Rel w w) :
    Calls Try.prog 5 #[.int .i64 n, .string s] w fun e w' => e = .returned (.bool true) ∧ Below w.heap.size w w' := by
  have H := Lib.hid H
  obtain ⟨j, t, q1, q2, q3, zt⟩ := short100 s
  obtain ⟨k3, hk3⟩ : ∃ k, pk n 3 = k := ⟨_, rfl⟩
  have kb := pk_bd n 3 (by omega)
  rw [hk3] at kb
  obtain ⟨k0, k1⟩ := kb
  obtain ⟨u0, u1⟩ := wf_bd hn
  have HK3 := Lib.hid hk3
  clear hk3
  go_enter Try.func5, Try.ntmps5
  go_wp2_with (go_at_call 8; (with_reducible refine (awake_of H.out _ _ hr.self).mono ?_); rintro e w1 ⟨rfl, h1⟩)
  go_loopw [6] (fun b wr => ∃ S : ByteArray, b = .string S ∧ 16 ≤ S.size ∧ S.size ≤ 1048576 ∧ Hid (∃ i, i ≤ 16 ∧ S.size = 16 * 2 ^ i) ∧ Rel w wr) (fun b _ => 1048577 - strSize b)
  case atStart => exact ⟨_, rfl, by decide, by decide, Lib.hid ⟨0, by omega, rfl⟩, hr.trans h1⟩
  case round =>
    obtain ⟨S, rfl, z1, z2, HS, hR2⟩ := hrel
    by_cases hlt : S.size < 1000000
    · have hlt' : (S.size : Int) < 1000000 := by omega
      have cS : ¬ 9223372036854775807 < S.size + S.size := by omega
      have HN := Lib.hid (show ∃ i, i ≤ 16 ∧ (S ++ S).size = 16 * 2 ^ i by
        obtain ⟨i, hi, he⟩ := HS.out
        exact ⟨i + 1, pow_step i (by omega), by rw [ByteArray.size_append, he, Nat.pow_succ]; omega⟩)
      have HZ := Lib.hid (show (S ++ S).size ≤ 1048576 by
        obtain ⟨i, hi, he⟩ := HN.out
        have : 2 ^ i ≤ 2 ^ 16 := Nat.pow_le_pow_right (by omega) hi
        omega)
      go_wp2_with (fail)
      go_roundw
      case rel => exact ⟨_, rfl, by rw [ByteArray.size_append]; omega, HZ.out, HN, hR2⟩
      case measure => simp [strSize, ByteArray.size_append]; omega
    · have eS : S.size = 1048576 := by
        obtain ⟨i, hi, he⟩ := HS.out
        rw [he]; exact pow_end i (by omega) hi
      have hge' : ¬ (S.size : Int) < 1000000 := by omega
      obtain ⟨kn, hkn⟩ : ∃ kn : Nat, k3 + 999999 = (kn : Int) := ⟨(k3 + 999999).toNat, by omega⟩
      have hw : IntKind.i64.wrap (k3 + 999999) = (kn : Int) := by rw [IntKind.wrap_i64]; omega
      have m1 : (if (S.size : Int) < (kn : Int) then (S.size : Int) else (kn : Int)) = (kn : Int) := by rw [if_neg (by omega)]
      have m2 : (kn : Int) ≤ (S.size : Int) := by omega
      obtain ⟨T, hT⟩ : ∃ T, S.extract 0 kn = T := ⟨_, rfl⟩
      have zT : T.size = kn := by rw [← hT, ByteArray.size_extract]; omega
      have zE : E0.size = 0 := rfl
      have HT0 := Lib.hid (nil_app T)
      have HT1 := Lib.hid (app_nil T)
      have Ht0 := Lib.hid (nil_app t)
      have HR := Lib.hid hR2
      have HRS := Lib.hid hR2.self
      have b1 : kn ≤ 1000001 := by omega
      have b2 : 999999 ≤ kn := by omega
      by_cases hk : 1000000 < kn
      · have hk' : (1000000 : Int) < (kn : Int) := by omega
        go_wp2_with (first
          | (go_at_call 10; (with_reducible refine (pick_as n 3 k3 HK3 u0 u1 (by omega) (by omega) _).mono ?_); rintro e w2 ⟨rfl, rfl⟩)
          | (go_at_call 15; (with_reducible refine (full_of H.out E0 E0 T (by omega) (by omega) (by omega) (by omega) _ _ HRS.out).mono ?_); rintro e w3 ⟨rfl, h3⟩))
        go_ret
        exact ⟨rfl, ((HR.out.trans h3).alloc _).2⟩
      · have hk' : (kn : Int) ≤ (1000000 : Int) := by omega
        by_cases hf : 1000000 - kn < t.size
        · have hf' : (1000000 : Int) - (kn : Int) < (t.size : Int) := by omega
          go_upto_region 12 with (first
            | (go_at_call 10; (with_reducible refine (pick_as n 3 k3 HK3 u0 u1 (by omega) (by omega) _).mono ?_); rintro e w2 ⟨rfl, rfl⟩)
            | (go_at_call 15; (with_reducible refine (app_of H.out E0 E0 T T HT0 (by omega) _ _ HRS.out).mono ?_); rintro e w3 ⟨rfl, h3⟩)
            | (go_at_call 17; (with_reducible refine (sync_of H.out E0 T T HT0 (by omega) (by omega) _ _ (h3.alloc _).self).mono ?_); rintro e w4 ⟨rfl, h4⟩; have HD4 := (Bk.new w3 23 #[.string E0, .string T]).rel h4)
            | (go_at_call 15; (with_reducible refine (full_of H.out T E0 t (by omega) (by omega) (by omega) (by omega) _ _ h4.self).mono ?_); rintro e w5 ⟨rfl, h5⟩; have HD5 := (HD4.rel h5).alloc (.cells #[.string T, .string E0] 23)))
          have HX5 := Bk.new w5 23 #[.string T, .string E0]
          have R5 := ((((HR.out.trans h3).alloc (.cells #[.string E0, .string T] 23)).trans h4).trans h5).alloc (.cells #[.string T, .string E0] 23)
          obtain ⟨W, hW⟩ : ∃ W, w5.alloc (.cells #[.string T, .string E0] 23) = W := ⟨_, rfl⟩
          rw [hW] at HD5 HX5 R5 ⊢
          have HXX := Lib.hid HX5
          have HDD := Lib.hid HD5
          have HRW := Lib.hid R5.self
          have HR5 := Lib.hid R5
          obtain ⟨⟨x0, x1⟩, _⟩ := HX5.two
          obtain ⟨⟨d0, d1⟩, _⟩ := HD5.two
          clear hW HD4 HD5 HX5 R5 h3 h4 h5
          go_wp2_with (fail)
          go_region_held3 (fun w' => w'.cell? ⟨w5.heap.size, 0, none⟩ = some (.string T) ∧ w'.cell? ⟨w5.heap.size, 1, none⟩ = some (.string E0) ∧ w'.cell? ⟨w3.heap.size, 0, none⟩ = some (.string E0) ∧ w'.cell? ⟨w3.heap.size, 1, none⟩ = some (.string T))
            (first
              | go_keep
              | exact ⟨x0, x1, d0, d1⟩)
            (first
              | (go_at_call 17; (with_reducible refine (sync_of H.out E0 T T HT0 (by omega) (by omega) _ _ HRW.out.drew.self).mono ?_); rintro e wa ⟨rfl, ha⟩; have hta := (HRW.out.drew).trans ha; obtain ⟨⟨x0, x1⟩, _⟩ := (HXX.out.rel hta).two; obtain ⟨⟨d0, d1⟩, _⟩ := (HDD.out.rel hta).two))
          all_goals
            go_wp2_with (fail)
            go_ret
            exact ⟨rfl, (HR5.out.trans hta).2⟩
        · have hf' : (t.size : Int) ≤ (1000000 : Int) - (kn : Int) := by omega
          have zz : (T ++ t).size = kn + t.size := by rw [ByteArray.size_append, zT]
          obtain ⟨X, hX⟩ : ∃ X, T ++ t = X := ⟨_, rfl⟩
          rw [hX] at zz
          have HX := Lib.hid hX
          go_wp2_with (first
            | (go_at_call 10; (with_reducible refine (pick_as n 3 k3 HK3 u0 u1 (by omega) (by omega) _).mono ?_); rintro e w2 ⟨rfl, rfl⟩)
            | (go_at_call 15; (with_reducible refine (app_of H.out E0 E0 T T HT0 (by omega) _ _ HRS.out).mono ?_); rintro e w3 ⟨rfl, h3⟩)
            | (go_at_call 17; (with_reducible refine (sync_of H.out E0 T T HT0 (by omega) (by omega) _ _ (h3.alloc _).self).mono ?_); rintro e w4 ⟨rfl, h4⟩)
            | (go_at_call 15; (with_reducible refine (app_of H.out T E0 t t Ht0 (by omega) _ _ h4.self).mono ?_); rintro e w5 ⟨rfl, h5⟩)
            | (go_at_call 19; (with_reducible refine (all_of H.out T t X HX (by omega) (by omega) _ _ (h5.alloc _).self).mono ?_); rintro e w6 ⟨rfl, h6⟩))
          go_ret
          exact ⟨rfl, (((((HR.out.trans h3).alloc _).trans (h4.trans h5)).alloc _).trans h6).2⟩
end Go.Proofs.Ythpekleafafmkaa
