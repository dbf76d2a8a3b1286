/- What the document's own functions of layer 5 tell, and the law's pick and small. -/
import Derived.Test.YthpekleafafmkaaDiskBase
namespace Go.Proofs.Ythpekleafafmkaa
open Go.RowKit Go.Lib
set_option linter.unusedVariables false
set_option linter.unusedSimpArgs false

theorem ret_str {a b : ByteArray} (h : a = b) : Ending.returned (.string a) = .returned (.string b) := by rw [h]
theorem fst_lo (s : ByteArray) (n : Int) (h : n ≤ 0) : ByteArray.empty = fst' s n := by
  unfold fst' cl; rw [show min n.toNat s.size = 0 by omega]; exact (ByteArray.extract_same ..).symm
theorem fst_hi (s : ByteArray) (n : Int) (h : (s.size : Int) ≤ n) : s = fst' s n := by
  unfold fst' cl; rw [show min n.toNat s.size = s.size by omega]; exact (ByteArray.extract_zero_size ..).symm
theorem fst_nil (s : ByteArray) (n : Int) (h : s.size = 0) : ByteArray.empty = fst' s n := by
  have e : s = ByteArray.empty := ByteArray.size_eq_zero_iff.1 h
  subst e
  unfold fst' cl
  exact (ByteArray.extract_same ..).symm.trans (by rw [show min n.toNat ByteArray.empty.size = 0 from Nat.min_eq_right (Nat.zero_le _)])
theorem fst_mid (s : ByteArray) (n : Int) (h : 0 ≤ n) (h' : n ≤ (s.size : Int)) : s.extract 0 n.toNat = fst' s n := by
  unfold fst' cl; rw [show min n.toNat s.size = n.toNat by omega]
theorem fst_nat (s : ByteArray) (n : Nat) (h' : (n : Int) ≤ (s.size : Int)) : s.extract 0 n = fst' s n := fst_mid s n (by omega) h'
theorem two_ret {a b a' b' : ByteArray} (h : a = a') (h' : b = b') : Ending.returned (D a b) = .returned (D a' b') := by rw [h, h']
set_option maxHeartbeats 1000000 in
theorem rfirst_any (s : ByteArray) (n : Int) (hs : s.size ≤ 2000000) (hn : (Lit.int .i64 n).wf = true) (w0 w : World) (hr : Rel w0 w) :
    Calls Try.prog 23 #[.string s, .int .i64 n] w fun e w' => e = .returned (.string (fst' s n)) ∧ Rel w0 w' := by
  go_enter Try.func23, Try.ntmps23
  go_wp2_with (fail)
  all_goals
    go_ret
    exact ⟨ret_str (by first | exact fst_lo s n (by omega) | exact fst_mid s n (by omega) (by omega) | exact fst_hi s n (by omega) | exact fst_nil s n (by omega)), hr⟩
theorem rfirst_of (s : ByteArray) (n : Int) (A : ByteArray) (hA : Hid (fst' s n = A)) (hs : s.size ≤ 2000000) (hn : (Lit.int .i64 n).wf = true) (w0 w : World) (hr : Rel w0 w) :
    Calls Try.prog 23 #[.string s, .int .i64 n] w fun e w' => e = .returned (.string A) ∧ Rel w0 w' := by
  rw [← hA.out]; exact rfirst_any s n hs hn w0 w hr
theorem rall_of (K P : ByteArray) (A : ByteArray) (hA : Hid (K ++ P = A)) (hK : K.size ≤ 1000000) (hP : P.size ≤ 1000000) (w0 w : World) (hr : Rel w0 w) :
    Calls Try.prog 20 #[D K P] w fun e w' => e = .returned (.string A) ∧ Rel w0 w' := by
  rw [← hA.out]
  go_enter Try.func20, Try.ntmps20
  go_wp2_with (fail)
  go_ret
  exact ⟨rfl, hr.alloc _⟩
theorem rsync_of (K P : ByteArray) (A : ByteArray) (hA : Hid (K ++ P = A)) (hK : K.size ≤ 1000000) (hP : P.size ≤ 1000000) (w0 w : World) (hr : Rel w0 w) :
    Calls Try.prog 18 #[D K P] w fun e w' => e = .returned (D A E0) ∧ Rel w0 w' := by
  have z := hr.size
  go_enter Try.func18, Try.ntmps18
  go_wp2_with (go_at_call 20; (with_reducible refine (rall_of K P A hA hK hP _ _ ((hr.alloc _).alloc _).self).mono ?_); rintro e w' ⟨rfl, hr'⟩; obtain ⟨⟨c0, c1⟩, ⟨f0, f1⟩⟩ := ((Bx.snd w _ _ _ _).rel hr').two)
  obtain ⟨⟨r0, r1⟩, _⟩ := (((Bx.snd w _ _ _ _).rel hr').put (.string A) (.string E0)).two
  exact bodyPost_ret (v := D A E0) (by simp [results, Try.results18, go_sem, r0, r1]) rfl ⟨rfl, (((hr.alloc _).alloc _).trans hr').put (by omega) _ _⟩
theorem rcrash_of (K P : ByteArray) (n : Int) (A : ByteArray) (hA : Hid (K ++ fst' P n = A)) (hK : K.size ≤ 1000000) (hP : P.size ≤ 1000000) (hn : (Lit.int .i64 n).wf = true) (w0 w : World) (hr : Rel w0 w) :
    Calls Try.prog 12 #[D K P, .int .i64 n] w fun e w' => e = .returned (D A E0) ∧ Rel w0 w' := by
  have z := hr.size
  obtain ⟨Q, hQ⟩ : ∃ Q, fst' P n = Q := ⟨_, rfl⟩
  have zQ : Q.size ≤ 1000000 := by rw [← hQ]; unfold fst'; rw [ByteArray.size_extract]; omega
  have HQ := Lib.hid hQ
  rw [hQ] at hA
  have c : ¬ 9223372036854775807 < K.size + Q.size := by omega
  clear hQ
  go_enter Try.func12, Try.ntmps12
  go_wp2_with (fail)
  go_region_law (rw [if_pos (by rfl)]; go_simp; go_at_call 23; (with_reducible refine (rfirst_of P n Q HQ (by omega) hn _ _ ((hr.alloc _).alloc _).drew.self).mono ?_); rintro e w' ⟨rfl, hr'⟩; obtain ⟨⟨c0, c1⟩, ⟨f0, f1⟩⟩ := ((Bx.snd w _ _ _ _).drew.rel hr').two; obtain ⟨⟨d0, d1⟩, _⟩ := (((Bk.new w _ _).alloc _).drew.rel hr').two)
  all_goals
    go_wp2_with (fail)
    have eA := hA.out
    obtain ⟨⟨r0, r1⟩, _⟩ := (((Bx.snd w _ _ _ _).drew.rel hr').put (.string (K ++ Q)) (.string E0)).two
    rw [eA] at r0 r1 ⊢
    exact bodyPost_ret (v := D A E0) (by simp [results, Try.results12, go_sem, r0, r1]) rfl ⟨rfl, (((hr.alloc _).alloc _).drew.trans hr').put (by omega) _ _⟩
theorem rcut_of (K P : ByteArray) (n : Int) (A : ByteArray) (hA : Hid (fst' (K ++ P) n = A)) (hK : K.size ≤ 1000000) (hP : P.size ≤ 1000000) (hn : (Lit.int .i64 n).wf = true) (w0 w : World) (hr : Rel w0 w) :
    Calls Try.prog 14 #[D K P, .int .i64 n] w fun e w' => e = .returned (D A E0) ∧ Rel w0 w' := by
  have z := hr.size
  obtain ⟨Q, hQ⟩ : ∃ Q, K ++ P = Q := ⟨_, rfl⟩
  have zQ : Q.size ≤ 2000000 := by rw [← hQ, ByteArray.size_append]; omega
  have HQ := Lib.hid hQ
  rw [hQ] at hA
  clear hQ
  go_enter Try.func14, Try.ntmps14
  go_wp2_with (first
    | (go_at_call 20; (with_reducible refine (rall_of K P Q HQ hK hP _ _ ((hr.alloc _).alloc _).self).mono ?_); rintro e w' ⟨rfl, hr'⟩)
    | (go_at_call 23; (with_reducible refine (rfirst_of Q n A hA zQ hn _ _ hr'.self).mono ?_); rintro e w2 ⟨rfl, hr2⟩; obtain ⟨⟨c0, c1⟩, ⟨f0, f1⟩⟩ := (((Bx.snd w _ _ _ _).rel hr').rel hr2).two))
  obtain ⟨⟨r0, r1⟩, _⟩ := ((((Bx.snd w _ _ _ _).rel hr').rel hr2).put (.string A) (.string E0)).two
  exact bodyPost_ret (v := D A E0) (by simp [results, Try.results14, go_sem, r0, r1]) rfl ⟨rfl, ((((hr.alloc _).alloc _).trans hr').trans hr2).put (by omega) _ _⟩
theorem rapp_of (K P S : ByteArray) (A : ByteArray) (hA : Hid (P ++ S = A)) (h : K.size + P.size + S.size ≤ 1000000) (w0 w : World) (hr : Rel w0 w) :
    Calls Try.prog 16 #[D K P, .string S] w fun e w' => e = .returned (.tuple #[D K A, .int .i64 0]) ∧ Rel w0 w' := by
  have z := hr.size
  go_enter Try.func16, Try.ntmps16
  go_wp2_with (fail)
  obtain ⟨⟨r0, r1⟩, _⟩ := (Bx.snd w #[.string K, .string P] 23 K (P ++ S)).two
  rw [hA.out] at *
  exact bodyPost_ret (v := .tuple #[D K A, .int .i64 0]) (by simp [results, Try.results16, go_sem, r0, r1]) rfl ⟨rfl, (hr.alloc _).alloc _⟩

def pk (c n : Int) : Int := if c < 0 then -((c + 1).tmod n) else c % n
theorem tdt (p n : Int) (hn : 0 < n) : n * p.tdiv n + p.tmod n = p ∧ (0 ≤ p → 0 ≤ p.tmod n) ∧ (p ≤ 0 → p.tmod n ≤ 0) ∧ p.tmod n < n ∧ -n < p.tmod n := by
  refine ⟨Int.mul_tdiv_add_tmod p n, fun h => Int.tmod_nonneg n h, fun h => ?_, Int.tmod_lt_of_pos p hn, ?_⟩
  · have := Int.tmod_nonneg n (a := -p) (by omega)
    rw [Int.neg_tmod] at this; omega
  · have := Int.tmod_lt_of_pos (-p) hn
    rw [Int.neg_tmod] at this; omega
theorem pk_bd (c n : Int) (hn : 0 < n) : 0 ≤ pk c n ∧ pk c n < n := by
  unfold pk
  split
  · have := tdt (c + 1) n hn; omega
  · exact ⟨Int.emod_nonneg c (by omega), Int.emod_lt_of_pos c hn⟩

theorem ret_int {k : IntKind} {a b : Int} (h : a = b) : Ending.returned (.int k a) = .returned (.int k b) := by rw [h]
theorem pick_any (c n : Int) (hc : -9223372036854775808 ≤ c) (hc' : c ≤ 9223372036854775807) (hn : 0 < n) (hn' : n ≤ 9223372036854775807) (w : World) :
    Calls Try.prog 10 #[.int .i64 c, .int .i64 n] w fun e w' => e = .returned (.int .i64 (pk c n)) ∧ w = w' := by
  by_cases h : c < 0
  all_goals
    go_enter Try.func10, Try.ntmps10
    go_wp2
    all_goals
      go_ret
      exact ⟨ret_int (by unfold pk; split <;> first | rfl | omega), rfl⟩
theorem pick_as (c n y : Int) (h : Hid (pk c n = y)) (hc : -9223372036854775808 ≤ c) (hc' : c ≤ 9223372036854775807) (hn : 0 < n) (hn' : n ≤ 9223372036854775807) (w : World) :
    Calls Try.prog 10 #[.int .i64 c, .int .i64 n] w fun e w' => e = .returned (.int .i64 y) ∧ w = w' := by
  rw [← h.out]; exact pick_any c n hc hc' hn hn' w
theorem min_cl (n m : Nat) : (if (m : Int) < (n : Int) then (m : Int) else (n : Int)) = ((cl n m : Nat) : Int) := by
  unfold cl; split <;> omega
set_option maxRecDepth 100000 in
set_option maxHeartbeats 4000000 in
theorem small_any (K P : ByteArray) (hK : K.size ≤ 9223372036854775807) (hP : P.size ≤ 9223372036854775807) (w0 w : World) (hr : Rel w0 w) :
    Calls Try.prog 9 #[D K P] w fun e w' => e = .returned (D (fst' K 3000) (fst' P 3000)) ∧ Rel w0 w' := by
  have z := hr.size
  obtain ⟨m, hm⟩ : ∃ m : Nat, (if (3000 : Int) < (K.size : Int) then (3000 : Int) else (K.size : Int)) = (m : Int) := ⟨min 3000 K.size, by split <;> omega⟩
  obtain ⟨n, hn⟩ : ∃ m : Nat, (if (3000 : Int) < (P.size : Int) then (3000 : Int) else (P.size : Int)) = (m : Int) := ⟨min 3000 P.size, by split <;> omega⟩
  have hmK : (m : Int) ≤ (K.size : Int) := by split at hm <;> omega
  have hnP : (n : Int) ≤ (P.size : Int) := by split at hn <;> omega
  have em : m = cl 3000 K.size := by unfold cl; split at hm <;> omega
  have en : n = cl 3000 P.size := by unfold cl; split at hn <;> omega
  obtain ⟨K', e1⟩ : ∃ X, K.extract 0 m = X := ⟨_, rfl⟩
  obtain ⟨P', e2⟩ : ∃ X, P.extract 0 n = X := ⟨_, rfl⟩
  have H1 := Lib.hid (show K' = fst' K 3000 by rw [← e1, em]; rfl)
  have H2 := Lib.hid (show P' = fst' P 3000 by rw [← e2, en]; rfl)
  clear em en
  go_enter Try.func9, Try.ntmps9
  go_wp2_with (fail)
  have hb0 := (Bk.new w 23 #[.string K, .string P]).alloc (.cells #[.string ⟨#[]⟩, .string ⟨#[]⟩] 23)
  have hb1 := Bx.snd w #[.string K, .string P] 23 E0 E0
  have hr1 := (hr.alloc (.cells #[.string K, .string P] 23)).alloc (.cells #[.string E0, .string E0] 23)
  obtain ⟨W, hW⟩ : ∃ W, (w.alloc (.cells #[.string K, .string P] 23)).alloc (.cells #[.string ⟨#[]⟩, .string ⟨#[]⟩] 23) = W := ⟨_, rfl⟩
  rw [hW] at hb0 hb1 hr1 ⊢
  clear hW
  obtain ⟨⟨c0, c1⟩, _⟩ := hb0.two
  obtain ⟨⟨d0, d1⟩, ⟨f0, f1⟩⟩ := hb1.two
  go_still_tail 15, (by kernel_rfl)
  go_wp2_with (fail)
  have r0 := (hb1.set_ 0 (.string K')).cell 0
  have r1 := (hb1.put (.string K') (.string P')).cell 1
  simp at r0 r1
  rw [← H1.out, ← H2.out]
  exact bodyPost_ret (v := D K' P') (by simp [results, Try.results9, go_sem, r0, r1]) rfl ⟨rfl, hr1.drew.put (by omega) _ _⟩
theorem fst_size (s : ByteArray) (n : Int) : (fst' s n).size = cl n s.size := by
  have := cl_le n s.size
  unfold fst'; rw [ByteArray.size_extract]; omega
theorem small_of (K P : ByteArray) (hK : K.size ≤ 9223372036854775807) (hP : P.size ≤ 9223372036854775807) (w0 w : World) (hr : Rel w0 w) :
    Calls Try.prog 9 #[D K P] w fun e w' => (∃ K' P', K'.size ≤ 3000 ∧ P'.size ≤ 3000 ∧ e = .returned (D K' P')) ∧ Rel w0 w' :=
  (small_any K P hK hP w0 w hr).mono fun e w' ⟨he, hr'⟩ => ⟨⟨_, _, by rw [fst_size]; unfold cl; omega, by rw [fst_size]; unfold cl; omega, he⟩, hr'⟩
end Go.Proofs.Ythpekleafafmkaa
