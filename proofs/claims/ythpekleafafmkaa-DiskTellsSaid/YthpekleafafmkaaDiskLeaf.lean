/- What the landed package disk tells: All, Append, Sync, Crash and Cut, by the closures that 'adding' and 'lasting' hand back. -/
import Derived.Test.YthpekleafafmkaaDiskRef
import Derived.Test.YthpekleafafmkaaShelf
namespace Go.Proofs.Ythpekleafafmkaa
open Go.RowKit Go.Lib
set_option linter.unusedVariables false
set_option linter.unusedSimpArgs false

theorem Rel.step {w0 w w' : World} (h : Rel w0 w) (h' : Below w.heap.size w w') : Rel w0 w' := ⟨h.1, h.2.trans (h'.mono h.2.size)⟩
theorem lclone_any (s : ByteArray) (hs : s.size ≤ 1000000000) (w0 w : World) (hr : Rel w0 w) : Calls Try.prog 27 #[.string s] w fun e w' => e = .returned (.string s) ∧ Rel w0 w' := by
  have hc := fun w => Try.stringslite_Clone s w (by omega)
  go_enter Try.func27, Try.ntmps27
  go_wp2_with (go_at_call 29; refine (hc _).mono ?_; rintro e w' ⟨rfl, hw⟩)
  go_ret
  exact ⟨rfl, hr.step hw⟩
theorem lclone_of (s t : ByteArray) (h : Hid (s = t)) (hs : s.size ≤ 1000000000) (w0 w : World) (hr : Rel w0 w) : Calls Try.prog 27 #[.string s] w fun e w' => e = .returned (.string t) ∧ Rel w0 w' := by
  rw [← h.out]; exact lclone_any s hs w0 w hr
theorem lsize_any (K P : ByteArray) (m : Nat) (hm : Hid (K.size + P.size = m)) (hK : K.size ≤ 1000000) (hP : P.size ≤ 1000000) (w0 w : World) (hr : Rel w0 w) :
    Calls Try.prog 24 #[D K P] w fun e w' => e = .returned (.int .i64 (m : Int)) ∧ Rel w0 w' := by
  rw [← hm.out]
  go_enter Try.func24, Try.ntmps24
  go_wp2_with (fail)
  go_ret
  exact ⟨ret_int (by omega), hr.alloc _⟩
theorem lwithin_any (n m x : Int) (hx : Hid ((cl n m.toNat : Int) = x)) (hm : 0 ≤ m) (hm' : m ≤ 2000000) (hn : (Lit.int .i64 n).wf = true) (w : World) :
    Calls Try.prog 22 #[.int .i64 n, .int .i64 m] w fun e w' => e = .returned (.int .i64 x) ∧ w' = w := by
  rw [← hx.out]
  go_enter Try.func22, Try.ntmps22
  go_wp2_with (fail)
  all_goals
    go_ret
    exact ⟨ret_int (by unfold cl; omega), rfl⟩
theorem lall_of (K P : ByteArray) (A : ByteArray) (hA : Hid (K ++ P = A)) (hK : K.size ≤ 1000000) (hP : P.size ≤ 1000000) (w0 w : World) (hr : Rel w0 w) :
    Calls Try.prog 19 #[D K P] w fun e w' => e = .returned (.string A) ∧ Rel w0 w' := by
  rw [← hA.out]
  go_enter Try.func19, Try.ntmps19
  go_wp2_with (fail)
  go_ret
  exact ⟨rfl, hr.alloc _⟩
/-- The box of a captured number, of a captured text. -/
abbrev BI (w : World) (g : Nat) (n : Int) : Prop := Bk w g 3 #[.int .i64 n]
abbrev BS (w : World) (g : Nat) (s : ByteArray) : Prop := Bk w g 9 #[.string s]
theorem lasting_any (n : Int) (w0 w : World) (hr : Rel w0 w) :
    Calls Try.prog 21 #[.int .i64 n] w fun e w' => e = .returned (.func (.func 26) #[] #[.pointer (some ⟨w.heap.size, 0, none⟩)]) ∧ BI w' w.heap.size n ∧ Rel w0 w' := by
  go_enter Try.func21, Try.ntmps21
  go_wp2_with (fail)
  go_ret
  exact ⟨rfl, Bk.new w _ _, hr.alloc _⟩
theorem adding_any (s : ByteArray) (w0 w : World) (hr : Rel w0 w) :
    Calls Try.prog 25 #[.string s] w fun e w' => e = .returned (.func (.func 28) #[] #[.pointer (some ⟨w.heap.size, 0, none⟩)]) ∧ BS w' w.heap.size s ∧ Rel w0 w' := by
  go_enter Try.func25, Try.ntmps25
  go_wp2_with (fail)
  go_ret
  exact ⟨rfl, Bk.new w _ _, hr.alloc _⟩
theorem adding1_any (K P S A : ByteArray) (hA : Hid (P ++ S = A)) (h : K.size + P.size + S.size ≤ 1000000) (g : Nat) (w0 w : World) (hg : BS w g S) (hr : Rel w0 w) :
    Calls Try.prog 28 #[D K P, .pointer (some ⟨g, 0, none⟩)] w fun e w' => e = .returned (D K A) ∧ Rel w0 w' := by
  have z := hr.size
  have c0 := ((hg.alloc (.cells #[.string K, .string P] 23)).alloc (.cells #[.string ⟨#[]⟩, .string ⟨#[]⟩] 23)).cell 0
  have c1 : ¬ 9223372036854775807 < P.size + S.size := by omega
  simp at c0
  go_enter Try.func28, Try.ntmps28
  go_wp2_with (fail)
  have eA := hA.out
  obtain ⟨⟨r0, r1⟩, _⟩ := (Bx.snd w #[.string K, .string P] 23 K (P ++ S)).two
  rw [eA] at *
  exact bodyPost_ret (v := D K A) (by simp [results, Try.results28, go_sem, r0, r1]) rfl ⟨rfl, (hr.alloc _).alloc _⟩
theorem cut_size (A : ByteArray) (m : Nat) : (A.extract 0 m).size ≤ A.size := by rw [ByteArray.size_extract]; omega
/-- The first n bytes are kept: all, if there are just so many. -/
theorem lasting1_any (K P A B : ByteArray) (n : Nat) (hA : Hid (K ++ P = A)) (hB : Hid (A.extract 0 n = B)) (hK : K.size ≤ 1000000) (hP : P.size ≤ 1000000) (hn : n ≤ K.size + P.size) (g : Nat) (w0 w : World) (hg : BI w g (n : Int)) (hr : Rel w0 w) :
    Calls Try.prog 26 #[D K P, .pointer (some ⟨g, 0, none⟩)] w fun e w' => e = .returned (D B E0) ∧ Rel w0 w' := by
  have z := hr.size
  have zA : A.size = K.size + P.size := by rw [← hA.out, ByteArray.size_append]
  have HG := Lib.hid ((hg.alloc (.cells #[.string K, .string P] 23)).alloc (.cells #[.string ⟨#[]⟩, .string ⟨#[]⟩] 23))
  have HX := Lib.hid (Bx.snd w #[.string K, .string P] 23 E0 E0)
  have HR := Lib.hid ((hr.alloc (.cells #[.string K, .string P] 23)).alloc (.cells #[.string ⟨#[]⟩, .string ⟨#[]⟩] 23))
  have zB : B.size ≤ 2000000 := by rw [← hB.out]; exact Nat.le_trans (cut_size A n) (by omega)
  have zn : n ≤ A.size := by omega
  rcases Nat.lt_or_ge n A.size with h | h
  · have t : decide ((n : Int) < (A.size : Int)) = true := by simp; omega
    go_enter Try.func26, Try.ntmps26
    go_wp2_with (first
      | (go_at_call 19; (with_reducible refine (lall_of K P A hA hK hP _ _ HR.out.self).mono ?_); rintro e w1 ⟨rfl, h1⟩; have c0 := (HG.out.rel h1).cell 0; simp at c0)
      | (go_at_call 27; (with_reducible refine (lclone_of (A.extract 0 n) B hB (by rw [hB.out]; omega) _ _ h1.self).mono ?_); rintro e w2 ⟨rfl, h2⟩; obtain ⟨⟨d0, d1⟩, ⟨f0, f1⟩⟩ := ((HX.out.rel h1).rel h2).two))
    obtain ⟨⟨r0, r1⟩, _⟩ := (((HX.out.rel h1).rel h2).put (.string B) (.string E0)).two
    exact bodyPost_ret (v := D B E0) (by simp [results, Try.results26, go_sem, r0, r1]) rfl ⟨rfl, ((HR.out.trans h1).trans h2).put (by omega) _ _⟩
  · have t : decide ((n : Int) < (A.size : Int)) = false := by simp; omega
    have eB : A = B := by rw [← hB.out, show n = A.size by omega]; exact (ByteArray.extract_zero_size ..).symm
    subst eB
    go_enter Try.func26, Try.ntmps26
    go_wp2_with (go_at_call 19; (with_reducible refine (lall_of K P A hA hK hP _ _ HR.out.self).mono ?_); rintro e w1 ⟨rfl, h1⟩; have c0 := (HG.out.rel h1).cell 0; obtain ⟨⟨d0, d1⟩, ⟨f0, f1⟩⟩ := (HX.out.rel h1).two; simp at c0)
    obtain ⟨⟨r0, r1⟩, _⟩ := ((HX.out.rel h1).put (.string A) (.string E0)).two
    exact bodyPost_ret (v := D A E0) (by simp [results, Try.results26, go_sem, r0, r1]) rfl ⟨rfl, (HR.out.trans h1).put (by omega) _ _⟩
/-- What is kept of a disk in the whole, as what 'lasting' is told. -/
theorem ends_sync (K P A : ByteArray) (hA : K ++ P = A) : A.extract 0 (K.size + P.size) = A := by
  rw [show K.size + P.size = A.size by rw [← hA, ByteArray.size_append]]; exact ByteArray.extract_zero_size ..
theorem sync_ok (K P : ByteArray) (hK : K.size ≤ 1000000) (hP : P.size ≤ 1000000) (w0 w : World) (hr : Rel w0 w) :
    Calls Try.prog 17 #[D K P] w fun e w' => e = .returned (D (K ++ P) E0) ∧ Rel w0 w' := by
  obtain ⟨A, hA⟩ : ∃ A, K ++ P = A := ⟨_, rfl⟩
  rw [hA]
  have zA : A.size = K.size + P.size := by rw [← hA, ByteArray.size_append]
  have HA := Lib.hid hA
  have HE := Lib.hid (ends_sync K P A hA)
  obtain ⟨m, hm⟩ : ∃ m, K.size + P.size = m := ⟨_, rfl⟩
  rw [hm] at HE
  have HM := Lib.hid hm
  have hm' : m ≤ K.size + P.size := by omega
  have z := hr.size
  have HX := Lib.hid ((Bk.new w 23 #[.string K, .string P]).alloc (.cells #[.string ⟨#[]⟩, .string ⟨#[]⟩] 23))
  have HY := Lib.hid (Bx.snd w #[.string K, .string P] 23 E0 E0)
  have HR := Lib.hid ((hr.alloc (.cells #[.string K, .string P] 23)).alloc (.cells #[.string ⟨#[]⟩, .string ⟨#[]⟩] 23))
  clear hA hm zA
  go_enter Try.func17, Try.ntmps17
  go_wp2_with (first
    | (go_at_call 24; (with_reducible refine (lsize_any K P m HM hK hP _ _ HR.out.self).mono ?_); rintro e w1 ⟨rfl, h1⟩; obtain ⟨⟨a0, a1⟩, _⟩ := (HX.out.rel h1).two)
    | (go_at_call 21; (with_reducible refine (lasting_any (m : Int) _ _ h1.self).mono ?_); rintro e w2 ⟨rfl, hb, h2⟩; obtain ⟨⟨a0, a1⟩, _⟩ := ((HX.out.rel h1).rel h2).two)
    | (go_at_call 26; (with_reducible refine (lasting1_any K P A A m HA HE hK hP hm' _ _ _ hb h2.self).mono ?_); rintro e w3 ⟨rfl, h3⟩; obtain ⟨⟨d0, d1⟩, ⟨f0, f1⟩⟩ := (((HY.out.rel h1).rel h2).rel h3).two))
  obtain ⟨⟨r0, r1⟩, _⟩ := ((((HY.out.rel h1).rel h2).rel h3).put (.string A) (.string E0)).two
  exact bodyPost_ret (v := D A E0) (by simp [results, Try.results17, go_sem, r0, r1]) rfl ⟨rfl, (((HR.out.trans h1).trans h2).trans h3).put (by omega) _ _⟩
theorem cut_ok (K P : ByteArray) (n : Int) (hK : K.size ≤ 1000000) (hP : P.size ≤ 1000000) (hn : (Lit.int .i64 n).wf = true) (w0 w : World) (hr : Rel w0 w) :
    Calls Try.prog 13 #[D K P, .int .i64 n] w fun e w' => e = .returned (D (fst' (K ++ P) n) E0) ∧ Rel w0 w' := by
  obtain ⟨A, hA⟩ : ∃ A, K ++ P = A := ⟨_, rfl⟩
  rw [hA]
  have zA : K.size + P.size = A.size := by rw [← hA, ByteArray.size_append]
  have HA := Lib.hid hA
  obtain ⟨m, hm⟩ : ∃ m, K.size + P.size = m := ⟨_, rfl⟩
  have HM := Lib.hid hm
  obtain ⟨x, hx⟩ : ∃ x, cl n m = x := ⟨_, rfl⟩
  have hx' : x ≤ K.size + P.size := by rw [← hx, hm]; exact cl_le n m
  have HC : Hid (((cl n ((m : Int)).toNat : Nat) : Int) = (x : Int)) := Lib.hid (by rw [← hx]; rfl)
  obtain ⟨B, hB⟩ : ∃ B, fst' A n = B := ⟨_, rfl⟩
  have HE : Hid (A.extract 0 x = B) := Lib.hid (by rw [← hB, ← hx, ← hm, zA]; rfl)
  rw [hB]
  have m0 : (0 : Int) ≤ (m : Int) := by omega
  have m1 : (m : Int) ≤ 2000000 := by omega
  have z := hr.size
  have HX := Lib.hid ((Bk.new w 23 #[.string K, .string P]).alloc (.cells #[.string ⟨#[]⟩, .string ⟨#[]⟩] 23))
  have HY := Lib.hid (Bx.snd w #[.string K, .string P] 23 E0 E0)
  have HR := Lib.hid ((hr.alloc (.cells #[.string K, .string P] 23)).alloc (.cells #[.string ⟨#[]⟩, .string ⟨#[]⟩] 23))
  clear hA hm zA hx hB
  go_enter Try.func13, Try.ntmps13
  go_wp2_with (first
    | (go_at_call 24; (with_reducible refine (lsize_any K P m HM hK hP _ _ HR.out.self).mono ?_); rintro e w1 ⟨rfl, h1⟩; obtain ⟨⟨a0, a1⟩, _⟩ := (HX.out.rel h1).two)
    | (go_at_call 22; (with_reducible refine (lwithin_any n (m : Int) (x : Int) HC m0 m1 hn _).mono ?_); rintro e wy ⟨rfl, rfl⟩)
    | (go_at_call 21; (with_reducible refine (lasting_any (x : Int) _ _ h1.self).mono ?_); rintro e w2 ⟨rfl, hb, h2⟩; obtain ⟨⟨a0, a1⟩, _⟩ := ((HX.out.rel h1).rel h2).two)
    | (go_at_call 26; (with_reducible refine (lasting1_any K P A B x HA HE hK hP hx' _ _ _ hb h2.self).mono ?_); rintro e w3 ⟨rfl, h3⟩; obtain ⟨⟨d0, d1⟩, ⟨f0, f1⟩⟩ := (((HY.out.rel h1).rel h2).rel h3).two))
  obtain ⟨⟨r0, r1⟩, _⟩ := ((((HY.out.rel h1).rel h2).rel h3).put (.string B) (.string E0)).two
  exact bodyPost_ret (v := D B E0) (by simp [results, Try.results13, go_sem, r0, r1]) rfl ⟨rfl, (((HR.out.trans h1).trans h2).trans h3).put (by omega) _ _⟩
theorem crash_end (K P A : ByteArray) (y : Nat) (hA : K ++ P = A) : A.extract 0 (K.size + y) = K ++ P.extract 0 y := by
  subst hA
  rw [ByteArray.extract_append]
  congr 1
  · exact (by rw [show ∀ a : ByteArray, a.extract 0 (a.size + y) = a from fun a => by apply ByteArray.ext; simp [ByteArray.data_extract]])
  · congr 1 <;> omega
set_option maxHeartbeats 4000000 in
theorem crash_ok (K P : ByteArray) (n : Int) (hK : K.size ≤ 1000000) (hP : P.size ≤ 1000000) (hn : (Lit.int .i64 n).wf = true) (w0 w : World) (hr : Rel w0 w) :
    Calls Try.prog 11 #[D K P, .int .i64 n] w fun e w' => e = .returned (D (K ++ fst' P n) E0) ∧ Rel w0 w' := by
  obtain ⟨A, hA⟩ : ∃ A, K ++ P = A := ⟨_, rfl⟩
  have HA := Lib.hid hA
  obtain ⟨y, hy⟩ : ∃ y, cl n P.size = y := ⟨_, rfl⟩
  have hy' : y ≤ P.size := by rw [← hy]; exact cl_le n _
  have HC : Hid (((cl n ((P.size : Int)).toNat : Nat) : Int) = (y : Int)) := Lib.hid (by rw [← hy]; rfl)
  obtain ⟨B, hB⟩ : ∃ B, K ++ fst' P n = B := ⟨_, rfl⟩
  obtain ⟨x, hx⟩ : ∃ x, K.size + y = x := ⟨_, rfl⟩
  have HE : Hid (A.extract 0 x = B) := Lib.hid (by rw [← hB, ← hx, crash_end K P A y hA, ← hy]; rfl)
  rw [hB]
  have eX : (K.size : Int) + (y : Int) = (x : Int) := by omega
  have hx' : x ≤ K.size + P.size := by omega
  have eW : IntKind.i64.wrap (x : Int) = (x : Int) := IntWalk.i64_in _ (by omega)
  have m0 : (0 : Int) ≤ (P.size : Int) := by omega
  have m1 : (P.size : Int) ≤ 2000000 := by omega
  have z := hr.size
  have HX := Lib.hid ((Bk.new w 23 #[.string K, .string P]).alloc (.cells #[.string ⟨#[]⟩, .string ⟨#[]⟩] 23))
  have HY := Lib.hid (Bx.snd w #[.string K, .string P] 23 E0 E0)
  have HR := Lib.hid ((hr.alloc (.cells #[.string K, .string P] 23)).alloc (.cells #[.string ⟨#[]⟩, .string ⟨#[]⟩] 23))
  clear hA hB hx
  go_enter Try.func11, Try.ntmps11
  go_wp2_with (fail)
  obtain ⟨W, hW⟩ : ∃ W, (w.alloc (.cells #[.string K, .string P] 23)).alloc (.cells #[.string ⟨#[]⟩, .string ⟨#[]⟩] 23) = W := ⟨_, rfl⟩
  have HX2 := Lib.hid (hW ▸ HX.out)
  have HY2 := Lib.hid (hW ▸ HY.out)
  have HR2 := Lib.hid (hW ▸ HR.out)
  rw [hW]
  clear hW HX HY HR
  obtain ⟨⟨a0, a1⟩, _⟩ := HX2.out.two
  go_region_law (first
    | (rw [if_pos (by rfl)]; go_simp; go_at_call 22; (with_reducible refine (lwithin_any n (P.size : Int) (y : Int) HC m0 m1 hn _).mono ?_); rintro e wy ⟨rfl, rfl⟩)
    | (rw [if_pos (by rfl)]; go_simp; go_at_call 21; (with_reducible refine (lasting_any (x : Int) _ _ HR2.out.drew.self).mono ?_); rintro e w2 ⟨rfl, hb, h2⟩; obtain ⟨⟨a0, a1⟩, _⟩ := (HX2.out.drew.rel h2).two))
  all_goals
    have hb' : BI w2 W.heap.size (x : Int) := hb
    go_wp2_with (go_at_call 26; (with_reducible refine (lasting1_any K P A B x HA HE hK hP hx' _ _ _ hb' h2.self).mono ?_); rintro e w3 ⟨rfl, h3⟩; obtain ⟨⟨d0, d1⟩, ⟨f0, f1⟩⟩ := ((HY2.out.drew.rel h2).rel h3).two)
    obtain ⟨⟨r0, r1⟩, _⟩ := (((HY2.out.drew.rel h2).rel h3).put (.string B) (.string E0)).two
    exact bodyPost_ret (v := D B E0) (by simp [results, Try.results11, go_sem, r0, r1]) rfl ⟨rfl, ((HR2.out.drew.trans h2).trans h3).put (by omega) _ _⟩
theorem append_ok (K P S : ByteArray) (hK : K.size ≤ 1000000) (hP : P.size ≤ 1000000) (hS : S.size ≤ 2000000) (w0 w : World) (hr : Rel w0 w) :
    Calls Try.prog 15 #[D K P, .string S] w fun e w' => e = .returned (.tuple #[if K.size + P.size + S.size ≤ 1000000 then D K (P ++ S) else D K P, .int .i64 (if K.size + P.size + S.size ≤ 1000000 then 0 else 50)]) ∧ Rel w0 w' := by
  obtain ⟨A, hA⟩ : ∃ A, P ++ S = A := ⟨_, rfl⟩
  rw [hA]
  have HA := Lib.hid hA
  obtain ⟨m, hm⟩ : ∃ m, K.size + P.size = m := ⟨_, rfl⟩
  have HM := Lib.hid hm
  have m1 : m ≤ 2000000 := by omega
  have z := hr.size
  have HX := Lib.hid ((Bk.new w 23 #[.string K, .string P]).alloc (.cells #[.string ⟨#[]⟩, .string ⟨#[]⟩] 23))
  have HY := Lib.hid (Bx.snd w #[.string K, .string P] 23 E0 E0)
  have HR := Lib.hid ((hr.alloc (.cells #[.string K, .string P] 23)).alloc (.cells #[.string ⟨#[]⟩, .string ⟨#[]⟩] 23))
  by_cases h : K.size + P.size + S.size ≤ 1000000
  · rw [if_pos h, if_pos h]
    have HH := Lib.hid h
    have c : decide ((1000000 : Int) < (m : Int) + (S.size : Int)) = false := by simp; omega
    clear hA hm h
    go_enter Try.func15, Try.ntmps15
    go_wp2_with (first
      | (go_at_call 24; (with_reducible refine (lsize_any K P m HM hK hP _ _ HR.out.self).mono ?_); rintro e w1 ⟨rfl, h1⟩; obtain ⟨⟨a0, a1⟩, _⟩ := (HX.out.rel h1).two)
      | (go_at_call 25; (with_reducible refine (adding_any S _ _ h1.self).mono ?_); rintro e w2 ⟨rfl, hb, h2⟩; obtain ⟨⟨a0, a1⟩, _⟩ := ((HX.out.rel h1).rel h2).two)
      | (go_at_call 28; (with_reducible refine (adding1_any K P S A HA HH.out _ _ _ hb h2.self).mono ?_); rintro e w3 ⟨rfl, h3⟩; obtain ⟨⟨d0, d1⟩, ⟨f0, f1⟩⟩ := (((HY.out.rel h1).rel h2).rel h3).two))
    obtain ⟨⟨r0, r1⟩, _⟩ := ((((HY.out.rel h1).rel h2).rel h3).put (.string K) (.string A)).two
    exact bodyPost_ret (v := .tuple #[D K A, .int .i64 0]) (by simp [results, Try.results15, go_sem, r0, r1]) rfl ⟨rfl, (((HR.out.trans h1).trans h2).trans h3).put (by omega) _ _⟩
  · rw [if_neg h, if_neg h]
    have c : decide ((1000000 : Int) < (m : Int) + (S.size : Int)) = true := by simp; omega
    clear hA hm h
    go_enter Try.func15, Try.ntmps15
    go_wp2_with (go_at_call 24; (with_reducible refine (lsize_any K P m HM hK hP _ _ HR.out.self).mono ?_); rintro e w1 ⟨rfl, h1⟩; obtain ⟨⟨a0, a1⟩, _⟩ := (HX.out.rel h1).two; obtain ⟨⟨d0, d1⟩, ⟨f0, f1⟩⟩ := (HY.out.rel h1).two)
    obtain ⟨⟨r0, r1⟩, _⟩ := ((HY.out.rel h1).put (.string K) (.string P)).two
    exact bodyPost_ret (v := .tuple #[D K P, .int .i64 50]) (by simp [results, Try.results15, go_sem, r0, r1]) rfl ⟨rfl, (HR.out.trans h1).put (by omega) _ _⟩
theorem diskOk : DiskOk :=
  ⟨fun K P hK hP w0 w hr => lall_of K P _ (Lib.hid rfl) hK hP w0 w hr, sync_ok, crash_ok, cut_ok, append_ok⟩
end Go.Proofs.Ythpekleafafmkaa
