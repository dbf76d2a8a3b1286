/- The walk of FrameAgain, over what the program's Encode and Scan tell. -/
import Derived.Test.YtjbbfcomgglhiaaDoorFrameLawC
import Derived.StillTailTactics
import Derived.Deep.RegionLaw
namespace Go.Proofs.YtjbbfcomgglhiaaDoor
open Go.RowKit Go.Lib
set_option linter.unusedVariables false
set_option linter.unusedSimpArgs false

theorem all_ge (l : List (Int × List Int × List UInt8)) : l.length ≤ (frAll l).length := by
  induction l with
  | nil => exact Nat.le_refl 0
  | cons r t ih =>
    have := frEnc_len r
    simp only [frAll, List.length_append, List.length_cons]
    omega
theorem again_facts {x : ByteArray} {es : List ((Int × List Int × ByteArray) × Option Addr × Nat)} {n : Nat} {err : Int}
    (h : (err = 0 ∧ frScan x.data.toList = (recOf es, n, true)) ∨ (err = 40 ∧ frScan x.data.toList = (recOf es, n, false))) : n ≤ x.size ∧ (∀ e ∈ es, frRight (pure3 e.1)) ∧ B (frAll (recOf es)) = x.extract 0 n ∧ es.length ≤ x.size := by
  obtain ⟨b, hb⟩ : ∃ b, frScan x.data.toList = (recOf es, n, b) := by
    rcases h with ⟨_, h⟩ | ⟨_, h⟩
    · exact ⟨_, h⟩
    · exact ⟨_, h⟩
  obtain ⟨h1, h2, h3⟩ := frScan_again x.data.toList.length x.data.toList (Nat.le_refl _)
  rw [hb] at h1 h2 h3
  simp only at h1 h2 h3
  have el : x.data.toList.length = x.size := by simp
  rw [el] at h2
  have hx : B (frAll (recOf es)) = x.extract 0 n := by rw [h1, ← B_of (x.extract 0 n), tok_list]; simp
  refine ⟨h2, fun e he => h3 _ (by unfold recOf; exact List.mem_map_of_mem (f := fun e => pure3 e.1) he), hx, ?_⟩
  have := all_ge (recOf es)
  rw [rec_len] at this
  have h4 := congrArg List.length h1
  rw [List.length_take, el] at h4
  omega
/-- A row of four texts of the call's own. -/
theorem four_cell {w : World} {g : Nat} {a b c d : ByteArray} (h : Bk w g 9 #[.string a, .string b, .string c, .string d]) (j : Nat) (hj : j < 4) : w.cell? ((⟨g, 0, none⟩ : Addr).add j) = some (.string ([a, b, c, d][j]'hj)) := by
  rw [addr_at, h.cell]
  match j, hj with
  | 0, _ => rfl
  | 1, _ => rfl
  | 2, _ => rfl
  | 3, _ => rfl
theorem size_at {m : Nat} {l : List ByteArray} (h : ∀ x ∈ l, x.size ≤ m) (j : Nat) (hj : j < l.length) : l[j].size ≤ m := h _ (List.getElem_mem hj)
set_option maxRecDepth 100000 in
set_option maxHeartbeats 4000000 in
theorem FrameAgain_at (hA : AwakeOk) (hE : EncOk) (hS : ScanOk) (s0 : ByteArray) (hs0 : s0.size ≤ 1048576) (A T : Option Addr) (ca ct : Nat) (zss : List (List Int)) (ss : List ByteArray) (hl : zss.length ≤ 9223372036854775807) (hl' : ss.length ≤ 9223372036854775807) (hz : Hid (∀ zs ∈ zss, zs.length ≤ 9223372036854775807 ∧ w64 zs)) (hss : Hid (∀ s ∈ ss, s.size ≤ 9223372036854775807))
    (at' : Int) (u0 : -9223372036854775808 ≤ at') (u1 : at' ≤ 9223372036854775807) (M : ByteArray) (hM : M.size ≤ 1048576) (w : World) (hr : Rel w w) (hx : Hid (RowsAt w A zss)) (hy : Hid (StrsAt w T ss)) :
    Calls Tryd.prog 9 #[.string s0, .slice A zss.length ca, .slice T ss.length ct, .int .i64 at', .string M] w fun e w' => e = .returned (.bool true) ∧ Below w.heap.size w w' := by
  have HA := Lib.hid hA
  have HE := Lib.hid hE
  have HS := Lib.hid hS
  have HR := Lib.hid hr
  clear hA hE hS hr
  go_enter Tryd.func9, Tryd.ntmps9
  go_upto_region 4 with (first
    | (go_at_call 10; (with_reducible refine (awake_of HA.out _ _ HR.out).mono ?_); rintro e w1 ⟨rfl, h1⟩)
    | (go_at_call 15; (with_reducible refine (records_any A T ca ct zss ss hl hl' hz hss w _ h1 (Lib.hid (hx.out.rel h1)) (Lib.hid (hy.out.rel h1))).mono ?_); rintro e w2 ⟨es, D, cd, base, rfl, h2, hE2, hes⟩; have F := recs_facts hes; have HF := Lib.hid F.2; have f1 := F.1; clear F hes; obtain ⟨S, hSv⟩ : ∃ S, B (frAll (recOf es)) = S := ⟨_, rfl⟩; have HSV := Lib.hid hSv; have zS : S.size ≤ 29592 := hSv ▸ HF.out.2.2.2; clear hSv; obtain ⟨p, hp⟩ : ∃ p, pk at' ((S.size : Int) + 1) = p := ⟨_, rfl⟩; obtain ⟨p0, p1⟩ := pk_bd at' ((S.size : Int) + 1) (by omega); rw [hp] at p0 p1; have HP := Lib.hid hp; clear hp)
    | (go_at_call 20; (with_reducible refine (frames_as HE.out es (by omega) HF.out.1 S HSV _ _ h2.self hE2).mono ?_); rintro e w3 ⟨rfl, h3⟩)
    | (go_at_call 16; (with_reducible refine (pick_as at' ((S.size : Int) + 1) p HP u0 u1 (by omega) (by omega) _).mono ?_); rintro e w4 ⟨rfl, rfl⟩))
  obtain ⟨k, rfl⟩ : ∃ k : Nat, p = k := ⟨p.toNat, by omega⟩
  have hk : k ≤ S.size := by omega
  obtain ⟨P, E1⟩ : ∃ P, S.extract 0 k = P := ⟨_, rfl⟩
  obtain ⟨Q, E2⟩ : ∃ Q, P ++ M = Q := ⟨_, rfl⟩
  obtain ⟨R', E5⟩ : ∃ R, S.extract k S.size = R := ⟨_, rfl⟩
  obtain ⟨X3, E6⟩ : ∃ X, Q ++ R' = X := ⟨_, rfl⟩
  have zP : P.size ≤ 29592 := by rw [← E1, ByteArray.size_extract]; omega
  have zQ : Q.size ≤ 1078168 := by rw [← E2, ByteArray.size_append]; omega
  have zR' : R'.size ≤ 29592 := by rw [← E5, ByteArray.size_extract]; omega
  have zX3 : X3.size ≤ 1107760 := by rw [← E6, ByteArray.size_append]; omega
  obtain ⟨m, hm⟩ : ∃ m : Nat, (if (S.size : Int) < (k : Int) + (M.size : Int) then (S.size : Int) else (k : Int) + (M.size : Int)) = (m : Int) := ⟨min S.size (k + M.size), by split <;> omega⟩
  have hmS : m ≤ S.size := by split at hm <;> omega
  obtain ⟨R, E3⟩ : ∃ R, S.extract m S.size = R := ⟨_, rfl⟩
  obtain ⟨X2, E4⟩ : ∃ X, Q ++ R = X := ⟨_, rfl⟩
  have zR : R.size ≤ 29592 := by rw [← E3, ByteArray.size_extract]; omega
  have zX2 : X2.size ≤ 1107760 := by rw [← E4, ByteArray.size_append]; omega
  have hk1 : (k : Int) ≤ (S.size : Int) := by omega
  have hm1 : (m : Int) ≤ (S.size : Int) := by omega
  have c1 : ¬ 9223372036854775807 < P.size + M.size := by omega
  have c2 : ¬ 9223372036854775807 < Q.size + R.size := by omega
  have c3 : ¬ 9223372036854775807 < Q.size + R'.size := by omega
  have hw : IntKind.i64.wrap ((k : Int) + (M.size : Int)) = (k : Int) + (M.size : Int) := by rw [IntKind.wrap_i64]; omega
  have H2 := Lib.hid (h2.trans h3)
  clear zP zQ zR zR'
  go_wp2_with (fail)
  go_region_law (fail)
  go_wp2_with (fail)
  simp only [Act.put, List.getElem_toArray, List.getElem_cons_succ, List.getElem_cons_zero, List.setIfInBounds_toArray, List.set_cons_zero, List.set_cons_succ]
  have hB := (Bk.new w3 9 #[.string s0, .string S, .string X2, .string X3]).drew
  have hr4 := (h3.self.alloc (.cells #[.string s0, .string S, .string X2, .string X3] 9)).drew
  have HX := Lib.hid (show ∀ x ∈ [s0, S, X2, X3], x.size ≤ 1107760 by
    intro x hx
    simp only [List.mem_cons, List.not_mem_nil, or_false] at hx
    rcases hx with rfl | rfl | rfl | rfl <;> omega)
  obtain ⟨W4, hW4⟩ : ∃ W4, (w3.alloc (.cells #[.string s0, .string S, .string X2, .string X3] 9)).drew = W4 := ⟨_, rfl⟩
  rw [hW4] at hB hr4 ⊢
  have hcell := four_cell hB
  have hlt4 := hB.lt
  obtain ⟨a, ha⟩ : ∃ a : Addr, (⟨w3.heap.size, 0, none⟩ : Addr) = a := ⟨_, rfl⟩
  have hab : a.block < W4.heap.size := by rw [← ha]; exact hlt4
  rw [ha] at hcell ⊢
  have HC := Lib.hid hcell
  have HB4 := Lib.hid hab
  have HR4 := Lib.hid hr4
  clear hB hr4 hW4 hcell hlt4 hab ha E1 E2 E3 E4 E5 E6 c1 c2 c3 hw hm hm1 hk1
  go_loopw [63] (fun i wr => ∃ j : Nat, j ≤ 4 ∧ i = .int .i64 j ∧ Rel W4 wr) (fun i _ => 4 - (intOf i).toNat)
  case atStart => exact ⟨0, by omega, rfl, HR4.out.self⟩
  case round =>
    obtain ⟨j, hj, rfl, hR2⟩ := hrel
    by_cases hlt : j < 4
    · have hc := (hR2.2.cell (p := a.add j) (by rw [block_add]; exact HB4.out)).trans (HC.out j hlt)
      have zx := size_at HX.out j hlt
      obtain ⟨x, hx⟩ : ∃ x, [s0, S, X2, X3][j]'hlt = x := ⟨_, rfl⟩
      rw [hx] at hc zx
      have hS2 := Lib.hid hR2.self
      clear hx
      go_wp2_with (first
        | (go_at_call 17; (with_reducible refine (scan_of HS.out x (by omega) _ _ hS2.out).mono ?_); rintro e w5 ⟨fs, C, cf, n, bf, err, rfl, h5, hF5, hsc⟩; obtain ⟨q1, q2, q3, q4⟩ := again_facts hsc; have Q2 := Lib.hid q2; obtain ⟨U, hU⟩ : ∃ U, x.extract 0 n = U := ⟨_, rfl⟩; have HU := Lib.hid (q3.trans hU); have k2 : (U.toList != U.toList) = false := (by simp); have hn1 : (n : Int) ≤ (x.size : Int) := (by omega); clear hsc q2 q3)
        | (go_at_call 20; (with_reducible refine (frames_as HE.out fs (by omega) Q2.out U HU _ _ h5.self hF5).mono ?_); rintro e w6 ⟨rfl, h6⟩))
      go_roundw
      case rel => exact ⟨j + 1, by omega, by go_num, hR2.trans (h5.trans h6)⟩
      case measure => simp [intOf]; omega
    · obtain rfl : j = 4 := by omega
      go_wp2_with (fail)
      go_ret
      exact ⟨rfl, ((H2.out.trans HR4.out).trans hR2).2⟩
end Go.Proofs.YtjbbfcomgglhiaaDoor
