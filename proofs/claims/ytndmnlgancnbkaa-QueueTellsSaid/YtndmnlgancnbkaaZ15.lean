/- The document's own answers of layer 17: mark. -/
import Derived.Test.YtndmnlgancnbkaaZL
import Derived.Test.YtndmnlgancnbkaaZ00
import Derived.Test.YtndmnlgancnbkaaZ01
import Derived.Test.YtndmnlgancnbkaaZ02
import Derived.Test.YtndmnlgancnbkaaZ03
import Derived.Test.YtndmnlgancnbkaaZ05
import Derived.Test.YtndmnlgancnbkaaZ11
import Derived.Test.YtndmnlgancnbkaaZ12
import Derived.Test.YtndmnlgancnbkaaZ14
namespace Go.Proofs.Ytndmnlgancnbkaa
open Go.RowKit Go.Lib
set_option linter.unusedVariables false
set_option linter.unusedSimpArgs false
set_option maxRecDepth 100000 in
set_option maxHeartbeats 16000000 in
theorem rmark_any {t : TypeId} {g c : Nat} {cs : Array Value} {A : Option Addr} {D : List Int} (s : Int) (b : Bool) (w : World) (hr : Rel w w) (hB : Bk w g t cs) (h3 : cs[3]? = some (.slice A D.length c)) (hN : Nums w A c D) (hU : Ups D) (hl : D.length ≤ 1000) :
    Calls Try.prog 33 #[.pointer (some ⟨g, 0, none⟩), .int .i64 s, .bool b] w fun e w' => ∃ (A2 : Option Addr) (c2 : Nat) (w1 : World), e = .returned (.bool (decide (s ∈ D))) ∧ Rel w w1 ∧
      RowOwn 3 clI17 1 w1 w.heap.size (.slice A2 (markD D s b).length c2) (markD D s b) ∧ w' = w1.setCell ⟨g, 3, none⟩ (.slice A2 (markD D s b).length c2) := by
  obtain ⟨n, hn⟩ : ∃ n, D.length = n := ⟨_, rfl⟩
  obtain ⟨i0, hi0, hz0, hz1, hz2⟩ := info_parts int_info17
  rw [hn] at h3 hl
  have HN := Lib.hid hn
  have HA := Lib.hid hN
  have HR := Lib.hid hr
  have HU := Lib.hid hU
  have HC := Lib.hid (fun (wr : World) (h : Rel w wr) => show wr.cell? ⟨g, 3, none⟩ = some (.slice A n c) ∧ wr.frozen? ⟨g, 3, none⟩ = false from ⟨by rw [(hB.rel h).cell, h3], (hB.rel h).frozen 3⟩)
  have HT := Lib.hid (show ∀ (j : Nat) (hj : j < D.length), (∀ y ∈ D.take j, y < D[j]) ∧ D.take (j + 1) = D.take j ++ [D[j]] from fun j hj => ⟨fun y hy => by
    obtain ⟨i, hi, rfl⟩ := List.getElem_of_mem hy
    rw [List.length_take] at hi
    rw [List.getElem_take]
    exact List.pairwise_iff_getElem.1 hU i j (by omega) hj (by omega), List.take_succ_eq_append_getElem hj⟩)
  clear hn hN hr hU hB h3
  go_enter Try.func33, Try.ntmps33
  obtain ⟨k0, _⟩ := HC.out w HR.out
  go_wp2_with (fail)
  go_loopw [7, 8, 9, 10] (fun o dv qv i wr => ∃ (j l : Nat) (d q : Bool) (out : List Int) (A2 : Option Addr) (c2 : Nat), o = .slice A2 l c2 ∧ dv = .bool d ∧ qv = .bool q ∧ i = .int .i64 (j : Int) ∧ j ≤ n ∧ l ≤ j + 1 ∧ Hid (out.length = l) ∧ Hid (MarkI b s (D.take j) d q out) ∧ Hid (d = false → out.length ≤ (D.take j).length) ∧ Hid (RowOwn 3 clI17 1 wr w.heap.size (.slice A2 l c2) out) ∧ Hid (Rel w wr)) (fun _ _ _ i _ => n - (RowKit.intOf i).toNat)
  case atStart => exact ⟨0, 0, false, false, [], none, 0, rfl, rfl, rfl, rfl, Nat.zero_le _, by omega, Lib.hid rfl, Lib.hid (mark_nil b s), Lib.hid (fun _ => Nat.le_refl _), Lib.hid (RowOwn.nil _ _ _), HR⟩
  case round =>
    obtain ⟨j, l, d, q, out, A2, c2, rfl, rfl, rfl, rfl, hj, hlj, HL, HM, HLT, HO, R1⟩ := hrel
    obtain ⟨k1, k2⟩ := HC.out wr R1.out
    by_cases hlt : j < n
    · have hij : (j : Int) < (n : Int) := by omega
      have hij0 : (0 : Int) ≤ (j : Int) := by omega
      obtain ⟨a, x, rfl, c0, e0, hx, hab⟩ := nums_cell HA.out R1.out j (by rw [HN.out]; exact hlt)
      obtain ⟨hT, hTk⟩ := HT.out j (by rw [HN.out]; exact hlt)
      rw [e0] at hT hTk
      clear e0
      by_cases hxs : x = s
      · subst hxs
        have HM2 := Lib.hid (show MarkI b x (D.take (j + 1)) d true out by rw [hTk]; exact mark_same HM.out)
        have HLT2 := Lib.hid (show d = false → out.length ≤ (D.take (j + 1)).length by rw [hTk, List.length_append]; exact fun h => Nat.le_trans (HLT.out h) (Nat.le_add_right _ _))
        clear hT hTk
        go_wp2_with (fail)
        go_roundw
        case rel => exact ⟨j + 1, l, d, true, out, A2, c2, rfl, rfl, rfl, by go_num, by omega, by omega, HL, HM2, HLT2, HO, R1⟩
        case measure => simp [RowKit.intOf]; omega
      · have hxs2 : (x == s) = false := by simpa using hxs
        have hsz := Lib.hid (show w.heap.size ≤ (wr.alloc (.cells #[.int .i64 x] 3)).heap.size by rw [World.size_alloc]; have := R1.out.size; omega)
        have HRow := Lib.hid (show (wr.alloc (.cells #[.int .i64 x] 3)).ownsRow w.heap.size 3 1 (.slice A2 l c2) l (out.flatMap clI17) from by have := HO.out.row; rw [HL.out] at this; exact World.ownsRow.alloc this _)
        have hgo := fun (hc : b = true → d = false → x ≤ s) => mark_go HM.out hT hxs hc HLT.out
        rw [← hTk] at hgo
        by_cases hin : b = true ∧ d = false ∧ s < x
        · obtain ⟨rfl, rfl, hlt2⟩ := hin
          have hin2 := mark_in HM.out hT hlt2 (HLT.out rfl)
          rw [← hTk] at hin2
          have HLO : l ≤ j := by have := HLT.out rfl; rw [HL.out, List.length_take, HN.out] at this; omega
          clear HRow hsz
          have HRow := Lib.hid (show (wr.alloc (.cells #[.int .i64 s] 3)).ownsRow w.heap.size 3 1 (.slice A2 l c2) l (out.flatMap clI17) from by have := HO.out.row; rw [HL.out] at this; exact World.ownsRow.alloc this _)
          have hsz := Lib.hid (show w.heap.size ≤ (wr.alloc (.cells #[.int .i64 s] 3)).heap.size by rw [World.size_alloc]; have := R1.out.size; omega)
          have HX := Lib.hid (fun (w2 : World) (h : Rel w w2) => show w2.cell? (a.add j) = some (.int .i64 x) from (h.2.cell (p := a.add j) (by rw [block_add]; exact hab)).trans ((R1.out.2.cell (p := a.add j) (by rw [block_add]; exact hab)).symm.trans c0))
          have HM2 := Lib.hid hin2
          clear hgo hin2 hT hTk
          go_wp2_with (first | (at_builtin; (refine wpList_append_lies _ rfl _ _ 32 rfl w.heap.size 3 i0 (.int .i64 0) 1 8 Try.underlying32 hi0 hz0 hz1 hz2 rfl (by decide) (.slice A2 l c2) l (out.flatMap clI17) rfl HRow.out ⟨wr.heap.size, 0, none⟩ 1 1 [.int .i64 s] rfl rfl (news17 wr (.int .i64 s) 3) (one_cell17 s) (by decide) (by unfold maxLen; omega) (by omega) hsz.out _ rfl ?_); intro g2 c3 w2 own2 gr2 at2 lt2; have HO2 := Lib.hid (RowOwn.more HL.out own2); have R2 := Lib.hid ((R1.out.alloc (.cells #[.int .i64 s] 3)).grown gr2 (fun q hq => (HRow.out.lt q hq).1)); clear own2 gr2 at2 lt2 HRow; have HL2 := Lib.hid (show (out ++ [s]).length = l + 1 by rw [List.length_append, HL.out]; rfl); have HRow3 := Lib.hid (show (w2.alloc (.cells #[.int .i64 x] 3)).ownsRow w.heap.size 3 1 (.slice (some ⟨g2, 0, none⟩) (l + 1) c3) (l + 1) ((out ++ [s]).flatMap clI17) from by have := HO2.out.row; rw [HL2.out] at this; exact World.ownsRow.alloc this _); have hsz3 := Lib.hid (show w.heap.size ≤ (w2.alloc (.cells #[.int .i64 x] 3)).heap.size by rw [World.size_alloc]; have := R2.out.size; omega); obtain ⟨k3, _⟩ := HC.out w2 R2.out; have c3x := HX.out w2 R2.out) | (at_builtin; (refine wpList_append_lies _ rfl _ _ 32 rfl w.heap.size 3 i0 (.int .i64 0) 1 8 Try.underlying32 hi0 hz0 hz1 hz2 rfl (by decide) (.slice (some ⟨g2, 0, none⟩) (l + 1) c3) (l + 1) ((out ++ [s]).flatMap clI17) rfl HRow3.out ⟨w2.heap.size, 0, none⟩ 1 1 [.int .i64 x] rfl rfl (news17 w2 (.int .i64 x) 3) (one_cell17 x) (by decide) (by unfold maxLen; omega) (by omega) hsz3.out _ rfl ?_); intro g4 c4 w4 own2 gr2 at2 lt2; have HO4 := Lib.hid (RowOwn.more HL2.out own2); have R4 := Lib.hid ((R2.out.alloc (.cells #[.int .i64 x] 3)).grown gr2 (fun q hq => (HRow3.out.lt q hq).1)); clear own2 gr2 at2 lt2 HRow3))
          go_roundw
          case rel => exact ⟨j + 1, l + 1 + 1, true, q, out ++ [s] ++ [x], _, c4, rfl, rfl, rfl, by go_num, by omega, by have := HLO; omega, Lib.hid (by rw [List.length_append, HL2.out]; rfl), HM2, Lib.hid (fun h => by cases h), HO4, R4⟩
          case measure => simp [RowKit.intOf]; omega
        · have hg := hgo (fun hb hd => by have : ¬ s < x := fun h => hin ⟨hb, hd, h⟩; omega)
          have HM2 := Lib.hid hg.1
          have HLT2 := Lib.hid hg.2
          clear hgo hg hT hTk
          have hw : b = false ∨ (b = true ∧ d = true) ∨ (b = true ∧ d = false ∧ ¬ s < x) := by
            cases b
            · exact .inl rfl
            · cases d
              · exact .inr (.inr ⟨rfl, rfl, fun h => hin ⟨rfl, rfl, h⟩⟩)
              · exact .inr (.inl ⟨rfl, rfl⟩)
          clear hin
          rcases hw with rfl | ⟨rfl, rfl⟩ | ⟨rfl, rfl, hlt2⟩
          all_goals
            go_wp2_with (at_builtin; (refine wpList_append_lies _ rfl _ _ 32 rfl w.heap.size 3 i0 (.int .i64 0) 1 8 Try.underlying32 hi0 hz0 hz1 hz2 rfl (by decide) (.slice A2 l c2) l (out.flatMap clI17) rfl HRow.out ⟨wr.heap.size, 0, none⟩ 1 1 [.int .i64 x] rfl rfl (news17 wr (.int .i64 x) 3) (one_cell17 x) (by decide) (by unfold maxLen; omega) (by omega) hsz.out _ rfl ?_); intro g2 c3 w2 own2 gr2 at2 lt2; have HO2 := Lib.hid own2; have R2 := Lib.hid ((R1.out.alloc (.cells #[.int .i64 x] 3)).grown gr2 (fun q hq => (HRow.out.lt q hq).1)); clear own2 gr2 at2 lt2 HRow)
            go_roundw
            case rel => exact ⟨j + 1, l + 1, _, q, out ++ [x], _, c3, rfl, rfl, rfl, by go_num, by omega, by omega, Lib.hid (by rw [List.length_append, HL.out]; rfl), HM2, HLT2, Lib.hid (RowOwn.more HL.out HO2.out), R2⟩
            case measure => simp [RowKit.intOf]; omega
    · obtain rfl : j = n := by omega
      have hij : ¬ (j : Int) < (j : Int) := by omega
      have HTD : D.take j = D := by rw [← HN.out, List.take_length]
      rw [HTD] at HM
      have HQ := Lib.hid HM.out.was
      by_cases hin : b = true ∧ d = false
      · obtain ⟨rfl, rfl⟩ := hin
        have HE := Lib.hid (mark_last HU.out HM.out)
        have HLL := Lib.hid (show (markD D s true).length = l + 1 by rw [← HE.out, List.length_append, HL.out]; rfl)
        have HRow := Lib.hid (show (wr.alloc (.cells #[.int .i64 s] 3)).ownsRow w.heap.size 3 1 (.slice A2 l c2) l (out.flatMap clI17) from by have := HO.out.row; rw [HL.out] at this; exact World.ownsRow.alloc this _)
        have hsz := Lib.hid (show w.heap.size ≤ (wr.alloc (.cells #[.int .i64 s] 3)).heap.size by rw [World.size_alloc]; have := R1.out.size; omega)
        go_wp2_with (at_builtin; (refine wpList_append_lies _ rfl _ _ 32 rfl w.heap.size 3 i0 (.int .i64 0) 1 8 Try.underlying32 hi0 hz0 hz1 hz2 rfl (by decide) (.slice A2 l c2) l (out.flatMap clI17) rfl HRow.out ⟨wr.heap.size, 0, none⟩ 1 1 [.int .i64 s] rfl rfl (news17 wr (.int .i64 s) 3) (one_cell17 s) (by decide) (by unfold maxLen; omega) (by omega) hsz.out _ rfl ?_); intro g2 c3 w2 own2 gr2 at2 lt2; have HO2 := Lib.hid (RowOwn.more HL.out own2); have R2 := Lib.hid ((R1.out.alloc (.cells #[.int .i64 s] 3)).grown gr2 (fun q hq => (HRow.out.lt q hq).1)); clear own2 gr2 at2 lt2 HRow; obtain ⟨k3, k4⟩ := HC.out w2 R2.out)
        go_ret
        exact ⟨congrArg (fun b => Ending.returned (.bool b)) HQ.out, some ⟨g2, 0, none⟩, c3, w2, R2.out, by rw [HLL.out, ← HE.out]; exact HO2.out, by rw [HLL.out]⟩
      · have hw : b = false ∨ (b = true ∧ d = true) := by
          cases b
          · exact .inl rfl
          · cases d
            · exact absurd ⟨rfl, rfl⟩ hin
            · exact .inr ⟨rfl, rfl⟩
        have HE := Lib.hid (show out = markD D s b from by
          rcases hw with rfl | ⟨rfl, rfl⟩
          · cases d
            · exact mark_off HU.out HM.out
            · exact mark_did HU.out HM.out
          · exact mark_did HU.out HM.out)
        have HLL := Lib.hid (show (markD D s b).length = l by rw [← HE.out, HL.out])
        clear hin
        rcases hw with rfl | ⟨rfl, rfl⟩
        all_goals
          go_wp2_with (fail)
          go_ret
          exact ⟨congrArg (fun b => Ending.returned (.bool b)) HQ.out, A2, c2, wr, R1.out, by rw [HLL.out, ← HE.out]; exact HO.out, by rw [HLL.out]⟩
end Go.Proofs.Ytndmnlgancnbkaa
