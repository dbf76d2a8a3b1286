/- The document's own answers of layer 17: Waiting. -/
import Derived.Test.YtndmnlgancnbkaaZL
import Derived.Test.YtndmnlgancnbkaaZ00
import Derived.Test.YtndmnlgancnbkaaZ01
import Derived.Test.YtndmnlgancnbkaaZ02
import Derived.Test.YtndmnlgancnbkaaZ03
import Derived.Test.YtndmnlgancnbkaaZ05
import Derived.Test.YtndmnlgancnbkaaZ11
import Derived.Test.YtndmnlgancnbkaaZ12
import Derived.Test.YtndmnlgancnbkaaZ14
import Derived.Test.YtndmnlgancnbkaaZ16
import Derived.Test.YtndmnlgancnbkaaZ18
import Derived.Test.YtndmnlgancnbkaaZ20
namespace Go.Proofs.Ytndmnlgancnbkaa
open Go.RowKit Go.Lib
set_option linter.unusedVariables false
set_option linter.unusedSimpArgs false
set_option maxRecDepth 100000 in
set_option maxHeartbeats 8000000 in
theorem rwaiting17 {w : World} {v : Value} {S : Nat → Prop} {m g : Int} {L : List It} {D : List Int} (hr : Rel w w) (h : RqP w v S m g L D) :
    Calls Try.prog 20 #[v] w fun e w' => ∃ (A : Option Addr) (c : Nat), e = .returned (.slice A L.length c) ∧ Nums w' A c (keysQ L) ∧ Rel w w' := by
  obtain ⟨p, u, A, c, rfl, rfl, hq, hi⟩ := h
  obtain ⟨A0, c0, rfl, h0⟩ := hq.hp.at
  obtain ⟨n, hn⟩ : ∃ n, L.length = n := ⟨_, rfl⟩
  have hn0 : n ≤ 1000 := by rw [← hn]; exact hq.hp.cap
  obtain ⟨i0, hi0, hz0, hz1, hz2⟩ := info_parts int_info17
  rw [hn] at h0
  have HN := Lib.hid hn
  have HK := Lib.hid (show (keysQ L).length = n by unfold keysQ; rw [List.length_map]; exact hn)
  have HR := Lib.hid hr
  have HI := Lib.hid h0
  have HF := Lib.hid (show ∀ z ∈ keysQ L, i64 z from fun z hz => by
    obtain ⟨x, hx, rfl⟩ := List.mem_map.1 hz
    exact (hq.hp.fit x hx).1)
  have HC := Lib.hid (fun (wr : World) (h : Rel w wr) => show wr.cell? ⟨p, 0, none⟩ = some (.slice A0 n c0) from (h0.rel h).2.1.two.1.1)
  clear hr hq hi h0
  rw [hn]
  clear hn
  go_enter Try.func20, Try.ntmps20
  have k0 := HC.out w HR.out
  go_wp2_with (fail)
  go_loopw [3, 4] (fun o i wr => ∃ (j : Nat) (A2 : Option Addr) (c2 : Nat), o = .slice A2 j c2 ∧ i = .int .i64 (j : Int) ∧ j ≤ n ∧ Hid (RowOwn 3 clI17 1 wr w.heap.size (.slice A2 j c2) ((keysQ L).take j)) ∧ Hid (Rel w wr)) (fun _ i _ => n - (RowKit.intOf i).toNat)
  case atStart => exact ⟨0, none, 0, rfl, rfl, Nat.zero_le _, Lib.hid (RowOwn.nil _ _ _), HR⟩
  case round =>
    obtain ⟨j, A2, c2, rfl, rfl, hj, HO, R1⟩ := hrel
    have k1 := HC.out wr R1.out
    by_cases hlt : j < n
    · have hjL : j < L.length := by rw [HN.out]; exact hlt
      obtain ⟨g1, off, rfl, hc⟩ := row17_at (HI.out.rel R1.out).2.2.1 (by omega)
      obtain ⟨a0, _⟩ := hc j hjL
      have HT := Lib.hid (show (keysQ L).take (j + 1) = (keysQ L).take j ++ [L[j].1] by unfold keysQ; rw [List.take_succ_eq_append_getElem (by rw [List.length_map]; exact hjL), List.getElem_map])
      obtain ⟨x, hx⟩ : ∃ x, L[j].1 = x := ⟨_, rfl⟩
      rw [hx] at a0 HT
      have hij : (j : Int) < (n : Int) := by omega
      have hij0 : (0 : Int) ≤ (j : Int) := by omega
      clear hc hx
      have HLL := Lib.hid (show ((keysQ L).take j).length = j by rw [List.length_take, HK.out]; omega)
      have HRow := Lib.hid (show (wr.alloc (.cells #[.int .i64 x] 3)).ownsRow w.heap.size 3 1 (.slice A2 j c2) j (((keysQ L).take j).flatMap clI17) from by have := HO.out.row; rw [HLL.out] at this; exact World.ownsRow.alloc this _)
      have hsz := Lib.hid (show w.heap.size ≤ (wr.alloc (.cells #[.int .i64 x] 3)).heap.size by rw [World.size_alloc]; have := R1.out.size; omega)
      go_wp2_with (at_builtin; (refine wpList_append_lies _ rfl _ _ 32 rfl w.heap.size 3 i0 (.int .i64 0) 1 8 Try.underlying32 hi0 hz0 hz1 hz2 rfl (by decide) (.slice A2 j c2) j (((keysQ L).take j).flatMap clI17) rfl HRow.out ⟨wr.heap.size, 0, none⟩ 1 1 [.int .i64 x] rfl rfl (news17 wr (.int .i64 x) 3) (one_cell17 x) (by decide) (by unfold maxLen; omega) (by omega) hsz.out _ rfl ?_); intro g2 c3 w2 own2 gr2 at2 lt2; have HO2 := Lib.hid (RowOwn.more HLL.out own2); have R2 := Lib.hid ((R1.out.alloc (.cells #[.int .i64 x] 3)).grown gr2 (fun q hq => (HRow.out.lt q hq).1)); clear own2 gr2 at2 lt2 HRow)
      go_roundw
      case rel => exact ⟨j + 1, _, c3, rfl, by go_num, by omega, by rw [HT.out]; exact HO2, R2⟩
      case measure => simp [RowKit.intOf]; omega
    · obtain rfl : j = n := by omega
      have hij : ¬ (j : Int) < (j : Int) := by omega
      have HE := Lib.hid (show Nums wr A2 c2 (keysQ L) from by
        have ho := HO.out
        rw [show (keysQ L).take j = keysQ L by rw [← HK.out, List.take_length]] at ho
        rw [← HK.out] at ho
        exact (nums_of ho HF.out).1)
      go_wp2_with (fail)
      go_ret
      exact ⟨A2, c2, rfl, HE.out, R1.out⟩
end Go.Proofs.Ytndmnlgancnbkaa
