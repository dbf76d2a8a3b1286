/- Layer 17, the landed code: Waiting, Dirty; the landed queue is what the laws ask (queueOk17); Layer 17: the law's pick and awake, over what is asked of the program; Two things in memory, each with blocks of its own, side by side; Layer 17: two queues side by side, one with room for all (QueueRoom), and rows of marks; Rows of four raw numbers, to be read; A drawn region walked by hand: what is taken first, under a condition that the region keeps; what alone may come up; Raw quadruples as an argument, opened; QueueKeeps for the shell. -/
import Derived.Test.YtndmnlgancnbkaaZL
import Derived.Test.YtndmnlgancnbkaaZ00
import Derived.Test.YtndmnlgancnbkaaZ01
import Derived.Test.YtndmnlgancnbkaaZ02
import Derived.Test.YtndmnlgancnbkaaZ03
import Derived.Test.YtndmnlgancnbkaaZ04
import Derived.Test.YtndmnlgancnbkaaZ05
import Derived.Test.YtndmnlgancnbkaaZ06
import Derived.Test.YtndmnlgancnbkaaZ11
import Derived.Test.YtndmnlgancnbkaaZ12
import Derived.Test.YtndmnlgancnbkaaZ13
namespace Go.Proofs.Ytndmnlgancnbkaa
open Go.RowKit Go.Lib
set_option linter.unusedVariables false
set_option linter.unusedSimpArgs false
theorem nums_nil17 (w : World) : Nums w none 0 [] := ⟨Nat.le_refl _, by unfold maxLen; omega, (fun z hz => by cases hz), fun i hi => absurd hi (Nat.not_lt_zero _)⟩
section
variable {HP : HpT} (H : HeapOk HP)
include H
omit H in
set_option maxRecDepth 100000 in
set_option maxHeartbeats 8000000 in
theorem ldirty17 {w : World} {v : Value} {S : Nat → Prop} {m g : Int} {L : List It} {D : List Int} (hr : Rel w w) (q : LQp HP w v S m g L D) :
    Calls Try.prog 21 #[v] w fun e w' => ∃ (A : Option Addr) (c : Nat), e = .returned (.slice A D.length c) ∧ Nums w' A c D ∧ (∀ a, A = some a → w.heap.size ≤ a.block ∧ a.block < w'.heap.size) ∧ Rel w w' := by
  have HR := Lib.hid hr
  have hi := q.1
  rcases q.2 with ⟨rfl, rfl, rfl, rfl, rfl, rfl⟩ | ⟨b, h, d, SH, rfl, rfl, z, h1⟩
  · clear hr q hi
    go_enter Try.func21, Try.ntmps21
    go_wp2_with (go_at_call 25; (with_reducible refine (made17_nil _).mono ?_); rintro e w1 ⟨rfl, rfl⟩)
    go_ret
    exact ⟨none, 0, rfl, nums_nil17 _, (fun a ha => by cases ha), HR.out⟩
  · have HB := Lib.hid z.box
    have r1 := hr.alloc (.cells #[.map (some d)] 54)
    have KS := Lib.hid (show Calls Try.prog 41 #[.func (.func 57) #[] #[.pointer (some ⟨w.heap.size, 0, none⟩)]] (w.alloc (.cells #[.map (some d)] 54)) fun e w' => ∃ (A : Option Addr) (c : Nat), e = .returned (.slice A D.length c) ∧ Hid (Nums w' A c D) ∧ Hid (∀ a, A = some a → w.heap.size ≤ a.block ∧ a.block < w'.heap.size) ∧ Hid (Rel w w') from by
      refine (sorted17 (z.set.alloc _) hi.dlen (B := w.heap.size) (by rw [World.size_alloc]; omega) ((Bk.new w 54 #[.map (some d)]).cell 0)).mono ?_
      rintro e w' ⟨v, rfl, ho, hb⟩
      have hro := row_own17 ho rfl
      obtain ⟨A, c, rfl, _⟩ := hro.slice_of
      obtain ⟨n1, n2⟩ := nums_of hro (fun z hz => by have := hi.low z hz; exact ⟨by omega, by omega⟩)
      refine ⟨A, c, rfl, Lib.hid n1, Lib.hid (fun a ha => ⟨?_, (n2 a ha).2⟩), Lib.hid (r1.step hb)⟩
      have := (n2 a ha).1
      rw [World.size_alloc] at this
      omega)
    have k2 := z.box.cell 2
    obtain ⟨n, hn⟩ : ∃ n, D.length = n := ⟨_, rfl⟩
    rw [hn] at KS ⊢
    clear hr q hi z r1 hn
    go_enter Try.func21, Try.ntmps21
    go_wp2_with (first
      | (go_at_call 25; (with_reducible refine (made17 HB.out).mono ?_); rintro e w1 ⟨rfl, rfl⟩)
      | (go_at_call 42; (with_reducible refine (keys17 (some d) _).mono ?_); rintro e w1 ⟨rfl, rfl⟩)
      | (go_at_call 41; (with_reducible refine KS.out.mono ?_); rintro e w2 ⟨A, c, rfl, n1, n2, r2⟩))
    go_ret
    exact ⟨A, c, rfl, n1.out, n2.out, r2.out⟩
set_option maxRecDepth 100000 in
set_option maxHeartbeats 8000000 in
theorem lwaiting17 {w : World} {v : Value} {S : Nat → Prop} {m g : Int} {L : List It} {D : List Int} (hr : Rel w w) (q : LQp HP w v S m g L D) :
    Calls Try.prog 19 #[v] w fun e w' => ∃ (A : Option Addr) (c : Nat), e = .returned (.slice A L.length c) ∧ Nums w' A c (keysQ L) ∧ (∀ a, A = some a → w.heap.size ≤ a.block ∧ a.block < w'.heap.size) ∧ Rel w w' := by
  have HR := Lib.hid hr
  have hi := q.1
  rcases q.2 with ⟨rfl, rfl, rfl, rfl, rfl, rfl⟩ | ⟨b, h, d, SH, rfl, rfl, z, h1⟩
  · clear hr q hi H
    go_enter Try.func19, Try.ntmps19
    go_wp2_with (go_at_call 25; (with_reducible refine (made17_nil _).mono ?_); rintro e w1 ⟨rfl, rfl⟩)
    go_ret
    exact ⟨none, 0, rfl, nums_nil17 _, (fun a ha => by cases ha), HR.out⟩
  · have HB := Lib.hid z.box
    have KA := Lib.hid (show Calls Try.prog 40 #[.pointer (some ⟨h, 0, none⟩)] w fun e w' => ∃ (A : Option Addr) (c : Nat), e = .returned (.slice A L.length c) ∧ Hid (RowAt clH 2 w' A L) ∧ Hid (Rel w w') from (H.all hr z.hp).mono (by
      rintro e w' ⟨A, c, he, h1, _, _, _, h2⟩
      exact ⟨A, c, he, Lib.hid h1, Lib.hid h2⟩))
    obtain ⟨n, hn⟩ : ∃ n, L.length = n := ⟨_, rfl⟩
    have hn0 : n ≤ 1000 := by have h1 := hi.len; have h2 := hi.room; omega
    obtain ⟨i0, hi0, hz0, hz1, hz2⟩ := info_parts int_info17
    have HN := Lib.hid hn
    have HK := Lib.hid (show (keysQ L).length = n by unfold keysQ; rw [List.length_map]; exact hn)
    have HF := Lib.hid (show ∀ z ∈ keysQ L, i64 z from fun z hz => by
      obtain ⟨x, hx, rfl⟩ := List.mem_map.1 hz
      have := hi.key x hx
      exact ⟨by omega, by omega⟩)
    have k1 := z.box.cell 1
    rw [hn] at KA ⊢
    clear hr q hi H z hn
    go_enter Try.func19, Try.ntmps19
    go_wp2_with (first
      | (go_at_call 25; (with_reducible refine (made17 HB.out).mono ?_); rintro e w1 ⟨rfl, rfl⟩)
      | (go_at_call 40; (with_reducible refine KA.out.mono ?_); rintro e w1 ⟨A, c, rfl, AT, R1⟩))
    go_loopw [3, 15] (fun o i wr => ∃ (j : Nat) (A2 : Option Addr) (c2 : Nat), o = .slice A2 j c2 ∧ i = .int .i64 (j : Int) ∧ j ≤ n ∧ Hid (RowOwn 3 clI17 1 wr w1.heap.size (.slice A2 j c2) ((keysQ L).take j)) ∧ Hid (Rel w1 wr)) (fun _ i _ => n - (RowKit.intOf i).toNat)
    case atStart => exact ⟨0, none, 0, rfl, rfl, Nat.zero_le _, Lib.hid (RowOwn.nil _ _ _), Lib.hid R1.out.self⟩
    case round =>
      obtain ⟨j, A2, c2, rfl, rfl, hj, HO, R2⟩ := hrel
      by_cases hlt : j < n
      · have hjL : j < L.length := by rw [HN.out]; exact hlt
        obtain ⟨ga, off, rfl, _, hc⟩ := (AT.out.rel R2.out) j hjL
        have HT := Lib.hid (show (keysQ L).take (j + 1) = (keysQ L).take j ++ [L[j].1] by unfold keysQ; rw [List.take_succ_eq_append_getElem (by rw [List.length_map]; exact hjL), List.getElem_map])
        have a0 : wr.cell? ⟨ga, off + j * 2, none⟩ = some (.int .i64 L[j].1) := hc 0 (by omega)
        have a1 : wr.cell? ⟨ga, off + j * 2 + 1, none⟩ = some (.int .i64 L[j].2) := hc 1 (by omega)
        obtain ⟨x, hx⟩ : ∃ x, L[j].1 = x := ⟨_, rfl⟩
        obtain ⟨y, hy⟩ : ∃ x, L[j].2 = x := ⟨_, rfl⟩
        rw [hx] at a0 HT
        rw [hy] at a1
        have hij : (j : Int) < (n : Int) := by omega
        have hij0 : (0 : Int) ≤ (j : Int) := by omega
        clear hc hx hy
        have HLL := Lib.hid (show ((keysQ L).take j).length = j by rw [List.length_take, HK.out]; omega)
        have R3 := Lib.hid (R2.out.alloc (.cells #[.int .i64 x, .int .i64 y] 64))
        have BX := Lib.hid (Bk.new wr 64 #[.int .i64 x, .int .i64 y])
        have HRow := Lib.hid (show (wr.alloc (.cells #[.int .i64 x, .int .i64 y] 64)).ownsRow w1.heap.size 3 1 (.slice A2 j c2) j (((keysQ L).take j).flatMap clI17) from by have := HO.out.row; rw [HLL.out] at this; exact World.ownsRow.alloc this _)
        go_upto_region 7 with (fail)
        obtain ⟨W, hW⟩ : ∃ W, wr.alloc (.cells #[.int .i64 x, .int .i64 y] 64) = W := ⟨_, rfl⟩
        obtain ⟨gx, hgx⟩ : ∃ q, wr.heap.size = q := ⟨_, rfl⟩
        rw [hW] at R3 BX HRow
        rw [hgx] at BX
        try rw [hW]
        try rw [hgx]
        clear hW hgx a0 a1
        obtain ⟨⟨b0, b1⟩, ⟨c0, c1⟩⟩ := BX.out.two
        have HRow2 := Lib.hid (show (W.alloc (.cells #[.int .i64 x] 3)).ownsRow w1.heap.size 3 1 (.slice A2 j c2) j (((keysQ L).take j).flatMap clI17) from World.ownsRow.alloc HRow.out _)
        have hsz := Lib.hid (show w1.heap.size ≤ (W.alloc (.cells #[.int .i64 x] 3)).heap.size by rw [World.size_alloc]; have h3 := R3.out.size; omega)
        go_wp2_with (at_builtin; (refine wpList_append_lies _ rfl _ _ 32 rfl w1.heap.size 3 i0 (.int .i64 0) 1 8 Try.underlying32 hi0 hz0 hz1 hz2 rfl (by decide) (.slice A2 j c2) j (((keysQ L).take j).flatMap clI17) rfl HRow2.out ⟨W.heap.size, 0, none⟩ 1 1 [.int .i64 x] rfl rfl (news17 W (.int .i64 x) 3) (one_cell17 x) (by decide) (by unfold maxLen; omega) (by omega) hsz.out _ rfl ?_); intro g2 c3 w2 own2 gr2 at2 lt2; have HO2 := Lib.hid (RowOwn.more HLL.out own2); have RG := Lib.hid gr2; have RL := Lib.hid HRow2; clear own2 gr2 at2 lt2 HRow2 HRow)
        have R4 := Lib.hid (show Rel w1 w2 from ((R3.out).alloc (.cells #[.int .i64 x] 3)).grown RG.out (fun q hq => (RL.out.out.lt q hq).1))
        go_roundw
        case rel => exact ⟨j + 1, _, c3, rfl, by go_num, by omega, by rw [HT.out]; exact HO2, R4⟩
        case measure => simp [RowKit.intOf]; omega
      · obtain rfl : j = n := by omega
        have hij : ¬ (j : Int) < (j : Int) := by omega
        have HE := Lib.hid (show Nums wr A2 c2 (keysQ L) ∧ ∀ a, A2 = some a → w.heap.size ≤ a.block ∧ a.block < wr.heap.size from by
          have hs := R1.out.size
          have ho := HO.out
          rw [show (keysQ L).take j = keysQ L by rw [← HK.out, List.take_length]] at ho
          rw [← HK.out] at ho
          obtain ⟨n1, n2⟩ := nums_of ho HF.out
          exact ⟨n1, fun a ha => ⟨Nat.le_trans hs (n2 a ha).1, (n2 a ha).2⟩⟩)
        go_wp2_with (fail)
        go_ret
        exact ⟨A2, c2, rfl, HE.out.1, HE.out.2, R1.out.trans R2.out⟩
theorem queueOk_of : QueueOk (LQp HP) where
  inv := fun h => h.1
  lt := fun h => h.lt H
  keep := fun h hz hb => h.keep H hz hb
  nil := fun w => LQp.nil w
  new := fun room age w hr i1 i2 => lnew17 H room age w hr i1 i2
  want := fun s p t hr q is ip it => lwant17 H s p t hr q is ip it
  next := fun t hr q it => lnext17 H t hr q it
  drop := fun s hr q is => ldrop17 H s hr q is
  waiting := fun hr q => lwaiting17 H hr q
  dirty := fun hr q => ldirty17 hr q
end
theorem queueOk17 : QueueOk (LQp LHp) := queueOk_of heapOk16
end Go.Proofs.Ytndmnlgancnbkaa

namespace Go.Proofs.Ytndmnlgancnbkaa
open Go.RowKit Go.Lib
set_option linter.unusedVariables false
set_option linter.unusedSimpArgs false
set_option maxHeartbeats 400000 in
theorem pk17_as (c n y : Int) (h : Hid (pk c n = y)) (hc : i64 c) (hn : 0 < n) (hn' : n ≤ 9223372036854775807) (w : World) :
    Calls Try.prog 9 #[.int .i64 c, .int .i64 n] w fun e w' => e = .returned (.int .i64 y) ∧ w = w' := by
  obtain ⟨hc0, hc1⟩ := hc
  rw [← h.out]
  by_cases h : c < 0
  all_goals
    go_enter Try.func9, Try.ntmps9
    go_wp2
    all_goals
      go_ret
      exact ⟨ret_int (by unfold pk; split <;> first | rfl | omega), rfl⟩
theorem in17 {n : Int} (h : -1100000000000 ≤ n) (h' : n ≤ 1100000000000) : i64 n := ⟨by omega, by omega⟩
theorem nums_one {w : World} {S : Nat → Prop} {A : Option Addr} {c : Nat} {x : Int} (h : Nu S w A c [x]) : ∃ a : Addr, A = some a ∧ w.cell? a = some (.int .i64 x) ∧ 1 ≤ c := by
  obtain ⟨a, e, _, hc⟩ := h.1.2.2.2 0 (by simp)
  exact ⟨a, e, hc, h.1.1⟩
set_option maxRecDepth 100000 in
set_option maxHeartbeats 16000000 in
theorem awake17_any {QP : QpT} (H : QueueOk QP) (w : World) (hr : Rel w w) :
    Calls Try.prog 8 #[] w fun e w' => e = .returned (.bool true) ∧ Rel w w' := by
  have HR := Lib.hid hr
  have K0 := Lib.hid (fun (w1 : World) (hr : Rel w w1) => qnew H (w0 := w) w1 hr (room := 1) (age := 10) (by decide) (by decide) (by decide) (by decide))
  have K1 := Lib.hid (fun (w1 : World) (v : Value) (S : Nat → Prop) (h : Qq QP w w1 v S 1 10 [] []) => qwant H h (s := 3) (p := 0) (t := 1) (E := 0) (L' := [(3, -1)]) (D' := []) (in17 (by decide) (by decide)) (in17 (by decide) (by decide)) (in17 (by decide) (by decide)) (by decide) (by decide) (by decide))
  have K2 := Lib.hid (fun (w1 : World) (v : Value) (S : Nat → Prop) (h : Qq QP w w1 v S 1 10 [(3, -1)] []) => qwant H h (s := 5) (p := 9) (t := 1) (E := 50) (L' := [(3, -1)]) (D' := [5]) (in17 (by decide) (by decide)) (in17 (by decide) (by decide)) (in17 (by decide) (by decide)) (by decide) (by decide) (by decide))
  have K3 := Lib.hid (fun (w1 : World) (v : Value) (S : Nat → Prop) (h : Qq QP w w1 v S 1 10 [(3, -1)] [5]) => qdirty H h (n := 1) (by decide))
  have K4 := Lib.hid (fun (w1 : World) (v : Value) (S : Nat → Prop) (h : Qq QP w w1 v S 1 10 [(3, -1)] [5]) => qnext H h (t := 2) (x := 3) (b := true) (L' := [(5, -2)]) (D' := []) (in17 (by decide) (by decide)) (by decide) (by decide) (by decide) (by decide))
  have K5 := Lib.hid (fun (w1 : World) (v : Value) (S : Nat → Prop) (h : Qq QP w w1 v S 1 10 [(5, -2)] []) => qwait H h (n := 1) (W := [5]) (by decide) (by decide))
  have K6 := Lib.hid (fun (w1 : World) (v : Value) (S : Nat → Prop) (h : Qq QP w w1 v S 1 10 [(5, -2)] []) => qnext H h (t := 3) (x := 5) (b := true) (L' := []) (D' := []) (in17 (by decide) (by decide)) (by decide) (by decide) (by decide) (by decide))
  have K7 := Lib.hid (fun (w1 : World) (v : Value) (S : Nat → Prop) (h : Qq QP w w1 v S 1 10 [] []) => qnext H h (t := 4) (x := 0) (b := false) (L' := []) (D' := []) (in17 (by decide) (by decide)) (by decide) (by decide) (by decide) (by decide))
  have K8 := Lib.hid (fun (w1 : World) (v : Value) (S : Nat → Prop) (h : Qq QP w w1 v S 1 10 [] []) => qwant H h (s := -1) (p := 0) (t := 0) (E := 1) (L' := []) (D' := []) (in17 (by decide) (by decide)) (in17 (by decide) (by decide)) (in17 (by decide) (by decide)) (by decide) (by decide) (by decide))
  have K9 := Lib.hid (fun (w1 : World) (hr : Rel w1 w1) => qnil H w1 hr (room := 0) (age := 1) (in17 (by decide) (by decide)) (in17 (by decide) (by decide)) (by decide))
  have KA := Lib.hid (fun (w1 : World) (hr : Rel w1 w1) => qnil H w1 hr (room := 1) (age := 0) (in17 (by decide) (by decide)) (in17 (by decide) (by decide)) (by decide))
  have KB := Lib.hid (fun (w1 : World) (v : Value) (S : Nat → Prop) (h : Qq QP w w1 v S 1 10 [] []) => qdrop H h (s := 7) (b := false) (L' := []) (D' := []) (in17 (by decide) (by decide)) (by decide) (by decide) (by decide))
  have HH := Lib.hid H
  clear H hr
  go_enter Try.func8, Try.ntmps8
  go_upto_region 2 with (go_at_call 10; (with_reducible refine (K0.out _ HR.out).mono ?_); rintro e w1 ⟨g, S0, rfl, h1, _, _⟩)
  obtain ⟨v, hv⟩ : ∃ v, Value.pointer (some ⟨g, 0, none⟩) = v := ⟨_, rfl⟩
  rw [hv] at h1
  try rw [hv]
  clear hv
  go_upto_region 3 with (go_at_call 12; (with_reducible refine (K1.out _ _ _ h1.out).mono ?_); rintro e w2 ⟨S1, rfl, h2, _⟩)
  go_upto_region 4 with (go_at_call 12; (with_reducible refine (K2.out _ _ _ h2.out).mono ?_); rintro e w3 ⟨S2, rfl, h3, _⟩)
  go_upto_region 5 with (go_at_call 21; (with_reducible refine (K3.out _ _ _ h3.out).mono ?_); rintro e w4 ⟨A4, c4, rfl, n4, r4⟩)
  have h4 := Lib.hid (Qq.to HH.out h3.out r4.out)
  clear h1 h2 h3 K0 K1 K2 K3 r4 HR
  go_upto_region 6 with (go_at_call 14; (with_reducible refine (K4.out _ _ _ h4.out).mono ?_); rintro e w5 ⟨S5, rfl, h5, st5⟩)
  have n5 := Lib.hid (n4.out.st st5.out)
  clear h4 n4 st5 K4
  go_upto_region 7 with (go_at_call 19; (with_reducible refine (K5.out _ _ _ h5.out).mono ?_); rintro e w6 ⟨A6, c6, rfl, m6, r6⟩)
  have h6 := Lib.hid (Qq.to HH.out h5.out r6.out)
  have n6 := Lib.hid (n5.out.rel r6.out)
  clear h5 n5 r6 K5
  go_upto_region 8 with (go_at_call 14; (with_reducible refine (K6.out _ _ _ h6.out).mono ?_); rintro e w7 ⟨S7, rfl, h7, st7⟩)
  have n7 := Lib.hid (n6.out.st st7.out)
  have m7 := Lib.hid (m6.out.st st7.out)
  clear h6 n6 m6 st7 K6
  go_upto_region 9 with (go_at_call 14; (with_reducible refine (K7.out _ _ _ h7.out).mono ?_); rintro e w8 ⟨S8, rfl, h8, st8⟩)
  have n8 := Lib.hid (n7.out.st st8.out)
  have m8 := Lib.hid (m7.out.st st8.out)
  clear h7 n7 m7 st8 K7
  obtain ⟨a4, rfl, d4, l4⟩ := nums_one n8.out
  obtain ⟨a6, rfl, d6, l6⟩ := nums_one m8.out
  go_wp2_with (first | (go_at_call 12; (with_reducible refine (K8.out _ _ _ h8.out).mono ?_); rintro e w9 ⟨S9, rfl, h9, st9⟩) | (go_at_call 10; (first | (with_reducible refine (K9.out _ h9.out.rel.self).mono ?_); rintro e wA ⟨rfl, rA⟩; have hA := Lib.hid (Qq.to HH.out h9.out rA.out); clear rA | (with_reducible refine (KA.out _ hA.out.rel.self).mono ?_); rintro e wB ⟨rfl, rB⟩; have hB := Lib.hid (Qq.to HH.out hA.out rB.out); clear rB)) | (go_at_call 16; (with_reducible refine (KB.out _ _ _ hB.out).mono ?_); rintro e wC ⟨SC, rfl, hC, _⟩))
  go_ret
  exact ⟨rfl, hC.out.rel⟩
end Go.Proofs.Ytndmnlgancnbkaa

namespace Go.Proofs.Ytndmnlgancnbkaa
open Go.RowKit Go.Lib
set_option linter.unusedVariables false
set_option linter.unusedSimpArgs false
/-- A thing is told by its blocks: they are there, and while they are as they were, so is it. -/
structure Keepy (P : World → (Nat → Prop) → Prop) : Prop where
  lt : ∀ {w S}, P w S → ∀ k, S k → k < w.heap.size
  keep : ∀ {w w' S}, P w S → w.heap.size ≤ w'.heap.size → (∀ k, S k → w'.heap[k]? = w.heap[k]?) → P w' S
/-- Two of them, newer than w0, their blocks together T. -/
structure Duo2 (P1 P2 : World → (Nat → Prop) → Prop) (w0 w : World) (T : Nat → Prop) : Prop where
  ex : ∃ S S2 : Nat → Prop, T = (fun k => S k ∨ S2 k) ∧ P1 w S ∧ P2 w S2 ∧ ∀ k, S k → ¬ S2 k
  rel : Rel w0 w
  new : ∀ k, T k → w0.heap.size ≤ k
section
variable {P1 P2 P1' P2' : World → (Nat → Prop) → Prop} {w0 w w' : World} {T : Nat → Prop}
theorem Duo2.lt (h : Duo2 P1 P2 w0 w T) (K1 : Keepy P1) (K2 : Keepy P2) : ∀ k, T k → k < w.heap.size := by
  obtain ⟨S, S2, rfl, h1, h2, _⟩ := h.ex
  rintro k (q | q)
  · exact K1.lt h1 k q
  · exact K2.lt h2 k q
theorem Duo2.to (h : Duo2 P1 P2 w0 w T) (K1 : Keepy P1) (K2 : Keepy P2) (hr : Rel w w') : Duo2 P1 P2 w0 w' T := by
  obtain ⟨S, S2, hT, h1, h2, h3⟩ := h.ex
  exact ⟨⟨S, S2, hT, K1.keep h1 hr.size (fun k hk => hr.2.block k (K1.lt h1 k hk)), K2.keep h2 hr.size (fun k hk => hr.2.block k (K2.lt h2 k hk)), h3⟩, h.rel.trans hr, h.new⟩
theorem Duo2.put (h : Duo2 P1 P2 w0 w T) (K1 : Keepy P1) (K2 : Keepy P2) {p : Addr} (hp : ¬ T p.block) (hn : w0.heap.size ≤ p.block) (u : Value) : Duo2 P1 P2 w0 (w.setCell p u) T := by
  obtain ⟨S, S2, rfl, h1, h2, h3⟩ := h.ex
  exact ⟨⟨S, S2, rfl, K1.keep h1 (by simp) (fun k hk => Below.heap_setCell w p u k (fun e => hp (by rw [← e]; exact .inl hk))), K2.keep h2 (by simp) (fun k hk => Below.heap_setCell w p u k (fun e => hp (by rw [← e]; exact .inr hk))), h3⟩, h.rel.setCell hn u, h.new⟩
theorem Duo2.fst_st (h : Duo2 P1 P2 w0 w T) (K2 : Keepy P2) {S S2 S' : Nat → Prop} (hT : T = (fun k => S k ∨ S2 k)) (h2 : P2 w S2) (h3 : ∀ k, S k → ¬ S2 k) (hp : P1' w' S') (hs : St S S' w w') :
    Duo2 P1' P2 w0 w' (fun k => S' k ∨ S2 k) ∧ St T (fun k => S' k ∨ S2 k) w w' := by
  subst hT
  obtain ⟨hg, hk⟩ := hs
  have hnS : ∀ k, k < w.heap.size → ¬ (S k ∨ S2 k) → w'.heap[k]? = w.heap[k]? := fun k hk1 hn => hk.block k hk1 (fun q => hn (.inl q))
  refine ⟨⟨⟨S', S2, rfl, hp, K2.keep h2 hk.size (fun k hk2 => hk.block k (K2.lt h2 k hk2) (fun q => h3 k q hk2)), fun k q q2 => ?_⟩, hk.rel h.rel (fun k q => h.new k (.inl q)), fun k q => ?_⟩, fun k q => ?_, ⟨hk.os, hk.tape, hk.output, hk.size, hnS⟩⟩
  · rcases hg k q with q | q
    · exact h3 k q q2
    · exact Nat.not_lt_of_le q (K2.lt h2 k q2)
  · rcases q with q | q
    · rcases hg k q with q | q
      · exact h.new k (.inl q)
      · exact Nat.le_trans h.rel.size q
    · exact h.new k (.inr q)
  · rcases q with q | q
    · rcases hg k q with q | q
      · exact .inl (.inl q)
      · exact .inr q
    · exact .inl (.inr q)
theorem Duo2.swap (h : Duo2 P1 P2 w0 w T) : Duo2 P2 P1 w0 w T := by
  obtain ⟨S, S2, rfl, h1, h2, h3⟩ := h.ex
  exact ⟨⟨S2, S, funext fun k => propext Or.comm, h2, h1, fun k a b => h3 k b a⟩, h.rel, h.new⟩
/-- A call on the first of them. -/
theorem two_fst {F : Nat} {args : Array Value} {E : Ending} (h : Duo2 P1 P2 w0 w T) (K2 : Keepy P2) (hc : ∀ S, P1 w S → Calls Try.prog F args w fun e w' => e = E ∧ ∃ S', P1' w' S' ∧ St S S' w w') :
    Calls Try.prog F args w fun e w' => ∃ T', e = E ∧ Hid (Duo2 P1' P2 w0 w' T') ∧ Hid (St T T' w w') := by
  obtain ⟨S, S2, hT, h1, h2, h3⟩ := h.ex
  refine (hc S h1).mono ?_
  rintro e w' ⟨he, S', hp, hs⟩
  obtain ⟨a, b⟩ := h.fst_st K2 hT h2 h3 hp hs
  exact ⟨_, he, Lib.hid a, Lib.hid b⟩
/-- .. on the second. -/
theorem two_snd {F : Nat} {args : Array Value} {E : Ending} (h : Duo2 P1 P2 w0 w T) (K1 : Keepy P1) (hc : ∀ S, P2 w S → Calls Try.prog F args w fun e w' => e = E ∧ ∃ S', P2' w' S' ∧ St S S' w w') :
    Calls Try.prog F args w fun e w' => ∃ T', e = E ∧ Hid (Duo2 P1 P2' w0 w' T') ∧ Hid (St T T' w w') := by
  refine (two_fst h.swap K1 hc).mono ?_
  rintro e w' ⟨T', he, a, b⟩
  exact ⟨T', he, Lib.hid a.out.swap, b⟩
theorem Bx.two (h : Duo2 P1 P2 w0 w T) (K1 : Keepy P1) (K2 : Keepy P2) (t : TypeId) (cs : Array Value) : Bx T (w.alloc (.cells cs t)) w.heap.size t cs :=
  ⟨Bk.new _ _ _, fun e => Nat.lt_irrefl _ (h.lt K1 K2 _ e)⟩
/-- One thing, and another one that is newer than all of it. -/
theorem two_new {S S2 : Nat → Prop} (K1 : Keepy P1) (hr : Rel w0 w) (h1 : P1 w S) (n1 : ∀ k, S k → w0.heap.size ≤ k) (hr2 : Rel w w') (h2 : P2 w' S2) (n2 : ∀ k, S2 k → w.heap.size ≤ k) : Duo2 P1 P2 w0 w' (fun k => S k ∨ S2 k) :=
  ⟨⟨S, S2, rfl, K1.keep h1 hr2.size (fun k hk => hr2.2.block k (K1.lt h1 k hk)), h2, fun k q q2 => Nat.not_le_of_lt (K1.lt h1 k q) (n2 k q2)⟩, hr.trans hr2, fun k q => q.elim (n1 k) (fun q => Nat.le_trans hr.size (n2 k q))⟩
end
end Go.Proofs.Ytndmnlgancnbkaa

namespace Go.Proofs.Ytndmnlgancnbkaa
open Go.RowKit Go.Lib
set_option linter.unusedVariables false
set_option linter.unusedSimpArgs false
def TwoQ (QP : QpT) (v v2 : Value) (m : Int) (L L2 : List It) (D2 : List Int) (w0 w : World) (T : Nat → Prop) : Prop :=
  Duo2 (fun w S => QP w v S 100 10 L []) (fun w S => QP w v2 S m 10 L2 D2) w0 w T
section
variable {QP : QpT} (H : QueueOk QP) {w0 w w' : World} {v v2 : Value} {T : Nat → Prop} {m : Int} {L L2 L' : List It} {D2 D' : List Int}
theorem TwoQ.rel (h : TwoQ QP v v2 m L L2 D2 w0 w T) : Rel w0 w := Duo2.rel h
include H
theorem keepyQ (v : Value) (m g : Int) (L : List It) (D : List Int) : Keepy (fun w S => QP w v S m g L D) := ⟨fun h => H.lt h, fun h => H.keep h⟩
theorem TwoQ.to (h : TwoQ QP v v2 m L L2 D2 w0 w T) (hr : Rel w w') : TwoQ QP v v2 m L L2 D2 w0 w' T := Duo2.to h (keepyQ H ..) (keepyQ H ..) hr
theorem TwoQ.put (h : TwoQ QP v v2 m L L2 D2 w0 w T) {p : Addr} (hp : ¬ T p.block) (hn : w0.heap.size ≤ p.block) (u : Value) : TwoQ QP v v2 m L L2 D2 w0 (w.setCell p u) T := Duo2.put h (keepyQ H ..) (keepyQ H ..) hp hn u
theorem TwoQ.box (h : TwoQ QP v v2 m L L2 D2 w0 w T) (t : TypeId) (cs : Array Value) : Bx T (w.alloc (.cells cs t)) w.heap.size t cs := Bx.two h (keepyQ H ..) (keepyQ H ..) t cs
theorem two_wantA (h : TwoQ QP v v2 m L L2 D2 w0 w T) {k : Int} (hk : i64 k) (hE : wantE 100 10 L k 1 5 = 0) (hL : wantL 100 10 L k 1 5 = L') (hD : wantD 100 10 L [] k 1 5 = []) :
    Calls Try.prog 12 #[v, .int .i64 k, .int .i64 1, .int .i64 5] w fun e w' => ∃ T', e = .returned (.int .i64 0) ∧ Hid (TwoQ QP v v2 m L' L2 D2 w0 w' T') ∧ Hid (St T T' w w') := by
  refine two_fst h (keepyQ H ..) fun S hp => ?_
  refine (H.want k 1 5 h.rel.self hp hk ⟨by omega, by omega⟩ ⟨by omega, by omega⟩).mono ?_
  rw [hE, hL, hD]
  rintro e w' ⟨he, S', h1, h2⟩
  exact ⟨he, S', h1, h2⟩
theorem two_wantB (h : TwoQ QP v v2 m L L2 D2 w0 w T) {k E : Int} (hk : i64 k) (hE : wantE m 10 L2 k 1 5 = E) (hL : wantL m 10 L2 k 1 5 = L') (hD : wantD m 10 L2 D2 k 1 5 = D') :
    Calls Try.prog 12 #[v2, .int .i64 k, .int .i64 1, .int .i64 5] w fun e w' => ∃ T', e = .returned (.int .i64 E) ∧ Hid (TwoQ QP v v2 m L L' D' w0 w' T') ∧ Hid (St T T' w w') := by
  refine two_snd h (keepyQ H ..) fun S hp => ?_
  refine (H.want k 1 5 h.rel.self hp hk ⟨by omega, by omega⟩ ⟨by omega, by omega⟩).mono ?_
  rw [hE, hL, hD]
  rintro e w' ⟨he, S', h1, h2⟩
  exact ⟨he, S', h1, h2⟩
theorem two_nextA (h : TwoQ QP v v2 m L L2 D2 w0 w T) {x : Int} {b : Bool} (hx : (itH (topH L)).1 = x) (hb : (topH L).isSome = b) (hL : popH L = L') :
    Calls Try.prog 14 #[v, .int .i64 6] w fun e w' => ∃ T', e = .returned (.tuple #[.int .i64 x, .bool b]) ∧ Hid (TwoQ QP v v2 m L' L2 D2 w0 w' T') ∧ Hid (St T T' w w') := by
  refine two_fst h (keepyQ H ..) fun S hp => ?_
  refine (H.next 6 h.rel.self hp ⟨by omega, by omega⟩).mono ?_
  rw [hx, hb, show nextQ 100 6 L [] = (popH L, []) from rfl, hL]
  rintro e w' ⟨he, S', h1, h2⟩
  exact ⟨he, S', h1, h2⟩
theorem two_nextB (h : TwoQ QP v v2 m L L2 D2 w0 w T) {x : Int} {b : Bool} (hx : (itH (topH L2)).1 = x) (hb : (topH L2).isSome = b) (hL : (nextQ m 6 L2 D2).1 = L') (hD : (nextQ m 6 L2 D2).2 = D') :
    Calls Try.prog 14 #[v2, .int .i64 6] w fun e w' => ∃ T', e = .returned (.tuple #[.int .i64 x, .bool b]) ∧ Hid (TwoQ QP v v2 m L L' D' w0 w' T') ∧ Hid (St T T' w w') := by
  refine two_snd h (keepyQ H ..) fun S hp => ?_
  refine (H.next 6 h.rel.self hp ⟨by omega, by omega⟩).mono ?_
  rw [hx, hb, hL, hD]
  rintro e w' ⟨he, S', h1, h2⟩
  exact ⟨he, S', h1, h2⟩
theorem two_dirtyA (h : TwoQ QP v v2 m L L2 D2 w0 w T) :
    Calls Try.prog 21 #[v] w fun e w' => ∃ (A : Option Addr) (c : Nat), e = .returned (.slice A 0 c) ∧ Hid (TwoQ QP v v2 m L L2 D2 w0 w' T) ∧ Hid (Rel w w') := by
  obtain ⟨S, S2, hT, h1, h2, h3⟩ := Duo2.ex h
  refine (H.dirty h.rel.self h1).mono ?_
  rintro e w' ⟨A, c, he, _, _, hr⟩
  exact ⟨A, c, he, Lib.hid (TwoQ.to H h hr), Lib.hid hr⟩
theorem two_waitA (h : TwoQ QP v v2 m L L2 D2 w0 w T) {n : Nat} (hn : L.length = n) :
    Calls Try.prog 19 #[v] w fun e w' => ∃ (A : Option Addr) (c : Nat), e = .returned (.slice A n c) ∧ Hid (TwoQ QP v v2 m L L2 D2 w0 w' T) ∧ Hid (Rel w w') := by
  rw [← hn]
  obtain ⟨S, S2, hT, h1, h2, h3⟩ := Duo2.ex h
  refine (H.waiting h.rel.self h1).mono ?_
  rintro e w' ⟨A, c, he, _, _, hr⟩
  exact ⟨A, c, he, Lib.hid (TwoQ.to H h hr), Lib.hid hr⟩
theorem two_dirtyB (h : TwoQ QP v v2 m L L2 D2 w0 w T) {n : Nat} (hn : D2.length = n) :
    Calls Try.prog 21 #[v2] w fun e w' => ∃ (A : Option Addr) (c : Nat), e = .returned (.slice A n c) ∧ Hid (TwoQ QP v v2 m L L2 D2 w0 w' T) ∧ Hid (Rel w w') := by
  rw [← hn]
  obtain ⟨S, S2, hT, h1, h2, h3⟩ := Duo2.ex h
  refine (H.dirty h.rel.self h2).mono ?_
  rintro e w' ⟨A, c, he, _, _, hr⟩
  exact ⟨A, c, he, Lib.hid (TwoQ.to H h hr), Lib.hid hr⟩
theorem two_waitB (h : TwoQ QP v v2 m L L2 D2 w0 w T) {n : Nat} (hn : L2.length = n) :
    Calls Try.prog 19 #[v2] w fun e w' => ∃ (A : Option Addr) (c : Nat), e = .returned (.slice A n c) ∧ Hid (TwoQ QP v v2 m L L2 D2 w0 w' T) ∧ Hid (Rel w w') := by
  rw [← hn]
  obtain ⟨S, S2, hT, h1, h2, h3⟩ := Duo2.ex h
  refine (H.waiting h.rel.self h2).mono ?_
  rintro e w' ⟨A, c, he, _, _, hr⟩
  exact ⟨A, c, he, Lib.hid (TwoQ.to H h hr), Lib.hid hr⟩
/-- TwoQ new ones. -/
theorem twoq_new (w : World) (hr : Rel w0 w) {S : Nat → Prop} (h1 : QP w v S 100 10 [] []) (n1 : ∀ k, S k → w0.heap.size ≤ k) {room : Int} (a1 : 1 ≤ room) (a2 : room ≤ 1000) :
    Calls Try.prog 10 #[.int .i64 room, .int .i64 10] w fun e w' => ∃ (p : Nat) (T : Nat → Prop), e = .returned (.pointer (some ⟨p, 0, none⟩)) ∧ Hid (TwoQ QP v (.pointer (some ⟨p, 0, none⟩)) room [] [] [] w0 w' T) ∧ Hid (Rel w w') := by
  refine (H.new room 10 w hr.self ⟨by omega, by omega⟩ ⟨by omega, by omega⟩).mono ?_
  rintro e w' ⟨hr2, ⟨_, _, g, S2, he, hh, hn⟩ | ⟨hn, _⟩⟩
  · exact ⟨g, _, he, Lib.hid (two_new (keepyQ H ..) hr h1 n1 hr2 hh hn), Lib.hid hr2⟩
  · exact absurd ⟨⟨a1, a2⟩, by omega, by omega⟩ hn
end
/-- A row of marks. -/
def cellsB (f : List Bool) : Array Value := (f.map Value.bool).toArray
theorem cellsB_at {f : List Bool} {k : Nat} {b : Bool} (h : f[k]? = some b) : (cellsB f)[k]? = some (.bool b) := by
  unfold cellsB
  rw [List.getElem?_toArray, List.getElem?_map, h]; rfl
theorem Bx.marked {T : Nat → Prop} {w : World} {g : Nat} {t : TypeId} {f : List Bool} (h : Bx T w g t (cellsB f)) {k : Nat} {b : Bool} (hb : f[k]? = some b) : w.cell? ⟨g, k, none⟩ = some (.bool b) ∧ w.frozen? ⟨g, k, none⟩ = false :=
  ⟨by rw [h.1.cell]; exact cellsB_at hb, h.1.frozen k⟩
theorem Bx.far {T : Nat → Prop} {w : World} {g : Nat} {t : TypeId} {cs : Array Value} (h : Bx T w g t cs) {p : Addr} (hp : g ≠ p.block) (u : Value) : Bx T (w.setCell p u) g t cs := ⟨h.1.far hp u, h.2⟩
end Go.Proofs.Ytndmnlgancnbkaa

namespace Go.Proofs.Ytndmnlgancnbkaa
open Go.RowKit Go.Lib
set_option linter.unusedVariables false
set_option linter.unusedSimpArgs false
abbrev Qd := Int × Int × Int × Int
def QuadsAt (w : World) (A : Option Addr) (zs : List Qd) : Prop :=
  ∀ i (h : i < zs.length), ∃ (a : Addr), A = some a ∧ a.block < w.heap.size ∧ w.cell? (a.add (i * 4)) = some (.int .i64 zs[i].1) ∧ w.cell? (a.add (i * 4 + 1)) = some (.int .i64 zs[i].2.1) ∧ w.cell? (a.add (i * 4 + 2)) = some (.int .i64 zs[i].2.2.1) ∧ w.cell? (a.add (i * 4 + 3)) = some (.int .i64 zs[i].2.2.2)
theorem QuadsAt.rel {w w' : World} {A : Option Addr} {zs : List Qd} (h : QuadsAt w A zs) (hr : Rel w w') : QuadsAt w' A zs := by
  intro i hi
  obtain ⟨a, e, hl, h0, h1, h2, h3⟩ := h i hi
  have hk : ∀ j, w'.cell? (a.add j) = w.cell? (a.add j) := fun j => hr.2.cell (p := a.add j) (by rw [block_add]; exact hl)
  exact ⟨a, e, by have := hr.size; omega, by rw [hk]; exact h0, by rw [hk]; exact h1, by rw [hk]; exact h2, by rw [hk]; exact h3⟩
def QuadsIn (w : World) (A : Option Addr) (n : Nat) (zs : List Qd) : Prop := zs.length = n ∧ n ≤ 9223372036854775807 ∧ (∀ z ∈ zs, i64 z.1 ∧ i64 z.2.1 ∧ i64 z.2.2.1 ∧ i64 z.2.2.2) ∧ QuadsAt w A zs
theorem QuadsIn.rel {w w' : World} {A : Option Addr} {n : Nat} {zs : List Qd} (h : QuadsIn w A n zs) (hr : Rel w w') : QuadsIn w' A n zs := ⟨h.1, h.2.1, h.2.2.1, h.2.2.2.rel hr⟩
theorem addQ (a : Addr) (n k : Nat) : a.add (n + (k + 1)) = ⟨(a.add n).block, (a.add n).off + (k + 1), none⟩ := by
  unfold Addr.add
  by_cases h : n = 0
  · subst h; simp
  · simp [h]; omega
theorem quads_at {w : World} {A : Option Addr} {n : Nat} {zs : List Qd} (h : QuadsIn w A n zs) {w' : World} (hr : Rel w w') (j : Nat) (hj : j < zs.length) :
    ∃ (a : Addr) (x y z v : Int), A = some a ∧ (a.add (j * 4)).block < w.heap.size ∧ w'.cell? (a.add (j * 4)) = some (.int .i64 x) ∧ w'.cell? ⟨(a.add (j * 4)).block, (a.add (j * 4)).off + 1, none⟩ = some (.int .i64 y) ∧ w'.cell? ⟨(a.add (j * 4)).block, (a.add (j * 4)).off + 2, none⟩ = some (.int .i64 z) ∧ w'.cell? ⟨(a.add (j * 4)).block, (a.add (j * 4)).off + 3, none⟩ = some (.int .i64 v) ∧ zs[j] = (x, y, z, v) ∧ i64 x ∧ i64 y ∧ i64 z ∧ i64 v := by
  obtain ⟨_, _, hb, hp⟩ := h
  obtain ⟨a, e, hl0, _⟩ := hp j hj
  obtain ⟨a', e', hl, c0, c1, c2, c3⟩ := (hp.rel hr) j hj
  rw [e] at e'
  injection e' with e'
  subst e'
  have := hb zs[j] (List.getElem_mem hj)
  rw [show j * 4 + 1 = j * 4 + (0 + 1) from rfl, addQ] at c1
  rw [show j * 4 + 2 = j * 4 + (1 + 1) from rfl, addQ] at c2
  rw [show j * 4 + 3 = j * 4 + (2 + 1) from rfl, addQ] at c3
  exact ⟨a, zs[j].1, zs[j].2.1, zs[j].2.2.1, zs[j].2.2.2, e, by rw [block_add]; exact hl0, c0, c1, c2, c3, rfl, this.1, this.2.1, this.2.2.1, this.2.2.2⟩
end Go.Proofs.Ytndmnlgancnbkaa

namespace Go.Proofs.Ytndmnlgancnbkaa
open Go
set_option linter.unusedVariables false
set_option linter.unusedSimpArgs false
section
variable {P : Program} {ops : Array Oper} {Q : Exit → Act → World → Prop} {md : Region.Mode} {S : World → Prop}
theorem held_take {i : Nat} {oi : Oper} {v : Value} (d : Option Tmp) {fuel : Nat} {listed : Array Bool} {a : Act} {w : World} (hi : ops[i]? = some oi) (hd : oi.dst = d)
    (hs : Region.noSelect ops = true) (hf : Region.free md ops listed i = true) (hr : (Region.ready md ops listed).contains i = true)
    (hQ : ∀ c a w, Q (.panic c) (a.put d v) w → Q (.panic c) a w) (hy : YieldsIf P ops S oi v a) (hS : S w)
    (h : wpAnyH P md ops Q S fuel (listed.setIfInBounds i true) (a.put d v) w) : wpAnyH P md ops Q S (fuel + 1) listed a w := by
  subst hd
  exact wpAnyH_take hi hs hf hr hQ hy hS h
theorem held_one {j : Nat} {o : Oper} {fuel : Nat} {listed : Array Bool} {a : Act} {w : World} (hr : Region.ready md ops listed = [j]) (ho : ops[j]? = some o)
    (h : ∀ K' : Act → World → Prop, Shut (∀ a w, S w → (S w → wpAnyH P md ops Q S fuel (listed.setIfInBounds j true) a w) → K' a w) → if Region.wanted o (yielded ops a.tmps) = true then Oper.wp P o a w K' Q else K' (a.put o.dst undef) w) : wpAnyH P md ops Q S (fuel + 1) listed a w :=
  wpAnyH_ready hr (by simp) (AllReadyH.cons ho h AllReadyH.nil)
theorem held_two {j k : Nat} {o o' : Oper} {fuel : Nat} {listed : Array Bool} {a : Act} {w : World} (hr : Region.ready md ops listed = [j, k]) (ho : ops[j]? = some o) (ho' : ops[k]? = some o')
    (h : ∀ K' : Act → World → Prop, Shut (∀ a w, S w → (S w → wpAnyH P md ops Q S fuel (listed.setIfInBounds j true) a w) → K' a w) → if Region.wanted o (yielded ops a.tmps) = true then Oper.wp P o a w K' Q else K' (a.put o.dst undef) w)
    (h' : ∀ K' : Act → World → Prop, Shut (∀ a w, S w → (S w → wpAnyH P md ops Q S fuel (listed.setIfInBounds k true) a w) → K' a w) → if Region.wanted o' (yielded ops a.tmps) = true then Oper.wp P o' a w K' Q else K' (a.put o'.dst undef) w) : wpAnyH P md ops Q S (fuel + 1) listed a w :=
  wpAnyH_ready hr (by simp) (AllReadyH.cons ho h (AllReadyH.cons ho' h' AllReadyH.nil))
end
end Go.Proofs.Ytndmnlgancnbkaa

namespace Go.Proofs.Ytndmnlgancnbkaa
open Go.RowKit Go.ChangeShapes Go.WideShapes
open Go.Lib
set_option linter.unusedVariables false
set_option linter.unusedSimpArgs false
theorem wf64K {a : Int} (h : (Lit.int .i64 a).wf = true) : -9223372036854775808 ≤ a ∧ a ≤ 9223372036854775807 := by
  have := bounds_i64 h; omega
section
variable {H : Type} {enc : TypeId × Value → H} {w : World} {base : Nat} {held : Bool}
set_option maxRecDepth 100000 in
theorem quad_open {fuel : Nat} {cs : List Value} {x : DataW H × List MemPlace} (h : DataW.trod enc Try.prog w base (fun _ => true) held fuel 38 cs = some x) : ∃ a b c d : Int, cs = [.int .i64 a, .int .i64 b, .int .i64 c, .int .i64 d] ∧ (Lit.int .i64 a).wf = true ∧ (Lit.int .i64 b).wf = true ∧ (Lit.int .i64 c).wf = true ∧ (Lit.int .i64 d).wf = true := by
  obtain ⟨xs, m, rfl, _, hl, hxl, hi⟩ := DataW.trod_array Try.underlying38 h
  have c2 : Try.prog.cellsOf 38 = 4 := by kernel_rfl
  have c1 : Try.prog.cellsOf 3 = 1 := by kernel_rfl
  rw [c2] at hl
  match cs, hl with
  | [u, v, z, y], _ =>
    have h0 := hi 0 (by omega)
    have h1 := hi 1 (by omega)
    have h2 := hi 2 (by omega)
    have h3 := hi 3 (by omega)
    rw [c1] at h0 h1 h2 h3
    rw [List.getElem?_eq_getElem (by omega)] at h0 h1 h2 h3
    obtain ⟨a, ha, _, wa⟩ := DataW.trod_int Try.underlying3 h0
    obtain ⟨b, hb, _, wb⟩ := DataW.trod_int Try.underlying3 h1
    obtain ⟨c, hc, _, wc⟩ := DataW.trod_int Try.underlying3 h2
    obtain ⟨d, hd, _, wd⟩ := DataW.trod_int Try.underlying3 h3
    simp at ha hb hc hd
    exact ⟨a, b, c, d, by rw [ha, hb, hc, hd], wa, wb, wc, wd⟩
set_option maxRecDepth 100000 in
theorem quads_open {fuel : Nat} {A : Option Addr} {len cap : Nat} {x : DataW H × List MemPlace} (h : DataW.trod enc Try.prog w base (fun _ => true) held fuel 22 [.slice A len cap] = some x) : ∃ zs, QuadsIn w A len zs := by
  rcases Go.Deep.open_slice Try.underlying22 h with ⟨hcs, _⟩ | ⟨a, l, c, m, n, D, Pl, hcs, _, hl, hm, hmm, _, hx⟩
  · simp only [List.cons.injEq, Value.slice.injEq, and_true] at hcs
    obtain ⟨rfl, rfl, rfl⟩ := hcs
    exact ⟨[], rfl, Nat.zero_le _, fun z hz => (by cases hz), fun i hi => absurd hi (by simp)⟩
  · simp only [List.cons.injEq, Value.slice.injEq, and_true] at hcs
    obtain ⟨rfl, rfl, rfl⟩ := hcs
    simp only [if_true] at hmm
    have c2 : Try.prog.cellsOf 38 = 4 := by kernel_rfl
    rw [c2] at hx
    obtain ⟨f, hf⟩ := Go.Deep.choose_lt (α := Qd) (n := len) (p := fun i q => w.cell? (a.add (i * 4)) = some (.int .i64 q.1) ∧ w.cell? (a.add (i * 4 + 1)) = some (.int .i64 q.2.1) ∧ w.cell? (a.add (i * 4 + 2)) = some (.int .i64 q.2.2.1) ∧ w.cell? (a.add (i * 4 + 3)) = some (.int .i64 q.2.2.2) ∧ (Lit.int .i64 q.1).wf = true ∧ (Lit.int .i64 q.2.1).wf = true ∧ (Lit.int .i64 q.2.2.1).wf = true ∧ (Lit.int .i64 q.2.2.2).wf = true) (fun i hi => by
      obtain ⟨cs', h1, h2⟩ := hx i (by omega)
      obtain ⟨u, v, z, y, rfl, wu, wv, wz, wy⟩ := quad_open h2
      obtain ⟨_, _, hcell⟩ := World.cells?_some h1
      have e0 := hcell 0 (by omega)
      have e1 := hcell 1 (by omega)
      have e2 := hcell 2 (by omega)
      have e3 := hcell 3 (by omega)
      rw [Go.Deep.add_add] at e0 e1 e2 e3
      exact ⟨(u, v, z, y), by simpa using e0, by simpa using e1, by simpa using e2, by simpa using e3, wu, wv, wz, wy⟩)
    have hlen : ((List.range len).map f).length = len := by rw [List.length_map, List.length_range]
    refine ⟨(List.range len).map f, hlen, by unfold maxLen at hm; omega, fun z hz => ?_, fun i hi => ?_⟩
    · obtain ⟨r, hr, rfl⟩ := List.mem_map.1 hz
      have := hf r (List.mem_range.1 hr)
      exact ⟨wf64K this.2.2.2.2.1, wf64K this.2.2.2.2.2.1, wf64K this.2.2.2.2.2.2.1, wf64K this.2.2.2.2.2.2.2⟩
    · rw [hlen] at hi
      obtain ⟨e0, e1, e2, e3, _⟩ := hf i hi
      have eg : ((List.range len).map f)[i]'(by rw [hlen]; exact hi) = f i := by rw [List.getElem_map, List.getElem_range]
      refine ⟨a, rfl, by have := blk_of_cell e0; rwa [block_add] at this, ?_, ?_, ?_, ?_⟩
      · rw [eg]; exact e0
      · rw [eg]; exact e1
      · rw [eg]; exact e2
      · rw [eg]; exact e3
end
end Go.Proofs.Ytndmnlgancnbkaa
