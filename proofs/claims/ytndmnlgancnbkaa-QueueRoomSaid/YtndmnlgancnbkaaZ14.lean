/- Layer 17, the landed code: Waiting, Dirty; the landed queue is what the laws ask (queueOk17); Layer 17: the law's pick and awake, over what is asked of the program; Raw numbers as arguments, opened; the walks for the shell. -/
import Derived.Test.YtndmnlgancnbkaaZL
import Derived.Test.YtndmnlgancnbkaaZ00
import Derived.Test.YtndmnlgancnbkaaZ01
import Derived.Test.YtndmnlgancnbkaaZ02
import Derived.Test.YtndmnlgancnbkaaZ03
import Derived.Test.YtndmnlgancnbkaaZ04
import Derived.Test.YtndmnlgancnbkaaZ05
import Derived.Test.YtndmnlgancnbkaaZ06
import Derived.Test.YtndmnlgancnbkaaZ11
import Derived.Test.YtndmnlgancnbkaaZ12
import Derived.Test.YtndmnlgancnbkaaZ13
namespace Go.Proofs.Ytndmnlgancnbkaa
open Go.RowKit Go.Lib
set_option linter.unusedVariables false
set_option linter.unusedSimpArgs false
theorem nums_nil17 (w : World) : Nums w none 0 [] := ⟨Nat.le_refl _, by unfold maxLen; omega, (fun z hz => by cases hz), fun i hi => absurd hi (Nat.not_lt_zero _)⟩
section
variable {HP : HpT} (H : HeapOk HP)
include H
omit H in
set_option maxRecDepth 100000 in
set_option maxHeartbeats 8000000 in
theorem ldirty17 {w : World} {v : Value} {S : Nat → Prop} {m g : Int} {L : List It} {D : List Int} (hr : Rel w w) (q : LQp HP w v S m g L D) :
    Calls Try.prog 21 #[v] w fun e w' => ∃ (A : Option Addr) (c : Nat), e = .returned (.slice A D.length c) ∧ Nums w' A c D ∧ (∀ a, A = some a → w.heap.size ≤ a.block ∧ a.block < w'.heap.size) ∧ Rel w w' := by
  have HR := Lib.hid hr
  have hi := q.1
  rcases q.2 with ⟨rfl, rfl, rfl, rfl, rfl, rfl⟩ | ⟨b, h, d, SH, rfl, rfl, z, h1⟩
  · clear hr q hi
    go_enter Try.func21, Try.ntmps21
    go_wp2_with (go_at_call 25; (with_reducible refine (made17_nil _).mono ?_); rintro e w1 ⟨rfl, rfl⟩)
    go_ret
    exact ⟨none, 0, rfl, nums_nil17 _, (fun a ha => by cases ha), HR.out⟩
  · have HB := Lib.hid z.box
    have r1 := hr.alloc (.cells #[.map (some d)] 54)
    have KS := Lib.hid (show Calls Try.prog 41 #[.func (.func 57) #[] #[.pointer (some ⟨w.heap.size, 0, none⟩)]] (w.alloc (.cells #[.map (some d)] 54)) fun e w' => ∃ (A : Option Addr) (c : Nat), e = .returned (.slice A D.length c) ∧ Hid (Nums w' A c D) ∧ Hid (∀ a, A = some a → w.heap.size ≤ a.block ∧ a.block < w'.heap.size) ∧ Hid (Rel w w') from by
      refine (sorted17 (z.set.alloc _) hi.dlen (B := w.heap.size) (by rw [World.size_alloc]; omega) ((Bk.new w 54 #[.map (some d)]).cell 0)).mono ?_
      rintro e w' ⟨v, rfl, ho, hb⟩
      have hro := row_own17 ho rfl
      obtain ⟨A, c, rfl, _⟩ := hro.slice_of
      obtain ⟨n1, n2⟩ := nums_of hro (fun z hz => by have := hi.low z hz; exact ⟨by omega, by omega⟩)
      refine ⟨A, c, rfl, Lib.hid n1, Lib.hid (fun a ha => ⟨?_, (n2 a ha).2⟩), Lib.hid (r1.step hb)⟩
      have := (n2 a ha).1
      rw [World.size_alloc] at this
      omega)
    have k2 := z.box.cell 2
    obtain ⟨n, hn⟩ : ∃ n, D.length = n := ⟨_, rfl⟩
    rw [hn] at KS ⊢
    clear hr q hi z r1 hn
    go_enter Try.func21, Try.ntmps21
    go_wp2_with (first
      | (go_at_call 25; (with_reducible refine (made17 HB.out).mono ?_); rintro e w1 ⟨rfl, rfl⟩)
      | (go_at_call 42; (with_reducible refine (keys17 (some d) _).mono ?_); rintro e w1 ⟨rfl, rfl⟩)
      | (go_at_call 41; (with_reducible refine KS.out.mono ?_); rintro e w2 ⟨A, c, rfl, n1, n2, r2⟩))
    go_ret
    exact ⟨A, c, rfl, n1.out, n2.out, r2.out⟩
set_option maxRecDepth 100000 in
set_option maxHeartbeats 8000000 in
theorem lwaiting17 {w : World} {v : Value} {S : Nat → Prop} {m g : Int} {L : List It} {D : List Int} (hr : Rel w w) (q : LQp HP w v S m g L D) :
    Calls Try.prog 19 #[v] w fun e w' => ∃ (A : Option Addr) (c : Nat), e = .returned (.slice A L.length c) ∧ Nums w' A c (keysQ L) ∧ (∀ a, A = some a → w.heap.size ≤ a.block ∧ a.block < w'.heap.size) ∧ Rel w w' := by
  have HR := Lib.hid hr
  have hi := q.1
  rcases q.2 with ⟨rfl, rfl, rfl, rfl, rfl, rfl⟩ | ⟨b, h, d, SH, rfl, rfl, z, h1⟩
  · clear hr q hi H
    go_enter Try.func19, Try.ntmps19
    go_wp2_with (go_at_call 25; (with_reducible refine (made17_nil _).mono ?_); rintro e w1 ⟨rfl, rfl⟩)
    go_ret
    exact ⟨none, 0, rfl, nums_nil17 _, (fun a ha => by cases ha), HR.out⟩
  · have HB := Lib.hid z.box
    have KA := Lib.hid (show Calls Try.prog 40 #[.pointer (some ⟨h, 0, none⟩)] w fun e w' => ∃ (A : Option Addr) (c : Nat), e = .returned (.slice A L.length c) ∧ Hid (RowAt clH 2 w' A L) ∧ Hid (Rel w w') from (H.all hr z.hp).mono (by
      rintro e w' ⟨A, c, he, h1, _, _, _, h2⟩
      exact ⟨A, c, he, Lib.hid h1, Lib.hid h2⟩))
    obtain ⟨n, hn⟩ : ∃ n, L.length = n := ⟨_, rfl⟩
    have hn0 : n ≤ 1000 := by have h1 := hi.len; have h2 := hi.room; omega
    obtain ⟨i0, hi0, hz0, hz1, hz2⟩ := info_parts int_info17
    have HN := Lib.hid hn
    have HK := Lib.hid (show (keysQ L).length = n by unfold keysQ; rw [List.length_map]; exact hn)
    have HF := Lib.hid (show ∀ z ∈ keysQ L, i64 z from fun z hz => by
      obtain ⟨x, hx, rfl⟩ := List.mem_map.1 hz
      have := hi.key x hx
      exact ⟨by omega, by omega⟩)
    have k1 := z.box.cell 1
    rw [hn] at KA ⊢
    clear hr q hi H z hn
    go_enter Try.func19, Try.ntmps19
    go_wp2_with (first
      | (go_at_call 25; (with_reducible refine (made17 HB.out).mono ?_); rintro e w1 ⟨rfl, rfl⟩)
      | (go_at_call 40; (with_reducible refine KA.out.mono ?_); rintro e w1 ⟨A, c, rfl, AT, R1⟩))
    go_loopw [3, 15] (fun o i wr => ∃ (j : Nat) (A2 : Option Addr) (c2 : Nat), o = .slice A2 j c2 ∧ i = .int .i64 (j : Int) ∧ j ≤ n ∧ Hid (RowOwn 3 clI17 1 wr w1.heap.size (.slice A2 j c2) ((keysQ L).take j)) ∧ Hid (Rel w1 wr)) (fun _ i _ => n - (RowKit.intOf i).toNat)
    case atStart => exact ⟨0, none, 0, rfl, rfl, Nat.zero_le _, Lib.hid (RowOwn.nil _ _ _), Lib.hid R1.out.self⟩
    case round =>
      obtain ⟨j, A2, c2, rfl, rfl, hj, HO, R2⟩ := hrel
      by_cases hlt : j < n
      · have hjL : j < L.length := by rw [HN.out]; exact hlt
        obtain ⟨ga, off, rfl, _, hc⟩ := (AT.out.rel R2.out) j hjL
        have HT := Lib.hid (show (keysQ L).take (j + 1) = (keysQ L).take j ++ [L[j].1] by unfold keysQ; rw [List.take_succ_eq_append_getElem (by rw [List.length_map]; exact hjL), List.getElem_map])
        have a0 : wr.cell? ⟨ga, off + j * 2, none⟩ = some (.int .i64 L[j].1) := hc 0 (by omega)
        have a1 : wr.cell? ⟨ga, off + j * 2 + 1, none⟩ = some (.int .i64 L[j].2) := hc 1 (by omega)
        obtain ⟨x, hx⟩ : ∃ x, L[j].1 = x := ⟨_, rfl⟩
        obtain ⟨y, hy⟩ : ∃ x, L[j].2 = x := ⟨_, rfl⟩
        rw [hx] at a0 HT
        rw [hy] at a1
        have hij : (j : Int) < (n : Int) := by omega
        have hij0 : (0 : Int) ≤ (j : Int) := by omega
        clear hc hx hy
        have HLL := Lib.hid (show ((keysQ L).take j).length = j by rw [List.length_take, HK.out]; omega)
        have R3 := Lib.hid (R2.out.alloc (.cells #[.int .i64 x, .int .i64 y] 64))
        have BX := Lib.hid (Bk.new wr 64 #[.int .i64 x, .int .i64 y])
        have HRow := Lib.hid (show (wr.alloc (.cells #[.int .i64 x, .int .i64 y] 64)).ownsRow w1.heap.size 3 1 (.slice A2 j c2) j (((keysQ L).take j).flatMap clI17) from by have := HO.out.row; rw [HLL.out] at this; exact World.ownsRow.alloc this _)
        go_upto_region 7 with (fail)
        obtain ⟨W, hW⟩ : ∃ W, wr.alloc (.cells #[.int .i64 x, .int .i64 y] 64) = W := ⟨_, rfl⟩
        obtain ⟨gx, hgx⟩ : ∃ q, wr.heap.size = q := ⟨_, rfl⟩
        rw [hW] at R3 BX HRow
        rw [hgx] at BX
        try rw [hW]
        try rw [hgx]
        clear hW hgx a0 a1
        obtain ⟨⟨b0, b1⟩, ⟨c0, c1⟩⟩ := BX.out.two
        have HRow2 := Lib.hid (show (W.alloc (.cells #[.int .i64 x] 3)).ownsRow w1.heap.size 3 1 (.slice A2 j c2) j (((keysQ L).take j).flatMap clI17) from World.ownsRow.alloc HRow.out _)
        have hsz := Lib.hid (show w1.heap.size ≤ (W.alloc (.cells #[.int .i64 x] 3)).heap.size by rw [World.size_alloc]; have h3 := R3.out.size; omega)
        go_wp2_with (at_builtin; (refine wpList_append_lies _ rfl _ _ 32 rfl w1.heap.size 3 i0 (.int .i64 0) 1 8 Try.underlying32 hi0 hz0 hz1 hz2 rfl (by decide) (.slice A2 j c2) j (((keysQ L).take j).flatMap clI17) rfl HRow2.out ⟨W.heap.size, 0, none⟩ 1 1 [.int .i64 x] rfl rfl (news17 W (.int .i64 x) 3) (one_cell17 x) (by decide) (by unfold maxLen; omega) (by omega) hsz.out _ rfl ?_); intro g2 c3 w2 own2 gr2 at2 lt2; have HO2 := Lib.hid (RowOwn.more HLL.out own2); have RG := Lib.hid gr2; have RL := Lib.hid HRow2; clear own2 gr2 at2 lt2 HRow2 HRow)
        have R4 := Lib.hid (show Rel w1 w2 from ((R3.out).alloc (.cells #[.int .i64 x] 3)).grown RG.out (fun q hq => (RL.out.out.lt q hq).1))
        go_roundw
        case rel => exact ⟨j + 1, _, c3, rfl, by go_num, by omega, by rw [HT.out]; exact HO2, R4⟩
        case measure => simp [RowKit.intOf]; omega
      · obtain rfl : j = n := by omega
        have hij : ¬ (j : Int) < (j : Int) := by omega
        have HE := Lib.hid (show Nums wr A2 c2 (keysQ L) ∧ ∀ a, A2 = some a → w.heap.size ≤ a.block ∧ a.block < wr.heap.size from by
          have hs := R1.out.size
          have ho := HO.out
          rw [show (keysQ L).take j = keysQ L by rw [← HK.out, List.take_length]] at ho
          rw [← HK.out] at ho
          obtain ⟨n1, n2⟩ := nums_of ho HF.out
          exact ⟨n1, fun a ha => ⟨Nat.le_trans hs (n2 a ha).1, (n2 a ha).2⟩⟩)
        go_wp2_with (fail)
        go_ret
        exact ⟨A2, c2, rfl, HE.out.1, HE.out.2, R1.out.trans R2.out⟩
theorem queueOk_of : QueueOk (LQp HP) where
  inv := fun h => h.1
  lt := fun h => h.lt H
  keep := fun h hz hb => h.keep H hz hb
  nil := fun w => LQp.nil w
  new := fun room age w hr i1 i2 => lnew17 H room age w hr i1 i2
  want := fun s p t hr q is ip it => lwant17 H s p t hr q is ip it
  next := fun t hr q it => lnext17 H t hr q it
  drop := fun s hr q is => ldrop17 H s hr q is
  waiting := fun hr q => lwaiting17 H hr q
  dirty := fun hr q => ldirty17 hr q
end
theorem queueOk17 : QueueOk (LQp LHp) := queueOk_of heapOk16
end Go.Proofs.Ytndmnlgancnbkaa

namespace Go.Proofs.Ytndmnlgancnbkaa
open Go.RowKit Go.Lib
set_option linter.unusedVariables false
set_option linter.unusedSimpArgs false
set_option maxHeartbeats 400000 in
theorem pk17_as (c n y : Int) (h : Hid (pk c n = y)) (hc : i64 c) (hn : 0 < n) (hn' : n ≤ 9223372036854775807) (w : World) :
    Calls Try.prog 9 #[.int .i64 c, .int .i64 n] w fun e w' => e = .returned (.int .i64 y) ∧ w = w' := by
  obtain ⟨hc0, hc1⟩ := hc
  rw [← h.out]
  by_cases h : c < 0
  all_goals
    go_enter Try.func9, Try.ntmps9
    go_wp2
    all_goals
      go_ret
      exact ⟨ret_int (by unfold pk; split <;> first | rfl | omega), rfl⟩
theorem in17 {n : Int} (h : -1100000000000 ≤ n) (h' : n ≤ 1100000000000) : i64 n := ⟨by omega, by omega⟩
theorem nums_one {w : World} {S : Nat → Prop} {A : Option Addr} {c : Nat} {x : Int} (h : Nu S w A c [x]) : ∃ a : Addr, A = some a ∧ w.cell? a = some (.int .i64 x) ∧ 1 ≤ c := by
  obtain ⟨a, e, _, hc⟩ := h.1.2.2.2 0 (by simp)
  exact ⟨a, e, hc, h.1.1⟩
set_option maxRecDepth 100000 in
set_option maxHeartbeats 16000000 in
theorem awake17_any {QP : QpT} (H : QueueOk QP) (w : World) (hr : Rel w w) :
    Calls Try.prog 8 #[] w fun e w' => e = .returned (.bool true) ∧ Rel w w' := by
  have HR := Lib.hid hr
  have K0 := Lib.hid (fun (w1 : World) (hr : Rel w w1) => qnew H (w0 := w) w1 hr (room := 1) (age := 10) (by decide) (by decide) (by decide) (by decide))
  have K1 := Lib.hid (fun (w1 : World) (v : Value) (S : Nat → Prop) (h : Qq QP w w1 v S 1 10 [] []) => qwant H h (s := 3) (p := 0) (t := 1) (E := 0) (L' := [(3, -1)]) (D' := []) (in17 (by decide) (by decide)) (in17 (by decide) (by decide)) (in17 (by decide) (by decide)) (by decide) (by decide) (by decide))
  have K2 := Lib.hid (fun (w1 : World) (v : Value) (S : Nat → Prop) (h : Qq QP w w1 v S 1 10 [(3, -1)] []) => qwant H h (s := 5) (p := 9) (t := 1) (E := 50) (L' := [(3, -1)]) (D' := [5]) (in17 (by decide) (by decide)) (in17 (by decide) (by decide)) (in17 (by decide) (by decide)) (by decide) (by decide) (by decide))
  have K3 := Lib.hid (fun (w1 : World) (v : Value) (S : Nat → Prop) (h : Qq QP w w1 v S 1 10 [(3, -1)] [5]) => qdirty H h (n := 1) (by decide))
  have K4 := Lib.hid (fun (w1 : World) (v : Value) (S : Nat → Prop) (h : Qq QP w w1 v S 1 10 [(3, -1)] [5]) => qnext H h (t := 2) (x := 3) (b := true) (L' := [(5, -2)]) (D' := []) (in17 (by decide) (by decide)) (by decide) (by decide) (by decide) (by decide))
  have K5 := Lib.hid (fun (w1 : World) (v : Value) (S : Nat → Prop) (h : Qq QP w w1 v S 1 10 [(5, -2)] []) => qwait H h (n := 1) (W := [5]) (by decide) (by decide))
  have K6 := Lib.hid (fun (w1 : World) (v : Value) (S : Nat → Prop) (h : Qq QP w w1 v S 1 10 [(5, -2)] []) => qnext H h (t := 3) (x := 5) (b := true) (L' := []) (D' := []) (in17 (by decide) (by decide)) (by decide) (by decide) (by decide) (by decide))
  have K7 := Lib.hid (fun (w1 : World) (v : Value) (S : Nat → Prop) (h : Qq QP w w1 v S 1 10 [] []) => qnext H h (t := 4) (x := 0) (b := false) (L' := []) (D' := []) (in17 (by decide) (by decide)) (by decide) (by decide) (by decide) (by decide))
  have K8 := Lib.hid (fun (w1 : World) (v : Value) (S : Nat → Prop) (h : Qq QP w w1 v S 1 10 [] []) => qwant H h (s := -1) (p := 0) (t := 0) (E := 1) (L' := []) (D' := []) (in17 (by decide) (by decide)) (in17 (by decide) (by decide)) (in17 (by decide) (by decide)) (by decide) (by decide) (by decide))
  have K9 := Lib.hid (fun (w1 : World) (hr : Rel w1 w1) => qnil H w1 hr (room := 0) (age := 1) (in17 (by decide) (by decide)) (in17 (by decide) (by decide)) (by decide))
  have KA := Lib.hid (fun (w1 : World) (hr : Rel w1 w1) => qnil H w1 hr (room := 1) (age := 0) (in17 (by decide) (by decide)) (in17 (by decide) (by decide)) (by decide))
  have KB := Lib.hid (fun (w1 : World) (v : Value) (S : Nat → Prop) (h : Qq QP w w1 v S 1 10 [] []) => qdrop H h (s := 7) (b := false) (L' := []) (D' := []) (in17 (by decide) (by decide)) (by decide) (by decide) (by decide))
  have HH := Lib.hid H
  clear H hr
  go_enter Try.func8, Try.ntmps8
  go_upto_region 2 with (go_at_call 10; (with_reducible refine (K0.out _ HR.out).mono ?_); rintro e w1 ⟨g, S0, rfl, h1, _, _⟩)
  obtain ⟨v, hv⟩ : ∃ v, Value.pointer (some ⟨g, 0, none⟩) = v := ⟨_, rfl⟩
  rw [hv] at h1
  try rw [hv]
  clear hv
  go_upto_region 3 with (go_at_call 12; (with_reducible refine (K1.out _ _ _ h1.out).mono ?_); rintro e w2 ⟨S1, rfl, h2, _⟩)
  go_upto_region 4 with (go_at_call 12; (with_reducible refine (K2.out _ _ _ h2.out).mono ?_); rintro e w3 ⟨S2, rfl, h3, _⟩)
  go_upto_region 5 with (go_at_call 21; (with_reducible refine (K3.out _ _ _ h3.out).mono ?_); rintro e w4 ⟨A4, c4, rfl, n4, r4⟩)
  have h4 := Lib.hid (Qq.to HH.out h3.out r4.out)
  clear h1 h2 h3 K0 K1 K2 K3 r4 HR
  go_upto_region 6 with (go_at_call 14; (with_reducible refine (K4.out _ _ _ h4.out).mono ?_); rintro e w5 ⟨S5, rfl, h5, st5⟩)
  have n5 := Lib.hid (n4.out.st st5.out)
  clear h4 n4 st5 K4
  go_upto_region 7 with (go_at_call 19; (with_reducible refine (K5.out _ _ _ h5.out).mono ?_); rintro e w6 ⟨A6, c6, rfl, m6, r6⟩)
  have h6 := Lib.hid (Qq.to HH.out h5.out r6.out)
  have n6 := Lib.hid (n5.out.rel r6.out)
  clear h5 n5 r6 K5
  go_upto_region 8 with (go_at_call 14; (with_reducible refine (K6.out _ _ _ h6.out).mono ?_); rintro e w7 ⟨S7, rfl, h7, st7⟩)
  have n7 := Lib.hid (n6.out.st st7.out)
  have m7 := Lib.hid (m6.out.st st7.out)
  clear h6 n6 m6 st7 K6
  go_upto_region 9 with (go_at_call 14; (with_reducible refine (K7.out _ _ _ h7.out).mono ?_); rintro e w8 ⟨S8, rfl, h8, st8⟩)
  have n8 := Lib.hid (n7.out.st st8.out)
  have m8 := Lib.hid (m7.out.st st8.out)
  clear h7 n7 m7 st8 K7
  obtain ⟨a4, rfl, d4, l4⟩ := nums_one n8.out
  obtain ⟨a6, rfl, d6, l6⟩ := nums_one m8.out
  go_wp2_with (first | (go_at_call 12; (with_reducible refine (K8.out _ _ _ h8.out).mono ?_); rintro e w9 ⟨S9, rfl, h9, st9⟩) | (go_at_call 10; (first | (with_reducible refine (K9.out _ h9.out.rel.self).mono ?_); rintro e wA ⟨rfl, rA⟩; have hA := Lib.hid (Qq.to HH.out h9.out rA.out); clear rA | (with_reducible refine (KA.out _ hA.out.rel.self).mono ?_); rintro e wB ⟨rfl, rB⟩; have hB := Lib.hid (Qq.to HH.out hA.out rB.out); clear rB)) | (go_at_call 16; (with_reducible refine (KB.out _ _ _ hB.out).mono ?_); rintro e wC ⟨SC, rfl, hC, _⟩))
  go_ret
  exact ⟨rfl, hC.out.rel⟩
end Go.Proofs.Ytndmnlgancnbkaa

namespace Go.Proofs.Ytndmnlgancnbkaa
open Go.RowKit Go.ChangeShapes Go.WideShapes
open Go.Lib
set_option linter.unusedVariables false
set_option linter.unusedSimpArgs false
theorem wf64K {a : Int} (h : (Lit.int .i64 a).wf = true) : -9223372036854775808 ≤ a ∧ a ≤ 9223372036854775807 := by
  have := bounds_i64 h; omega
end Go.Proofs.Ytndmnlgancnbkaa
