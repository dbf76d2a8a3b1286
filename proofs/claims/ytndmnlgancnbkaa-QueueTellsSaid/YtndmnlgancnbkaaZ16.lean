/- The document's own answers of layer 16: its heap in memory; at, Prio; The document's own answers of layer 16: Top; The document's own answers of layer 16: New; The document's own answers of layer 16: a heap of its own, with its blocks; Push. -/
import Derived.Test.YtndmnlgancnbkaaZL
import Derived.Test.YtndmnlgancnbkaaZ00
import Derived.Test.YtndmnlgancnbkaaZ01
import Derived.Test.YtndmnlgancnbkaaZ02
import Derived.Test.YtndmnlgancnbkaaZ03
import Derived.Test.YtndmnlgancnbkaaZ05
import Derived.Test.YtndmnlgancnbkaaZ11
import Derived.Test.YtndmnlgancnbkaaZ14
namespace Go.Proofs.Ytndmnlgancnbkaa
open Go.RowKit Go.Lib
set_option linter.unusedVariables false
set_option linter.unusedSimpArgs false
/-- A block whose first two cells are these, of whatever type. -/
def BoxR (w : World) (g : Nat) (u : Value) (m : Int) : Prop := ∃ (t : TypeId) (rs : List Value), Bk w g t ⟨u :: .int .i64 m :: rs⟩
theorem BoxR.rel {w w' : World} {g : Nat} {u : Value} {m : Int} (h : BoxR w g u m) (hr : Rel w w') : BoxR w' g u m := by
  obtain ⟨t, rs, h⟩ := h
  exact ⟨t, rs, h.rel hr⟩
theorem BoxR.two {w : World} {g : Nat} {u : Value} {m : Int} (h : BoxR w g u m) :
    (w.cell? ⟨g, 0, none⟩ = some u ∧ w.cell? ⟨g, 1, none⟩ = some (.int .i64 m)) ∧ (w.frozen? ⟨g, 0, none⟩ = false ∧ w.frozen? ⟨g, 1, none⟩ = false) := by
  obtain ⟨t, rs, h⟩ := h
  exact ⟨⟨h.cell 0, h.cell 1⟩, ⟨h.frozen 0, h.frozen 1⟩⟩
/-- The document's own heap in block g: its items lie in A. -/
def RhAt (w : World) (g : Nat) (m : Int) (L : List It) (A : Option Addr) (n c : Nat) : Prop := L.length = n ∧ BoxR w g (.slice A n c) m ∧ RowAt clH 2 w A L ∧ n ≤ c ∧ c ≤ maxLen
theorem RhAt.rel {w w' : World} {g : Nat} {m : Int} {L : List It} {A : Option Addr} {n c : Nat} (h : RhAt w g m L A n c) (hr : Rel w w') : RhAt w' g m L A n c :=
  ⟨h.1, h.2.1.rel hr, h.2.2.1.rel hr, h.2.2.2⟩
set_option maxRecDepth 100000 in
set_option maxHeartbeats 8000000 in
theorem rat16_any (g : Nat) (m : Int) (L : List It) (A : Option Addr) (n c : Nat) (k : Int) (w : World) (hr : Rel w w) (h : RhAt w g m L A n c) :
    Calls Try.prog 46 #[.pointer (some ⟨g, 0, none⟩), .int .i64 k] w fun e w' => ∃ r : Int, e = .returned (.int .i64 r) ∧ Hid (Rel w w') ∧ Hid ((∃ (i : Nat) (hi : i < L.length), r = (i : Int) ∧ L[i].1 = k) ∨ (r = -1 ∧ hasH L k = false)) := by
  have HR := Lib.hid hr
  have HI := Lib.hid h
  have hc0 := h.2.2.2.1
  have hc1 := h.2.2.2.2
  unfold maxLen at hc1
  clear hr h
  go_enter Try.func46, Try.ntmps46
  go_upto_block 0 with (fail)
  go_wp2_with (fail)
  go_loopw [5] (fun i wr => ∃ j : Nat, i = .int .i64 (j : Int) ∧ j ≤ n ∧ Hid (Rel w wr) ∧ Hid (∀ i (hi : i < L.length), i < j → L[i].1 ≠ k)) (fun i _ => n - (RowKit.intOf i).toNat)
  case atStart => exact ⟨0, rfl, by omega, HR, Lib.hid (fun i hi h0 => absurd h0 (by omega))⟩
  case round =>
    obtain ⟨j, rfl, hj, HW, HNo⟩ := hrel
    have HI2 := Lib.hid (HI.out.rel HW.out)
    obtain ⟨x0, x1⟩ := HI2.out.2.1.two.1
    by_cases hlt : j < n
    · have hjL : j < L.length := by rw [HI.out.1]; exact hlt
      obtain ⟨g1, off, rfl, hc⟩ := row17_at HI2.out.2.2.1 (by omega)
      obtain ⟨a0, _⟩ := hc j hjL
      obtain ⟨⟨x, y⟩, hx⟩ : ∃ x, L[j] = x := ⟨_, rfl⟩
      have HX := Lib.hid hx
      rw [hx] at a0
      replace a0 : wr.cell? ⟨g1, off + j * 2, none⟩ = some (.int .i64 x) := a0
      have hij : (j : Int) < (n : Int) := by omega
      have hij0 : (0 : Int) ≤ (j : Int) := by omega
      clear hc hx
      by_cases hk : x = k
      · have hk1 : (x == k) = true := by rw [hk]; simp
        have HK := Lib.hid hk
        clear hk
        go_wp2_with (fail)
        go_ret
        exact ⟨_, rfl, HW, Lib.hid (.inl ⟨j, hjL, rfl, by rw [HX.out]; exact HK.out⟩)⟩
      · have hk1 : (x == k) = false := by simpa using hk
        have HK := Lib.hid hk
        clear hk
        go_wp2_with (fail)
        go_roundw
        case rel =>
          refine ⟨j + 1, by go_num, by omega, HW, Lib.hid (fun i hi hi1 => ?_)⟩
          by_cases e : i = j
          · subst e; rw [HX.out]; exact HK.out
          · exact HNo.out i hi (by omega)
        case measure => simp [RowKit.intOf]; omega
    · obtain rfl : j = n := by omega
      go_wp2_with (fail)
      go_ret
      refine ⟨_, rfl, HW, Lib.hid (.inr ⟨rfl, not_has17 fun e => ?_⟩)⟩
      obtain ⟨z, hz, e⟩ := has_iff.1 e
      obtain ⟨i, hi, e2⟩ := List.getElem_of_mem hz
      exact HNo.out i hi (by rw [← HI.out.1]; exact hi) (by rw [e2]; exact e)
set_option maxRecDepth 100000 in
set_option maxHeartbeats 8000000 in
theorem rprio16_any (g : Nat) (m : Int) (L : List It) (hs : Srt L) (A : Option Addr) (n c : Nat) (k : Int) (w : World) (hr : Rel w w) (h : RhAt w g m L A n c) :
    Calls Try.prog 30 #[.pointer (some ⟨g, 0, none⟩), .int .i64 k] w fun e w' => e = .returned (.tuple #[.int .i64 ((prioH L k).getD 0), .bool (hasH L k)]) ∧ Hid (Rel w w') := by
  have HR := Lib.hid hr
  have HI := Lib.hid h
  have HS := Lib.hid hs
  have hc0 := h.2.2.2.1
  have hc1 := h.2.2.2.2
  unfold maxLen at hc1
  clear hr h hs
  go_enter Try.func30, Try.ntmps30
  go_upto_region 2 with (go_at_call 46; (with_reducible refine (rat16_any g m L A n c k w HR.out HI.out).mono ?_); rintro e w1 ⟨r, rfl, R1, HC⟩)
  rcases HC.out with ⟨i, hi, rfl, hk⟩ | ⟨rfl, hk⟩
  · have HI2 := Lib.hid (HI.out.rel R1.out)
    obtain ⟨x0, x1⟩ := HI2.out.2.1.two.1
    obtain ⟨g1, off, rfl, hc⟩ := row17_at HI2.out.2.2.1 (by omega)
    obtain ⟨_, a1⟩ := hc i hi
    have hmem : L[i] ∈ L := List.getElem_mem _
    obtain ⟨⟨x, y⟩, hx⟩ : ∃ x, L[i] = x := ⟨_, rfl⟩
    rw [hx] at a1 hmem hk
    have hk : x = k := hk
    subst hk
    replace a1 : w1.cell? ⟨g1, off + i * 2 + 1, none⟩ = some (.int .i64 y) := a1
    have e1 : (prioH L x).getD 0 = y := by rw [(prio_some HS.out).2 hmem]; rfl
    have e2 : hasH L x = true := has_iff.2 ⟨_, hmem, rfl⟩
    have hin : i < n := by rw [← HI.out.1]; exact hi
    have hij : (i : Int) < (n : Int) := by omega
    have hij0 : (0 : Int) ≤ (i : Int) := by omega
    clear hc hx hmem
    go_wp2_with (fail)
    go_ret2
    exact ⟨by first | rfl | (rw [e1, e2]; rfl) | (rw [e1, e2]), R1⟩
  · have e1 : (prioH L k).getD 0 = 0 := by rw [prio_none.2 hk]; rfl
    go_wp2_with (fail)
    go_ret2
    exact ⟨by first | rfl | (rw [e1, hk]; rfl) | (rw [e1, hk]), R1⟩
end Go.Proofs.Ytndmnlgancnbkaa

namespace Go.Proofs.Ytndmnlgancnbkaa
open Go.RowKit Go.Lib
set_option linter.unusedVariables false
set_option linter.unusedSimpArgs false
/-- The best of the first j + 1. -/
theorem best_take {x : It} {t : List It} {j : Nat} (hj : j < t.length) : bestH x (t.take (j + 1)) = (if (bestH x (t.take j)).2 < t[j].2 then t[j] else bestH x (t.take j)) := by
  induction t generalizing x j with
  | nil => exact absurd hj (by simp)
  | cons y t ih =>
    cases j with
    | zero => show bestH (if x.2 < y.2 then y else x) (t.take 0) = _; rfl
    | succ j =>
      have := ih (x := if x.2 < y.2 then y else x) (j := j) (by simpa using hj)
      exact this
set_option maxRecDepth 100000 in
set_option maxHeartbeats 8000000 in
theorem rtop16_any (g : Nat) (m : Int) (L : List It) (A : Option Addr) (n c : Nat) (w : World) (hr : Rel w w) (h : RhAt w g m L A n c) :
    Calls Try.prog 51 #[.pointer (some ⟨g, 0, none⟩)] w fun e w' => e = .returned (.tuple #[ItV (itH (topH L)), .bool (topH L).isSome]) ∧ Hid (Rel w w') := by
  have HR := Lib.hid hr
  have HI := Lib.hid h
  have hc0 := h.2.2.2.1
  have hc1 := h.2.2.2.2
  have hl := h.1
  unfold maxLen at hc1
  clear hr h
  go_enter Try.func51, Try.ntmps51
  go_upto_region 1 with (fail)
  have AL := Lib.hid (HR.out.alloc (.cells #[.int .i64 0, .int .i64 0] 64))
  have HI1 := Lib.hid (HI.out.rel AL.out)
  have BX := Lib.hid (Bk.new w 64 #[.int .i64 0, .int .i64 0])
  obtain ⟨w1, hw1⟩ : ∃ W, w.alloc (.cells #[.int .i64 0, .int .i64 0] 64) = W := ⟨_, rfl⟩
  obtain ⟨gx, hgx⟩ : ∃ q, w.heap.size = q := ⟨_, rfl⟩
  rw [hw1] at AL HI1 BX
  rw [hgx] at BX
  try rw [hw1]
  try rw [hgx]
  have Hgx := Lib.hid (show w.heap.size ≤ gx by rw [hgx]; exact Nat.le_refl _)
  clear hw1 hgx
  obtain ⟨x0, x1⟩ := HI1.out.2.1.two.1
  cases L with
  | nil =>
    obtain rfl : n = 0 := by simpa using hl.symm
    obtain ⟨⟨b0, b1⟩, ⟨c0, c1⟩⟩ := BX.out.two
    have HE := Lib.hid ((AL.out.setCell (p := ⟨gx, 0, none⟩) Hgx.out (.int .i64 0)).setCell (p := ⟨gx, 1, none⟩) Hgx.out (.int .i64 0))
    have RX := Lib.hid (show Bk ((w1.setCell ⟨gx, 0, none⟩ (.int .i64 0)).setCell ⟨gx, 1, none⟩ (.int .i64 0)) gx 64 #[.int .i64 0, .int .i64 0] from (BX.out.set_ 0 (.int .i64 0)).set_ 1 (.int .i64 0))
    go_wp2_with (fail)
    obtain ⟨r0, r1⟩ := RX.out.two.1
    exact bodyPost_ret (v := .tuple #[.agg #[.int .i64 0, .int .i64 0], .bool false]) (by simp [results, Try.results51, go_sem, r0, r1]) rfl ⟨rfl, HE⟩
  | cons z t =>
    have hn1 : 1 ≤ n := by rw [← hl]; simp
    have hn2 : ((n : Int) == 0) = false := by simpa using (show ¬ (n : Int) = 0 by omega)
    have hn3 : (0 : Int) < (n : Int) := by omega
    obtain ⟨zx, zy⟩ := z
    have ht : t.length + 1 = n := by rw [← hl]; simp
    have HLt := Lib.hid ht
    obtain ⟨g1, off, rfl, hc⟩ := row17_at HI1.out.2.2.1 (by simp)
    obtain ⟨a0, a1⟩ := hc 0 (by simp)
    rw [Nat.zero_mul, Nat.add_zero] at a0 a1
    replace a0 : w1.cell? ⟨g1, off, none⟩ = some (.int .i64 zx) := a0
    replace a1 : w1.cell? ⟨g1, off + 1, none⟩ = some (.int .i64 zy) := a1
    clear hc hl ht
    go_upto_region 4 with (fail)
    have AL2 := Lib.hid (AL.out.self.alloc (.cells #[.int .i64 zx, .int .i64 zy] 64))
    have BY := Lib.hid (Bk.new w1 64 #[.int .i64 zx, .int .i64 zy])
    have R2 := Lib.hid (AL.out.trans AL2.out)
    have BX2 := Lib.hid (BX.out.rel AL2.out)
    have Hgy := Lib.hid (show w.heap.size ≤ w1.heap.size from AL.out.size)
    have Hne := Lib.hid (Nat.ne_of_lt BX.out.lt)
    obtain ⟨w2, hw2⟩ : ∃ W, w1.alloc (.cells #[.int .i64 zx, .int .i64 zy] 64) = W := ⟨_, rfl⟩
    obtain ⟨gy, hgy⟩ : ∃ q, w1.heap.size = q := ⟨_, rfl⟩
    rw [hw2] at BY R2 BX2
    rw [hgy] at BY Hgy Hne
    try rw [hw2]
    try rw [hgy]
    clear hw2 hgy x0 x1 a0 a1 AL2 BX
    go_upto_block 0 with (fail)
    go_wp2_with (fail)
    go_loopw [5] (fun i wr => ∃ (j : Nat) (bx bY : Int), i = .int .i64 (j : Int) ∧ 1 ≤ j ∧ j ≤ n ∧ Hid (bestH (zx, zy) (t.take (j - 1)) = (bx, bY)) ∧ Hid (Rel w wr) ∧ Hid (Bk wr gy 64 #[.int .i64 bx, .int .i64 bY]) ∧ Hid (Bk wr gx 64 #[.int .i64 0, .int .i64 0])) (fun i _ => n - (RowKit.intOf i).toNat)
    case atStart => exact ⟨1, zx, zy, rfl, by omega, by omega, Lib.hid rfl, R2, BY, BX2⟩
    case round =>
      obtain ⟨j, bx, bY, rfl, hj1, hj, HBe, HW, HBy, HBx⟩ := hrel
      have HI2 := Lib.hid (HI.out.rel HW.out)
      obtain ⟨x0, x1⟩ := HI2.out.2.1.two.1
      obtain ⟨⟨y0, y1⟩, ⟨f0, f1⟩⟩ := HBy.out.two
      by_cases hlt : j < n
      · have hij : (j : Int) < (n : Int) := by omega
        have hij0 : (0 : Int) ≤ (j : Int) := by omega
        have hjt : j - 1 < t.length := by have := HLt.out; omega
        obtain ⟨g2, off2, e, hc⟩ := row17_at HI2.out.2.2.1 (by simp)
        injection e with e
        injection e with e1 e2
        subst e1; subst e2
        obtain ⟨a0, a1⟩ := hc j (by simp; omega)
        have hbt := best_take (x := (zx, zy)) hjt
        rw [HBe.out] at hbt
        rw [show j - 1 + 1 = j by omega] at hbt
        obtain ⟨⟨ex, ey⟩, hx⟩ : ∃ x, t[j - 1] = x := ⟨_, rfl⟩
        have hx' : ((zx, zy) :: t)[j]'(by simp; omega) = (ex, ey) := by
          rw [← hx]
          obtain ⟨i, rfl⟩ : ∃ i, j = i + 1 := ⟨j - 1, by omega⟩
          rfl
        rw [hx'] at a0 a1
        rw [hx] at hbt
        replace a0 : wr.cell? ⟨g1, off + j * 2, none⟩ = some (.int .i64 ex) := a0
        replace a1 : wr.cell? ⟨g1, off + j * 2 + 1, none⟩ = some (.int .i64 ey) := a1
        clear hc hx hx' hjt
        by_cases hgt : bY < ey
        · have HBn := Lib.hid (show bestH (zx, zy) (t.take (j + 1 - 1)) = (ex, ey) by rw [show j + 1 - 1 = j by omega, hbt]; exact if_pos hgt)
          have hd : decide (bY < ey) = true := decide_eq_true hgt
          clear hbt hgt
          go_upto_region 7 with (fail)
          go_quiet (fail)
          all_goals
            go_wp2_with (fail)
            go_roundw
            case rel => exact ⟨j + 1, ex, ey, by go_num, by omega, by omega, HBn, Lib.hid (((HW.out.drewN _).setCell (p := ⟨gy, 0, none⟩) Hgy.out (.int .i64 ex)).setCell (p := ⟨gy, 1, none⟩) Hgy.out (.int .i64 ey)), Lib.hid (((HBy.out.rel (HW.out.self.drewN _)).set_ 0 (.int .i64 ex)).set_ 1 (.int .i64 ey)), Lib.hid (((HBx.out.rel (HW.out.self.drewN _)).far (p := ⟨gy, 0, none⟩) Hne.out (.int .i64 ex)).far (p := ⟨gy, 1, none⟩) Hne.out (.int .i64 ey))⟩
            case measure => simp [RowKit.intOf]; omega
        · have HBn := Lib.hid (show bestH (zx, zy) (t.take (j + 1 - 1)) = (bx, bY) by rw [show j + 1 - 1 = j by omega, hbt]; exact if_neg hgt)
          have hd : decide (bY < ey) = false := decide_eq_false hgt
          clear hbt hgt
          go_upto_region 7 with (fail)
          go_quiet (fail)
          all_goals
            go_wp2_with (fail)
            go_roundw
            case rel => exact ⟨j + 1, bx, bY, by go_num, by omega, by omega, HBn, Lib.hid (HW.out.drewN _), Lib.hid (HBy.out.rel (HW.out.self.drewN _)), Lib.hid (HBx.out.rel (HW.out.self.drewN _))⟩
            case measure => simp [RowKit.intOf]; omega
      · obtain rfl : j = n := by omega
        have HBn := Lib.hid (show itH (topH ((zx, zy) :: t)) = (bx, bY) by
          have := HBe.out
          rw [List.take_of_length_le (by have := HLt.out; omega)] at this
          exact this)
        have HE := Lib.hid ((HW.out.setCell (p := ⟨gx, 0, none⟩) Hgx.out (.int .i64 bx)).setCell (p := ⟨gx, 1, none⟩) Hgx.out (.int .i64 bY))
        have RX := Lib.hid (show Bk ((wr.setCell ⟨gx, 0, none⟩ (.int .i64 bx)).setCell ⟨gx, 1, none⟩ (.int .i64 bY)) gx 64 #[.int .i64 bx, .int .i64 bY] from (HBx.out.set_ 0 (.int .i64 bx)).set_ 1 (.int .i64 bY))
        obtain ⟨⟨u0, u1⟩, ⟨h0, h1⟩⟩ := HBx.out.two
        go_wp2_with (fail)
        obtain ⟨r0, r1⟩ := RX.out.two.1
        exact bodyPost_ret (v := .tuple #[.agg #[.int .i64 bx, .int .i64 bY], .bool true]) (by simp [results, Try.results51, go_sem, r0, r1]) rfl ⟨by rw [HBn.out]; rfl, HE⟩
end Go.Proofs.Ytndmnlgancnbkaa

namespace Go.Proofs.Ytndmnlgancnbkaa
open Go.RowKit Go.Lib
set_option linter.unusedVariables false
set_option linter.unusedSimpArgs false
set_option maxRecDepth 100000 in
set_option maxHeartbeats 8000000 in
theorem rnew16_any (most : Int) (w : World) (hr : Rel w w) :
    Calls Try.prog 24 #[.int .i64 most] w fun e w' => Hid (Rel w w') ∧ Hid ((1 ≤ most ∧ most ≤ 1000 ∧ e = .returned (.tuple #[.agg #[.slice none 0 0, .int .i64 most], .bool true])) ∨ (¬ (1 ≤ most ∧ most ≤ 1000) ∧ e = .returned (.tuple #[.agg #[.slice none 0 0, .int .i64 0], .bool false]))) := by
  have HR := Lib.hid hr
  clear hr
  go_enter Try.func24, Try.ntmps24
  go_upto_region 1 with (fail)
  have AL := Lib.hid (HR.out.alloc (.cells #[.slice none 0 0, .int .i64 0] 31))
  have BX := Lib.hid (Bk.new w 31 #[.slice none 0 0, .int .i64 0])
  obtain ⟨w1, hw1⟩ : ∃ W, w.alloc (.cells #[.slice none 0 0, .int .i64 0] 31) = W := ⟨_, rfl⟩
  obtain ⟨gx, hgx⟩ : ∃ q, w.heap.size = q := ⟨_, rfl⟩
  rw [hw1] at AL BX
  rw [hgx] at BX
  try rw [hw1]
  try rw [hgx]
  have Hgx := Lib.hid (show w.heap.size ≤ gx by rw [hgx]; exact Nat.le_refl _)
  clear hw1 hgx
  obtain ⟨⟨b0, b1⟩, ⟨c0, c1⟩⟩ := BX.out.two
  have RZ := Lib.hid (show Bk ((w1.setCell ⟨gx, 0, none⟩ (.slice none 0 0)).setCell ⟨gx, 1, none⟩ (.int .i64 0)) gx 31 #[.slice none 0 0, .int .i64 0] from (BX.out.set_ 0 (.slice none 0 0)).set_ 1 (.int .i64 0))
  have RM := Lib.hid (show Bk ((w1.setCell ⟨gx, 0, none⟩ (.slice none 0 0)).setCell ⟨gx, 1, none⟩ (.int .i64 most)) gx 31 #[.slice none 0 0, .int .i64 most] from (BX.out.set_ 0 (.slice none 0 0)).set_ 1 (.int .i64 most))
  have HZ := Lib.hid ((AL.out.setCell (p := ⟨gx, 0, none⟩) Hgx.out (.slice none 0 0)).setCell (p := ⟨gx, 1, none⟩) Hgx.out (.int .i64 0))
  have HM := Lib.hid ((AL.out.setCell (p := ⟨gx, 0, none⟩) Hgx.out (.slice none 0 0)).setCell (p := ⟨gx, 1, none⟩) Hgx.out (.int .i64 most))
  by_cases h1 : most < 1
  · have d1 : decide (most < 1) = true := decide_eq_true h1
    have H1 := Lib.hid h1
    clear h1
    go_wp2_with (fail)
    obtain ⟨r0, r1⟩ := RZ.out.two.1
    exact bodyPost_ret (v := .tuple #[.agg #[.slice none 0 0, .int .i64 0], .bool false]) (by simp [results, Try.results24, go_sem, r0, r1]) rfl ⟨HZ, Lib.hid (.inr ⟨by have := H1.out; omega, rfl⟩)⟩
  · have d1 : decide (most < 1) = false := decide_eq_false h1
    by_cases h2 : 1000 < most
    · have d2 : decide (1000 < most) = true := decide_eq_true h2
      have H1 := Lib.hid h1
      have H2 := Lib.hid h2
      clear h1 h2
      go_wp2_with (fail)
      obtain ⟨r0, r1⟩ := RZ.out.two.1
      exact bodyPost_ret (v := .tuple #[.agg #[.slice none 0 0, .int .i64 0], .bool false]) (by simp [results, Try.results24, go_sem, r0, r1]) rfl ⟨HZ, Lib.hid (.inr ⟨by have := H2.out; omega, rfl⟩)⟩
    · have d2 : decide (1000 < most) = false := decide_eq_false h2
      have H1 := Lib.hid h1
      have H2 := Lib.hid h2
      clear h1 h2
      go_wp2_with (fail)
      obtain ⟨r0, r1⟩ := RM.out.two.1
      exact bodyPost_ret (v := .tuple #[.agg #[.slice none 0 0, .int .i64 most], .bool true]) (by simp [results, Try.results24, go_sem, r0, r1]) rfl ⟨HM, Lib.hid (.inl ⟨by have := H1.out; omega, by have := H2.out; omega, rfl⟩)⟩
end Go.Proofs.Ytndmnlgancnbkaa

namespace Go.Proofs.Ytndmnlgancnbkaa
open Go.RowKit Go.Lib
set_option linter.unusedVariables false
set_option linter.unusedSimpArgs false
def SoR (g : Nat) (u : Value) : Nat → Prop := fun k => k = g ∨ some k = u.ownBlock
/-- The document's own heap within a block: its items by their keys. -/
structure Rb (t : TypeId) (rs : List Value) (w : World) (g : Nat) (u : Value) (m : Int) (L : List It) : Prop where
  box : Bk w g t ⟨u :: .int .i64 m :: rs⟩
  row : RowOwn 64 clH 2 w 0 u L
  tne : 64 ≠ t
  srt : Srt L
  fit : ∀ z ∈ L, i64 z.1 ∧ i64 z.2
  cap : L.length ≤ 1000
section
variable {t : TypeId} {rs : List Value} {w w' : World} {g : Nat} {u : Value} {m : Int} {L : List It}
theorem Rb.at (h : Rb t rs w g u m L) : ∃ A c, u = .slice A L.length c ∧ RhAt w g m L A L.length c := by
  obtain ⟨A, c, e, hc⟩ := h.row.slice_of
  have hb := h.box
  have ho := h.row
  rw [e] at hb ho
  refine ⟨A, c, e, rfl, ⟨t, rs, hb⟩, ho.at clH_len rfl, ?_, hc⟩
  rcases ho.row.2 with ⟨e, h0⟩ | ⟨q, cap, cur, e, _, _, hl, _⟩
  · omega
  · injection e with _ _ e; omega
theorem Rb.g_ne (h : Rb t rs w g u m L) : some g ≠ u.ownBlock := own_ne h.row h.box h.tne
theorem Rb.lt (h : Rb t rs w g u m L) : ∀ k, SoR g u k → k < w.heap.size := by
  rintro k (rfl | hk)
  · exact h.box.lt
  · exact (World.ownsRow.lt h.row.row k hk.symm).2
theorem Rb.keep (h : Rb t rs w g u m L) (hb : ∀ k, SoR g u k → w'.heap[k]? = w.heap[k]?) : Rb t rs w' g u m L :=
  ⟨(hb g (.inl rfl)).trans h.box, by
    have hr := h.row
    unfold RowOwn World.ownsRow at hr ⊢
    refine ⟨hr.1, hr.2.imp id ?_⟩
    rintro ⟨q, cap, cur, hv, hq, hh, hx⟩
    exact ⟨q, cap, cur, hv, hq, (hb q (.inr (by rw [hv]; rfl))).trans hh, hx⟩, h.tne, h.srt, h.fit, h.cap⟩
theorem Rb.rel (h : Rb t rs w g u m L) (hr : Rel w w') : Rb t rs w' g u m L := h.keep fun k hk => hr.2.block k (h.lt k hk)
/-- A row of the call's own, put in. -/
theorem Rb.put {w0 wr : World} {u' : Value} {L' : List It} (h : Rb t rs w0 g u m L) (hr : Rel w0 wr) (ho : RowOwn 64 clH 2 wr w0.heap.size u' L') (hs : Srt L') (hf : ∀ z ∈ L', i64 z.1 ∧ i64 z.2) (hc : L'.length ≤ 1000) :
    Rb t rs (wr.setCell ⟨g, 0, none⟩ u') g u' m L' ∧ St (SoR g u) (SoR g u') w0 (wr.setCell ⟨g, 0, none⟩ u') := by
  have hb := h.box.rel hr
  have hne : some g ≠ u'.ownBlock := own_ne ho.row hb h.tne
  have ho0 : RowOwn 64 clH 2 wr 0 u' L' := own_zero ho.row
  refine ⟨⟨hb.set_ 0 u', own_set ho0.row (p := ⟨g, 0, none⟩) hne _, h.tne, hs, hf, hc⟩, ?_, (Ke.of_rel hr).on17 (Ke.set17 (p := ⟨g, 0, none⟩) (.inl rfl) _)⟩
  rintro k (rfl | hk)
  · exact .inl (.inl rfl)
  · exact .inr (World.ownsRow.lt ho.row k hk.symm).1
end
def RHp (t : TypeId) (rs : List Value) (w : World) (v : Value) (S : Nat → Prop) (m : Int) (L : List It) : Prop := ∃ (g : Nat) (u : Value), v = .pointer (some ⟨g, 0, none⟩) ∧ S = SoR g u ∧ Rb t rs w g u m L
/-- Where an item goes in. -/
theorem ins_left {A B : List It} {x : It} (h : ∃ a ∈ A, x.1 < a.1) : insH (A ++ B) x = insH A x ++ B := by
  induction A with
  | nil => obtain ⟨a, ha, _⟩ := h; cases ha
  | cons y t ih =>
    show insH (y :: (t ++ B)) x = insH (y :: t) x ++ B
    unfold insH
    by_cases e : x.1 < y.1
    · rw [if_pos e, if_pos e]; rfl
    · rw [if_neg e, if_neg e]
      obtain ⟨a, ha, hx⟩ := h
      rcases List.mem_cons.1 ha with rfl | ha
      · exact absurd hx e
      · rw [ih ⟨a, ha, hx⟩]; rfl
theorem ins_right {A B : List It} {x : It} (h : ∀ a ∈ A, ¬ x.1 < a.1) : insH (A ++ B) x = A ++ insH B x := by
  induction A with
  | nil => rfl
  | cons y t ih =>
    show insH (y :: (t ++ B)) x = y :: (t ++ insH B x)
    rw [insH, if_neg (h y (List.mem_cons_self ..)), ih fun a ha => h a (List.mem_cons_of_mem _ ha)]
theorem take_snoc {L : List It} {j : Nat} (hj : j < L.length) : L.take (j + 1) = L.take j ++ [L[j]] := List.take_succ_eq_append_getElem hj
/-- What has been laid of L and x behind j items. -/
def LaidR (L : List It) (x : It) (j : Nat) (d : Bool) (out : List It) : Prop :=
  (d = true ∧ out = insH (L.take j) x ∧ ∃ a ∈ L.take j, x.1 < a.1) ∨ (d = false ∧ out = L.take j ∧ ∀ a ∈ L.take j, ¬ x.1 < a.1)
theorem laid_end {L : List It} {x : It} {d : Bool} {out : List It} (h : LaidR L x L.length d out) : (d = true → out = insH L x) ∧ (d = false → out ++ [x] = insH L x) := by
  rcases h with ⟨rfl, h1, _⟩ | ⟨rfl, h1, h2⟩
  · rw [List.take_length] at h1
    exact ⟨fun _ => h1, (fun e => by cases e)⟩
  · rw [List.take_length] at h1 h2
    refine ⟨(fun e => by cases e), fun _ => ?_⟩
    have := ins_right (B := []) h2
    rw [List.append_nil] at this
    rw [this, h1]; rfl
theorem laid_len {L : List It} {x : It} {j : Nat} {d : Bool} {out : List It} (h : LaidR L x j d out) (hj : j ≤ L.length) : out.length ≤ j + 1 := by
  rcases h with ⟨_, h1, _⟩ | ⟨_, h1, _⟩
  · rw [h1, ins_len, List.length_take]; omega
  · rw [h1, List.length_take]; omega
theorem laid_go {L : List It} {x : It} {j : Nat} {d : Bool} {out : List It} (h : LaidR L x j d out) (hj : j < L.length) (hd : d = true ∨ ¬ x.1 < L[j].1) : LaidR L x (j + 1) d (out ++ [L[j]]) := by
  rcases h with ⟨rfl, h1, a, ha, hx⟩ | ⟨rfl, h1, h2⟩
  · refine .inl ⟨rfl, ?_, a, ?_, hx⟩
    · rw [take_snoc hj, ins_left ⟨a, ha, hx⟩, h1]
    · rw [take_snoc hj]; exact List.mem_append_left _ ha
  · rcases hd with e | hd
    · cases e
    · refine .inr ⟨rfl, by rw [take_snoc hj, h1], fun a ha => ?_⟩
      rw [take_snoc hj] at ha
      rcases List.mem_append.1 ha with ha | ha
      · exact h2 a ha
      · rw [List.mem_singleton] at ha; subst ha; exact hd
theorem laid_in {L : List It} {x : It} {j : Nat} {out : List It} (h : LaidR L x j false out) (hj : j < L.length) (hd : x.1 < L[j].1) : LaidR L x (j + 1) true (out ++ [x] ++ [L[j]]) := by
  rcases h with ⟨e, _⟩ | ⟨_, h1, h2⟩
  · cases e
  · refine .inl ⟨rfl, ?_, L[j], ?_, hd⟩
    · rw [take_snoc hj, ins_right h2, h1, List.append_assoc]
      congr 1
      unfold insH
      rw [if_pos hd]
      rfl
    · rw [take_snoc hj]; exact List.mem_append_right _ (by simp)
end Go.Proofs.Ytndmnlgancnbkaa
