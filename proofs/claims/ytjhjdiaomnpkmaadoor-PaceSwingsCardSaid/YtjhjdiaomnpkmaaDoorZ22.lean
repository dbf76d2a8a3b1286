/- The landed behind: a ring with a target behind it. -/
import Derived.Test.YtjhjdiaomnpkmaaDoorZL
import Derived.Test.YtjhjdiaomnpkmaaDoorZ00
import Derived.Test.YtjhjdiaomnpkmaaDoorZ01
import Derived.Test.YtjhjdiaomnpkmaaDoorZ02
import Derived.Test.YtjhjdiaomnpkmaaDoorZ03
import Derived.Test.YtjhjdiaomnpkmaaDoorZ04
import Derived.Test.YtjhjdiaomnpkmaaDoorZ08
namespace Go.Proofs.YtjhjdiaomnpkmaaDoor
open Go.RowKit Go.Lib
set_option linter.unusedVariables false
set_option linter.unusedSimpArgs false
theorem int_info15 : (Tryd.prog.info? 3).map (fun i => (i.zero, i.size, i.bytes)) = some (some (.int .i64 0), 1, 8) := by kernel_rfl
theorem one_cell15 (n : Int) : ∀ u ∈ [Value.int .i64 n], u.oneCell' = true := by
  intro u hu; rw [List.mem_singleton] at hu; subst hu; rfl
theorem news15 (w : World) (v : Value) (T : TypeId) : ∀ j u, [v][j]? = some u → (w.alloc (.cells #[v] T)).cell? ((⟨w.heap.size, 0, none⟩ : Addr).add j) = some u := by
  intro j u h
  match j with
  | 0 => injection h with h; subst h; exact (Bk.new w T #[v]).cell 0
  | j + 1 => cases h
/-- Cells that lie from an address on, as numbers. -/
theorem olds15 {w w' : World} {g off : Nat} {L : List Int} (hr : Rel w w') (hc : ∀ i (hi : i < L.length), w.cell? ⟨g, off + i, none⟩ = some (.int .i64 L[i])) : ∀ b : Addr, some (⟨g, off, none⟩ : Addr) = some b → ∀ j u, (L.map fun x => Value.int .i64 x)[j]? = some u → w'.cell? (b.add j) = some u := by
  intro b hb j u hu
  injection hb with hb
  subst hb
  rw [List.getElem?_map] at hu
  by_cases hj : j < L.length
  · rw [List.getElem?_eq_getElem hj] at hu
    injection hu with hu
    subst hu
    have h0 := hc j hj
    have e := (hr.2.cell (p := ⟨g, off + j, none⟩) (by have := blk_of_cell h0; exact this)).trans h0
    rw [addr_at]; exact e
  · rw [List.getElem?_eq_none (by omega)] at hu; cases hu
set_option maxRecDepth 100000 in
set_option maxHeartbeats 4000000 in
theorem lbehind15_0 (A : Option Addr) (k : Nat) (tg : Int) (hz : ∀ u ∈ ([tg] : List Int), i64 u) (hk : 0 ≤ k ∧ k ≤ maxLen) (w : World) (hr : Rel w w) :
    Calls Tryd.prog 12 #[.slice A 0 k, .int .i64 tg] w fun e w' => ∃ A' k', e = .returned (.slice A' 1 k') ∧ Hid (IntsIn w' A' k' [tg]) ∧ Hid (∀ a, A' = some a → w.heap.size ≤ a.block ∧ a.block < w'.heap.size) ∧ Hid (Rel w w') := by
  have HZ := Lib.hid hz
  obtain ⟨hk0, hk1⟩ := hk
  unfold maxLen at hk1
  have HL := Lib.hid (hr.alloc (.cells #[.int .i64 tg] 3))
  obtain ⟨i0, hi, hz0, hz1, hz2⟩ := info_parts int_info15
  clear hr hz
  go_enter Tryd.func12, Tryd.ntmps12
  go_upto_region 3 with (fail)
  go_wp2_with (at_builtin; (refine wpList_append_grows _ rfl (.tmp 17) (.tmp 19) 26 rfl 3 i0 (.int .i64 0) 1 8 Tryd.underlying26 hi hz0 hz1 hz2 rfl (by decide) A 0 0 (([] : List Int).map fun x => Value.int .i64 x) rfl (fun _ => ⟨rfl, rfl⟩) rfl (fun b _ j u hu => by cases hu) ⟨w.heap.size, 0, none⟩ 1 1 [.int .i64 tg] rfl rfl (news15 w (.int .i64 tg) 3) (one_cell15 tg) (by decide) (by decide) (by decide) ?_); intro v' w' hown hgrow)
  have hown2 : w'.ownsRow (w.alloc (.cells #[.int .i64 tg] 3)).heap.size 3 1 v' ([tg] : List Int).length (([tg] : List Int).map fun x => Value.int .i64 x) := hown
  obtain ⟨A', k', rfl, hin, hbl⟩ := row_ints15 hown2 HZ.out
  have HI := Lib.hid hin
  have HB := Lib.hid (fun a ha => (⟨Nat.le_trans (show w.heap.size ≤ (w.alloc (.cells #[.int .i64 tg] 3)).heap.size by rw [World.size_alloc]; omega) (hbl a ha).1, (hbl a ha).2⟩ : w.heap.size ≤ a.block ∧ a.block < w'.heap.size))
  have HR2 := Lib.hid (HL.out.grown hgrow (fun k e => by cases e))
  clear hown hown2 hgrow hin hbl
  go_ret
  exact ⟨A', k', rfl, HI, HB, HR2⟩
set_option maxRecDepth 100000 in
set_option maxHeartbeats 4000000 in
theorem lbehind15_1 (x : Int) (g off : Nat) (k : Nat) (tg : Int) (hz : ∀ u ∈ ([x, tg] : List Int), i64 u) (hk : 1 ≤ k ∧ k ≤ maxLen) (w : World) (hr : Rel w w) (hc : ∀ i (hi : i < ([x] : List Int).length), w.cell? ⟨g, off + i, none⟩ = some (.int .i64 ([x] : List Int)[i])) :
    Calls Tryd.prog 12 #[.slice (some ⟨g, off, none⟩) 1 k, .int .i64 tg] w fun e w' => ∃ A' k', e = .returned (.slice A' 2 k') ∧ Hid (IntsIn w' A' k' [x, tg]) ∧ Hid (∀ a, A' = some a → w.heap.size ≤ a.block ∧ a.block < w'.heap.size) ∧ Hid (Rel w w') := by
  have HZ := Lib.hid hz
  obtain ⟨hk0, hk1⟩ := hk
  unfold maxLen at hk1
  have HL := Lib.hid (hr.alloc (.cells #[.int .i64 tg] 3))
  have HO := Lib.hid (olds15 (L := [x]) HL.out hc)
  obtain ⟨i0, hi, hz0, hz1, hz2⟩ := info_parts int_info15
  clear hr hz hc
  go_enter Tryd.func12, Tryd.ntmps12
  go_upto_region 3 with (fail)
  go_wp2_with (at_builtin; (refine wpList_append_grows _ rfl (.tmp 17) (.tmp 19) 26 rfl 3 i0 (.int .i64 0) 1 8 Tryd.underlying26 hi hz0 hz1 hz2 rfl (by decide) (some ⟨g, off, none⟩) 1 1 (([x] : List Int).map fun x => Value.int .i64 x) rfl (fun e => by cases e) rfl HO.out ⟨w.heap.size, 0, none⟩ 1 1 [.int .i64 tg] rfl rfl (news15 w (.int .i64 tg) 3) (one_cell15 tg) (by decide) (by decide) (by decide) ?_); intro v' w' hown hgrow)
  have hown2 : w'.ownsRow (w.alloc (.cells #[.int .i64 tg] 3)).heap.size 3 1 v' ([x, tg] : List Int).length (([x, tg] : List Int).map fun x => Value.int .i64 x) := hown
  obtain ⟨A', k', rfl, hin, hbl⟩ := row_ints15 hown2 HZ.out
  have HI := Lib.hid hin
  have HB := Lib.hid (fun a ha => (⟨Nat.le_trans (show w.heap.size ≤ (w.alloc (.cells #[.int .i64 tg] 3)).heap.size by rw [World.size_alloc]; omega) (hbl a ha).1, (hbl a ha).2⟩ : w.heap.size ≤ a.block ∧ a.block < w'.heap.size))
  have HR2 := Lib.hid (HL.out.grown hgrow (fun k e => by cases e))
  clear hown hown2 hgrow hin hbl
  go_ret
  exact ⟨A', k', rfl, HI, HB, HR2⟩
set_option maxRecDepth 100000 in
set_option maxHeartbeats 4000000 in
theorem lbehind15_2 (x y : Int) (g off : Nat) (k : Nat) (tg : Int) (hz : ∀ u ∈ ([x, y, tg] : List Int), i64 u) (hk : 2 ≤ k ∧ k ≤ maxLen) (w : World) (hr : Rel w w) (hc : ∀ i (hi : i < ([x, y] : List Int).length), w.cell? ⟨g, off + i, none⟩ = some (.int .i64 ([x, y] : List Int)[i])) :
    Calls Tryd.prog 12 #[.slice (some ⟨g, off, none⟩) 2 k, .int .i64 tg] w fun e w' => ∃ A' k', e = .returned (.slice A' 3 k') ∧ Hid (IntsIn w' A' k' [x, y, tg]) ∧ Hid (∀ a, A' = some a → w.heap.size ≤ a.block ∧ a.block < w'.heap.size) ∧ Hid (Rel w w') := by
  have HZ := Lib.hid hz
  obtain ⟨hk0, hk1⟩ := hk
  unfold maxLen at hk1
  have HL := Lib.hid (hr.alloc (.cells #[.int .i64 tg] 3))
  have HO := Lib.hid (olds15 (L := [x, y]) HL.out hc)
  obtain ⟨i0, hi, hz0, hz1, hz2⟩ := info_parts int_info15
  clear hr hz hc
  go_enter Tryd.func12, Tryd.ntmps12
  go_upto_region 3 with (fail)
  go_wp2_with (at_builtin; (refine wpList_append_grows _ rfl (.tmp 17) (.tmp 19) 26 rfl 3 i0 (.int .i64 0) 1 8 Tryd.underlying26 hi hz0 hz1 hz2 rfl (by decide) (some ⟨g, off, none⟩) 2 2 (([x, y] : List Int).map fun x => Value.int .i64 x) rfl (fun e => by cases e) rfl HO.out ⟨w.heap.size, 0, none⟩ 1 1 [.int .i64 tg] rfl rfl (news15 w (.int .i64 tg) 3) (one_cell15 tg) (by decide) (by decide) (by decide) ?_); intro v' w' hown hgrow)
  have hown2 : w'.ownsRow (w.alloc (.cells #[.int .i64 tg] 3)).heap.size 3 1 v' ([x, y, tg] : List Int).length (([x, y, tg] : List Int).map fun x => Value.int .i64 x) := hown
  obtain ⟨A', k', rfl, hin, hbl⟩ := row_ints15 hown2 HZ.out
  have HI := Lib.hid hin
  have HB := Lib.hid (fun a ha => (⟨Nat.le_trans (show w.heap.size ≤ (w.alloc (.cells #[.int .i64 tg] 3)).heap.size by rw [World.size_alloc]; omega) (hbl a ha).1, (hbl a ha).2⟩ : w.heap.size ≤ a.block ∧ a.block < w'.heap.size))
  have HR2 := Lib.hid (HL.out.grown hgrow (fun k e => by cases e))
  clear hown hown2 hgrow hin hbl
  go_ret
  exact ⟨A', k', rfl, HI, HB, HR2⟩
set_option maxRecDepth 100000 in
set_option maxHeartbeats 4000000 in
theorem lbehind15_3 (x y z : Int) (g off : Nat) (k : Nat) (tg : Int) (hz : ∀ u ∈ ([y, z, tg] : List Int), i64 u) (hk : 3 ≤ k ∧ k ≤ maxLen) (w : World) (hr : Rel w w) (hc : ∀ i (hi : i < ([x, y, z] : List Int).length), w.cell? ⟨g, off + i, none⟩ = some (.int .i64 ([x, y, z] : List Int)[i])) :
    Calls Tryd.prog 12 #[.slice (some ⟨g, off, none⟩) 3 k, .int .i64 tg] w fun e w' => ∃ A' k', e = .returned (.slice A' 3 k') ∧ Hid (IntsIn w' A' k' [y, z, tg]) ∧ Hid (∀ a, A' = some a → w.heap.size ≤ a.block ∧ a.block < w'.heap.size) ∧ Hid (Rel w w') := by
  have HZ := Lib.hid hz
  obtain ⟨hk0, hk1⟩ := hk
  unfold maxLen at hk1
  have HL := Lib.hid (hr.alloc (.cells #[.int .i64 tg] 3))
  have HO := Lib.hid (olds15 (L := [y, z]) (off := off + 1) HL.out (fun i hi => by
    have hi : i < 2 := hi
    have hs : i = 0 ∨ i = 1 := by omega
    rcases hs with rfl | rfl
    · exact hc 1 (by simp)
    · exact hc 2 (by simp)))
  obtain ⟨i0, hi, hz0, hz1, hz2⟩ := info_parts int_info15
  clear hr hz hc
  go_enter Tryd.func12, Tryd.ntmps12
  go_upto_region 3 with (fail)
  go_wp2_with (at_builtin; (refine wpList_append_grows _ rfl (.tmp 17) (.tmp 19) 26 rfl 3 i0 (.int .i64 0) 1 8 Tryd.underlying26 hi hz0 hz1 hz2 rfl (by decide) (some ⟨g, off + 1, none⟩) 2 2 (([y, z] : List Int).map fun x => Value.int .i64 x) rfl (fun e => by cases e) rfl HO.out ⟨w.heap.size, 0, none⟩ 1 1 [.int .i64 tg] rfl rfl (news15 w (.int .i64 tg) 3) (one_cell15 tg) (by decide) (by decide) (by decide) ?_); intro v' w' hown hgrow)
  have hown2 : w'.ownsRow (w.alloc (.cells #[.int .i64 tg] 3)).heap.size 3 1 v' ([y, z, tg] : List Int).length (([y, z, tg] : List Int).map fun x => Value.int .i64 x) := hown
  obtain ⟨A', k', rfl, hin, hbl⟩ := row_ints15 hown2 HZ.out
  have HI := Lib.hid hin
  have HB := Lib.hid (fun a ha => (⟨Nat.le_trans (show w.heap.size ≤ (w.alloc (.cells #[.int .i64 tg] 3)).heap.size by rw [World.size_alloc]; omega) (hbl a ha).1, (hbl a ha).2⟩ : w.heap.size ≤ a.block ∧ a.block < w'.heap.size))
  have HR2 := Lib.hid (HL.out.grown hgrow (fun k e => by cases e))
  clear hown hown2 hgrow hin hbl
  go_ret
  exact ⟨A', k', rfl, HI, HB, HR2⟩
theorem lbehind15_any (L : List Int) (A : Option Addr) (n k : Nat) (hn : L.length = n) (h3 : n ≤ 3) (tg : Int) (ht : i64 tg) (w : World) (hr : Rel w w) (hi : IntsIn w A k L) :
    Calls Tryd.prog 12 #[.slice A n k, .int .i64 tg] w fun e w' => ∃ A' n' k', e = .returned (.slice A' n' k') ∧ (lastR (L ++ [tg])).length = n' ∧ Hid (IntsIn w' A' k' (lastR (L ++ [tg]))) ∧ Hid (∀ a, A' = some a → w.heap.size ≤ a.block ∧ a.block < w'.heap.size) ∧ Hid (Rel w w') := by
  have hk : n ≤ k ∧ k ≤ maxLen := ⟨by rw [← hn]; exact hi.1, hi.2.1⟩
  have hz : ∀ z ∈ lastR (L ++ [tg]), i64 z := fun z hz => by
    rcases List.mem_append.1 (lastR_mem hz) with h | h
    · exact hi.2.2.1 z h
    · rw [List.mem_singleton] at h; subst h; exact ht
  match L, hn with
  | [], hn =>
    obtain rfl : 0 = n := hn
    exact (lbehind15_0 A k tg hz hk w hr).mono fun e w' ⟨A', k', h⟩ => ⟨A', 1, k', h.1, rfl, h.2⟩
  | [x], hn =>
    obtain rfl : 1 = n := hn
    obtain ⟨g, off, rfl, hc⟩ := ints_row hi (by simp)
    exact (lbehind15_1 x g off k tg hz hk w hr hc).mono fun e w' ⟨A', k', h⟩ => ⟨A', 2, k', h.1, rfl, h.2⟩
  | [x, y], hn =>
    obtain rfl : 2 = n := hn
    obtain ⟨g, off, rfl, hc⟩ := ints_row hi (by simp)
    exact (lbehind15_2 x y g off k tg hz hk w hr hc).mono fun e w' ⟨A', k', h⟩ => ⟨A', 3, k', h.1, rfl, h.2⟩
  | [x, y, z], hn =>
    obtain rfl : 3 = n := hn
    obtain ⟨g, off, rfl, hc⟩ := ints_row hi (by simp)
    exact (lbehind15_3 x y z g off k tg hz hk w hr hc).mono fun e w' ⟨A', k', h⟩ => ⟨A', 3, k', h.1, rfl, h.2⟩
  | _ :: _ :: _ :: _ :: _, hn => exact absurd (hn ▸ h3) (by simp)
end Go.Proofs.YtjhjdiaomnpkmaaDoor
