/- strings.Builder's copyCheck, WriteString and WriteByte, at a builder of the call's own; What the landed Text tells; What the landed package code is shown to tell: all that the laws of layer 10 ask of it; The landed tree code: Size; CodeUnlike, over what the program is asked. -/
import Derived.Test.YtldopbkjchgcnaaDoorZ01
import Derived.Test.YtldopbkjchgcnaaDoorZ27
import Derived.Test.YtldopbkjchgcnaaDoorZ21
import Derived.Shelf.Strings.BuilderK
import Derived.Lib.FrozenHead2
import Derived.Test.YtldopbkjchgcnaaDoorZ29
import Derived.Test.YtldopbkjchgcnaaDoorZ18
import Derived.Test.YtldopbkjchgcnaaDoorZ23
import Derived.Test.YtldopbkjchgcnaaDoorZ19
import Derived.Test.YtldopbkjchgcnaaDoorZ10
namespace Go.Proofs.YtldopbkjchgcnaaDoor
open Go.RowKit Go.Lib
set_option linter.unusedVariables false
set_option linter.unusedSimpArgs false

theorem cb_lies : liesAt Tryd.prog Tryd.prog.depth 64 (2 / Tryd.prog.cellsOf 64) 0 64 1 = true := by kernel_rfl
set_option maxRecDepth 100000 in
set_option maxHeartbeats 1000000 in
theorem cb_check_fresh (b : Nat) (w : World) (h0 : w.cell? ⟨b, 0, none⟩ = some (.pointer none)) (hsh : w.shape? b = some (64, 2)) (hfz : w.frozen? ⟨b, 0, none⟩ = false) :
    Calls Tryd.prog 49 #[.pointer (some ⟨b, 0, none⟩)] w fun e w' => e = .returned (.tuple #[]) ∧ w' = w.setCell ⟨b, 0, none⟩ (.pointer (some ⟨b, 0, none⟩)) := by
  obtain ⟨j, hj, hjs⟩ := Option.map_eq_some_iff.1 bld_size
  go_enter Tryd.func49, Tryd.ntmps49
  go_wp2
  rw [Lib.run_to_unsafe w ⟨b, 0, none⟩ Tryd.underlying61 Tryd.underlying91 hj (by rw [hjs]; decide) hsh (Nat.zero_lt_succ 1)]
  simp only [Result.andThen]
  rw [Oper.upon_value]
  go_wp2
  rw [run_callFunc_extern Tryd.func65 (by kernel_rfl) (by kernel_rfl) (by kernel_rfl) (e := Extern.AbiNoEscape.same) (by kernel_rfl)]
  rw [Lib.run_noEscape]
  simp only [Result.andThen]
  rw [Oper.upon_value]
  go_wp2
  rw [Lib.run_from_unsafe w ⟨b, 0, none⟩ Tryd.underlying91 Tryd.underlying61 hj hsh cb_lies]
  simp only [Result.andThen]
  rw [Oper.upon_value]
  go_wp2
  go_end0
  exact ⟨rfl, rfl⟩
theorem cb_check_any (C b : Nat) (bs : List Value) (w : World) (h : Lib.IsBuilderF 64 5 C b bs w) :
    Calls Tryd.prog 49 #[.pointer (some ⟨b, 0, none⟩)] w fun e w' => e = .returned (.tuple #[]) ∧ Lib.BuilderAtF 64 5 C b (.pointer (some ⟨b, 0, none⟩)) bs w' ∧ Below C w w' := by
  rcases h with h | h
  · refine (cb_check_fresh b w h.cell0 h.shape h.frozen0).mono ?_
    rintro e w' ⟨rfl, rfl⟩
    exact ⟨rfl, h.used _, (Below.refl C w).setCell (p := ⟨b, 0, none⟩) h.1 _⟩
  · refine (check_used b w h.cell0).mono ?_
    rintro e w' ⟨rfl, rfl⟩
    exact ⟨rfl, h, Below.refl C _⟩
set_option maxRecDepth 100000 in
set_option maxHeartbeats 2000000 in
theorem cb_put_any (C b : Nat) (bs : List Value) (s : ByteArray) (w : World) (h : Lib.IsBuilderF 64 5 C b bs w) (hlen : bs.length + s.size ≤ 1000000000) (hC : C ≤ w.heap.size) :
    Calls Tryd.prog 31 #[.pointer (some ⟨b, 0, none⟩), .string s] w fun e w' => e = .returned (.tuple #[.int .i64 s.size, .nilIface]) ∧ Lib.IsBuilderF 64 5 C b (bs ++ Lib.strCells s) w' ∧ Below C w w' := by
  obtain ⟨i0, hi, hz0, hz1, hz2⟩ := info_parts byte_info
  go_enter Tryd.func31, Tryd.ntmps31
  go_wp2_with (go_at_call 49; refine (cb_check_any C b bs _ h).mono ?_)
  rintro e w1 ⟨rfl, h1, hb1⟩
  obtain ⟨hB, v, hbk, hown, hne⟩ := h1
  have c0 : w1.cell? ⟨b, 0, none⟩ = some (.pointer (some ⟨b, 0, none⟩)) := by rw [Lib.cell_of_heap hbk]; rfl
  have c1 : w1.cell? ⟨b, 1, none⟩ = some v := by rw [Lib.cell_of_heap hbk]; rfl
  have hs1 := hb1.size
  go_wp2_with (at_builtin; refine Lib.wpList_append_own_stringF _ rfl _ _ 62 9 rfl C 5 i0 Tryd.underlying62 Tryd.underlying9 hi hz0 hz1 hz2 _ _ _ rfl hown s rfl (by unfold maxLen; omega) (by omega) (by omega) ?_)
  intro v' w2 hown' hgrow _
  have hlt : b < w1.heap.size := (Array.getElem?_eq_some_iff.1 hbk).1
  have hb2 : w2.heap[b]? = some (.cells #[.pointer (some ⟨b, 0, none⟩), v] 64 (0, 0)) := by
    rw [hgrow.block b hlt (fun e => hne e.symm)]
    exact hbk
  have d0 : w2.cell? ⟨b, 0, none⟩ = some (.pointer (some ⟨b, 0, none⟩)) := by rw [Lib.cell_of_heap hb2]; rfl
  have d1 : w2.cell? ⟨b, 1, none⟩ = some v := by rw [Lib.cell_of_heap hb2]; rfl
  have f1 : w2.frozen? ⟨b, 1, none⟩ = false := Lib.frozen_of_heap hb2 1
  obtain ⟨ao, n', cap, rfl⟩ : ∃ ao n' cap, v' = .slice ao n' cap := by
    rcases hown'.2 with ⟨hv, _⟩ | ⟨g, cap, cur, fz, hv, _⟩
    · exact ⟨_, _, _, hv⟩
    · exact ⟨_, _, _, hv⟩
  go_wp2
  go_ret2
  refine ⟨rfl, .inr ?_, ?_⟩
  · exact Lib.BuilderAtF.put (T := 64) (e := 5) hB hb2 (bs' := bs ++ Lib.strCells s) (by simpa [Lib.strCells_length] using hown') (by decide)
  · exact (hb1.grown hgrow (by omega) (fun k hk => (hown.lt k hk).1)).setCell (p := ⟨b, 1, none⟩) hB _
set_option maxRecDepth 100000 in
set_option maxHeartbeats 2000000 in
theorem cb_byte_any (C b : Nat) (bs : List Value) (c : Int) (w : World) (h : Lib.IsBuilderF 64 5 C b bs w) (hlen : bs.length + 1 ≤ 1000000000) (hC : C ≤ w.heap.size) :
    Calls Tryd.prog 33 #[.pointer (some ⟨b, 0, none⟩), .int .u8 c] w fun e w' => e = .returned .nilIface ∧ Lib.IsBuilderF 64 5 C b (bs ++ [.int .u8 c]) w' ∧ Below C w w' := by
  obtain ⟨i0, hi, hz0, hz1, hz2⟩ := info_parts byte_info
  go_enter Tryd.func33, Tryd.ntmps33
  go_wp2_with (go_at_call 49; refine (cb_check_any C b bs _ h).mono ?_)
  rintro e w1 ⟨rfl, h1, hb1⟩
  obtain ⟨hB, v, hbk, hown, hne⟩ := h1
  have c0 : w1.cell? ⟨b, 0, none⟩ = some (.pointer (some ⟨b, 0, none⟩)) := by rw [Lib.cell_of_heap hbk]; rfl
  have c1 : w1.cell? ⟨b, 1, none⟩ = some v := by rw [Lib.cell_of_heap hbk]; rfl
  have hs1 := hb1.size
  go_wp2_with (at_builtin; refine wpList_append_ownF _ rfl _ _ 62 rfl C 5 i0 (.int .u8 0) 1 1 Tryd.underlying62 hi hz0 hz1 hz2 rfl (by decide) _ _ _ rfl (hown.alloc _) ⟨w1.heap.size, 0, none⟩ 1 1 [.int .u8 c] rfl rfl (World.news_of_block (Bk.new w1 5 #[.int .u8 c])) (by intro u hu; simp at hu; subst hu; rfl) (by unfold maxLen; omega) (by omega) (by simp; omega) ?_)
  intro v' w2 hown' hgrow _
  have hlt : b < w1.heap.size := (Array.getElem?_eq_some_iff.1 hbk).1
  have hb2 : w2.heap[b]? = some (.cells #[.pointer (some ⟨b, 0, none⟩), v] 64 (0, 0)) := by
    rw [hgrow.block b (by rw [World.size_alloc]; omega) (fun e => hne e.symm)]
    exact (Below.heap_alloc w1 _ b hlt).trans hbk
  have d0 : w2.cell? ⟨b, 0, none⟩ = some (.pointer (some ⟨b, 0, none⟩)) := by rw [Lib.cell_of_heap hb2]; rfl
  have d1 : w2.cell? ⟨b, 1, none⟩ = some v := by rw [Lib.cell_of_heap hb2]; rfl
  have f1 : w2.frozen? ⟨b, 1, none⟩ = false := Lib.frozen_of_heap hb2 1
  obtain ⟨ao, n', cap, rfl⟩ : ∃ ao n' cap, v' = .slice ao n' cap := by
    rcases hown'.2 with ⟨hv, _⟩ | ⟨g, cap, cur, fz, hv, _⟩
    · exact ⟨_, _, _, hv⟩
    · exact ⟨_, _, _, hv⟩
  go_wp2
  go_ret
  refine ⟨rfl, .inr ?_, ?_⟩
  · exact Lib.BuilderAtF.put (T := 64) (e := 5) hB hb2 (bs' := bs ++ [.int .u8 c]) (by simpa using hown') (by decide)
  · exact ((hb1.alloc (by omega) _).grown hgrow (by rw [World.size_alloc]; omega) (fun k hk => (hown.lt k hk).1)).setCell (p := ⟨b, 1, none⟩) hB _
theorem cb_rel {T e : TypeId} {C b : Nat} {bs : List Value} {w w' : World} (h : Lib.IsBuilderF T e C b bs w) (hr : Rel w w') : Lib.IsBuilderF T e C b bs w' := by
  have one : ∀ {p : Value}, Lib.BuilderAtF T e C b p bs w → Lib.BuilderAtF T e C b p bs w' := by
    rintro p ⟨hB, v, hb, hown, hne⟩
    have hlt : b < w.heap.size := (Array.getElem?_eq_some_iff.1 hb).1
    exact ⟨hB, v, (hr.2.block b hlt).trans hb, hown.kept (row := none) ⟨hr.2.os, hr.2.tape, hr.2.output, hr.2.size, fun k hk _ => hr.2.block k hk⟩ (by cases v.ownBlock <;> simp), hne⟩
  exact h.elim (fun x => .inl (one x)) (fun x => .inr (one x))
/-- A builder of the call's own in block b: what is written. -/
def Bd (w : World) (C b : Nat) (l : List UInt8) : Prop := Lib.IsBuilderF 64 5 C b (Lib.byteCells l) w
theorem Bd.rel {w w' : World} {C b : Nat} {l : List UInt8} (h : Bd w C b l) (hr : Rel w w') : Bd w' C b l := cb_rel h hr
theorem Bd.new (w : World) (C : Nat) (hC : C ≤ w.heap.size) : Bd (w.alloc (.cells #[.pointer none, .slice none 0 0] 64)) C w.heap.size [] :=
  .inl ⟨hC, _, Bk.new w _ _, World.ownsRowF_nil _ _ _ _, by simp [Value.ownBlock]⟩
theorem bwrite_any (b : Nat) (l m : List UInt8) (s : ByteArray) (hm : Hid (l ++ s.data.toList = m)) (hl : l.length + s.size ≤ 1000000000) (w0 w : World) (hr : Rel w0 w) (h : Bd w w0.heap.size b l) :
    Calls Tryd.prog 31 #[.pointer (some ⟨b, 0, none⟩), .string s] w fun e w' => e = .returned (.tuple #[.int .i64 s.size, .nilIface]) ∧ Bd w' w0.heap.size b m ∧ Rel w0 w' := by
  refine (cb_put_any w0.heap.size b _ s w h (by rw [Lib.byteCells_length]; omega) hr.2.size).mono ?_
  rintro e w' ⟨rfl, h1, h2⟩
  rw [Lib.strCells_eq, ← Lib.byteCells_append, hm.out] at h1
  exact ⟨rfl, h1, ⟨hr.1, hr.2.trans h2⟩⟩
theorem bbyte_any (b : Nat) (l m : List UInt8) (c : UInt8) (ci : Int) (hc : Hid ((c.toNat : Int) = ci)) (hm : Hid (l ++ [c] = m)) (hl : l.length + 1 ≤ 1000000000) (w0 w : World) (hr : Rel w0 w) (h : Bd w w0.heap.size b l) :
    Calls Tryd.prog 33 #[.pointer (some ⟨b, 0, none⟩), .int .u8 ci] w fun e w' => e = .returned .nilIface ∧ Bd w' w0.heap.size b m ∧ Rel w0 w' := by
  refine (cb_byte_any w0.heap.size b _ ci w h (by rw [Lib.byteCells_length]; omega) hr.2.size).mono ?_
  rintro e w' ⟨rfl, h1, h2⟩
  have e1 : Lib.byteCells l ++ [Value.int .u8 ci] = Lib.byteCells m := by
    rw [← hm.out, Lib.byteCells_append, ← hc.out]; rfl
  rw [e1] at h1
  exact ⟨rfl, h1, ⟨hr.1, hr.2.trans h2⟩⟩
theorem btold_any (b : Nat) (l : List UInt8) (s : ByteArray) (hs : Hid (B l = s)) (w0 w : World) (hr : Rel w0 w) (h : Bd w w0.heap.size b l) :
    Calls Tryd.prog 34 #[.pointer (some ⟨b, 0, none⟩)] w fun e w' => e = .returned (.string s) ∧ Rel w0 w' := by
  refine (Tryd.Builder_String_any_k w0.heap.size b l w h hr.2.size).mono ?_
  rintro e w' ⟨rfl, h1, h2, _⟩
  exact ⟨by rw [← hs.out]; rfl, ⟨hr.1, hr.2.trans h2⟩⟩
end Go.Proofs.YtldopbkjchgcnaaDoor

namespace Go.Proofs.YtldopbkjchgcnaaDoor
open Go.RowKit Go.Lib
set_option linter.unusedVariables false
set_option linter.unusedSimpArgs false

def LineOp (o : Int) (Wd : ByteArray) (H M : Int) : Prop := ∀ (n : Int) (nm : List UInt8), i64 n → (wordO o ++ tailO o n nm).length ≤ 1000000000 → ∀ w0 w, Rel w0 w →
    Calls Tryd.prog 32 #[.agg #[.string Wd, .int .i64 H, .int .i64 M], .agg #[.int .i64 o, .int .i64 n, .string (B nm)]] w fun r w' => r = .returned (.string (B (wordO o ++ tailO o n nm))) ∧ Rel w0 w'
theorem itoa_short (n : Int) (h : i64 n) : (itoa n).length ≤ 100 := by
  obtain ⟨h0, h1⟩ := h
  have h : (num n).size ≤ 41 := by
    by_cases hn : 0 ≤ n
    · have := num_size n hn h1; omega
    · by_cases hb : n = -9223372036854775808
      · subst hb
        rw [← num_low (-9223372036854775808) 922337203685477580 8 (by omega) (by omega) (by omega) (by omega) (by omega), ByteArray.size_append, ByteArray.size_append]
        have z1 := dd_size 922337203685477580 (by omega)
        have z2 := dd_size 8 (by omega)
        have z3 : (⟨#[45]⟩ : ByteArray).size = 1 := rfl
        omega
      · rw [← num_neg n (by omega), ByteArray.size_append]
        have z1 := dd_size (-n) (by omega)
        have z3 : (⟨#[45]⟩ : ByteArray).size = 1 := rfl
        omega
  unfold num at h
  rw [B_size] at h
  omega
theorem word_out {o : Int} (h : ¬ (1 ≤ o ∧ o ≤ 13)) (n : Int) (nm : List UInt8) : wordO o ++ tailO o n nm = [63] := by
  have e : wordO o = [63] := by
    unfold wordO
    rw [if_neg (by omega), if_neg (by omega), if_neg (by omega), if_neg (by omega), if_neg (by omega), if_neg (by omega), if_neg (by omega), if_neg (by omega), if_neg (by omega), if_neg (by omega), if_neg (by omega), if_neg (by omega), if_neg (by omega)]
  have e2 : numO o = false := by
    unfold numO
    simp only [Bool.or_eq_false_iff, beq_eq_false_iff_ne]
    omega
  unfold tailO
  simp only [e, e2]
  rw [if_neg (by decide), if_neg (by omega)]; rfl
theorem ops_line (o : Int) : ∃ (Wd : ByteArray) (H M : Int), (look opsL o).getD noOp = .agg #[.string Wd, .int .i64 H, .int .i64 M] ∧ LineOp o Wd H M := by
  rcases ops_ways o with h | rfl | rfl | rfl | rfl | rfl | rfl | rfl | rfl | rfl | rfl | rfl | rfl | rfl
  · refine ⟨⟨#[]⟩, 0, 0, by rw [ops_none h]; rfl, fun n nm hn hz w0 w hr => ?_⟩
    have e := word_out h n nm
    refine str_at _ (line_none o n nm w0 w hr) (Lib.hid ?_)
    rw [e]; rfl
  · exact ⟨B [112, 117, 115, 104], 1, 1000000000000, rfl, fun n nm hn hz w0 w hr => str_at _ (line_num1 [112, 117, 115, 104] 1000000000000 1 n nm (by decide) (by decide) hn (itoa_short n hn) w0 w hr) (Lib.hid rfl)⟩
  · exact ⟨B [108, 111, 119, 101, 115, 116], 0, 0, rfl, fun n nm hn hz w0 w hr => str_at _ (line_bare [108, 111, 119, 101, 115, 116] 0 0 2 n nm (by decide) rfl rfl rfl w0 w hr) (Lib.hid (by rw [show wordO 2 ++ tailO 2 n nm = [108, 111, 119, 101, 115, 116] from List.append_nil _]))⟩
  · exact ⟨B [115, 101, 99, 111, 110, 100], 0, 0, rfl, fun n nm hn hz w0 w hr => str_at _ (line_bare [115, 101, 99, 111, 110, 100] 0 0 3 n nm (by decide) rfl rfl rfl w0 w hr) (Lib.hid (by rw [show wordO 3 ++ tailO 3 n nm = [115, 101, 99, 111, 110, 100] from List.append_nil _]))⟩
  · exact ⟨B [102, 114, 111, 109], 3, 0, rfl, fun n nm hn hz w0 w hr => str_at _ (line_name [102, 114, 111, 109] 0 4 n nm (by decide) (by decide) (by have e : wordO 4 ++ tailO 4 n nm = [102, 114, 111, 109] ++ 32 :: nm := rfl; rw [e] at hz; simp at hz; omega) w0 w hr) (Lib.hid rfl)⟩
  · exact ⟨B [108, 101, 115, 115], 1, 1000000000000, rfl, fun n nm hn hz w0 w hr => str_at _ (line_num1 [108, 101, 115, 115] 1000000000000 5 n nm (by decide) (by decide) hn (itoa_short n hn) w0 w hr) (Lib.hid rfl)⟩
  · exact ⟨B [99, 117, 116], 1, 100000, rfl, fun n nm hn hz w0 w hr => str_at _ (line_num1 [99, 117, 116] 100000 6 n nm (by decide) (by decide) hn (itoa_short n hn) w0 w hr) (Lib.hid rfl)⟩
  · exact ⟨B [109, 105, 110], 0, 0, rfl, fun n nm hn hz w0 w hr => str_at _ (line_bare [109, 105, 110] 0 0 7 n nm (by decide) rfl rfl rfl w0 w hr) (Lib.hid (by rw [show wordO 7 ++ tailO 7 n nm = [109, 105, 110] from List.append_nil _]))⟩
  · exact ⟨B [109, 97, 120], 0, 0, rfl, fun n nm hn hz w0 w hr => str_at _ (line_bare [109, 97, 120] 0 0 8 n nm (by decide) rfl rfl rfl w0 w hr) (Lib.hid (by rw [show wordO 8 ++ tailO 8 n nm = [109, 97, 120] from List.append_nil _]))⟩
  · exact ⟨B [101, 108, 115, 101], 2, 0, rfl, fun n nm hn hz w0 w hr => str_at _ (line_num2 [101, 108, 115, 101] 0 9 n nm (by decide) (by decide) hn (itoa_short n hn) w0 w hr) (Lib.hid rfl)⟩
  · exact ⟨B [109, 111, 114, 101], 1, 1000, rfl, fun n nm hn hz w0 w hr => str_at _ (line_num1 [109, 111, 114, 101] 1000 10 n nm (by decide) (by decide) hn (itoa_short n hn) w0 w hr) (Lib.hid rfl)⟩
  · exact ⟨B [97, 98, 111, 118, 101], 0, 0, rfl, fun n nm hn hz w0 w hr => str_at _ (line_bare [97, 98, 111, 118, 101] 0 0 11 n nm (by decide) rfl rfl rfl w0 w hr) (Lib.hid (by rw [show wordO 11 ++ tailO 11 n nm = [97, 98, 111, 118, 101] from List.append_nil _]))⟩
  · exact ⟨B [117, 110, 108, 101, 115, 115], 2, 0, rfl, fun n nm hn hz w0 w hr => str_at _ (line_num2 [117, 110, 108, 101, 115, 115] 0 12 n nm (by decide) (by decide) hn (itoa_short n hn) w0 w hr) (Lib.hid rfl)⟩
  · exact ⟨B [106, 117, 109, 112], 2, 0, rfl, fun n nm hn hz w0 w hr => str_at _ (line_num2 [106, 117, 109, 112] 0 13 n nm (by decide) (by decide) hn (itoa_short n hn) w0 w hr) (Lib.hid rfl)⟩
theorem text_step (l : List In) (j : Nat) (h : j < l.length) (o n : Int) (nm : List UInt8) (ho : l[j] = (o, n, nm)) : textC (l.take j) ++ (wordO o ++ tailO o n nm) ++ [10] = textC (l.take (j + 1)) ∧ (textC (l.take j)).length + (wordO o ++ tailO o n nm).length + 1 ≤ (textC l).length := by
  have e : textC (l.take j) ++ (wordO o ++ tailO o n nm) ++ [10] = textC (l.take (j + 1)) := by
    rw [textC_take l j h, ho, lineT]; simp
  refine ⟨e, ?_⟩
  have := textC_le l (j + 1)
  rw [← e, List.length_append, List.length_append] at this
  simpa using this
set_option maxRecDepth 100000 in
set_option maxHeartbeats 8000000 in
theorem ctext_any : CTextOk := fun A c l w0 w hb hr h => by
  have HR := Lib.hid hr
  have HS := Lib.hid hr.self
  have HA := Lib.hid h.2.2.2
  have HF := Lib.hid h.2.2.1
  have HBd := Lib.hid hb
  have hl : l.length ≤ 9223372036854775807 := by have := h.1; have := h.2.1; unfold maxLen at this; omega
  clear h hr hb
  go_enter Tryd.func14, Tryd.ntmps14
  go_wp2_with (go_at_call 30; (with_reducible refine (operations_any w _ HS.out).mono ?_); rintro e w1 ⟨q, rfl, hq, m1, r1, _⟩)
  have HM := Lib.hid m1
  have HR1 := Lib.hid r1
  have HN := Lib.hid (Bd.new w1 w1.heap.size (Nat.le_refl _))
  have HW1 := Lib.hid (r1.self.alloc (.cells #[.pointer none, .slice none 0 0] 64))
  clear m1 r1
  go_loopw [10] (fun i wr => ∃ j : Nat, j ≤ l.length ∧ i = .int .i64 (j : Int) ∧ Hid (Bd wr w1.heap.size w1.heap.size (textC (l.take j))) ∧ Rel w1 wr) (fun i _ => l.length - (RowKit.intOf i).toNat)
  case atStart => exact ⟨0, by omega, rfl, HN, HW1.out⟩
  case round =>
    obtain ⟨i, hi, rfl, HD, hRw⟩ := hrel
    have HRw := Lib.hid hRw
    by_cases hlt : i < l.length
    · obtain ⟨g, off, o, n, nm, rfl, c0, c1, c2, ho⟩ := ins_at HA.out (HR1.out.trans hRw) i hlt
      have hfo := HF.out _ (List.getElem_mem hlt)
      rw [ho] at hfo
      obtain ⟨hof, hnf, _⟩ := hfo
      obtain ⟨hst, hsz⟩ := text_step l i hlt o n nm ho
      have hbd := HBd.out
      obtain ⟨Wd, H, M, hv, hline⟩ := ops_line o
      have lk := ops_run (((HM.out.rel hRw).alloc (.cells #[.int .i64 o, .int .i64 n, .string (B nm)] 44))) o hof hv
      have HX := Lib.hid ((Bk.new wr 44 #[.int .i64 o, .int .i64 n, .string (B nm)]))
      have HRa := Lib.hid (hRw.alloc (.cells #[.int .i64 o, .int .i64 n, .string (B nm)] 44))
      obtain ⟨⟨x0, x1, x2⟩, _⟩ := three_of HX.out
      have HC := Lib.hid (hline n nm hnf (by omega) (wr.alloc (.cells #[.int .i64 o, .int .i64 n, .string (B nm)] 44)) _ HRa.out.self)
      have HDa := Lib.hid (HD.out.rel (hRw.self.alloc (.cells #[.int .i64 o, .int .i64 n, .string (B nm)] 44)))
      have hz1 : (textC (l.take i)).length + (B (wordO o ++ tailO o n nm)).size ≤ 1000000000 := by rw [B_size]; omega
      have hz2 : (textC (l.take i) ++ (wordO o ++ tailO o n nm)).length + 1 ≤ 1000000000 := by rw [List.length_append]; omega
      have HE1 := Lib.hid (show textC (l.take i) ++ (B (wordO o ++ tailO o n nm)).data.toList = textC (l.take i) ++ (wordO o ++ tailO o n nm) by rw [B_list])
      have HE2 := Lib.hid hst
      clear ho hRw hst hsz hbd hline
      go_wp2_with (first
        | (go_at_call 32; (with_reducible refine HC.out.mono ?_); rintro e w2 ⟨rfl, r2⟩; have R2 := Lib.hid (HRa.out.trans r2); have D2 := Lib.hid (HDa.out.rel r2))
        | (go_at_call 31; (with_reducible refine (bwrite_any w1.heap.size _ _ _ HE1 hz1 w1 _ R2.out D2.out).mono ?_); rintro e w3 ⟨rfl, d3, r3⟩)
        | (go_at_call 33; (with_reducible refine (bbyte_any w1.heap.size _ _ 10 10 (Lib.hid rfl) HE2 hz2 w1 _ r3 d3).mono ?_); rintro e w4 ⟨rfl, d4, r4⟩))
      go_roundw
      case rel => exact ⟨i + 1, by omega, by go_num, Lib.hid d4, r4⟩
      case measure => simp [RowKit.intOf]; omega
    · obtain rfl : i = l.length := by omega
      rw [List.take_length] at HD
      clear hRw
      go_wp2_with (go_at_call 34; (with_reducible refine (btold_any w1.heap.size _ _ (Lib.hid rfl) w1 _ HRw.out HD.out).mono ?_); rintro e w2 ⟨rfl, r2⟩)
      go_ret
      exact ⟨rfl, HR.out.trans (HR1.out.trans r2)⟩
end Go.Proofs.YtldopbkjchgcnaaDoor

namespace Go.Proofs.YtldopbkjchgcnaaDoor
open Go.RowKit Go.Lib
set_option linter.unusedVariables false
set_option linter.unusedSimpArgs false

theorem codeProOk : CodeOk := ⟨compile_any, cright_any, ctext_any⟩
end Go.Proofs.YtldopbkjchgcnaaDoor

namespace Go.Proofs.YtldopbkjchgcnaaDoor
open Go.RowKit Go.Lib
set_option linter.unusedVariables false
set_option linter.unusedSimpArgs false

set_option maxRecDepth 100000 in
set_option maxHeartbeats 2000000 in
theorem tsize_any : ∀ (x : Ex) (S : Nat → Prop) (e : El) (w0 w : World), Rel w0 w → ExAt S w e x → size x ≤ 1000000 →
    Calls Tryd.prog 19 #[EV e] w fun r w' => r = .returned (.int .i64 (size x : Int)) ∧ Rel w0 w' := ex_ind fun k n nm l ih S e w0 w hr h hz => by
  obtain ⟨A, c, es, rfl, hk, hn, hm, hl, hrow, hsub⟩ := h.open
  have HRow := Lib.hid hrow
  have HSub := Lib.hid hsub
  have HIH := Lib.hid (fun j hj => ih _ (List.getElem_mem (l := l) (n := j) hj))
  have HR := Lib.hid hr
  rw [size_mk] at hz
  have HZ := Lib.hid (size_mk k n nm l)
  have hll : l.length ≤ 1000000 := by have := len_le l; omega
  have HA := Lib.hid (hr.self.alloc (.cells #[.int .i64 k, .int .i64 n, .string (B nm), .slice A l.length c] 27))
  obtain ⟨W, hW⟩ : ∃ W, w.alloc (.cells #[.int .i64 k, .int .i64 n, .string (B nm), .slice A l.length c] 27) = W := ⟨_, rfl⟩
  rw [hW] at HA
  have HW := Lib.hid hW
  clear hrow hsub ih h hW
  go_enter Tryd.func19, Tryd.ntmps19
  go_wp2_with (fail)
  rw [HW.out]
  go_loopw [3, 9] (fun n i wr => ∃ j : Nat, j ≤ l.length ∧ i = .int .i64 (j : Int) ∧ Hid (n = .int .i64 ((1 + sizes (l.take j) : Nat) : Int)) ∧ Rel W wr) (fun _ i _ => l.length - (RowKit.intOf i).toNat)
  case atStart => exact ⟨0, by omega, rfl, Lib.hid (by simp [sizes_nil]), (HR.out.trans HA.out).self⟩
  case round =>
    obtain ⟨j, hj, rfl, HN, hRw⟩ := hrel
    obtain ⟨q, hq⟩ : ∃ q : Nat, 1 + sizes (l.take j) = q := ⟨_, rfl⟩
    have hn' := HN.out
    rw [hq] at hn'
    subst hn'
    have HQ := Lib.hid hq
    have HRw := Lib.hid hRw
    clear hq
    by_cases hlt : j < l.length
    · obtain ⟨g, off, k', n', nm', A', m', c', hA, a0, a1, a2, a3, ha⟩ := ExAt.arg HRow.out HSub.out hl (HA.out.trans hRw) j hlt
      subst hA
      have hsz : size l[j] + q ≤ 1000000 := by
        have e1 := sizes_take l j hlt
        have e2 : sizes (l.take (j + 1)) ≤ sizes l := by
          have : sizes l = sizes (l.take (j + 1)) + sizes (l.drop (j + 1)) := by rw [← sizes_append, List.take_append_drop]
          omega
        have := HQ.out; omega
      obtain ⟨sj, hsj⟩ : ∃ s, size l[j] = s := ⟨_, rfl⟩
      have HNx := Lib.hid (show 1 + sizes (l.take (j + 1)) = q + sj by rw [sizes_take l j hlt, hsj]; have := HQ.out; omega)
      rw [hsj] at hsz
      have HB := Lib.hid (((HR.out.trans HA.out).trans hRw).self.alloc (.cells #[.int .i64 k', .int .i64 n', .string (B nm'), .slice A' m' c'] 27))
      have HC := Lib.hid (HIH.out j hlt S (k', n', nm', A', m', c') _ _ HB.out.self (ha.rel HB.out) (by rw [hsj]; omega))
      rw [hsj] at HC
      clear ha hsj
      go_wp2_with (go_at_call 19; (with_reducible refine HC.out.mono ?_); rintro e w2 ⟨rfl, h2⟩)
      go_roundw
      case rel => exact ⟨j + 1, by omega, by go_num, Lib.hid (by rw [HNx.out]; go_num), (HRw.out.trans HB.out).trans h2⟩
      case measure => simp [RowKit.intOf]; omega
    · obtain rfl : j = l.length := by omega
      have HF := Lib.hid (show size (.mk k n nm l) = q by have := HQ.out; rw [List.take_length] at this; rw [size_mk, this])
      go_wp2_with (fail)
      go_ret
      exact ⟨ret_int (by rw [HF.out]), (HR.out.trans HA.out).trans HRw.out⟩
theorem treeSizeOk : SizeOk := fun x S e w0 w hr h hz => tsize_any x S e w0 w hr h (by omega)
end Go.Proofs.YtldopbkjchgcnaaDoor

namespace Go.Proofs.YtldopbkjchgcnaaDoor
open Go.RowKit Go.Lib
set_option linter.unusedVariables false
set_option linter.unusedSimpArgs false

theorem text_fits {l : List In} (h : codeOk l = true) : (textC l).length ≤ 1000000000 := by
  have hl := (codeOk_iff.1 h).1
  have key : ∀ (m : List In) (p len : Nat), GoodC len p m → len ≤ 5000 → (textC m).length ≤ 100 * m.length := by
    intro m
    induction m with
    | nil => intro p len _ _; simp [textC]
    | cons t r ih =>
      intro p len hg hlen
      have h0 := hg 0 (by simp)
      simp only [List.getElem_cons_zero] at h0
      obtain ⟨p1, p2, p3, p4, _⟩ := inOk_parts h0
      have hm : t.2.1 ≤ 1000000000000 := by
        unfold inOk mostO at h0
        simp only [Bool.and_eq_true, decide_eq_true_eq] at h0
        have := h0.1.2.2
        split at this
        · omega
        · split at this
          · omega
          · split at this
            · omega
            · split at this <;> omega
      have h2 := ih (p + 1) len (fun i hi => by
        have := hg (i + 1) (by simpa using hi)
        rwa [show p + (i + 1) = p + 1 + i by omega] at this) hlen
      have hi := itoa_len p2 hm
      have hw : (wordO t.1).length ≤ 6 := by
        have : t.1 = 1 ∨ t.1 = 2 ∨ t.1 = 3 ∨ t.1 = 4 ∨ t.1 = 5 ∨ t.1 = 6 ∨ t.1 = 7 ∨ t.1 = 8 ∨ t.1 = 9 ∨ t.1 = 10 ∨ t.1 = 11 ∨ t.1 = 12 ∨ t.1 = 13 := by omega
        rcases this with e | e | e | e | e | e | e | e | e | e | e | e | e <;> rw [e] <;> decide
      have hn : t.2.2.length ≤ 12 := by
        by_cases e : t.1 = 4
        · exact (name_parts (p3 e)).2.2.1
        · rw [p4 e]; simp
      have ht : (tailO t.1 t.2.1 t.2.2).length ≤ 20 := by
        unfold tailO
        split
        · simp; omega
        · split
          · simp; omega
          · simp
      rw [textC, List.length_append, List.length_cons]
      unfold lineT
      simp only [List.length_append, List.length_cons, List.length_nil]
      omega
  have := key l 0 l.length (codeOk_good h) hl
  omega
set_option maxRecDepth 100000 in
set_option maxHeartbeats 8000000 in
theorem CodeUnlike_at (H : CodeOk) (HT : RightOk) (A : Option Addr) (c : Nat) (L : List Int) (A' : Option Addr) (c' : Nat) (L' : List Int) (w : World) (hr : Rel w w) (hi : IntsIn w A c L) (hi' : IntsIn w A' c' L') :
    Calls Tryd.prog 5 #[.slice A L.length c, .slice A' L'.length c'] w fun e w' => e = .returned (.bool true) ∧ Rel w w' := by
  have H := Lib.hid H
  have HR := Lib.hid hr
  have HI0 := Lib.hid hi
  have HI1 := Lib.hid hi'
  have HT := Lib.hid HT
  have hS := fun (w0 w : World) (hr : Rel w0 w) (h : IntsIn w A c L) => strat_any A c L w0 w hr h
  have hS' := fun (w0 w : World) (hr : Rel w0 w) (h : IntsIn w A' c' L') => strat_any A' c' L' w0 w hr h
  have zx := strat_size L
  have zy := strat_size L'
  generalize strat L = x at *
  generalize strat L' = y at *
  have HSt := Lib.hid hS
  have HSt' := Lib.hid hS'
  clear hi hi' hS hS' hr
  go_enter Tryd.func5, Tryd.ntmps5
  go_upto_region 3 with (first
    | (go_at_call 8; (with_reducible refine (awake10_any H.out _ _ HR.out).mono ?_); rintro e1 w1 ⟨rfl, h1⟩; have R1 := Lib.hid h1)
    | (go_at_call 9; (with_reducible refine (HSt.out _ _ R1.out (HI0.out.rel R1.out)).mono ?_); rintro e2 w2 ⟨vx, rfl, ex, h2⟩; have R2 := Lib.hid h2))
  have RA := Lib.hid (R2.out.alloc (.cells #[.int .i64 vx.1, .int .i64 vx.2.1, .string (B vx.2.2.1), .slice vx.2.2.2.1 vx.2.2.2.2.1 vx.2.2.2.2.2] 27))
  have HB := Lib.hid (Bk.new w2 27 #[.int .i64 vx.1, .int .i64 vx.2.1, .string (B vx.2.2.1), .slice vx.2.2.2.1 vx.2.2.2.2.1 vx.2.2.2.2.2])
  have EX := Lib.hid ((ex.rel (R2.out.self.alloc (.cells #[.int .i64 vx.1, .int .i64 vx.2.1, .string (B vx.2.2.1), .slice vx.2.2.2.1 vx.2.2.2.2.1 vx.2.2.2.2.2] 27))).weak (S' := fun _ => True) (fun _ _ => trivial))
  obtain ⟨W, hW⟩ : ∃ W, w2.alloc (.cells #[.int .i64 vx.1, .int .i64 vx.2.1, .string (B vx.2.2.1), .slice vx.2.2.2.1 vx.2.2.2.2.1 vx.2.2.2.2.2] 27) = W := ⟨_, rfl⟩
  rw [hW] at RA HB EX ⊢
  clear hW ex h1 h2
  go_upto_region 4 with (go_at_call 9; (with_reducible refine (HSt'.out _ _ RA.out.self (HI1.out.rel RA.out)).mono ?_); rintro e3 w3 ⟨vy, rfl, ey, h3⟩; have R3 := Lib.hid h3)
  have RB := Lib.hid (R3.out.alloc (.cells #[.int .i64 vy.1, .int .i64 vy.2.1, .string (B vy.2.2.1), .slice vy.2.2.2.1 vy.2.2.2.2.1 vy.2.2.2.2.2] 27))
  have HB2 := Lib.hid (Bk.new w3 27 #[.int .i64 vy.1, .int .i64 vy.2.1, .string (B vy.2.2.1), .slice vy.2.2.2.1 vy.2.2.2.2.1 vy.2.2.2.2.2])
  have EY := Lib.hid ((ey.rel (R3.out.self.alloc (.cells #[.int .i64 vy.1, .int .i64 vy.2.1, .string (B vy.2.2.1), .slice vy.2.2.2.1 vy.2.2.2.2.1 vy.2.2.2.2.2] 27))).weak (S' := fun _ => True) (fun _ _ => trivial))
  obtain ⟨V, hV⟩ : ∃ V, w3.alloc (.cells #[.int .i64 vy.1, .int .i64 vy.2.1, .string (B vy.2.2.1), .slice vy.2.2.2.1 vy.2.2.2.2.1 vy.2.2.2.2.2] 27) = V := ⟨_, rfl⟩
  rw [hV] at RB HB2 EY ⊢
  clear hV ey h3
  obtain ⟨⟨x0, x1, x2, x3⟩, _⟩ := (HB.out.rel RB.out).four
  obtain ⟨⟨y0, y1, y2, y3⟩, _⟩ := HB2.out.four
  have EX2 := Lib.hid (EX.out.rel RB.out)
  have RV := Lib.hid (HR.out.trans (RA.out.trans RB.out))
  obtain ⟨l, hl⟩ : ∃ l, codX x = l := ⟨_, rfl⟩
  obtain ⟨m, hm⟩ : ∃ m, codX y = m := ⟨_, rfl⟩
  obtain ⟨n, hn⟩ : ∃ n, l.length = n := ⟨_, rfl⟩
  obtain ⟨n', hn'⟩ : ∃ n, m.length = n := ⟨_, rfl⟩
  have HFl := Lib.hid (show InsFit l by rw [← hl]; exact codX_fit x)
  have HFm := Lib.hid (show InsFit m by rw [← hm]; exact codX_fit y)
  have hC := fun (w' : World) (hh : Rel V w') => HT.out x _ vx w' w' hh.self (EX2.out.rel hh) (by omega)
  have hC' := fun (w' : World) (hh : Rel V w') => HT.out y _ vy w' w' hh.self (EY.out.rel hh) (by omega)
  obtain ⟨b, hb⟩ : ∃ b, rightX x = b := ⟨_, rfl⟩
  obtain ⟨b', hb'⟩ : ∃ b, rightX y = b := ⟨_, rfl⟩
  rw [hb] at hC
  rw [hb'] at hC'
  have HC := Lib.hid hC
  have HC' := Lib.hid hC'
  cases b with
  | false =>
    have Q := Lib.hid (show codX x = l ∧ l.length = n ∧ codR x = 1 from ⟨hl, hn, (codX_no hb).2⟩)
    obtain ⟨er, her⟩ : ∃ er, codR y = er := ⟨_, rfl⟩
    have Q' := Lib.hid (show codX y = m ∧ m.length = n' ∧ codR y = er from ⟨hm, hn', her⟩)
    clear hC hC' hb hb' hl hm hn hn' her
    go_wp2_with (first
      | (go_at_call 11; (with_reducible refine (compile_as H.out x l n 1 Q _ vx _ _ RB.out.self EX2.out (by omega) _ (Lib.hid rfl)).mono ?_); rintro e w4 ⟨A4, a4, rfl, o4, h4⟩; have R4 := Lib.hid h4; obtain ⟨⟨u0, u1, u2, u3⟩, _⟩ := (HB2.out.rel h4).four)
      | (go_at_call 11; (with_reducible refine (compile_as H.out y m n' er Q' _ vy _ _ R4.out.self (EY.out.rel R4.out) (by omega) _ (Lib.hid rfl)).mono ?_); rintro e w5 ⟨A5, a5, rfl, o5, h5⟩; have R5 := Lib.hid (R4.out.trans h5); obtain ⟨⟨v0, v1, v2, v3⟩, _⟩ := (HB.out.rel (RB.out.trans R5.out)).four)
      | (go_at_call 18; (with_reducible refine (HC.out _ R5.out).mono ?_); rintro e w6 ⟨rfl, h6⟩))
    go_ret
    exact ⟨rfl, RV.out.trans (R5.out.trans h6)⟩
  | true =>
    have Q := Lib.hid (show codX x = l ∧ l.length = n ∧ codR x = 0 from ⟨hl, hn, (codX_yes hb).2⟩)
    cases b' with
    | false =>
      have Q' := Lib.hid (show codX y = m ∧ m.length = n' ∧ codR y = 1 from ⟨hm, hn', (codX_no hb').2⟩)
      clear hC hC' hb hb' hl hm hn hn'
      go_wp2_with (first
        | (go_at_call 11; (with_reducible refine (compile_as H.out x l n 0 Q _ vx _ _ RB.out.self EX2.out (by omega) _ (Lib.hid rfl)).mono ?_); rintro e w4 ⟨A4, a4, rfl, o4, h4⟩; have R4 := Lib.hid h4; obtain ⟨⟨u0, u1, u2, u3⟩, _⟩ := (HB2.out.rel h4).four)
        | (go_at_call 11; (with_reducible refine (compile_as H.out y m n' 1 Q' _ vy _ _ R4.out.self (EY.out.rel R4.out) (by omega) _ (Lib.hid rfl)).mono ?_); rintro e w5 ⟨A5, a5, rfl, o5, h5⟩; have R5 := Lib.hid (R4.out.trans h5); obtain ⟨⟨v0, v1, v2, v3⟩, _⟩ := (HB.out.rel (RB.out.trans R5.out)).four)
        | (go_at_call 18; (with_reducible refine (HC.out _ R5.out).mono ?_); rintro e w6 ⟨rfl, h6⟩; have R6 := Lib.hid (R5.out.trans h6); obtain ⟨⟨t0, t1, t2, t3⟩, _⟩ := (HB2.out.rel R6.out).four)
        | (go_at_call 18; (with_reducible refine (HC'.out _ R6.out).mono ?_); rintro e w7 ⟨rfl, h7⟩))
      go_ret
      exact ⟨rfl, RV.out.trans (R6.out.trans h7)⟩
    | true =>
      have Q' := Lib.hid (show codX y = m ∧ m.length = n' ∧ codR y = 0 from ⟨hm, hn', (codX_yes hb').2⟩)
      obtain ⟨i1, i2⟩ := code_inj hb hb'
      rw [← (codX_yes hb).1, ← (codX_yes hb').1, hl, hm] at i1 i2
      obtain ⟨s, hs⟩ : ∃ s : Bool, s = true ↔ x = y := by
        by_cases e : x = y
        · exact ⟨true, by simp [e]⟩
        · exact ⟨false, by simp [e]⟩
      have k1 : codeOk l = true := by rw [← hl]; exact (codX_code x hb).1
      have k2 : codeOk m = true := by rw [← hm]; exact (codX_code y hb').1
      have h5l := (codeOk_iff.1 k1).1
      have h5m := (codeOk_iff.1 k2).1
      have HSm := Lib.hid (show s = true ↔ l = m from hs.trans i1.symm)
      obtain ⟨T, hT⟩ : ∃ T, B (textC l) = T := ⟨_, rfl⟩
      obtain ⟨T', hT'⟩ : ∃ T, B (textC m) = T := ⟨_, rfl⟩
      have HTx := Lib.hid (show B (textC l) = T ∧ l.length = n ∧ (textC l).length ≤ 1000000000 from ⟨hT, hn, text_fits k1⟩)
      have HTy := Lib.hid (show B (textC m) = T' ∧ m.length = n' ∧ (textC m).length ≤ 1000000000 from ⟨hT', hn', text_fits k2⟩)
      have hTT : (T.toList == T'.toList) = s := by
        rw [← hT, ← hT', B_toList, B_toList]
        by_cases e : x = y
        · rw [i2.2 e, hs.2 e]; simp
        · have : textC l ≠ textC m := fun h => e (i2.1 h)
          have hsf : s = false := by cases s with
            | false => rfl
            | true => exact absurd (hs.1 rfl) e
          rw [hsf]; simpa using this
      have hSame := fun (w' : World) (hh : Rel V w') => rsame_any x y _ _ vx vy s w' w' hh.self (EX2.out.rel hh) (EY.out.rel hh) (by omega) (by omega) (Lib.hid hs)
      have HSame := Lib.hid hSame
      have hsa := fun (A A' : Option Addr) (c c' : Nat) (w0 w : World) (hr : Rel w0 w) (h : InsAt w A l) (h' : InsAt w A' m) => rsame10_any A A' c c' l m s HSm (by omega) (by omega) w0 w hr h h'
      rw [hn, hn'] at hsa
      have HSa := Lib.hid hsa
      have ss : (s == s) = true := by cases s <;> rfl
      clear hC hC' hb hb' hl hm hn hn' i1 i2 hs k1 k2 hT hT' hSame hsa
      go_upto_region 8 with (first
        | (go_at_call 11; (with_reducible refine (compile_as H.out x l n 0 Q _ vx _ _ RB.out.self EX2.out (by omega) _ (Lib.hid rfl)).mono ?_); rintro e w4 ⟨A4, a4, rfl, o4, h4⟩; have R4 := Lib.hid h4; have O4 := Lib.hid o4; obtain ⟨⟨u0, u1, u2, u3⟩, _⟩ := (HB2.out.rel h4).four)
        | (go_at_call 11; (with_reducible refine (compile_as H.out y m n' 0 Q' _ vy _ _ R4.out.self (EY.out.rel R4.out) (by omega) _ (Lib.hid rfl)).mono ?_); rintro e w5 ⟨A5, a5, rfl, o5, h5⟩; have R5 := Lib.hid (R4.out.trans h5); have O5 := Lib.hid o5; have O45 := Lib.hid (O4.out.rel h5)))
      have I4 := Lib.hid (show InsArg w5 A4 a4 l from InsOwn.arg (by rw [Q.out.2.1]; exact O45.out) HFl.out)
      have I5 := Lib.hid (show InsArg w5 A5 a5 m from InsOwn.arg (by rw [Q'.out.2.1]; exact O5.out) HFm.out)
      obtain ⟨⟨v0, v1, v2, v3⟩, _⟩ := (HB.out.rel (RB.out.trans R5.out)).four
      obtain ⟨⟨t0, t1, t2, t3⟩, _⟩ := (HB2.out.rel R5.out).four
      have T4 := Lib.hid I4.out.2.2.2
      have T5 := Lib.hid I5.out.2.2.2
      clear o4 o5 h4 h5
      go_wp2_with (first
        | (go_at_call 21; (with_reducible refine (HSame.out _ R5.out).mono ?_); rintro e w6 ⟨rfl, h6⟩; have R6 := Lib.hid h6)
        | (go_at_call 13; (with_reducible refine (HSa.out A4 A5 a4 a5 _ _ R6.out.self (T4.out.rel R6.out) (T5.out.rel R6.out)).mono ?_); rintro e w7 ⟨rfl, h7⟩; have R7 := Lib.hid (R6.out.trans h7))
        | (go_at_call 14; (with_reducible refine (ctext_as H.out l n T HTx A4 a4 _ _ R7.out.self (I4.out.rel R7.out)).mono ?_); rintro e w8 ⟨rfl, h8⟩; have R8 := Lib.hid (R7.out.trans h8))
        | (go_at_call 14; (with_reducible refine (ctext_as H.out m n' T' HTy A5 a5 _ _ R8.out.self (I5.out.rel R8.out)).mono ?_); rintro e w9 ⟨rfl, h9⟩; have R9 := Lib.hid (R8.out.trans h9)))
      go_ret
      exact ⟨by simp [hTT], RV.out.trans (R5.out.trans R9.out)⟩
end Go.Proofs.YtldopbkjchgcnaaDoor
