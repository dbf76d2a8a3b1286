/- The builder that is embedded in the printer: what is written, how much it is, and its text; The printer's call: a word, the arguments, what stands behind them. -/
import Derived.Test.YtjhjdiaomnpkmaaDoorZL
import Derived.Test.YtjhjdiaomnpkmaaDoorZ00
import Derived.Test.YtjhjdiaomnpkmaaDoorZ01
import Derived.Test.YtjhjdiaomnpkmaaDoorZ03
import Derived.Test.YtjhjdiaomnpkmaaDoorZ15
namespace Go.Proofs.YtjhjdiaomnpkmaaDoor
open Go.RowKit Go.Lib
set_option linter.unusedVariables false
set_option linter.unusedSimpArgs false
theorem bld_size : (Tryd.prog.info? 75).map (·.size) = some 2 := by kernel_rfl
theorem prt_lies : liesAt Tryd.prog Tryd.prog.depth 77 (3 / Tryd.prog.cellsOf 77) 0 75 1 = true := by kernel_rfl
theorem byte_info : (Tryd.prog.info? 5).map (fun i => (i.zero, i.size, i.bytes)) = some (some (.int .u8 0), 1, 1) := by kernel_rfl
/-- The printer in block b, of the call's own: what it has written, how many calls stand open. -/
def PrAt (C b : Nat) (p : Value) (l : List UInt8) (d : Nat) (w : World) : Prop :=
  C ≤ b ∧ ∃ v, Bk w b 77 #[p, v, .int .i64 (d : Int)] ∧ w.ownsRowF C 5 1 v l.length (Lib.byteCells l) ∧ v.ownBlock ≠ some b
def Pr (C b : Nat) (l : List UInt8) (d : Nat) (w : World) : Prop := PrAt C b (.pointer none) l d w ∨ PrAt C b (.pointer (some ⟨b, 0, none⟩)) l d w
/-- Every block but the printer's, and but rows of bytes, stands as it stood. -/
def Kp (b : Nat) (w w' : World) : Prop := Lib.OthersKept 5 (some b) w w'
theorem Kp.refl (b : Nat) (w : World) : Kp b w w := Lib.OthersKept.refl _ _ w
theorem Kp.trans {b : Nat} {w w' w'' : World} (h : Kp b w w') (h' : Kp b w' w'') : Kp b w w'' := Lib.OthersKept.trans h h'
theorem Kp.alloc {b : Nat} {w w' : World} (h : Kp b w w') (o : Obj) : Kp b w (w'.alloc o) := Lib.OthersKept.alloc h o
theorem Kp.bk {b : Nat} {w w' : World} (h : Kp b w w') {g : Nat} {t : TypeId} {cs : Array Value} (hb : Bk w g t cs) (hne : g ≠ b) (ht : t ≠ 5) : Bk w' g t cs :=
  h g _ hb (fun e => hne (by injection e)) (fun c fz e => ht (by injection e))
theorem PrAt.lt {C b : Nat} {p : Value} {l : List UInt8} {d : Nat} {w : World} (h : PrAt C b p l d w) : b < w.heap.size := by
  obtain ⟨_, v, hb, _⟩ := h
  exact hb.lt
theorem Pr.lt {C b : Nat} {l : List UInt8} {d : Nat} {w : World} (h : Pr C b l d w) : b < w.heap.size := h.elim PrAt.lt PrAt.lt
theorem Pr.le {C b : Nat} {l : List UInt8} {d : Nat} {w : World} (h : Pr C b l d w) : C ≤ b := h.elim (·.1) (·.1)
theorem PrAt.alloc {C b : Nat} {p : Value} {l : List UInt8} {d : Nat} {w : World} (h : PrAt C b p l d w) (o : Obj) : PrAt C b p l d (w.alloc o) := by
  obtain ⟨hC, v, hb, hown, hne⟩ := h
  exact ⟨hC, v, hb.alloc o, hown.kept (World.grownBy_alloc w o none) (by cases hv : v.ownBlock <;> simp), hne⟩
theorem Pr.alloc {C b : Nat} {l : List UInt8} {d : Nat} {w : World} (h : Pr C b l d w) (o : Obj) : Pr C b l d (w.alloc o) := h.elim (fun x => .inl (x.alloc o)) (fun x => .inr (x.alloc o))
theorem Pr.drew {C b : Nat} {l : List UInt8} {d : Nat} {w : World} (h : Pr C b l d w) : Pr C b l d w.drew := h
/-- What only grows elsewhere leaves the printer alone. -/
theorem PrAt.rel {C b : Nat} {p : Value} {l : List UInt8} {d : Nat} {w w' : World} (h : PrAt C b p l d w) (hr : Rel w w') : PrAt C b p l d w' := by
  obtain ⟨hC, v, hb, hown, hne⟩ := h
  refine ⟨hC, v, hb.rel hr, ?_, hne⟩
  exact hown.kept (row := none) ⟨hr.2.os, hr.2.tape, hr.2.output, hr.2.size, fun k hk _ => hr.2.block k hk⟩ (by cases hv : v.ownBlock <;> simp)
theorem Pr.rel {C b : Nat} {l : List UInt8} {d : Nat} {w w' : World} (h : Pr C b l d w) (hr : Rel w w') : Pr C b l d w' := h.elim (fun x => .inl (x.rel hr)) (fun x => .inr (x.rel hr))
theorem prt_ne : (77 : TypeId) ≠ 5 := by decide
theorem PrAt.put {C b : Nat} {p v' v0 : Value} {l : List UInt8} {d : Nat} {w : World} (hC : C ≤ b) (hb : Bk w b 77 #[p, v0, .int .i64 (d : Int)]) (hown : w.ownsRowF C 5 1 v' l.length (Lib.byteCells l)) : PrAt C b p l d (w.setCell ⟨b, 1, none⟩ v') := by
  have hne := Lib.ownBlock_neF hown hb prt_ne
  refine ⟨hC, v', hb.set_ 1 v', ?_, hne⟩
  exact hown.kept (row := some b) ⟨rfl, rfl, rfl, by simp [World.setCell], fun k _ hk => Below.heap_setCell _ _ _ _ (fun e => hk (by simp [e]))⟩ (Or.inr hne)
theorem PrAt.used {C b : Nat} {p : Value} {l : List UInt8} {d : Nat} {w : World} (h : PrAt C b p l d w) (q : Value) : PrAt C b q l d (w.setCell ⟨b, 0, none⟩ q) := by
  obtain ⟨hC, v, hb, hown, hne⟩ := h
  refine ⟨hC, v, hb.set_ 0 q, ?_, hne⟩
  exact hown.kept (row := some b) ⟨rfl, rfl, rfl, by simp [World.setCell], fun k _ hk => Below.heap_setCell _ _ _ _ (fun e => hk (by simp [e]))⟩ (Or.inr hne)
theorem PrAt.open {C b : Nat} {p : Value} {l : List UInt8} {d e : Nat} {w : World} (h : PrAt C b p l d w) : PrAt C b p l e (w.setCell ⟨b, 2, none⟩ (.int .i64 (e : Int))) := by
  obtain ⟨hC, v, hb, hown, hne⟩ := h
  refine ⟨hC, v, hb.set_ 2 _, ?_, hne⟩
  exact hown.kept (row := some b) ⟨rfl, rfl, rfl, by simp [World.setCell], fun k _ hk => Below.heap_setCell _ _ _ _ (fun e => hk (by simp [e]))⟩ (Or.inr hne)
theorem Pr.open {C b : Nat} {l : List UInt8} {d : Nat} {w : World} (h : Pr C b l d w) (e : Nat) : Pr C b l e (w.setCell ⟨b, 2, none⟩ (.int .i64 (e : Int))) := h.elim (fun x => .inl x.open) (fun x => .inr x.open)
theorem Pr.cells {C b : Nat} {l : List UInt8} {d : Nat} {w : World} (h : Pr C b l d w) : ∃ p A c, w.cell? ⟨b, 0, none⟩ = some p ∧ w.cell? ⟨b, 1, none⟩ = some (.slice A l.length c) ∧ w.cell? ⟨b, 2, none⟩ = some (.int .i64 (d : Int)) ∧ w.frozen? ⟨b, 2, none⟩ = false := by
  obtain ⟨p, hC, v, hb, hown, hne⟩ : ∃ p, PrAt C b p l d w := h.elim (fun h => ⟨_, h⟩) (fun h => ⟨_, h⟩)
  obtain ⟨A, c, rfl⟩ : ∃ A c, v = .slice A l.length c := by
    rcases hown.2 with ⟨rfl, h0⟩ | ⟨g, cap, cur, fz, rfl, _⟩
    · exact ⟨none, 0, by rw [h0]⟩
    · exact ⟨_, _, rfl⟩
  exact ⟨p, A, c, by rw [hb.cell]; rfl, by rw [hb.cell]; rfl, by rw [hb.cell]; rfl, hb.frozen 2⟩
set_option maxRecDepth 100000 in
set_option maxHeartbeats 1000000 in
theorem check_used (b : Nat) (w : World) (h0 : w.cell? ⟨b, 0, none⟩ = some (.pointer (some ⟨b, 0, none⟩))) :
    Calls Tryd.prog 76 #[.pointer (some ⟨b, 0, none⟩)] w fun e w' => e = .returned (.tuple #[]) ∧ w' = w := by
  obtain ⟨j, hj, _⟩ := Option.map_eq_some_iff.1 bld_size
  go_enter Tryd.func76, Tryd.ntmps76
  go_wp2
  rw [Lib.run_neq_ptr_same w _ Tryd.underlying72 hj]
  go_wp2
  go_end0
  exact ⟨rfl, rfl⟩
set_option maxRecDepth 100000 in
set_option maxHeartbeats 1000000 in
theorem check_fresh (b : Nat) (w : World) (h0 : w.cell? ⟨b, 0, none⟩ = some (.pointer none)) (hsh : w.shape? b = some (77, 3)) (hfz : w.frozen? ⟨b, 0, none⟩ = false) :
    Calls Tryd.prog 76 #[.pointer (some ⟨b, 0, none⟩)] w fun e w' => e = .returned (.tuple #[]) ∧ w' = w.setCell ⟨b, 0, none⟩ (.pointer (some ⟨b, 0, none⟩)) := by
  obtain ⟨j, hj, hjs⟩ := Option.map_eq_some_iff.1 bld_size
  go_enter Tryd.func76, Tryd.ntmps76
  go_wp2
  rw [Lib.run_to_unsafe w ⟨b, 0, none⟩ Tryd.underlying72 Tryd.underlying114 hj (by rw [hjs]; decide) hsh (Nat.zero_lt_succ 2)]
  simp only [Result.andThen]
  rw [Oper.upon_value]
  go_wp2
  rw [run_callFunc_extern Tryd.func81 (by kernel_rfl) (by kernel_rfl) (by kernel_rfl) (e := Extern.AbiNoEscape.same) (by kernel_rfl)]
  rw [Lib.run_noEscape]
  simp only [Result.andThen]
  rw [Oper.upon_value]
  go_wp2
  rw [Lib.run_from_unsafe w ⟨b, 0, none⟩ Tryd.underlying114 Tryd.underlying72 hj hsh prt_lies]
  simp only [Result.andThen]
  rw [Oper.upon_value]
  go_wp2
  go_end0
  exact ⟨rfl, rfl⟩
theorem check_any (C b : Nat) (l : List UInt8) (d : Nat) (w : World) (h : Pr C b l d w) :
    Calls Tryd.prog 76 #[.pointer (some ⟨b, 0, none⟩)] w fun e w' => e = .returned (.tuple #[]) ∧ PrAt C b (.pointer (some ⟨b, 0, none⟩)) l d w' ∧ Below C w w' ∧ Kp b w w' := by
  rcases h with h | h
  · have h' := h
    obtain ⟨hC, v, hb, hown, hne⟩ := h'
    refine (check_fresh b w (by rw [hb.cell]; rfl) (by unfold Bk at hb; simp [World.shape?, hb]) (hb.frozen 0)).mono ?_
    rintro e w' ⟨rfl, rfl⟩
    exact ⟨rfl, h.used _, (Below.refl C w).setCell (p := ⟨b, 0, none⟩) hC _, (Lib.OthersKept.refl _ _ w).setCell ⟨b, 0, none⟩ rfl _⟩
  · have h' := h
    obtain ⟨hC, v, hb, hown, hne⟩ := h'
    refine (check_used b w (by rw [hb.cell]; rfl)).mono ?_
    rintro e w' ⟨rfl, rfl⟩
    exact ⟨rfl, h, Below.refl C _, Kp.refl _ _⟩
set_option maxRecDepth 100000 in
set_option maxHeartbeats 2000000 in
theorem write_as (b : Nat) (l : List UInt8) (d : Nat) (s : ByteArray) (M : List UInt8) (hM : Hid (l ++ s.data.toList = M)) (hlen : l.length + s.size ≤ 1000000) (w0 w : World) (hr : Rel w0 w) (h : Pr w0.heap.size b l d w) :
    Calls Tryd.prog 64 #[.pointer (some ⟨b, 0, none⟩), .string s] w fun e w' => e = .returned (.tuple #[.int .i64 s.size, .nilIface]) ∧ Pr w0.heap.size b M d w' ∧ Rel w0 w' ∧ Kp b w w' := by
  obtain ⟨i0, hi, hz0, hz1, hz2⟩ := info_parts byte_info
  have hCw := hr.size
  have HR := Lib.hid hr
  go_enter Tryd.func64, Tryd.ntmps64
  go_wp2_with (go_at_call 76; refine (check_any w0.heap.size b l d _ h).mono ?_)
  rintro e w1 ⟨rfl, h1, hb1, hk1⟩
  obtain ⟨hC, v, hbk, hown, hne⟩ := h1
  have c0 : w1.cell? ⟨b, 0, none⟩ = some (.pointer (some ⟨b, 0, none⟩)) := by rw [hbk.cell]; rfl
  have c1 : w1.cell? ⟨b, 1, none⟩ = some v := by rw [hbk.cell]; rfl
  have hs1 := hb1.size
  have hbl : (Lib.byteCells l).length = l.length := Lib.byteCells_length l
  go_wp2_with (at_builtin; refine Lib.wpList_append_own_stringF _ rfl _ _ 73 9 rfl w0.heap.size 5 i0 Tryd.underlying73 Tryd.underlying9 hi hz0 hz1 hz2 _ _ _ rfl hown s rfl (by unfold maxLen; omega) (by omega) (by omega) ?_)
  intro v' w2 hown' hgrow _
  have hlt : b < w1.heap.size := hbk.lt
  have hb2 : Bk w2 b 77 #[.pointer (some ⟨b, 0, none⟩), v, .int .i64 (d : Int)] := hbk.grown hgrow (fun e => hne e.symm)
  have d0 : w2.cell? ⟨b, 0, none⟩ = some (.pointer (some ⟨b, 0, none⟩)) := by rw [hb2.cell]; rfl
  have d1 : w2.cell? ⟨b, 1, none⟩ = some v := by rw [hb2.cell]; rfl
  have f1 : w2.frozen? ⟨b, 1, none⟩ = false := hb2.frozen 1
  obtain ⟨ao, n', cap, rfl⟩ : ∃ ao n' cap, v' = .slice ao n' cap := by
    rcases hown'.2 with ⟨hv, _⟩ | ⟨g, cap, cur, fz, hv, _⟩
    · exact ⟨_, _, _, hv⟩
    · exact ⟨_, _, _, hv⟩
  go_wp2
  go_ret2
  have hbelow := (hb1.grown hgrow (by omega) (fun k hk => (hown.lt k hk).1)).setCell (p := ⟨b, 1, none⟩) hC (.slice ao n' cap)
  refine ⟨rfl, .inr ?_, ⟨HR.out.1, HR.out.2.trans hbelow⟩, ?_⟩
  · refine PrAt.put hC hb2 ?_
    rw [← hM.out, Lib.byteCells_append, List.length_append]
    have e : s.data.toList.length = s.size := by simp
    rw [e]
    exact hown'
  · exact (Lib.OthersKept.grown hk1 hgrow (Lib.ownsRowF_kind hown)).setCell ⟨b, 1, none⟩ rfl _
set_option maxRecDepth 100000 in
theorem plen_any (b : Nat) (l : List UInt8) (d : Nat) (C : Nat) (w : World) (h : Pr C b l d w) :
    Calls Tryd.prog 65 #[.pointer (some ⟨b, 0, none⟩)] w fun e w' => e = .returned (.int .i64 (l.length : Int)) ∧ w = w' := by
  obtain ⟨p, A, c, c0, c1, c2, _⟩ := h.cells
  go_enter Tryd.func65, Tryd.ntmps65
  go_wp2_with (fail)
  go_ret
  exact ⟨rfl, rfl⟩
set_option maxRecDepth 100000 in
set_option maxHeartbeats 2000000 in
theorem put_as (b : Nat) (l : List UInt8) (d : Nat) (s : ByteArray) (M : List UInt8) (hM : Hid (l ++ s.data.toList = M)) (hlen : l.length + s.size ≤ 1000000) (t : Bool) (ht : Hid (decide (M.length ≤ 2000) = t)) (w0 w : World) (hr : Rel w0 w) (h : Pr w0.heap.size b l d w) :
    Calls Tryd.prog 49 #[.pointer (some ⟨b, 0, none⟩), .string s] w fun e w' => e = .returned (.bool t) ∧ Pr w0.heap.size b M d w' ∧ Rel w0 w' ∧ Kp b w w' := by
  have HP := Lib.hid h
  have HR := Lib.hid hr
  have HT := Lib.hid (show decide ((M.length : Int) ≤ 2000) = t by rw [← ht.out]; exact decide_eq_decide.2 (by omega))
  go_enter Tryd.func49, Tryd.ntmps49
  go_wp2_with (first
    | (go_at_call 64; (with_reducible refine (write_as b l d s M hM hlen _ _ HR.out HP.out).mono ?_); rintro e w1 ⟨rfl, p1, r1, k1⟩)
    | (go_at_call 65; (with_reducible refine (plen_any b M d _ _ p1).mono ?_); rintro e w' ⟨rfl, rfl⟩))
  all_goals
    go_ret
    exact ⟨ret_bool HT.out, p1, r1, k1⟩
set_option maxRecDepth 100000 in
set_option maxHeartbeats 2000000 in
theorem string_any (b : Nat) (l : List UInt8) (d : Nat) (w0 w : World) (hr : Rel w0 w) (h : Pr w0.heap.size b l d w) (h0 : l ≠ []) :
    Calls Tryd.prog 33 #[.pointer (some ⟨b, 0, none⟩)] w fun e w' => e = .returned (.string (B l)) ∧ Rel w0 w' := by
  obtain ⟨p, hC, v, hbk, hown, hne⟩ : ∃ p, PrAt w0.heap.size b p l d w := h.elim (fun h => ⟨_, h⟩) (fun h => ⟨_, h⟩)
  have hl0 : l.length ≠ 0 := by simpa using h0
  have HR := Lib.hid hr
  obtain ⟨g, cap, cur, fz, rfl, hbg, hg, hfz, hnc, hcm, hcs, htake⟩ : ∃ g cap cur fz, v = .slice (some ⟨g, 0, none⟩) l.length cap ∧ w0.heap.size ≤ g ∧ w.heap[g]? = some (.cells cur 5 fz) ∧ fz.2 ≤ l.length * 1 ∧ l.length ≤ cap ∧ cap ≤ maxLen ∧ cur.size = cap * 1 ∧ cur.toList.take (l.length * 1) = Lib.byteCells l := by
    rcases hown.2 with ⟨_, hz⟩ | ⟨g, cap, cur, fz, hv, r⟩
    · exact absurd hz hl0
    · exact ⟨g, cap, cur, fz, hv, r⟩
  have c1 : w.drew.cell? ⟨b, 1, none⟩ = some (.slice (some ⟨g, 0, none⟩) l.length cap) := by rw [hbk.drew.cell]; rfl
  have hSD : (Builtin.unsafeSliceData_ #[73] 95 #[.slice (some ⟨g, 0, none⟩) l.length cap]).run Tryd.prog w.drew = .ok (.pointer (some ⟨g, 0, none⟩)) w.drew :=
    Lib.run_unsafeSliceData_row _ _ _ _ _ _ (by omega)
  have hUS : (Builtin.unsafeString_ #[95, 3] 9 #[.pointer (some ⟨g, 0, none⟩), .int .i64 l.length]).run Tryd.prog w.drew = .ok (.string ⟨l.toArray⟩) (w.drew.freeze ⟨g, 0, none⟩ l.length) := by
    refine Lib.run_unsafeString_row w.drew 95 3 9 5 Tryd.underlying95 (by kernel_rfl) g cur.size (by have hg' : w.drew.heap[g]? = some (.cells cur 5 fz) := hg; simp [World.shape?, hg']) l h0 (by omega) (by unfold maxLen at hcm; omega) ?_
    intro j x hx
    have := hown.cells (g := g) rfl j (.int .u8 x.toNat) (by simp [Lib.byteCells, hx])
    exact this
  have HF := Lib.hid (show Rel w0 (w.drew.freeze ⟨g, 0, none⟩ l.length) from ⟨hr.1, hr.2.trans (Lib.below_freeze (Below.drew (Below.refl w0.heap.size w)) (p := ⟨g, 0, none⟩) hbg _)⟩)
  clear h hr hown hbk htake
  have mixed : Tryd.prog.follows .mixedOrders = true := by kernel_rfl
  go_enter Tryd.func33, Tryd.ntmps33
  go_wp2
  go_region_o
  all_goals (go_wp2; go_ret; exact ⟨rfl, HF.out⟩)
end Go.Proofs.YtjhjdiaomnpkmaaDoor

namespace Go.Proofs.YtjhjdiaomnpkmaaDoor
open Go.RowKit Go.Lib
set_option linter.unusedVariables false
set_option linter.unusedSimpArgs false

/-! A call's text, piece by piece: plain mathematics. -/
/-- What stands ahead of a piece: a bracket at the first one, then commas. -/
def btw (first : Bool) : List UInt8 := if first then [40] else [44, 32]
def glue (first : Bool) : List (List UInt8) → List UInt8
  | [] => []
  | p :: t => btw first ++ (p ++ glue false t)
theorem glue_append (a b : List (List UInt8)) : ∀ first, glue first (a ++ b) = glue first a ++ glue (first && a.isEmpty) b := by
  induction a with
  | nil => intro first; simp [glue]
  | cons p t ih =>
    intro first
    rw [List.cons_append, glue, glue, ih]
    simp
theorem glue_one (first : Bool) (p : List UInt8) : glue first [p] = btw first ++ p := by simp [glue]
theorem glue_snoc (a : List (List UInt8)) (p : List UInt8) : glue true (a ++ [p]) = glue true a ++ (btw a.isEmpty ++ p) := by
  rw [glue_append, glue_one, Bool.true_and]
theorem glue_le (a b : List (List UInt8)) (first : Bool) : (glue first a).length ≤ (glue first (a ++ b)).length := by
  rw [glue_append, List.length_append]; omega
theorem btw_le (first : Bool) : (btw first).length ≤ 2 := by cases first <;> decide
theorem len_two {α : Type} {l : List α} (h : l.length = 2) : ∃ a b, l = [a, b] := by
  match l, h with
  | [a, b], _ => exact ⟨a, b, rfl⟩
theorem len_three {α : Type} {l : List α} (h : l.length = 3) : ∃ a b c, l = [a, b, c] := by
  match l, h with
  | [a, b, c], _ => exact ⟨a, b, c, rfl⟩
/-- What stands behind the arguments. -/
def beh (k n : Int) (nm : List UInt8) : List (List UInt8) := if k = 3 then [nm] else if k = 5 then [txt n] else if k = 6 ∨ k = 11 then [itoa n] else []
theorem text_glue {k n : Int} {nm : List UInt8} {l : List Ex} (hl : argsN k = (l.length : Int)) (h1 : k ≠ 1) (h2 : k ≠ 2) (h4 : k ≠ 4) : text (.mk k n nm l) = wordK k ++ (glue true (l.map text ++ beh k n nm) ++ [41]) := by
  have hk : k = 3 ∨ k = 5 ∨ k = 6 ∨ k = 7 ∨ k = 8 ∨ k = 9 ∨ k = 10 ∨ k = 11 ∨ k = 12 := by
    unfold argsN at hl
    split at hl
    · omega
    · split at hl
      · omega
      · split at hl
        · omega
        · split at hl
          · omega
          · omega
  rw [text_mk, if_neg h4, if_neg (by omega)]
  congr 1
  rcases hk with rfl | rfl | rfl | rfl | rfl | rfl | rfl | rfl | rfl
  · obtain rfl : l = [] := List.length_eq_zero_iff.1 (by simp [argsN] at hl; omega)
    simp [texts_nil, tailK, beh, glue, btw]
  · obtain ⟨a, rfl⟩ : ∃ a, l = [a] := List.length_eq_one_iff.1 (by simp [argsN] at hl; omega)
    simp [texts_cons, mores_nil, tailK, beh, glue, btw]
  · obtain ⟨a, rfl⟩ : ∃ a, l = [a] := List.length_eq_one_iff.1 (by simp [argsN] at hl; omega)
    simp [texts_cons, mores_nil, tailK, beh, glue, btw]
  · obtain ⟨a, b, rfl⟩ : ∃ a b, l = [a, b] := len_two (by simp [argsN] at hl; omega)
    simp [texts_cons, mores_nil, mores_cons, tailK, beh, glue, btw]
  · obtain ⟨a, b, rfl⟩ : ∃ a b, l = [a, b] := len_two (by simp [argsN] at hl; omega)
    simp [texts_cons, mores_nil, mores_cons, tailK, beh, glue, btw]
  · obtain ⟨a, b, rfl⟩ : ∃ a b, l = [a, b] := len_two (by simp [argsN] at hl; omega)
    simp [texts_cons, mores_nil, mores_cons, tailK, beh, glue, btw]
  · obtain ⟨a, b, c, rfl⟩ : ∃ a b c, l = [a, b, c] := len_three (by simp [argsN] at hl; omega)
    simp [texts_cons, mores_nil, mores_cons, tailK, beh, glue, btw]
  · obtain rfl : l = [] := List.length_eq_zero_iff.1 (by simp [argsN] at hl; omega)
    simp [texts_nil, tailK, beh, glue, btw]
  · obtain ⟨a, b, rfl⟩ : ∃ a b, l = [a, b] := len_two (by simp [argsN] at hl; omega)
    simp [texts_cons, mores_nil, mores_cons, tailK, beh, glue, btw]
theorem text_leaf (k n : Int) (nm : List UInt8) (l : List Ex) (h : k = 1 ∨ k = 2) : text (.mk k n nm l) = wordK k := by
  rw [text_mk, if_neg (by omega), if_pos h]
theorem text_four (n : Int) (nm : List UInt8) (l : List Ex) : text (.mk 4 n nm l) = txt n := by rw [text_mk, if_pos rfl]
theorem map_take_succ {l : List Ex} {j : Nat} (h : j < l.length) : (l.take (j + 1)).map text = (l.take j).map text ++ [text l[j]] := by
  rw [List.take_succ_eq_append_getElem h, List.map_append]; rfl
theorem take_empty {l : List Ex} {j : Nat} (h : j < l.length) : ((l.take j).map text).isEmpty = decide (j = 0) := by
  cases j with
  | zero => simp
  | succ j =>
    cases l with
    | nil => simp at h
    | cons a t => simp
theorem all_empty (l : List Ex) : (l.map text).isEmpty = decide (l.length = 0) := by cases l <;> simp
/-- The text up to an argument is no longer than all. -/
theorem glue_take_le {l : List Ex} {j : Nat} (h : j < l.length) (bs : List (List UInt8)) : (glue true ((l.take j).map text)).length + (btw (decide (j = 0))).length + (text l[j]).length ≤ (glue true (l.map text ++ bs)).length := by
  have e1 : l.map text ++ bs = (l.take (j + 1)).map text ++ ((l.drop (j + 1)).map text ++ bs) := by
    rw [← List.append_assoc, ← List.map_append, List.take_append_drop]
  have e2 := glue_le ((l.take (j + 1)).map text) ((l.drop (j + 1)).map text ++ bs) true
  rw [← e1, map_take_succ h, glue_snoc, take_empty h] at e2
  simp only [List.length_append] at e2
  omega
theorem Pr.open_at {C b : Nat} {l : List UInt8} {d : Nat} {w : World} (h : Pr C b l d w) (e : Nat) (z : Int) (hz : z = (e : Int)) : Pr C b l e (w.setCell ⟨b, 2, none⟩ (.int .i64 z)) := by subst hz; exact h.open e
theorem Kp.set2 {b : Nat} {w w' : World} (h : Kp b w w') (i : Nat) (v : Value) : Kp b w (w'.setCell ⟨b, i, none⟩ v) := Lib.OthersKept.setCell h ⟨b, i, none⟩ rfl v
/-- What is asked of the printer at an expression. -/
def ExprC (x : Ex) : Prop := ∀ (S : Nat → Prop) (e : El) (b : Nat) (l : List UInt8) (d : Nat) (t : Bool) (w0 w : World), Rel w0 w → ExAt S w0 e x → Pr w0.heap.size b l d w → d ≤ 32 → l.length ≤ 2000 + 8 * d → size x ≤ 100000 →
    Hid (t = true ↔ fine (32 - d) x = true ∧ l.length + (text x).length ≤ 2000) →
    Calls Tryd.prog 32 #[.pointer (some ⟨b, 0, none⟩), EV e] w fun r w' => r = .returned (.bool t) ∧ (t = true → Pr w0.heap.size b (l ++ text x) d w') ∧ Rel w0 w' ∧ Kp b w w'
/-- An argument's cells in a later world, and what it is in the first one. -/
theorem ExAt.arg0 {S : Nat → Prop} {w wr : World} {A : Option Addr} {es : List El} {l : List Ex} (hrow : RowE S w A es) (hsub : ∀ i (h : i < es.length) (h' : i < l.length), ExAt S w es[i] l[i]) (hl : es.length = l.length) (hr : Rel w wr) (j : Nat) (hj : j < l.length) :
    ∃ (g off : Nat) (k n : Int) (nm : List UInt8) (A' : Option Addr) (m c : Nat), A = some ⟨g, off, none⟩ ∧ wr.cell? ⟨g, off + j * 4, none⟩ = some (.int .i64 k) ∧ wr.cell? ⟨g, off + j * 4 + 1, none⟩ = some (.int .i64 n) ∧ wr.cell? ⟨g, off + j * 4 + 2, none⟩ = some (.string (B nm)) ∧ wr.cell? ⟨g, off + j * 4 + 3, none⟩ = some (.slice A' m c) ∧ ExAt S w (k, n, nm, A', m, c) l[j] := by
  obtain ⟨g, off, e, hl2, _, h0, h1, h2, h3⟩ := hrow j (by omega)
  have hs := hsub j (by omega) hj
  generalize es[j] = e0 at *
  obtain ⟨k, n, nm, A', m, c⟩ := e0
  have hk : ∀ i, wr.cell? ⟨g, i, none⟩ = w.cell? ⟨g, i, none⟩ := fun i => hr.2.cell (p := ⟨g, i, none⟩) hl2
  exact ⟨g, off, k, n, nm, A', m, c, e, by rw [hk]; exact h0, by rw [hk]; exact h1, by rw [hk]; exact h2, by rw [hk]; exact h3, hs⟩
/-- What stands behind the arguments, in memory: nothing, or one text. -/
def StrRow (w : World) (A : Option Addr) (bs : List ByteArray) : Prop := bs = [] ∨ ∃ g s, bs = [s] ∧ A = some ⟨g, 0, none⟩ ∧ Bk w g 9 #[.string s]
theorem exprt_ne : (46 : TypeId) ≠ 5 := by decide
theorem strt_ne : (9 : TypeId) ≠ 5 := by decide
theorem prt_str : (77 : TypeId) ≠ 9 := by decide
theorem Pr.bk {C b : Nat} {l : List UInt8} {d : Nat} {w : World} (h : Pr C b l d w) : ∃ cs, Bk w b 77 cs := by
  obtain ⟨p, hC, v, hb, _⟩ : ∃ p, PrAt C b p l d w := h.elim (fun h => ⟨_, h⟩) (fun h => ⟨_, h⟩)
  exact ⟨_, hb⟩
def outs (bs : List ByteArray) : List (List UInt8) := bs.map fun s => s.data.toList
set_option maxRecDepth 100000 in
set_option maxHeartbeats 8000000 in
theorem pcall_any (b : Nat) (l0 : List UInt8) (d : Nat) (T : ByteArray) (l : List Ex) (bs : List ByteArray) (A A2 : Option Addr) (c c2 : Nat) (es : List El) (S : Nat → Prop) (t : Bool) (w0 w : World) (hr : Rel w0 w)
    (HRow : Hid (RowE S w0 A es)) (HSub : Hid (∀ i (h : i < es.length) (h' : i < l.length), ExAt S w0 es[i] l[i])) (hl : es.length = l.length) (HIH : Hid (∀ j (hj : j < l.length), ExprC l[j])) (hbs : StrRow w A2 bs)
    (hP : Pr w0.heap.size b l0 d w) (hd : d < 32) (hlen : l0.length ≤ 2000 + 8 * d) (zT : T.size ≤ 6) (zS : ∀ s ∈ bs, s.size ≤ 100) (hz : sizes l ≤ 100000)
    (ht : Hid (t = true ↔ (∀ i (h : i < l.length), fine (32 - (d + 1)) l[i] = true) ∧ l0.length + T.size + (glue true (l.map text ++ outs bs)).length + 1 ≤ 2000))
    (M : List UInt8) (hM : Hid (M = l0 ++ (T.data.toList ++ (glue true (l.map text ++ outs bs) ++ [41])))) :
    Calls Tryd.prog 51 #[.pointer (some ⟨b, 0, none⟩), .string T, .slice A l.length c, .slice A2 bs.length c2] w fun r w' => r = .returned (.bool t) ∧ (t = true → Pr w0.heap.size b M d w') ∧ Rel w0 w' ∧ Kp b w w' := by
  have HR := Lib.hid hr
  have HP := Lib.hid hP
  have hll : l.length ≤ 100000 := by have := len_le l; omega
  have HZ := Lib.hid hz
  obtain ⟨nb, hnb⟩ : ∃ nb : Nat, bs.length = nb := ⟨_, rfl⟩
  have HNB := Lib.hid hnb
  have hnb1 : nb ≤ 1 := by rcases hbs with rfl | ⟨_, _, rfl, _⟩ <;> simp at hnb <;> omega
  rw [hnb]
  clear hnb
  have zTl : T.data.toList.length = T.size := by simp
  obtain ⟨M1, hM1⟩ : ∃ M1, l0 ++ T.data.toList = M1 := ⟨_, rfl⟩
  have HM1 := Lib.hid hM1
  have zM1 : M1.length = l0.length + T.size := by rw [← hM1, List.length_append, zTl]
  have HBS := Lib.hid hbs
  have HZS := Lib.hid zS
  have hwd : IntKind.i64.wrap ((d : Int) + 1) = (d : Int) + 1 := IntWalk.i64_in _ (by omega)
  clear hr hP hbs zS hz hM1 zTl
  go_enter Tryd.func51, Tryd.ntmps51
  go_wp2_with (go_at_call 64; (with_reducible refine (write_as b l0 d T M1 HM1 (by omega) _ _ HR.out HP.out).mono ?_); rintro e w1 ⟨rfl, p1, r1, k1⟩; have P1 := Lib.hid p1; obtain ⟨pp1, AA1, cc1, x0, x1, x2, x3⟩ := p1.cells)
  have P2 := Lib.hid (P1.out.open_at (d + 1) ((d : Int) + 1) (by omega))
  have R2 := Lib.hid (r1.setCell (p := ⟨b, 2, none⟩) P1.out.le (.int .i64 ((d : Int) + 1)))
  have K2 := Lib.hid (k1.set2 2 (.int .i64 ((d : Int) + 1)))
  clear p1 r1 k1 x0 x1 x2 x3
  go_loopw [9, 28] (fun tb i wr => ∃ (j : Nat) (TBa : ByteArray) (N : List UInt8), j ≤ l.length ∧ i = .int .i64 (j : Int) ∧ tb = .string TBa ∧ TBa.size ≤ 2 ∧ N.length + TBa.size ≤ 2007 + 8 * d ∧
    Hid (TBa.data.toList = btw (decide (j = 0)) ∧ N = M1 ++ glue true ((l.take j).map text) ∧ ∀ i (h : i < l.length), i < j → fine (32 - (d + 1)) l[i] = true) ∧ Hid (Pr w0.heap.size b N (d + 1) wr ∧ Rel w0 wr ∧ Kp b w wr)) (fun _ i _ => l.length - (RowKit.intOf i).toNat)
  case atStart => exact ⟨0, ⟨#[40]⟩, M1, by omega, rfl, rfl, by decide, by have : (⟨#[40]⟩ : ByteArray).size = 1 := rfl; omega, Lib.hid ⟨rfl, by simp [glue], fun i h hi => absurd hi (by omega)⟩, Lib.hid ⟨P2.out, R2.out, K2.out⟩⟩
  case round =>
    obtain ⟨j, TBa, N, hj, rfl, rfl, zTB, zN, HJ, HW⟩ := hrel
    obtain ⟨N1, hN1⟩ : ∃ N1, N ++ TBa.data.toList = N1 := ⟨_, rfl⟩
    have HN1 := Lib.hid hN1
    have zN1 : N1.length = N.length + TBa.size := by rw [← hN1, List.length_append]; simp
    clear hN1
    by_cases hlt : j < l.length
    · obtain ⟨g, off, k', n', nm', A', m', c', hA, a0, a1, a2, a3, hx⟩ := ExAt.arg0 HRow.out HSub.out hl HW.out.2.1 j hlt
      subst hA
      have BX := Bk.new wr 46 #[.int .i64 k', .int .i64 n', .string (B nm'), .slice A' m' c']
      have hbx : wr.heap.size ≠ b := by have := HW.out.1.lt; omega
      have HBX := Lib.hid BX
      have HV := Lib.hid (HW.out.2.1.alloc (.cells #[.int .i64 k', .int .i64 n', .string (B nm'), .slice A' m' c'] 46))
      have HPV := Lib.hid (HW.out.1.alloc (.cells #[.int .i64 k', .int .i64 n', .string (B nm'), .slice A' m' c'] 46))
      have HKV := Lib.hid (HW.out.2.2.alloc (.cells #[.int .i64 k', .int .i64 n', .string (B nm'), .slice A' m' c'] 46))
      have zx : size l[j] ≤ 100000 := by have := size_mem (List.getElem_mem (l := l) (n := j) hlt); have := HZ.out; omega
      obtain ⟨tj, htj⟩ : ∃ tj : Bool, tj = true ↔ (fine (32 - (d + 1)) l[j] = true ∧ N1.length + (text l[j]).length ≤ 2000) := ⟨decide _, decide_eq_true_iff⟩
      have HC := Lib.hid (fun (w1 : World) (hr1 : Rel w0 w1) (hp1 : Pr w0.heap.size b N1 (d + 1) w1) => HIH.out j hlt S (k', n', nm', A', m', c') b N1 (d + 1) tj w0 w1 hr1 hx hp1 (by omega) (by omega) zx (Lib.hid htj))
      have HTJ := Lib.hid htj
      have HG := Lib.hid (glue_take_le hlt (outs bs))
      clear BX htj hx
      cases tj with
      | false =>
        have htf : t = false := by
          cases t with
          | false => rfl
          | true =>
            obtain ⟨f1, f2⟩ := ht.out.1 rfl
            have e1 := HG.out
            have e2 := HJ.out
            have e3 : (btw (decide (j = 0))).length = TBa.size := by rw [← e2.1]; simp
            have e4 : N.length = M1.length + (glue true ((l.take j).map text)).length := by rw [e2.2.1, List.length_append]
            have := HTJ.out.2 ⟨f1 j hlt, by omega⟩
            cases this
        subst htf
        go_wp2_with (first
          | (go_at_call 64; (with_reducible refine (write_as b N (d + 1) TBa N1 HN1 (by omega) _ _ HV.out HPV.out).mono ?_); rintro e w2 ⟨rfl, p2, r2, k2⟩; obtain ⟨⟨x0, x1, x2, x3⟩, _⟩ := (k2.bk HBX.out hbx exprt_ne).four)
          | (go_at_call 32; (with_reducible refine (HC.out _ r2 p2).mono ?_); rintro e w3 ⟨rfl, p3, r3, k3⟩))
        go_ret
        exact ⟨rfl, (fun h => by cases h), r3, (HKV.out.trans k2).trans k3⟩
      | true =>
        have zj := (HTJ.out.1 rfl).2
        have HNx := Lib.hid (show (⟨#[44, 32]⟩ : ByteArray).data.toList = btw (decide (j + 1 = 0)) ∧ N1 ++ text l[j] = M1 ++ glue true ((l.take (j + 1)).map text) ∧ ∀ i (h : i < l.length), i < j + 1 → fine (32 - (d + 1)) l[i] = true from by
          have e2 := HJ.out
          refine ⟨by simp [btw], ?_, fun i h hi => ?_⟩
          · rw [map_take_succ hlt, glue_snoc, take_empty hlt, ← HN1.out, e2.1, e2.2.1]
            simp only [List.append_assoc]
          · rcases Nat.lt_or_ge i j with q | q
            · exact e2.2.2 i h q
            · obtain rfl : i = j := by omega
              exact (HTJ.out.1 rfl).1)
        go_wp2_with (first
          | (go_at_call 64; (with_reducible refine (write_as b N (d + 1) TBa N1 HN1 (by omega) _ _ HV.out HPV.out).mono ?_); rintro e w2 ⟨rfl, p2, r2, k2⟩; obtain ⟨⟨x0, x1, x2, x3⟩, _⟩ := (k2.bk HBX.out hbx exprt_ne).four)
          | (go_at_call 32; (with_reducible refine (HC.out _ r2 p2).mono ?_); rintro e w3 ⟨rfl, p3, r3, k3⟩))
        go_roundw
        case rel => exact ⟨j + 1, ⟨#[44, 32]⟩, N1 ++ text l[j], by omega, by go_num, rfl, by decide, by rw [List.length_append]; have : (⟨#[44, 32]⟩ : ByteArray).size = 2 := rfl; omega, HNx, Lib.hid ⟨p3 trivial, r3, (HKV.out.trans k2).trans k3⟩⟩
        case measure => simp [RowKit.intOf]; omega
    · obtain rfl : j = l.length := by omega
      obtain ⟨wo, hwo⟩ : ∃ wo, wo = wr := ⟨_, rfl⟩
      subst hwo
      have HF := Lib.hid (show ∀ i (h : i < l.length), fine (32 - (d + 1)) l[i] = true from fun i h => HJ.out.2.2 i h h)
      have HN := Lib.hid (show N = M1 ++ glue true (l.map text) from by have := HJ.out.2.1; rwa [List.take_length] at this)
      have zM1b : N.length + TBa.size ≤ 2007 + 8 * d := zN
      have hTB : TBa.data.toList = btw (decide (l.length = 0)) := HJ.out.1
      have HTB := Lib.hid hTB
      have hwm : IntKind.i64.wrap (((d + 1 : Nat) : Int) - 1) = (d : Int) := by rw [show ((d + 1 : Nat) : Int) - 1 = (d : Int) by omega]; exact IntWalk.i64_in _ (by omega)
      clear hTB zN zN1 HN1 zTB HJ
      have zTB : TBa.size ≤ 2 := by
        have h1 := btw_le (decide (l.length = 0))
        rw [← HTB.out] at h1
        simpa using h1
      go_wp2_with (fail)
      go_loopw [9, 44] (fun tb i wr => ∃ (q : Nat) (TBa' : ByteArray) (N' : List UInt8), q ≤ nb ∧ i = .int .i64 (q : Int) ∧ tb = .string TBa' ∧ TBa'.size ≤ 2 ∧ N'.length + TBa'.size ≤ 2007 + 8 * d + 150 * q ∧
        Hid (TBa'.data.toList = btw (decide (l.length = 0) && decide (q = 0)) ∧ N' = M1 ++ glue true (l.map text ++ (outs bs).take q)) ∧ Hid (Pr w0.heap.size b N' (d + 1) wr ∧ Rel w0 wr ∧ Kp b w wr)) (fun _ i _ => nb - (RowKit.intOf i).toNat)
      case atStart => exact ⟨0, TBa, N, by omega, rfl, rfl, zTB, by omega, Lib.hid ⟨by rw [HTB.out]; simp, by rw [HN.out]; simp⟩, Lib.hid HW.out⟩
      case round =>
        obtain ⟨q, TBa', N', hq, rfl, rfl, zTB', zN', HJ', HW'⟩ := hrel
        by_cases hlt : q < nb
        · obtain rfl : q = 0 := by omega
          obtain rfl : nb = 1 := by omega
          obtain ⟨g2, s, hbs, hA2, hb2⟩ : ∃ g s, bs = [s] ∧ A2 = some ⟨g, 0, none⟩ ∧ Bk w g 9 #[.string s] := by
            rcases HBS.out with h | h
            · have := HNB.out; rw [h] at this; simp at this
            · exact h
          subst hA2
          have hne2 : g2 ≠ b := by
            obtain ⟨cs, hcs⟩ := HP.out.bk
            exact fun e => Bk.ne hcs hb2 prt_str e.symm
          have hb3 := HW'.out.2.2.bk hb2 hne2 strt_ne
          have a0 : wr.cell? ⟨g2, 0, none⟩ = some (.string s) := by rw [hb3.cell]; rfl
          have zs : s.size ≤ 100 := HZS.out s (by rw [hbs]; simp)
          obtain ⟨N2, hN2⟩ : ∃ N2, N' ++ TBa'.data.toList = N2 := ⟨_, rfl⟩
          have HN2 := Lib.hid hN2
          have zN2 : N2.length = N'.length + TBa'.size := by rw [← hN2, List.length_append]; simp
          obtain ⟨N3, hN3⟩ : ∃ N3, N2 ++ s.data.toList = N3 := ⟨_, rfl⟩
          have HN3 := Lib.hid hN3
          have zN3 : N3.length = N2.length + s.size := by rw [← hN3, List.length_append]; simp
          have HNx := Lib.hid (show (⟨#[44, 32]⟩ : ByteArray).data.toList = btw (decide (l.length = 0) && decide (0 + 1 = 0)) ∧ N3 = M1 ++ glue true (l.map text ++ (outs bs).take (0 + 1)) from by
            refine ⟨by simp [btw], ?_⟩
            rw [← hN3, ← hN2, HJ'.out.1, HJ'.out.2, hbs]
            simp only [outs, List.map_cons, List.map_nil, List.take_zero, List.append_nil, Nat.zero_add, List.take_succ_cons, List.take_zero, List.append_assoc]
            rw [glue_snoc, all_empty, decide_true, Bool.and_true]
            try simp only [List.append_assoc])
          clear hN2 hN3 hbs hb2 hb3 hne2
          go_wp2_with (first
            | (go_at_call 64; (with_reducible refine (write_as b N' (d + 1) TBa' N2 HN2 (by omega) _ _ HW'.out.2.1 HW'.out.1).mono ?_); rintro e w2 ⟨rfl, p2, r2, k2⟩)
            | (go_at_call 64; (with_reducible refine (write_as b N2 (d + 1) s N3 HN3 (by omega) _ _ r2 p2).mono ?_); rintro e w3 ⟨rfl, p3, r3, k3⟩))
          go_roundw
          case rel => exact ⟨_, _, _, _, _, _, _, _, _, _, _, _, _, _, _, _, _, ⟨0 + 1, ⟨#[44, 32]⟩, N3, by omega, rfl, rfl, by decide, by have : (⟨#[44, 32]⟩ : ByteArray).size = 2 := rfl; omega, HNx, Lib.hid ⟨p3, r3, (HW'.out.2.2.trans k2).trans k3⟩⟩, rfl⟩
          case measure => simp [RowKit.intOf]
        · obtain rfl : q = nb := by omega
          have hN4 : N' = M1 ++ glue true (l.map text ++ outs bs) := by
            have h1 := HJ'.out.2
            have h2 : (outs bs).take q = outs bs := List.take_of_length_le (by simp [outs, HNB.out])
            rw [h2] at h1; exact h1
          have hM4 : N' ++ (⟨#[41]⟩ : ByteArray).data.toList = M := by
            rw [hM.out, hN4, ← HM1.out]; simp
          have HM4 := Lib.hid hM4
          have ht4 : decide (M.length ≤ 2000) = t := by
            have e : M.length = l0.length + T.size + (glue true (l.map text ++ outs bs)).length + 1 := by
              rw [hM.out]; simp only [List.length_append]
              have : T.data.toList.length = T.size := by simp
              have h1 : ([41] : List UInt8).length = 1 := rfl
              omega
            rw [e, Bool.eq_iff_iff, decide_eq_true_iff, ht.out]
            exact ⟨fun h => ⟨HF.out, h⟩, fun h => h.2⟩
          have HT4 := Lib.hid ht4
          obtain ⟨pp2, AA2, cc2, x0, x1, x2, x3⟩ := HW'.out.1.cells
          have P5 := Lib.hid (HW'.out.1.open_at d (d : Int) rfl)
          have R5 := Lib.hid (HW'.out.2.1.setCell (p := ⟨b, 2, none⟩) HW'.out.1.le (.int .i64 (d : Int)))
          have K5 := Lib.hid (HW'.out.2.2.set2 2 (.int .i64 (d : Int)))
          have z41 : (⟨#[41]⟩ : ByteArray).size = 1 := rfl
          clear hN4 hM4 ht4
          go_wp2_with (go_at_call 49; (with_reducible refine (put_as b N' d ⟨#[41]⟩ M HM4 (by omega) t HT4 _ _ R5.out P5.out).mono ?_); rintro e w6 ⟨rfl, p6, r6, k6⟩)
          go_ret
          exact ⟨rfl, fun _ => p6, r6, K5.out.trans k6⟩
end Go.Proofs.YtjhjdiaomnpkmaaDoor
