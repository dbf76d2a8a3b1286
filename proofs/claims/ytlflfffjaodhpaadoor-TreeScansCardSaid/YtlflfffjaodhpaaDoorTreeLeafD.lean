/- The builder that is embedded in the printer: what is written, how much it is, and its text. -/
import Derived.Test.YtlflfffjaodhpaaDoorTreeLeafC
import Derived.Shelf.Strings.BuilderK
namespace Go.Proofs.YtlflfffjaodhpaaDoor
open Go.RowKit Go.Lib
set_option linter.unusedVariables false
set_option linter.unusedSimpArgs false

theorem bld_size : (Tryd.prog.info? 53).map (·.size) = some 2 := by kernel_rfl
theorem prt_lies : liesAt Tryd.prog Tryd.prog.depth 55 (3 / Tryd.prog.cellsOf 55) 0 53 1 = true := by kernel_rfl
theorem byte_info : (Tryd.prog.info? 5).map (fun i => (i.zero, i.size, i.bytes)) = some (some (.int .u8 0), 1, 1) := by kernel_rfl
/-- The printer in block b, of the call's own: what it has written, how many calls stand open. -/
def PrAt (C b : Nat) (p : Value) (l : List UInt8) (d : Nat) (w : World) : Prop :=
  C ≤ b ∧ ∃ v, Bk w b 55 #[p, v, .int .i64 (d : Int)] ∧ w.ownsRowF C 5 1 v l.length (Lib.byteCells l) ∧ v.ownBlock ≠ some b
def Pr (C b : Nat) (l : List UInt8) (d : Nat) (w : World) : Prop := PrAt C b (.pointer none) l d w ∨ PrAt C b (.pointer (some ⟨b, 0, none⟩)) l d w
/-- Every block but the printer's, and but rows of bytes, stands as it stood. -/
def Kp (b : Nat) (w w' : World) : Prop := Lib.OthersKept 5 (some b) w w'
theorem Kp.refl (b : Nat) (w : World) : Kp b w w := Lib.OthersKept.refl _ _ w
theorem Kp.trans {b : Nat} {w w' w'' : World} (h : Kp b w w') (h' : Kp b w' w'') : Kp b w w'' := Lib.OthersKept.trans h h'
theorem Kp.alloc {b : Nat} {w w' : World} (h : Kp b w w') (o : Obj) : Kp b w (w'.alloc o) := Lib.OthersKept.alloc h o
theorem Kp.bk {b : Nat} {w w' : World} (h : Kp b w w') {g : Nat} {t : TypeId} {cs : Array Value} (hb : Bk w g t cs) (hne : g ≠ b) (ht : t ≠ 5) : Bk w' g t cs :=
  h g _ hb (fun e => hne (by injection e)) (fun c fz e => ht (by injection e))
theorem PrAt.lt {C b : Nat} {p : Value} {l : List UInt8} {d : Nat} {w : World} (h : PrAt C b p l d w) : b < w.heap.size := by
  obtain ⟨_, v, hb, _⟩ := h
  exact hb.lt
theorem Pr.lt {C b : Nat} {l : List UInt8} {d : Nat} {w : World} (h : Pr C b l d w) : b < w.heap.size := h.elim PrAt.lt PrAt.lt
theorem Pr.le {C b : Nat} {l : List UInt8} {d : Nat} {w : World} (h : Pr C b l d w) : C ≤ b := h.elim (·.1) (·.1)
theorem PrAt.alloc {C b : Nat} {p : Value} {l : List UInt8} {d : Nat} {w : World} (h : PrAt C b p l d w) (o : Obj) : PrAt C b p l d (w.alloc o) := by
  obtain ⟨hC, v, hb, hown, hne⟩ := h
  exact ⟨hC, v, hb.alloc o, hown.kept (World.grownBy_alloc w o none) (by cases hv : v.ownBlock <;> simp), hne⟩
theorem Pr.alloc {C b : Nat} {l : List UInt8} {d : Nat} {w : World} (h : Pr C b l d w) (o : Obj) : Pr C b l d (w.alloc o) := h.elim (fun x => .inl (x.alloc o)) (fun x => .inr (x.alloc o))
theorem Pr.drew {C b : Nat} {l : List UInt8} {d : Nat} {w : World} (h : Pr C b l d w) : Pr C b l d w.drew := h
/-- What only grows elsewhere leaves the printer alone. -/
theorem PrAt.rel {C b : Nat} {p : Value} {l : List UInt8} {d : Nat} {w w' : World} (h : PrAt C b p l d w) (hr : Rel w w') : PrAt C b p l d w' := by
  obtain ⟨hC, v, hb, hown, hne⟩ := h
  refine ⟨hC, v, hb.rel hr, ?_, hne⟩
  exact hown.kept (row := none) ⟨hr.2.os, hr.2.tape, hr.2.output, hr.2.size, fun k hk _ => hr.2.block k hk⟩ (by cases hv : v.ownBlock <;> simp)
theorem Pr.rel {C b : Nat} {l : List UInt8} {d : Nat} {w w' : World} (h : Pr C b l d w) (hr : Rel w w') : Pr C b l d w' := h.elim (fun x => .inl (x.rel hr)) (fun x => .inr (x.rel hr))
theorem prt_ne : (55 : TypeId) ≠ 5 := by decide
theorem PrAt.put {C b : Nat} {p v' v0 : Value} {l : List UInt8} {d : Nat} {w : World} (hC : C ≤ b) (hb : Bk w b 55 #[p, v0, .int .i64 (d : Int)]) (hown : w.ownsRowF C 5 1 v' l.length (Lib.byteCells l)) : PrAt C b p l d (w.setCell ⟨b, 1, none⟩ v') := by
  have hne := Lib.ownBlock_neF hown hb prt_ne
  refine ⟨hC, v', hb.set_ 1 v', ?_, hne⟩
  exact hown.kept (row := some b) ⟨rfl, rfl, rfl, by simp [World.setCell], fun k _ hk => Below.heap_setCell _ _ _ _ (fun e => hk (by simp [e]))⟩ (Or.inr hne)
theorem PrAt.used {C b : Nat} {p : Value} {l : List UInt8} {d : Nat} {w : World} (h : PrAt C b p l d w) (q : Value) : PrAt C b q l d (w.setCell ⟨b, 0, none⟩ q) := by
  obtain ⟨hC, v, hb, hown, hne⟩ := h
  refine ⟨hC, v, hb.set_ 0 q, ?_, hne⟩
  exact hown.kept (row := some b) ⟨rfl, rfl, rfl, by simp [World.setCell], fun k _ hk => Below.heap_setCell _ _ _ _ (fun e => hk (by simp [e]))⟩ (Or.inr hne)
theorem PrAt.open {C b : Nat} {p : Value} {l : List UInt8} {d e : Nat} {w : World} (h : PrAt C b p l d w) : PrAt C b p l e (w.setCell ⟨b, 2, none⟩ (.int .i64 (e : Int))) := by
  obtain ⟨hC, v, hb, hown, hne⟩ := h
  refine ⟨hC, v, hb.set_ 2 _, ?_, hne⟩
  exact hown.kept (row := some b) ⟨rfl, rfl, rfl, by simp [World.setCell], fun k _ hk => Below.heap_setCell _ _ _ _ (fun e => hk (by simp [e]))⟩ (Or.inr hne)
theorem Pr.open {C b : Nat} {l : List UInt8} {d : Nat} {w : World} (h : Pr C b l d w) (e : Nat) : Pr C b l e (w.setCell ⟨b, 2, none⟩ (.int .i64 (e : Int))) := h.elim (fun x => .inl x.open) (fun x => .inr x.open)
theorem Pr.cells {C b : Nat} {l : List UInt8} {d : Nat} {w : World} (h : Pr C b l d w) : ∃ p A c, w.cell? ⟨b, 0, none⟩ = some p ∧ w.cell? ⟨b, 1, none⟩ = some (.slice A l.length c) ∧ w.cell? ⟨b, 2, none⟩ = some (.int .i64 (d : Int)) ∧ w.frozen? ⟨b, 2, none⟩ = false := by
  obtain ⟨p, hC, v, hb, hown, hne⟩ : ∃ p, PrAt C b p l d w := h.elim (fun h => ⟨_, h⟩) (fun h => ⟨_, h⟩)
  obtain ⟨A, c, rfl⟩ : ∃ A c, v = .slice A l.length c := by
    rcases hown.2 with ⟨rfl, h0⟩ | ⟨g, cap, cur, fz, rfl, _⟩
    · exact ⟨none, 0, by rw [h0]⟩
    · exact ⟨_, _, rfl⟩
  exact ⟨p, A, c, by rw [hb.cell]; rfl, by rw [hb.cell]; rfl, by rw [hb.cell]; rfl, hb.frozen 2⟩
set_option maxRecDepth 100000 in
set_option maxHeartbeats 1000000 in
theorem check_used (b : Nat) (w : World) (h0 : w.cell? ⟨b, 0, none⟩ = some (.pointer (some ⟨b, 0, none⟩))) :
    Calls Tryd.prog 74 #[.pointer (some ⟨b, 0, none⟩)] w fun e w' => e = .returned (.tuple #[]) ∧ w' = w := by
  obtain ⟨j, hj, _⟩ := Option.map_eq_some_iff.1 bld_size
  go_enter Tryd.func74, Tryd.ntmps74
  go_wp2
  rw [Lib.run_neq_ptr_same w _ Tryd.underlying50 hj]
  go_wp2
  go_end0
  exact ⟨rfl, rfl⟩
set_option maxRecDepth 100000 in
set_option maxHeartbeats 1000000 in
theorem check_fresh (b : Nat) (w : World) (h0 : w.cell? ⟨b, 0, none⟩ = some (.pointer none)) (hsh : w.shape? b = some (55, 3)) (hfz : w.frozen? ⟨b, 0, none⟩ = false) :
    Calls Tryd.prog 74 #[.pointer (some ⟨b, 0, none⟩)] w fun e w' => e = .returned (.tuple #[]) ∧ w' = w.setCell ⟨b, 0, none⟩ (.pointer (some ⟨b, 0, none⟩)) := by
  obtain ⟨j, hj, hjs⟩ := Option.map_eq_some_iff.1 bld_size
  go_enter Tryd.func74, Tryd.ntmps74
  go_wp2
  rw [Lib.run_to_unsafe w ⟨b, 0, none⟩ Tryd.underlying50 Tryd.underlying94 hj (by rw [hjs]; decide) hsh (Nat.zero_lt_succ 2)]
  simp only [Result.andThen]
  rw [Oper.upon_value]
  go_wp2
  rw [run_callFunc_extern Tryd.func84 (by kernel_rfl) (by kernel_rfl) (by kernel_rfl) (e := Extern.AbiNoEscape.same) (by kernel_rfl)]
  rw [Lib.run_noEscape]
  simp only [Result.andThen]
  rw [Oper.upon_value]
  go_wp2
  rw [Lib.run_from_unsafe w ⟨b, 0, none⟩ Tryd.underlying94 Tryd.underlying50 hj hsh prt_lies]
  simp only [Result.andThen]
  rw [Oper.upon_value]
  go_wp2
  go_end0
  exact ⟨rfl, rfl⟩
theorem check_any (C b : Nat) (l : List UInt8) (d : Nat) (w : World) (h : Pr C b l d w) :
    Calls Tryd.prog 74 #[.pointer (some ⟨b, 0, none⟩)] w fun e w' => e = .returned (.tuple #[]) ∧ PrAt C b (.pointer (some ⟨b, 0, none⟩)) l d w' ∧ Below C w w' ∧ Kp b w w' := by
  rcases h with h | h
  · have h' := h
    obtain ⟨hC, v, hb, hown, hne⟩ := h'
    refine (check_fresh b w (by rw [hb.cell]; rfl) (by unfold Bk at hb; simp [World.shape?, hb]) (hb.frozen 0)).mono ?_
    rintro e w' ⟨rfl, rfl⟩
    exact ⟨rfl, h.used _, (Below.refl C w).setCell (p := ⟨b, 0, none⟩) hC _, (Lib.OthersKept.refl _ _ w).setCell ⟨b, 0, none⟩ rfl _⟩
  · have h' := h
    obtain ⟨hC, v, hb, hown, hne⟩ := h'
    refine (check_used b w (by rw [hb.cell]; rfl)).mono ?_
    rintro e w' ⟨rfl, rfl⟩
    exact ⟨rfl, h, Below.refl C _, Kp.refl _ _⟩
set_option maxRecDepth 100000 in
set_option maxHeartbeats 2000000 in
theorem write_as (b : Nat) (l : List UInt8) (d : Nat) (s : ByteArray) (M : List UInt8) (hM : Hid (l ++ s.data.toList = M)) (hlen : l.length + s.size ≤ 1000000) (w0 w : World) (hr : Rel w0 w) (h : Pr w0.heap.size b l d w) :
    Calls Tryd.prog 62 #[.pointer (some ⟨b, 0, none⟩), .string s] w fun e w' => e = .returned (.tuple #[.int .i64 s.size, .nilIface]) ∧ Pr w0.heap.size b M d w' ∧ Rel w0 w' ∧ Kp b w w' := by
  obtain ⟨i0, hi, hz0, hz1, hz2⟩ := info_parts byte_info
  have hCw := hr.size
  have HR := Lib.hid hr
  go_enter Tryd.func62, Tryd.ntmps62
  go_wp2_with (go_at_call 74; refine (check_any w0.heap.size b l d _ h).mono ?_)
  rintro e w1 ⟨rfl, h1, hb1, hk1⟩
  obtain ⟨hC, v, hbk, hown, hne⟩ := h1
  have c0 : w1.cell? ⟨b, 0, none⟩ = some (.pointer (some ⟨b, 0, none⟩)) := by rw [hbk.cell]; rfl
  have c1 : w1.cell? ⟨b, 1, none⟩ = some v := by rw [hbk.cell]; rfl
  have hs1 := hb1.size
  have hbl : (Lib.byteCells l).length = l.length := Lib.byteCells_length l
  go_wp2_with (at_builtin; refine Lib.wpList_append_own_stringF _ rfl _ _ 51 9 rfl w0.heap.size 5 i0 Tryd.underlying51 Tryd.underlying9 hi hz0 hz1 hz2 _ _ _ rfl hown s rfl (by unfold maxLen; omega) (by omega) (by omega) ?_)
  intro v' w2 hown' hgrow _
  have hlt : b < w1.heap.size := hbk.lt
  have hb2 : Bk w2 b 55 #[.pointer (some ⟨b, 0, none⟩), v, .int .i64 (d : Int)] := hbk.grown hgrow (fun e => hne e.symm)
  have d0 : w2.cell? ⟨b, 0, none⟩ = some (.pointer (some ⟨b, 0, none⟩)) := by rw [hb2.cell]; rfl
  have d1 : w2.cell? ⟨b, 1, none⟩ = some v := by rw [hb2.cell]; rfl
  have f1 : w2.frozen? ⟨b, 1, none⟩ = false := hb2.frozen 1
  obtain ⟨ao, n', cap, rfl⟩ : ∃ ao n' cap, v' = .slice ao n' cap := by
    rcases hown'.2 with ⟨hv, _⟩ | ⟨g, cap, cur, fz, hv, _⟩
    · exact ⟨_, _, _, hv⟩
    · exact ⟨_, _, _, hv⟩
  go_wp2
  go_ret2
  have hbelow := (hb1.grown hgrow (by omega) (fun k hk => (hown.lt k hk).1)).setCell (p := ⟨b, 1, none⟩) hC (.slice ao n' cap)
  refine ⟨rfl, .inr ?_, ⟨HR.out.1, HR.out.2.trans hbelow⟩, ?_⟩
  · refine PrAt.put hC hb2 ?_
    rw [← hM.out, Lib.byteCells_append, List.length_append]
    have e : s.data.toList.length = s.size := by simp
    rw [e]
    exact hown'
  · exact (Lib.OthersKept.grown hk1 hgrow (Lib.ownsRowF_kind hown)).setCell ⟨b, 1, none⟩ rfl _
set_option maxRecDepth 100000 in
theorem plen_any (b : Nat) (l : List UInt8) (d : Nat) (C : Nat) (w : World) (h : Pr C b l d w) :
    Calls Tryd.prog 63 #[.pointer (some ⟨b, 0, none⟩)] w fun e w' => e = .returned (.int .i64 (l.length : Int)) ∧ w = w' := by
  obtain ⟨p, A, c, c0, c1, c2, _⟩ := h.cells
  go_enter Tryd.func63, Tryd.ntmps63
  go_wp2_with (fail)
  go_ret
  exact ⟨rfl, rfl⟩
set_option maxRecDepth 100000 in
set_option maxHeartbeats 2000000 in
theorem put_as (b : Nat) (l : List UInt8) (d : Nat) (s : ByteArray) (M : List UInt8) (hM : Hid (l ++ s.data.toList = M)) (hlen : l.length + s.size ≤ 1000000) (t : Bool) (ht : Hid (decide (M.length ≤ 2000) = t)) (w0 w : World) (hr : Rel w0 w) (h : Pr w0.heap.size b l d w) :
    Calls Tryd.prog 43 #[.pointer (some ⟨b, 0, none⟩), .string s] w fun e w' => e = .returned (.bool t) ∧ Pr w0.heap.size b M d w' ∧ Rel w0 w' ∧ Kp b w w' := by
  have HP := Lib.hid h
  have HR := Lib.hid hr
  have HT := Lib.hid (show decide ((M.length : Int) ≤ 2000) = t by rw [← ht.out]; exact decide_eq_decide.2 (by omega))
  go_enter Tryd.func43, Tryd.ntmps43
  go_wp2_with (first
    | (go_at_call 62; (with_reducible refine (write_as b l d s M hM hlen _ _ HR.out HP.out).mono ?_); rintro e w1 ⟨rfl, p1, r1, k1⟩)
    | (go_at_call 63; (with_reducible refine (plen_any b M d _ _ p1).mono ?_); rintro e w' ⟨rfl, rfl⟩))
  all_goals
    go_ret
    exact ⟨ret_bool HT.out, p1, r1, k1⟩
set_option maxRecDepth 100000 in
set_option maxHeartbeats 2000000 in
theorem string_any (b : Nat) (l : List UInt8) (d : Nat) (w0 w : World) (hr : Rel w0 w) (h : Pr w0.heap.size b l d w) (h0 : l ≠ []) :
    Calls Tryd.prog 30 #[.pointer (some ⟨b, 0, none⟩)] w fun e w' => e = .returned (.string (B l)) ∧ Rel w0 w' := by
  obtain ⟨p, hC, v, hbk, hown, hne⟩ : ∃ p, PrAt w0.heap.size b p l d w := h.elim (fun h => ⟨_, h⟩) (fun h => ⟨_, h⟩)
  have hl0 : l.length ≠ 0 := by simpa using h0
  have HR := Lib.hid hr
  obtain ⟨g, cap, cur, fz, rfl, hbg, hg, hfz, hnc, hcm, hcs, htake⟩ : ∃ g cap cur fz, v = .slice (some ⟨g, 0, none⟩) l.length cap ∧ w0.heap.size ≤ g ∧ w.heap[g]? = some (.cells cur 5 fz) ∧ fz.2 ≤ l.length * 1 ∧ l.length ≤ cap ∧ cap ≤ maxLen ∧ cur.size = cap * 1 ∧ cur.toList.take (l.length * 1) = Lib.byteCells l := by
    rcases hown.2 with ⟨_, hz⟩ | ⟨g, cap, cur, fz, hv, r⟩
    · exact absurd hz hl0
    · exact ⟨g, cap, cur, fz, hv, r⟩
  have c1 : w.drew.cell? ⟨b, 1, none⟩ = some (.slice (some ⟨g, 0, none⟩) l.length cap) := by rw [hbk.drew.cell]; rfl
  have hSD : (Builtin.unsafeSliceData_ #[51] 75 #[.slice (some ⟨g, 0, none⟩) l.length cap]).run Tryd.prog w.drew = .ok (.pointer (some ⟨g, 0, none⟩)) w.drew :=
    Lib.run_unsafeSliceData_row _ _ _ _ _ _ (by omega)
  have hUS : (Builtin.unsafeString_ #[75, 3] 9 #[.pointer (some ⟨g, 0, none⟩), .int .i64 l.length]).run Tryd.prog w.drew = .ok (.string ⟨l.toArray⟩) (w.drew.freeze ⟨g, 0, none⟩ l.length) := by
    refine Lib.run_unsafeString_row w.drew 75 3 9 5 Tryd.underlying75 (by kernel_rfl) g cur.size (by have hg' : w.drew.heap[g]? = some (.cells cur 5 fz) := hg; simp [World.shape?, hg']) l h0 (by omega) (by unfold maxLen at hcm; omega) ?_
    intro j x hx
    have := hown.cells (g := g) rfl j (.int .u8 x.toNat) (by simp [Lib.byteCells, hx])
    exact this
  have HF := Lib.hid (show Rel w0 (w.drew.freeze ⟨g, 0, none⟩ l.length) from ⟨hr.1, hr.2.trans (Lib.below_freeze (Below.drew (Below.refl w0.heap.size w)) (p := ⟨g, 0, none⟩) hbg _)⟩)
  clear h hr hown hbk htake
  have mixed : Tryd.prog.follows .mixedOrders = true := by kernel_rfl
  go_enter Tryd.func30, Tryd.ntmps30
  go_wp2
  go_region_o
  all_goals (go_wp2; go_ret; exact ⟨rfl, HF.out⟩)
end Go.Proofs.YtlflfffjaodhpaaDoor
