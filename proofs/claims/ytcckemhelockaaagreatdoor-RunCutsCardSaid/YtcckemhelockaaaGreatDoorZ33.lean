/- A map with integer keys as a list of entries; the maps that the program makes; The landed compiler: its state; put; a place that is filled in by a closure; DERIVED: THE SHELF's CONTRACTS AT THIS DUMP, IN PLAIN WORDS (tools/lay-plain.mjs out of 'TryzShelf.lean', which tools/lay-shelf.mjs wrote): THE SAME DECLARATIONS UNDER THE SAME NAMES: 'import', 'namespace', 'open', 'def', 'theorem' AND NOTHING ELSE: no command of the shelf's: FOR A HAND-IN. Each laying: the table of numbers ('.._ren') and one theorem, a field a fact of the dump's own or the kernel's comparison; each contract: ONE APPLICATION; What the laws of layer 10 lean on: what the program is asked, and the law's awake; CodeSize, over what the program is asked; RunCuts, over what the program is asked; A place that is filled in by a closure. -/
import Derived.Test.YtcckemhelockaaaGreatDoorZL
import Derived.Test.YtcckemhelockaaaGreatDoorZ00
import Derived.Test.YtcckemhelockaaaGreatDoorZ01
import Derived.Test.YtcckemhelockaaaGreatDoorZ02
import Derived.Test.YtcckemhelockaaaGreatDoorZ03
import Derived.Test.YtcckemhelockaaaGreatDoorZ04
import Derived.Test.YtcckemhelockaaaGreatDoorZ07
import Derived.Test.YtcckemhelockaaaGreatDoorZ09
import Derived.Test.YtcckemhelockaaaGreatDoorZ15
import Derived.Test.YtcckemhelockaaaGreatDoorZ18
import Derived.Test.YtcckemhelockaaaGreatDoorZ22
import Derived.Test.YtcckemhelockaaaGreatDoorZ25
import Derived.Test.YtcckemhelockaaaGreatDoorZ26
import Derived.Test.YtcckemhelockaaaGreatDoorZ30
import Derived.Test.YtcckemhelockaaaGreatDoorZ32
namespace Go.Proofs.YtcckemhelockaaaGreatDoor
open Go.RowKit Go.Lib
open Go.Maps (Keyed IsMap)
set_option linter.unusedVariables false
set_option linter.unusedSimpArgs false
set_option maxRecDepth 100000 in
set_option maxHeartbeats 4000000 in
theorem kinds_any (w0 w : World) (hr : Rel w0 w) :
    Calls Tryz.prog 29 #[] w fun r w' => ∃ b, r = .returned (.map (some b)) ∧ w.heap.size ≤ b ∧ MapIs w' b kindsL ∧ Rel w w' ∧ Rel w0 w' := by
  have hmm := @run_makeMap Tryz.prog
  have m0 := MapIs.made w
  have hw : w.heap.size ≤ w.heap.size := Nat.le_refl _
  have r0 := hr.self.alloc (.map #[] 0)
  go_enter Tryz.func29, Tryz.ntmps29
  go_wp2_with (first
    | (refine wp_entry _ rfl _ _ _ 74 rfl 3 Tryz.underlying74 _ _ rfl m0 (by decide) 1 (.int .i64 2) rfl (by decide) rfl ?_; intro w1 m1 g1; have r1 := Rel.grown r0 g1 (fun k hk => by injection hk with hk; rw [← hk]; exact hw); clear m0 g1 r0)
    | (refine wp_entry _ rfl _ _ _ 74 rfl 3 Tryz.underlying74 _ _ rfl m1 (by decide) 2 (.int .i64 3) rfl (by decide) rfl ?_; intro w2 m2 g2; have r2 := Rel.grown r1 g2 (fun k hk => by injection hk with hk; rw [← hk]; exact hw); clear m1 g2 r1)
    | (refine wp_entry _ rfl _ _ _ 74 rfl 3 Tryz.underlying74 _ _ rfl m2 (by decide) 3 (.int .i64 4) rfl (by decide) rfl ?_; intro w3 m3 g3; have r3 := Rel.grown r2 g3 (fun k hk => by injection hk with hk; rw [← hk]; exact hw); clear m2 g3 r2)
    | (refine wp_entry _ rfl _ _ _ 74 rfl 3 Tryz.underlying74 _ _ rfl m3 (by decide) 4 (.int .i64 1) rfl (by decide) rfl ?_; intro w4 m4 g4; have r4 := Rel.grown r3 g4 (fun k hk => by injection hk with hk; rw [← hk]; exact hw); clear m3 g4 r3)
    | (refine wp_entry _ rfl _ _ _ 74 rfl 3 Tryz.underlying74 _ _ rfl m4 (by decide) 5 (.int .i64 5) rfl (by decide) rfl ?_; intro w5 m5 g5; have r5 := Rel.grown r4 g5 (fun k hk => by injection hk with hk; rw [← hk]; exact hw); clear m4 g5 r4)
    | (refine wp_entry _ rfl _ _ _ 74 rfl 3 Tryz.underlying74 _ _ rfl m5 (by decide) 6 (.int .i64 6) rfl (by decide) rfl ?_; intro w6 m6 g6; have r6 := Rel.grown r5 g6 (fun k hk => by injection hk with hk; rw [← hk]; exact hw); clear m5 g6 r5)
    | (refine wp_entry _ rfl _ _ _ 74 rfl 3 Tryz.underlying74 _ _ rfl m6 (by decide) 7 (.int .i64 7) rfl (by decide) rfl ?_; intro w7 m7 g7; have r7 := Rel.grown r6 g7 (fun k hk => by injection hk with hk; rw [← hk]; exact hw); clear m6 g7 r6)
    | (refine wp_entry _ rfl _ _ _ 74 rfl 3 Tryz.underlying74 _ _ rfl m7 (by decide) 8 (.int .i64 8) rfl (by decide) rfl ?_; intro w8 m8 g8; have r8 := Rel.grown r7 g8 (fun k hk => by injection hk with hk; rw [← hk]; exact hw); clear m7 g8 r7)
    | (refine wp_entry _ rfl _ _ _ 74 rfl 3 Tryz.underlying74 _ _ rfl m8 (by decide) 11 (.int .i64 10) rfl (by decide) rfl ?_; intro w9 m9 g9; have r9 := Rel.grown r8 g9 (fun k hk => by injection hk with hk; rw [← hk]; exact hw); clear m8 g9 r8)
    | (refine wp_entry _ rfl _ _ _ 74 rfl 3 Tryz.underlying74 _ _ rfl m9 (by decide) 12 (.int .i64 11) rfl (by decide) rfl ?_; intro w10 m10 g10; have r10 := Rel.grown r9 g10 (fun k hk => by injection hk with hk; rw [← hk]; exact hw); clear m9 g10 r9))
  go_ret
  exact ⟨_, rfl, hw, m10, r10, hr.trans r10⟩
end Go.Proofs.YtcckemhelockaaaGreatDoor

namespace Go.Proofs.YtcckemhelockaaaGreatDoor
open Go.RowKit Go.Lib
set_option linter.unusedVariables false
set_option linter.unusedSimpArgs false
theorem InsOwn.last {w : World} {base : Nat} {v : Value} {l : List In} {o : In} (h : InsOwn w base v (l ++ [o])) : ∃ g c, v = .slice (some ⟨g, 0, none⟩) (l.length + 1) c ∧ base ≤ g := by
  obtain ⟨A, c, rfl⟩ := h.slice_of
  rcases h.form with ⟨_, _, e⟩ | ⟨g, rfl, hg, _⟩
  · simp at e
  · exact ⟨g, c, by rw [show (l ++ [o]).length = l.length + 1 by simp], hg⟩
theorem put_rel {w0 w w' : World} {b L c : Nat} {u : Value} {A : Option Addr} {l : List In} (hC : w0.heap.size ≤ b) (ho : InsOwn w w0.heap.size (.slice A L c) l) (hr : Rel w0 w) (hg : w.grownBy w' (Value.slice A L c).ownBlock) : Rel w0 (w'.setCell ⟨b, 1, none⟩ u) :=
  (hr.grown hg (fun k hk => (ho.row.lt k hk).1)).setCell (p := ⟨b, 1, none⟩) hC _
theorem put_kq {w0 w w' : World} {base b L c : Nat} {u : Value} {A : Option Addr} {l : List In} (ho : InsOwn w base (.slice A L c) l) (hk : Kq b w0 w) (hg : w.grownBy w' (Value.slice A L c).ownBlock) : Kq b w0 (w'.setCell ⟨b, 1, none⟩ u) :=
  (hk.trans (Kq.row ho hg)).set (p := ⟨b, 1, none⟩) rfl _
theorem put_done {w w' : World} {C b m g c c' L : Nat} {A : Option Addr} {l : List In} {o : In} (hC : C ≤ b) (hL : l.length = L) (hb : Bk w b 77 #[.map (some m), .slice A L c]) (ho : InsOwn w C (.slice A L c) l) (hm : MapIs w m kindsL)
    (hw : w.grownBy w' (Value.slice A L c).ownBlock) (hown : InsOwn w' C (.slice (some ⟨g, 0, none⟩) (l.length + 1) c') (l ++ [o])) (_ : C ≤ g) : Cm (w'.setCell ⟨b, 1, none⟩ (.slice (some ⟨g, 0, none⟩) (l.length + 1) c')) C b m (l ++ [o]) := by
  subst hL; exact Cm.put hC hb ho hm hw hown
set_option maxRecDepth 100000 in
set_option maxHeartbeats 4000000 in
theorem cput_any (b m : Nat) (l : List In) (o n : Int) (nm : List UInt8) (hl : l.length ≤ 90000) (w0 w : World) (hr : Rel w0 w) (h : Cm w w0.heap.size b m l) :
    Calls Tryz.prog 48 #[.pointer (some ⟨b, 0, none⟩), .agg #[.int .i64 o, .int .i64 n, .string (B nm)]] w fun r w' => r = .returned (.tuple #[]) ∧ Cm w' w0.heap.size b m (l ++ [(o, n, nm)]) ∧ Rel w0 w' ∧ Kq b w w' := by
  obtain ⟨hC, A, c, hb, ho, hm⟩ := h
  have HX := Lib.hid (Bk.new w 45 #[.int .i64 o, .int .i64 n, .string (B nm)])
  have HB := Lib.hid (hb.alloc (.cells #[.int .i64 o, .int .i64 n, .string (B nm)] 45))
  have HO := Lib.hid (show InsOwn (w.alloc (.cells #[.int .i64 o, .int .i64 n, .string (B nm)] 45)) w0.heap.size (.slice A l.length c) l from ho.row.alloc _)
  have HM := Lib.hid (hm.alloc (.cells #[.int .i64 o, .int .i64 n, .string (B nm)] 45))
  have HA := Lib.hid (hr.alloc (.cells #[.int .i64 o, .int .i64 n, .string (B nm)] 45))
  have HK := Lib.hid ((Kq.refl b w).alloc (.cells #[.int .i64 o, .int .i64 n, .string (B nm)] 45))
  obtain ⟨W, hW⟩ : ∃ W, w.alloc (.cells #[.int .i64 o, .int .i64 n, .string (B nm)] 45) = W := ⟨_, rfl⟩
  rw [hW] at HX HB HO HM HA HK
  obtain ⟨⟨x0, x1, x2⟩, _⟩ := three_of HX.out
  obtain ⟨L, hL⟩ : ∃ L, l.length = L := ⟨_, rfl⟩
  have HL := Lib.hid hL
  have hl2 : L ≤ 90000 := by omega
  rw [hL] at HB HO
  obtain ⟨⟨b0, b1⟩, f0, f1⟩ := HB.out.two
  have HB2 := Lib.hid (show Bk (W.alloc (.cells #[.int .i64 o, .int .i64 n, .string (B nm)] 45)).drew b 77 _ from HB.out.alloc (.cells #[.int .i64 o, .int .i64 n, .string (B nm)] 45))
  have HO2 := Lib.hid (show InsOwn (W.alloc (.cells #[.int .i64 o, .int .i64 n, .string (B nm)] 45)).drew w0.heap.size (.slice A L c) l from HO.out.row.alloc (.cells #[.int .i64 o, .int .i64 n, .string (B nm)] 45))
  have HM2 := Lib.hid (show MapIs (W.alloc (.cells #[.int .i64 o, .int .i64 n, .string (B nm)] 45)).drew m kindsL from HM.out.alloc (.cells #[.int .i64 o, .int .i64 n, .string (B nm)] 45))
  have HA2 := Lib.hid ((HA.out.alloc (.cells #[.int .i64 o, .int .i64 n, .string (B nm)] 45)).drew)
  have HK2 := Lib.hid (show Kq b w (W.alloc (.cells #[.int .i64 o, .int .i64 n, .string (B nm)] 45)).drew from HK.out.alloc (.cells #[.int .i64 o, .int .i64 n, .string (B nm)] 45))
  have d1 : (W.alloc (.cells #[.int .i64 o, .int .i64 n, .string (B nm)] 45)).drew.cell? ⟨b, 1, none⟩ = some (.slice A L c) := HB2.out.cell 1
  have HIN := Lib.hid (show InsAt (W.alloc (.cells #[.int .i64 o, .int .i64 n, .string (B nm)] 45)).drew (some ⟨W.heap.size, 0, none⟩) [(o, n, nm)] from InsAt.of_bk (l := [(o, n, nm)]) (Bk.new W 45 #[.int .i64 o, .int .i64 n, .string (B nm)]))
  have hbs : w0.heap.size ≤ (W.alloc (.cells #[.int .i64 o, .int .i64 n, .string (B nm)] 45)).drew.heap.size := HA2.out.size
  clear hr hb ho hm hL hl
  go_enter Tryz.func48, Tryz.ntmps48
  go_upto_region 1 with (fail)
  refine wp_region_any (by kernel_rfl) ?_
  change wpAny _ _ _ _ _ _ _ W.drew
  refine any_take (i := 0) (v := ?_) (some 4) rfl rfl (by kernel_rfl) (by kernel_rfl) (by kernel_rfl) (fun _ _ _ h => h) (Or.inl ⟨by rfl, ?_⟩) ?_
  rotate_left 1
  · intro w'; go_simp; try with_reducible rfl
  try simp only [Act.put, List.setIfInBounds_toArray, List.set_cons_zero, List.set_cons_succ]
  refine any_take (i := 1) (v := ?_) (some 5) rfl rfl (by kernel_rfl) (by kernel_rfl) (by kernel_rfl) (fun _ _ _ h => h) (Or.inl ⟨by rfl, ?_⟩) ?_
  rotate_left 1
  · intro w'; go_simp; try with_reducible rfl
  try simp only [Act.put, List.setIfInBounds_toArray, List.set_cons_zero, List.set_cons_succ]
  refine any_take (i := 2) (v := ?_) (some 6) rfl rfl (by kernel_rfl) (by kernel_rfl) (by kernel_rfl) (fun _ _ _ h => h) (Or.inl ⟨by rfl, ?_⟩) ?_
  rotate_left 1
  · intro w'; go_simp; try with_reducible rfl
  try simp only [Act.put, List.setIfInBounds_toArray, List.set_cons_zero, List.set_cons_succ]
  refine any_take (i := 3) (v := ?_) (some 7) rfl rfl (by kernel_rfl) (by kernel_rfl) (by kernel_rfl) (fun _ _ _ h => h) (Or.inl ⟨by rfl, ?_⟩) ?_
  rotate_left 1
  · intro w'; go_simp; try with_reducible rfl
  try simp only [Act.put, List.setIfInBounds_toArray, List.set_cons_zero, List.set_cons_succ]
  refine till_take (i := 4) (v := ?_) (S := fun w' => w'.cell? ⟨b, 1, none⟩ = some (.slice A L c)) (some 8) rfl rfl (by kernel_rfl) (by kernel_rfl) (by kernel_rfl) (fun _ _ _ h => h) (Or.inl ⟨by rfl, ?_⟩) b1 ?_
  rotate_left 1
  · intro w' hSw; go_simp; try with_reducible rfl
  try simp only [Act.put, List.setIfInBounds_toArray, List.set_cons_zero, List.set_cons_succ]
  refine till_one (j := 5) (by kernel_rfl) rfl (fun K hK => ?_)
  try simp only [List.getElem_toArray, List.getElem_cons_succ, List.getElem_cons_zero]
  try rw [if_pos (by rfl)]
  go_simp
  refine hK.out _ _ b1 ?_
  clear hK K
  try simp only [Act.put, List.setIfInBounds_toArray, List.set_cons_zero, List.set_cons_succ]
  refine till_one (j := 6) (by kernel_rfl) rfl (fun K hK => ?_)
  try simp only [List.getElem_toArray, List.getElem_cons_succ, List.getElem_cons_zero]
  try rw [if_pos (by rfl)]
  go_simp
  refine hK.out _ _ d1 ?_
  clear hK K
  try simp only [Act.put, List.setIfInBounds_toArray, List.set_cons_zero, List.set_cons_succ]
  refine till_late (j := 7) (by kernel_rfl) rfl (by kernel_rfl) (fun K hK => ?_)
  try simp only [List.getElem_toArray, List.getElem_cons_succ, List.getElem_cons_zero]
  rw [if_pos (by rfl)]
  refine wp_iapp _ _ rfl (base := w0.heap.size) (v := .slice A L c) (os := l) rfl HO2.out (A := some ⟨W.heap.size, 0, none⟩) (c := 1) (n := 1) (l := [(o, n, nm)]) rfl rfl (fun e => by cases e) HIN.out (by simp) (by rw [HL.out]; omega) hbs ?_
  intro v9 w9 own9 g9 b9
  obtain ⟨g8, c8, rfl, hg8⟩ := own9.last
  have HB9 := Lib.hid (HB2.out.grown g9 (own_ne HO2.out.row HB2.out cmp_ne))
  obtain ⟨⟨y0, y1⟩, y2, y3⟩ := HB9.out.two
  have HO9 := Lib.hid own9
  have HG9 := Lib.hid g9
  clear own9 g9 b9
  refine hK.out _ _ ?_
  clear hK K
  try simp only [Act.put, List.setIfInBounds_toArray, List.set_cons_zero, List.set_cons_succ]
  refine till_late (j := 8) (by kernel_rfl) rfl (by kernel_rfl) (fun K hK => ?_)
  try simp only [List.getElem_toArray, List.getElem_cons_succ, List.getElem_cons_zero]
  try rw [if_pos (by rfl)]
  go_simp
  refine hK.out _ _ ?_
  clear hK K
  try simp only [Act.put, List.setIfInBounds_toArray, List.set_cons_zero, List.set_cons_succ]
  refine till_late (j := 9) (by kernel_rfl) rfl (by kernel_rfl) (fun K hK => ?_)
  try simp only [List.getElem_toArray, List.getElem_cons_succ, List.getElem_cons_zero]
  try rw [if_pos (by rfl)]
  go_simp
  refine hK.out _ _ ?_
  clear hK K
  try simp only [Act.put, List.setIfInBounds_toArray, List.set_cons_zero, List.set_cons_succ]
  refine till_late (j := 10) (by kernel_rfl) rfl (by kernel_rfl) (fun K hK => ?_)
  try simp only [List.getElem_toArray, List.getElem_cons_succ, List.getElem_cons_zero]
  try rw [if_pos (by rfl)]
  go_simp
  refine hK.out _ _ ?_
  clear hK K
  try simp only [Act.put, List.setIfInBounds_toArray, List.set_cons_zero, List.set_cons_succ]
  refine till_done (by kernel_rfl) ?_ _
  go_wp2_with (fail)
  go_end0
  exact ⟨rfl, put_done hC HL.out HB2.out HO2.out HM2.out HG9.out HO9.out hg8, put_rel hC HO2.out HA2.out HG9.out, put_kq HO2.out HK2.out HG9.out⟩
end Go.Proofs.YtcckemhelockaaaGreatDoor

namespace Go.Proofs
open Go.Shelf
def Tryz.laysM316_ren : Go.Shelf.Ren := ⟨fun | 316 => 95 | n => n, fun | 9 => 9 | 3 => 3 | 4 => 4 | 37 => 119 | 0 => 0 | 127 => 154 | 5 => 5 | n => n, fun | n => n⟩
theorem Tryz.laysM316 : Go.Proofs.LaysM.n316 Tryz.prog Tryz.laysM316_ren := {
  mixed := by kernel_rfl
  f316 := Tryz.func95.trans (congrArg some (by kernel_rfl))
  t0 := Tryz.underlying0
  a0 := Tryz.isAgg0
  z0 := Tryz.sizeOf0
  v0 := Tryz.zeroValue0
  t3 := Tryz.underlying3
  a3 := Tryz.isAgg3
  z3 := Tryz.sizeOf3
  v3 := Tryz.zeroValue3
  t4 := Tryz.underlying4
  a4 := Tryz.isAgg4
  z4 := Tryz.sizeOf4
  v4 := Tryz.zeroValue4
  t9 := Tryz.underlying9
  a9 := Tryz.isAgg9
  z9 := Tryz.sizeOf9
  v9 := Tryz.zeroValue9
  t37 := Tryz.underlying119
  a37 := Tryz.isAgg119
  z37 := Tryz.sizeOf119
  v37 := Tryz.zeroValue119
  t127 := Tryz.underlying154
  a127 := Tryz.isAgg154
  z127 := Tryz.sizeOf154
  v127 := Tryz.zeroValue154
  t5 := Tryz.underlying5
  a5 := Tryz.isAgg5
  z5 := Tryz.sizeOf5
  v5 := Tryz.zeroValue5
  i0 := by kernel_rfl
  i3 := by kernel_rfl
  i4 := by kernel_rfl
  i5 := by kernel_rfl
  i9 := by kernel_rfl
  i37 := by kernel_rfl
  i127 := by kernel_rfl }
open Go.RowKit in
/-- internal/stringslite.Clone (what strings.Clone calls): "Clone returns a fresh copy of s.": THE SAME BYTES. Of what was there nothing has turned (a new row is laid, and frozen, where s is not empty). (LAID: no walk: one application.) -/
theorem Tryz.stringslite_Clone (s : ByteArray) (w : World) (hlim : s.size ≤ 281474976710656) :
    Calls Tryz.prog 95 #[.string s] w fun e w' => e = .returned (.string s) ∧ Below w.heap.size w w' := Any.stringslite_Clone Tryz.laysM316 s w hlim
end Go.Proofs

namespace Go.Proofs.YtcckemhelockaaaGreatDoor
open Go.RowKit Go.Lib
set_option linter.unusedVariables false
set_option linter.unusedSimpArgs false
def CompileOk : Prop := ∀ (x : Ex) (S : Nat → Prop) (e : El) (w0 w : World), Rel w0 w → ExAt S w e x → size x ≤ 90000 →
    Calls Tryz.prog 18 #[EV e] w fun r w' => ∃ A c, r = .returned (.tuple #[.slice A (codX x).length c, .int .i64 (codR x)]) ∧ InsOwn w' w.heap.size (.slice A (codX x).length c) (codX x) ∧ Rel w0 w'
end Go.Proofs.YtcckemhelockaaaGreatDoor

namespace Go.Proofs.YtcckemhelockaaaGreatDoor
open Go.RowKit Go.Lib
set_option linter.unusedVariables false
set_option linter.unusedSimpArgs false
theorem codX_code (x : Ex) (h : rightX x = true) : codeOk (codX x) = true ∧ (codX x).length = size x + many 10 x ∧ size x ≤ 2000 := by
  have hr := right_code h
  rw [(codX_yes h).1]
  refine ⟨hr.1, by rw [hr.2.1, clen_size], ?_⟩
  unfold rightX at h
  simp only [Bool.and_eq_true, decide_eq_true_eq] at h
  exact h.1.2
end Go.Proofs.YtcckemhelockaaaGreatDoor

namespace Go.Proofs.YtcckemhelockaaaGreatDoor
open Go.RowKit Go.Lib
set_option linter.unusedVariables false
set_option linter.unusedSimpArgs false
/-- A call of Compile, what it tells spelled. -/
theorem compile11 (H : CompileOk) (x : Ex) (l : List In) (n : Nat) (er : Int) (hl : Hid (codX x = l ∧ codR x = er)) (hn : Hid (l.length = n)) (S : Nat → Prop) (e : El) (w0 w : World) (hr : Rel w0 w) (h : ExAt S w e x) (hz : size x ≤ 90000) (ev : Value) (he : Hid (EV e = ev)) :
    Calls Tryz.prog 18 #[ev] w fun r w' => ∃ A c, r = .returned (.tuple #[.slice A n c, .int .i64 er]) ∧ InsOwn w' w.heap.size (.slice A n c) l ∧ Rel w0 w' := by
  obtain ⟨h1, h3⟩ := hl.out
  have h2 := hn.out
  subst h1 h2 h3
  rw [← he.out]; exact H x S e w0 w hr h hz
/-- The same calls, of slices whose lengths are named. -/
theorem run_lm (H : RunsOk) (l : List In) (os : List Of) (n m : Nat) (v e : Int) (b : Bool) (hv : Hid (RV (runS os l) = .tuple #[.int .i64 v, .bool b, .int .i64 e])) (hn : Hid (l.length = n)) (hm : Hid (os.length = m)) (A A' : Option Addr) (c c' : Nat) (w0 w : World) (hr : Rel w0 w) (h : InsArg w A c l) (ho : OffArg w A' c' os) :
    Calls Tryz.prog 13 #[.slice A n c, .slice A' m c'] w fun r w' => r = .returned (.tuple #[.int .i64 v, .bool b, .int .i64 e]) ∧ Rel w0 w' := by
  rw [← hn.out, ← hm.out]; exact runl_at H l os v e b hv A A' c c' w0 w hr h ho
end Go.Proofs.YtcckemhelockaaaGreatDoor

namespace Go.Proofs.YtcckemhelockaaaGreatDoor
open Go.RowKit Go.Lib
set_option linter.unusedVariables false
set_option linter.unusedSimpArgs false
theorem cput_as (s : ByteArray) (b m : Nat) (l : List In) (o n : Int) (nm : List UInt8) (hs : Hid (B nm = s)) (hl : l.length ≤ 90000) (w0 w : World) (hr : Rel w0 w) (h : Cm w w0.heap.size b m l) :
    Calls Tryz.prog 48 #[.pointer (some ⟨b, 0, none⟩), .agg #[.int .i64 o, .int .i64 n, .string s]] w fun r w' => r = .returned (.tuple #[]) ∧ Cm w' w0.heap.size b m (l ++ [(o, n, nm)]) ∧ Rel w0 w' ∧ Kq b w w' := by
  rw [← hs.out]; exact cput_any b m l o n nm hl w0 w hr h
/-- A store into a block of another type. -/
theorem Cm.far {w : World} {C b m : Nat} {l : List In} (h : Cm w C b m l) {p : Addr} {t : TypeId} {cs : Array Value} (hp : Bk w p.block t cs) (hb : p.block ≠ b) (ht : t ≠ 45) (u : Value) : Cm (w.setCell p u) C b m l := by
  obtain ⟨hC, A, c, h1, h2, h3⟩ := h
  exact ⟨hC, A, c, h1.far (Ne.symm hb) u, own_set h2.row (own_ne h2.row hp (Ne.symm ht)) u, h3.set (h3.ne hp) u⟩
set_option maxRecDepth 100000 in
set_option maxHeartbeats 4000000 in
theorem clead_any (b m : Nat) (l : List In) (o : Int) (hl : l.length ≤ 90000) (w0 w : World) (hr : Rel w0 w) (h : Cm w w0.heap.size b m l) :
    Calls Tryz.prog 47 #[.pointer (some ⟨b, 0, none⟩), .int .i64 o] w fun r w' => ∃ p q, r = .returned (.func (.func 94) #[] #[.pointer (some ⟨p, 0, none⟩), .pointer (some ⟨q, 0, none⟩)]) ∧ Bk w' p 99 #[.pointer (some ⟨b, 0, none⟩)] ∧ Bk w' q 3 #[.int .i64 (l.length : Int)] ∧ Cm w' w0.heap.size b m (l ++ [(o, 0, [])]) ∧ Rel w0 w' ∧ Kq b w w' := by
  have HR := Lib.hid hr
  obtain ⟨L, hL⟩ : ∃ L, l.length = L := ⟨_, rfl⟩
  have hlt := h.lt
  have HP := Lib.hid ((Bk.new w 99 #[.pointer (some ⟨b, 0, none⟩)]).alloc (.cells #[.int .i64 (L : Int)] 3))
  have HQ := Lib.hid (Bk.new (w.alloc (.cells #[.pointer (some ⟨b, 0, none⟩)] 99)) 3 #[.int .i64 (L : Int)])
  have HC := Lib.hid ((h.alloc (.cells #[.pointer (some ⟨b, 0, none⟩)] 99)).alloc (.cells #[.int .i64 (L : Int)] 3))
  have HA := Lib.hid ((hr.alloc (.cells #[.pointer (some ⟨b, 0, none⟩)] 99)).alloc (.cells #[.int .i64 (L : Int)] 3))
  have HK := Lib.hid (((Kq.refl b w).alloc (.cells #[.pointer (some ⟨b, 0, none⟩)] 99)).alloc (.cells #[.int .i64 (L : Int)] 3))
  obtain ⟨A, c, x0, x1, x2⟩ := (h.alloc (.cells #[.pointer (some ⟨b, 0, none⟩)] 99)).cells
  rw [hL] at x1 ⊢
  have HL := Lib.hid hL
  clear h hr hL
  go_enter Tryz.func47, Tryz.ntmps47
  go_wp2_with (go_at_call 48; (with_reducible refine (cput_as ⟨#[]⟩ b m l o 0 [] (Lib.hid rfl) hl w0 _ HA.out HC.out).mono ?_); rintro r w3 ⟨rfl, c3, r3, k3⟩)
  go_ret
  exact ⟨_, _, rfl, k3.bk HP.out (by omega) (by decide), k3.bk (by have h := HQ.out; rw [World.size_alloc] at h; exact h) (by omega) (by decide), c3, r3, HK.out.trans k3⟩
theorem cellsI_set (l : List In) (i : Nat) (o v' : Int) (nm : List UInt8) (v : Int) (h : l[i]? = some (o, v', nm)) : (cellsI l).set (i * 3 + 1) (.int .i64 v) = cellsI (l.set i (o, v, nm)) := by
  induction l generalizing i with
  | nil => simp at h
  | cons t r ih =>
    cases i with
    | zero =>
      simp only [List.getElem?_cons_zero, Option.some.injEq] at h
      subst h
      rfl
    | succ i =>
      simp only [List.getElem?_cons_succ] at h
      rw [List.set_cons_succ, cellsI_cons, cellsI_cons, ← ih i h, show (i + 1) * 3 + 1 = (cellsN t).length + (i * 3 + 1) by simp [cellsN]; omega, List.set_append_right _ _ (by omega)]
      simp
/-- A place filled in. -/
theorem Cm.fill {w : World} {b m g c L i : Nat} {l : List In} {w0 : World} {o v' v : Int} {nm : List UInt8} (hC : w0.heap.size ≤ b) (hL : l.length = L) (hr : Rel w0 w) (hb : Bk w b 77 #[.map (some m), .slice (some ⟨g, 0, none⟩) L c])
    (ho : InsOwn w w0.heap.size (.slice (some ⟨g, 0, none⟩) L c) l) (hm : MapIs w m kindsL) (hi : l[i]? = some (o, v', nm)) :
    Cm (w.setCell ⟨g, i * 3 + 1, none⟩ (.int .i64 v)) w0.heap.size b m (l.set i (o, v, nm)) ∧ Rel w0 (w.setCell ⟨g, i * 3 + 1, none⟩ (.int .i64 v)) ∧ Kq b w (w.setCell ⟨g, i * 3 + 1, none⟩ (.int .i64 v)) := by
  subst hL
  obtain ⟨h1, h2⟩ := ho.row.stored (i * 3 + 1) (.int .i64 v)
  have hgb : g ≠ b := fun e => own_ne ho.row hb cmp_ne (by rw [e]; rfl)
  have hmg : m ≠ g := by
    rcases ho.2 with ⟨h0, _⟩ | ⟨g', cap, cur, hv, _, hh, _⟩
    · injection h0 with h0; cases h0
    · have : g = g' := by injection hv with hv; injection hv with hv; injection hv
      subst this
      exact hm.ne (t := 45) hh
  refine ⟨⟨hC, some ⟨g, 0, none⟩, c, ?_, ?_, hm.set hmg _⟩, hr.setCell (p := ⟨g, i * 3 + 1, none⟩) (ho.row.lt g rfl).1 _, Kq.row ho h2⟩
  · rw [List.length_set]
    exact hb.far (p := ⟨g, i * 3 + 1, none⟩) (Ne.symm hgb) _
  · rw [List.length_set]
    unfold InsOwn
    rw [List.length_set, ← cellsI_set l i o v' nm v hi]
    exact h1
set_option maxRecDepth 100000 in
set_option maxHeartbeats 4000000 in
theorem cend_any (b m p q i : Nat) (l : List In) (o v : Int) (nm : List UInt8) (hi : l[i]? = some (o, v, nm)) (hl : l.length ≤ 90000) (w0 w : World) (hr : Rel w0 w) (h : Cm w w0.heap.size b m l) (hp : Bk w p 99 #[.pointer (some ⟨b, 0, none⟩)]) (hq : Bk w q 3 #[.int .i64 (i : Int)]) :
    Calls Tryz.prog 94 #[.pointer (some ⟨p, 0, none⟩), .pointer (some ⟨q, 0, none⟩)] w fun r w' => r = .returned (.tuple #[]) ∧ Cm w' w0.heap.size b m (l.set i (o, (l.length : Int), nm)) ∧ Rel w0 w' ∧ Kq b w w' := by
  obtain ⟨hC, A, c, hb, ho, hm⟩ := h
  obtain ⟨⟨b0, b1⟩, f0, f1⟩ := hb.two
  have p0 : w.cell? ⟨p, 0, none⟩ = some (.pointer (some ⟨b, 0, none⟩)) := hp.cell 0
  have q0 : w.cell? ⟨q, 0, none⟩ = some (.int .i64 (i : Int)) := hq.cell 0
  obtain ⟨hil, hie⟩ := List.getElem?_eq_some_iff.1 hi
  obtain ⟨L, hL⟩ : ∃ L, l.length = L := ⟨_, rfl⟩
  rcases ho.form with ⟨_, _, e⟩ | ⟨g, rfl, hg, hgl⟩
  · subst e; simp at hil
  have e1 : w.cell? ⟨g, i * 3 + 1, none⟩ = some (.int .i64 v) := by
    obtain ⟨g', off, e, _, _, h1, _⟩ := ho.at rfl i hil
    injection e with e; injection e with e1 e2; subst e1; subst e2
    rw [Nat.zero_add, hie] at h1; exact h1
  have e2 := ho.row.frozenAt (i * 3 + 1)
  rw [hL] at b1 ho hb ⊢
  have HF := Lib.hid (Cm.fill (v := (L : Int)) hC hL hr hb ho hm hi)
  have hi1 : (i : Int) < (L : Int) := by omega
  have hi2 : i < L := by omega
  have hi3 : L ≤ 90000 := by omega
  clear hr hb ho hm hp hq hi hie hil hL hl
  go_enter Tryz.func94, Tryz.ntmps94
  go_upto_region 0 with (fail)
  go_still_tail 10, (by kernel_rfl)
  go_wp2_with (fail)
  go_end0
  exact ⟨rfl, HF.out.1.drew, HF.out.2.1.drew, HF.out.2.2⟩
end Go.Proofs.YtcckemhelockaaaGreatDoor
