/- A map with integer keys as a list of entries; the maps that the program makes; The landed compiler: its state; put; a place that is filled in by a closure; A place that is filled in by a closure. -/
import Derived.Test.YtldopbkjchgcnaaDoorZ01
import Derived.Maps.OwnSet
import Derived.Test.YtldopbkjchgcnaaDoorZ07
import Derived.Test.YtldopbkjchgcnaaDoorZ04
import Derived.Lib.OthersKept
namespace Go.Proofs.YtldopbkjchgcnaaDoor
open Go.RowKit Go.Lib
open Go.Maps (Keyed IsMap)
set_option linter.unusedVariables false
set_option linter.unusedSimpArgs false

/-- How a value is told as a datum: as itself. -/
def RV (v : Value) : Option (DataW Value × List MemPlace) := some (.held v, [])
def look (l : List (Int × Value)) (k : Int) : Option Value := match l with
  | [] => none
  | (j, v) :: t => if k = j then some v else look t k
theorem look_cons (j : Int) (v : Value) (t : List (Int × Value)) (k : Int) : look ((j, v) :: t) k = if k = j then some v else look t k := rfl
/-- Block b is a map of these entries. -/
def MapIs (w : World) (b : Nat) (l : List (Int × Value)) : Prop :=
  ∃ D : DataW Value, w.ownsMap Tryd.prog 3 RV b l.length D ∧ ∀ k : Int, Maps.has D (.int .i64 k) = (look l k).isSome ∧ ∀ z, D.atKey (.int .i64 k) z = match look l k with | some v => .held v | none => z
theorem int_key : Keyed Tryd.prog 3 := Maps.int_keyed Tryd.underlying3
theorem MapIs.made (w : World) : MapIs (w.alloc (.map #[] 0)) w.heap.size [] :=
  ⟨_, World.ownsMap_made _ _ _ _, fun _ => ⟨rfl, fun _ => rfl⟩⟩
theorem MapIs.lt {w : World} {b : Nat} {l : List (Int × Value)} (h : MapIs w b l) : b < w.heap.size := by obtain ⟨D, h, _⟩ := h; exact h.lt
theorem MapIs.grown {w w' : World} {b : Nat} {l : List (Int × Value)} (h : MapIs w b l) {row : Option Nat} (hg : w.grownBy w' row) (hne : some b ≠ row) : MapIs w' b l := by
  obtain ⟨D, h, h2⟩ := h
  exact ⟨D, h.kept hg hne, h2⟩
theorem MapIs.rel {w w' : World} {b : Nat} {l : List (Int × Value)} (h : MapIs w b l) (hr : Rel w w') : MapIs w' b l :=
  h.grown (row := none) ⟨hr.2.os, hr.2.tape, hr.2.output, hr.2.size, fun k hk _ => hr.2.block k hk⟩ (by simp)
theorem MapIs.alloc {w : World} {b : Nat} {l : List (Int × Value)} (h : MapIs w b l) (o : Obj) : MapIs (w.alloc o) b l := h.grown (World.grownBy_alloc w o none) (by simp)
theorem MapIs.drew {w : World} {b : Nat} {l : List (Int × Value)} (h : MapIs w b l) : MapIs w.drew b l := h
theorem MapIs.set {w : World} {b : Nat} {l : List (Int × Value)} (h : MapIs w b l) {p : Addr} (hp : b ≠ p.block) (u : Value) : MapIs (w.setCell p u) b l := by
  obtain ⟨D, h, h2⟩ := h
  exact ⟨D, h.setCell hp u, h2⟩
theorem MapIs.block {w : World} {b : Nat} {l : List (Int × Value)} (h : MapIs w b l) : ∃ es clock, w.heap[b]? = some (.map es clock) := by
  obtain ⟨D, ⟨es, clock, hb, _⟩, _⟩ := h
  exact ⟨es, clock, hb⟩
theorem MapIs.ne {w : World} {b g : Nat} {l : List (Int × Value)} {t : TypeId} {cs : Array Value} (h : MapIs w b l) (hb : Bk w g t cs) : b ≠ g := by
  obtain ⟨es, clock, hm⟩ := h.block
  rintro rfl
  unfold Bk at hb
  rw [hb] at hm; cases hm
theorem key_lit (k : Int) : WideAt.IsKeyLit (.int .i64 k) := by simp [WideAt.IsKeyLit]
theorem MapIs.put {w : World} {b : Nat} {l : List (Int × Value)} (h : MapIs w b l) (t e : TypeId) (ht : Tryd.prog.underlying t = some (.map 3 e)) (hn : l.length < maxLen) (k : Int) (hk : (Lit.int .i64 k).wf = true) (v : Value) :
    ∃ w', (Instr.mapUpdate t (.map (some b)) (.int .i64 k) v).run Tryd.prog w = .ok () w' ∧ MapIs w' b ((k, v) :: l) ∧ w.grownBy w' (some b) := by
  obtain ⟨D, h, h2⟩ := h
  obtain ⟨w', h3, h4, h5⟩ := h.update (e := e) (d := .held v) (ps := []) int_key ht hn (Maps.keyOf_int_mk Tryd.underlying3 hk) rfl
  refine ⟨w', h3, ⟨_, h4, fun j => ?_⟩, h5⟩
  rw [look_cons]
  by_cases e : j = k
  · subst e
    rw [if_pos rfl]
    exact ⟨by rw [Maps.has_put_same h.isMap (key_lit _)]; rfl, fun z => Maps.atKey_put_same h.isMap (key_lit _) _ _⟩
  · rw [if_neg e]
    have hne : (Lit.int .i64 j) ≠ .int .i64 k := fun h => e (by injection h)
    exact ⟨by rw [Maps.has_put_other hne]; exact (h2 j).1, fun z => by rw [Maps.atKey_put_other hne]; exact (h2 j).2 z⟩
theorem MapIs.look {w : World} {b : Nat} {l : List (Int × Value)} (h : MapIs w b l) (t e : TypeId) (ht : Tryd.prog.underlying t = some (.map 3 e)) (z : Value) (hz : (zeroValue e).run Tryd.prog w = .ok z w) (k : Int) (hk : (Lit.int .i64 k).wf = true) :
    (Instr.lookup t (.map (some b)) (.int .i64 k) false).run Tryd.prog w = .ok ((look l k).getD z) w := by
  obtain ⟨D, h, h2⟩ := h
  obtain ⟨v, ps, h3, h4⟩ := h.lookup (zd := .held z) (zp := []) int_key ht hz rfl (Maps.keyOf_int_mk Tryd.underlying3 hk)
  rw [h3]
  rw [(h2 k).2] at h4
  unfold RV at h4
  cases hl : Go.Proofs.YtldopbkjchgcnaaDoor.look l k with
  | none => rw [hl] at h4; have h5 := congrArg Prod.fst (Option.some.inj h4); rw [DataW.held.inj h5]; rfl
  | some u => rw [hl] at h4; have h5 := congrArg Prod.fst (Option.some.inj h4); rw [DataW.held.inj h5]; rfl
theorem MapIs.look_ok {w : World} {b : Nat} {l : List (Int × Value)} (h : MapIs w b l) (t e : TypeId) (ht : Tryd.prog.underlying t = some (.map 3 e)) (z : Value) (hz : (zeroValue e).run Tryd.prog w = .ok z w) (k : Int) (hk : (Lit.int .i64 k).wf = true) :
    (Instr.lookup t (.map (some b)) (.int .i64 k) true).run Tryd.prog w = .ok (.tuple #[(Go.Proofs.YtldopbkjchgcnaaDoor.look l k).getD z, .bool (Go.Proofs.YtldopbkjchgcnaaDoor.look l k).isSome]) w := by
  obtain ⟨D, h, h2⟩ := h
  obtain ⟨v, ps, h3, h4⟩ := h.look_ok (zd := .held z) (zp := []) int_key ht hz rfl (Maps.keyOf_int_mk Tryd.underlying3 hk)
  rw [h3, (h2 k).1]
  rw [(h2 k).2] at h4
  unfold RV at h4
  cases hl : Go.Proofs.YtldopbkjchgcnaaDoor.look l k with
  | none => rw [hl] at h4; have h5 := congrArg Prod.fst (Option.some.inj h4); rw [DataW.held.inj h5]; rfl
  | some u => rw [hl] at h4; have h5 := congrArg Prod.fst (Option.some.inj h4); rw [DataW.held.inj h5]; rfl
/-- A store of a literal's entry, at the operation. -/
theorem wp_entry (w : World) {ops : Array Oper} {rest : List Oper} {o : Oper} {a : Act} {Q : Exit → Act → World → Prop}
    (hg : o.guard = none) (m x v : Operand) (t : TypeId) (hop : o.op = Op.insert t m x v) (e : TypeId) (ht : Tryd.prog.underlying t = some (.map 3 e)) (b : Nat) (l : List (Int × Value))
    (hm : a.eval m = .map (some b)) (hown : MapIs w b l) (hn : l.length < maxLen) (k : Int) (val : Value) (hx : a.eval x = .int .i64 k) (hwk : (Lit.int .i64 k).wf = true) (hv : a.eval v = val)
    (hK : ∀ w', MapIs w' b ((k, val) :: l) → w.grownBy w' (some b) → wpList Tryd.prog ops Q rest (a.put o.dst undef) w') :
    wpList Tryd.prog ops Q (o :: rest) a w := by
  refine wpList_plain hg fun K' hK' => ?_
  obtain ⟨w', hrun, r1, r2⟩ := hown.put t e ht hn k hwk val
  unfold Oper.wp
  simp [execOp, hop, hm, hx, hv, hrun, Result.andThen]
  exact hK' _ _ (hK w' r1 r2)
def kindsL : List (Int × Value) := [(12, .int .i64 11), (11, .int .i64 10), (8, .int .i64 8), (7, .int .i64 7), (6, .int .i64 6), (5, .int .i64 5), (4, .int .i64 1), (3, .int .i64 4), (2, .int .i64 3), (1, .int .i64 2)]
def opsL : List (Int × Value) := [(13, .agg #[.string ⟨#[106, 117, 109, 112]⟩, .int .i64 2, .int .i64 0]), (12, .agg #[.string ⟨#[117, 110, 108, 101, 115, 115]⟩, .int .i64 2, .int .i64 0]), (11, .agg #[.string ⟨#[97, 98, 111, 118, 101]⟩, .int .i64 0, .int .i64 0]), (10, .agg #[.string ⟨#[109, 111, 114, 101]⟩, .int .i64 1, .int .i64 1000]), (9, .agg #[.string ⟨#[101, 108, 115, 101]⟩, .int .i64 2, .int .i64 0]), (8, .agg #[.string ⟨#[109, 97, 120]⟩, .int .i64 0, .int .i64 0]), (7, .agg #[.string ⟨#[109, 105, 110]⟩, .int .i64 0, .int .i64 0]), (6, .agg #[.string ⟨#[99, 117, 116]⟩, .int .i64 1, .int .i64 100000]), (5, .agg #[.string ⟨#[108, 101, 115, 115]⟩, .int .i64 1, .int .i64 1000000000000]), (4, .agg #[.string ⟨#[102, 114, 111, 109]⟩, .int .i64 3, .int .i64 0]), (3, .agg #[.string ⟨#[115, 101, 99, 111, 110, 100]⟩, .int .i64 0, .int .i64 0]), (2, .agg #[.string ⟨#[108, 111, 119, 101, 115, 116]⟩, .int .i64 0, .int .i64 0]), (1, .agg #[.string ⟨#[112, 117, 115, 104]⟩, .int .i64 1, .int .i64 1000000000000])]
set_option maxRecDepth 100000 in
set_option maxHeartbeats 4000000 in
theorem kinds_any (w0 w : World) (hr : Rel w0 w) :
    Calls Tryd.prog 26 #[] w fun r w' => ∃ b, r = .returned (.map (some b)) ∧ w.heap.size ≤ b ∧ MapIs w' b kindsL ∧ Rel w w' ∧ Rel w0 w' := by
  have hmm := @run_makeMap Tryd.prog
  have m0 := MapIs.made w
  have hw : w.heap.size ≤ w.heap.size := Nat.le_refl _
  have r0 := hr.self.alloc (.map #[] 0)
  go_enter Tryd.func26, Tryd.ntmps26
  go_wp2_with (first
    | (refine wp_entry _ rfl _ _ _ 53 rfl 3 Tryd.underlying53 _ _ rfl m0 (by decide) 1 (.int .i64 2) rfl (by decide) rfl ?_; intro w1 m1 g1; have r1 := Rel.grown r0 g1 (fun k hk => by injection hk with hk; rw [← hk]; exact hw); clear m0 g1 r0)
    | (refine wp_entry _ rfl _ _ _ 53 rfl 3 Tryd.underlying53 _ _ rfl m1 (by decide) 2 (.int .i64 3) rfl (by decide) rfl ?_; intro w2 m2 g2; have r2 := Rel.grown r1 g2 (fun k hk => by injection hk with hk; rw [← hk]; exact hw); clear m1 g2 r1)
    | (refine wp_entry _ rfl _ _ _ 53 rfl 3 Tryd.underlying53 _ _ rfl m2 (by decide) 3 (.int .i64 4) rfl (by decide) rfl ?_; intro w3 m3 g3; have r3 := Rel.grown r2 g3 (fun k hk => by injection hk with hk; rw [← hk]; exact hw); clear m2 g3 r2)
    | (refine wp_entry _ rfl _ _ _ 53 rfl 3 Tryd.underlying53 _ _ rfl m3 (by decide) 4 (.int .i64 1) rfl (by decide) rfl ?_; intro w4 m4 g4; have r4 := Rel.grown r3 g4 (fun k hk => by injection hk with hk; rw [← hk]; exact hw); clear m3 g4 r3)
    | (refine wp_entry _ rfl _ _ _ 53 rfl 3 Tryd.underlying53 _ _ rfl m4 (by decide) 5 (.int .i64 5) rfl (by decide) rfl ?_; intro w5 m5 g5; have r5 := Rel.grown r4 g5 (fun k hk => by injection hk with hk; rw [← hk]; exact hw); clear m4 g5 r4)
    | (refine wp_entry _ rfl _ _ _ 53 rfl 3 Tryd.underlying53 _ _ rfl m5 (by decide) 6 (.int .i64 6) rfl (by decide) rfl ?_; intro w6 m6 g6; have r6 := Rel.grown r5 g6 (fun k hk => by injection hk with hk; rw [← hk]; exact hw); clear m5 g6 r5)
    | (refine wp_entry _ rfl _ _ _ 53 rfl 3 Tryd.underlying53 _ _ rfl m6 (by decide) 7 (.int .i64 7) rfl (by decide) rfl ?_; intro w7 m7 g7; have r7 := Rel.grown r6 g7 (fun k hk => by injection hk with hk; rw [← hk]; exact hw); clear m6 g7 r6)
    | (refine wp_entry _ rfl _ _ _ 53 rfl 3 Tryd.underlying53 _ _ rfl m7 (by decide) 8 (.int .i64 8) rfl (by decide) rfl ?_; intro w8 m8 g8; have r8 := Rel.grown r7 g8 (fun k hk => by injection hk with hk; rw [← hk]; exact hw); clear m7 g8 r7)
    | (refine wp_entry _ rfl _ _ _ 53 rfl 3 Tryd.underlying53 _ _ rfl m8 (by decide) 11 (.int .i64 10) rfl (by decide) rfl ?_; intro w9 m9 g9; have r9 := Rel.grown r8 g9 (fun k hk => by injection hk with hk; rw [← hk]; exact hw); clear m8 g9 r8)
    | (refine wp_entry _ rfl _ _ _ 53 rfl 3 Tryd.underlying53 _ _ rfl m9 (by decide) 12 (.int .i64 11) rfl (by decide) rfl ?_; intro w10 m10 g10; have r10 := Rel.grown r9 g10 (fun k hk => by injection hk with hk; rw [← hk]; exact hw); clear m9 g10 r9))
  go_ret
  exact ⟨_, rfl, hw, m10, r10, hr.trans r10⟩
set_option maxRecDepth 100000 in
set_option maxHeartbeats 4000000 in
theorem operations_any (w0 w : World) (hr : Rel w0 w) :
    Calls Tryd.prog 30 #[] w fun r w' => ∃ b, r = .returned (.map (some b)) ∧ w.heap.size ≤ b ∧ MapIs w' b opsL ∧ Rel w w' ∧ Rel w0 w' := by
  have hmm := @run_makeMap Tryd.prog
  have m0 := MapIs.made w
  have hw : w.heap.size ≤ w.heap.size := Nat.le_refl _
  have r0 := hr.self.alloc (.map #[] 0)
  go_enter Tryd.func30, Tryd.ntmps30
  go_wp2_with (first
    | (refine wp_entry _ rfl _ _ _ 59 rfl 70 Tryd.underlying59 _ _ rfl m0 (by decide) 1 (.agg #[.string ⟨#[112, 117, 115, 104]⟩, .int .i64 1, .int .i64 1000000000000]) rfl (by decide) rfl ?_; intro w1 m1 g1; have r1 := Rel.grown r0 g1 (fun k hk => by injection hk with hk; rw [← hk]; exact hw); clear m0 g1 r0)
    | (refine wp_entry _ rfl _ _ _ 59 rfl 70 Tryd.underlying59 _ _ rfl m1 (by decide) 2 (.agg #[.string ⟨#[108, 111, 119, 101, 115, 116]⟩, .int .i64 0, .int .i64 0]) rfl (by decide) rfl ?_; intro w2 m2 g2; have r2 := Rel.grown r1 g2 (fun k hk => by injection hk with hk; rw [← hk]; exact hw); clear m1 g2 r1)
    | (refine wp_entry _ rfl _ _ _ 59 rfl 70 Tryd.underlying59 _ _ rfl m2 (by decide) 3 (.agg #[.string ⟨#[115, 101, 99, 111, 110, 100]⟩, .int .i64 0, .int .i64 0]) rfl (by decide) rfl ?_; intro w3 m3 g3; have r3 := Rel.grown r2 g3 (fun k hk => by injection hk with hk; rw [← hk]; exact hw); clear m2 g3 r2)
    | (refine wp_entry _ rfl _ _ _ 59 rfl 70 Tryd.underlying59 _ _ rfl m3 (by decide) 4 (.agg #[.string ⟨#[102, 114, 111, 109]⟩, .int .i64 3, .int .i64 0]) rfl (by decide) rfl ?_; intro w4 m4 g4; have r4 := Rel.grown r3 g4 (fun k hk => by injection hk with hk; rw [← hk]; exact hw); clear m3 g4 r3)
    | (refine wp_entry _ rfl _ _ _ 59 rfl 70 Tryd.underlying59 _ _ rfl m4 (by decide) 5 (.agg #[.string ⟨#[108, 101, 115, 115]⟩, .int .i64 1, .int .i64 1000000000000]) rfl (by decide) rfl ?_; intro w5 m5 g5; have r5 := Rel.grown r4 g5 (fun k hk => by injection hk with hk; rw [← hk]; exact hw); clear m4 g5 r4)
    | (refine wp_entry _ rfl _ _ _ 59 rfl 70 Tryd.underlying59 _ _ rfl m5 (by decide) 6 (.agg #[.string ⟨#[99, 117, 116]⟩, .int .i64 1, .int .i64 100000]) rfl (by decide) rfl ?_; intro w6 m6 g6; have r6 := Rel.grown r5 g6 (fun k hk => by injection hk with hk; rw [← hk]; exact hw); clear m5 g6 r5)
    | (refine wp_entry _ rfl _ _ _ 59 rfl 70 Tryd.underlying59 _ _ rfl m6 (by decide) 7 (.agg #[.string ⟨#[109, 105, 110]⟩, .int .i64 0, .int .i64 0]) rfl (by decide) rfl ?_; intro w7 m7 g7; have r7 := Rel.grown r6 g7 (fun k hk => by injection hk with hk; rw [← hk]; exact hw); clear m6 g7 r6)
    | (refine wp_entry _ rfl _ _ _ 59 rfl 70 Tryd.underlying59 _ _ rfl m7 (by decide) 8 (.agg #[.string ⟨#[109, 97, 120]⟩, .int .i64 0, .int .i64 0]) rfl (by decide) rfl ?_; intro w8 m8 g8; have r8 := Rel.grown r7 g8 (fun k hk => by injection hk with hk; rw [← hk]; exact hw); clear m7 g8 r7)
    | (refine wp_entry _ rfl _ _ _ 59 rfl 70 Tryd.underlying59 _ _ rfl m8 (by decide) 9 (.agg #[.string ⟨#[101, 108, 115, 101]⟩, .int .i64 2, .int .i64 0]) rfl (by decide) rfl ?_; intro w9 m9 g9; have r9 := Rel.grown r8 g9 (fun k hk => by injection hk with hk; rw [← hk]; exact hw); clear m8 g9 r8)
    | (refine wp_entry _ rfl _ _ _ 59 rfl 70 Tryd.underlying59 _ _ rfl m9 (by decide) 10 (.agg #[.string ⟨#[109, 111, 114, 101]⟩, .int .i64 1, .int .i64 1000]) rfl (by decide) rfl ?_; intro w10 m10 g10; have r10 := Rel.grown r9 g10 (fun k hk => by injection hk with hk; rw [← hk]; exact hw); clear m9 g10 r9)
    | (refine wp_entry _ rfl _ _ _ 59 rfl 70 Tryd.underlying59 _ _ rfl m10 (by decide) 11 (.agg #[.string ⟨#[97, 98, 111, 118, 101]⟩, .int .i64 0, .int .i64 0]) rfl (by decide) rfl ?_; intro w11 m11 g11; have r11 := Rel.grown r10 g11 (fun k hk => by injection hk with hk; rw [← hk]; exact hw); clear m10 g11 r10)
    | (refine wp_entry _ rfl _ _ _ 59 rfl 70 Tryd.underlying59 _ _ rfl m11 (by decide) 12 (.agg #[.string ⟨#[117, 110, 108, 101, 115, 115]⟩, .int .i64 2, .int .i64 0]) rfl (by decide) rfl ?_; intro w12 m12 g12; have r12 := Rel.grown r11 g12 (fun k hk => by injection hk with hk; rw [← hk]; exact hw); clear m11 g12 r11)
    | (refine wp_entry _ rfl _ _ _ 59 rfl 70 Tryd.underlying59 _ _ rfl m12 (by decide) 13 (.agg #[.string ⟨#[106, 117, 109, 112]⟩, .int .i64 2, .int .i64 0]) rfl (by decide) rfl ?_; intro w13 m13 g13; have r13 := Rel.grown r12 g13 (fun k hk => by injection hk with hk; rw [← hk]; exact hw); clear m12 g13 r12))
  go_ret
  exact ⟨_, rfl, hw, m13, r13, hr.trans r13⟩
end Go.Proofs.YtldopbkjchgcnaaDoor

namespace Go.Proofs.YtldopbkjchgcnaaDoor
open Go.RowKit Go.Lib
set_option linter.unusedVariables false
set_option linter.unusedSimpArgs false

/-- The compiler in block b: its map, what it has written. -/
def Cm (w : World) (C b m : Nat) (l : List In) : Prop := C ≤ b ∧ ∃ A c, Bk w b 56 #[.map (some m), .slice A l.length c] ∧ InsOwn w C (.slice A l.length c) l ∧ MapIs w m kindsL
/-- Every block but the compiler's, and but rows of instructions, stands as it stood. -/
def Kq (b : Nat) (w w' : World) : Prop := Lib.OthersKept 44 (some b) w w'
theorem Kq.refl (b : Nat) (w : World) : Kq b w w := Lib.OthersKept.refl _ _ w
theorem Kq.trans {b : Nat} {w w' w'' : World} (h : Kq b w w') (h' : Kq b w' w'') : Kq b w w'' := Lib.OthersKept.trans h h'
theorem Kq.alloc {b : Nat} {w w' : World} (h : Kq b w w') (o : Obj) : Kq b w (w'.alloc o) := Lib.OthersKept.alloc h o
theorem Kq.bk {b : Nat} {w w' : World} (h : Kq b w w') {g : Nat} {t : TypeId} {cs : Array Value} (hb : Bk w g t cs) (hne : g ≠ b) (ht : t ≠ 44) : Bk w' g t cs :=
  h g _ hb (fun e => hne (by injection e)) (fun c fz e => ht (by injection e))
theorem Kq.rel {b : Nat} {w w' : World} (hr : Rel w w') : Kq b w w' := fun k o hk _ _ => (hr.2.block k (by
  rcases Nat.lt_or_ge k w.heap.size with h | h
  · exact h
  · rw [Array.getElem?_eq_none h] at hk; cases hk)).trans hk
theorem Kq.set {b : Nat} {w w' : World} (h : Kq b w w') {p : Addr} (hp : p.block = b) (u : Value) : Kq b w (w'.setCell p u) := Lib.OthersKept.setCell h p hp u
theorem Kq.row {b : Nat} {w : World} {base : Nat} {v : Value} {l : List In} (h : InsOwn w base v l) {w' : World} (hg : w.grownBy w' v.ownBlock) : Kq b w w' := fun k o hk hb ho => by
  refine (hg.block k ?_ ?_).trans hk
  · rcases Nat.lt_or_ge k w.heap.size with h | h
    · exact h
    · rw [Array.getElem?_eq_none h] at hk; cases hk
  · intro e
    rcases h.2 with ⟨rfl, _⟩ | ⟨g, cap, cur, rfl, _, hh, _⟩
    · cases e
    · have : k = g := by simpa [Value.ownBlock] using e
      subst this
      rw [hh] at hk
      injection hk with hk
      exact ho _ _ hk.symm
theorem three_of {w : World} {g : Nat} {t : TypeId} {x y z : Value} (h : Bk w g t #[x, y, z]) :
    (w.cell? ⟨g, 0, none⟩ = some x ∧ w.cell? ⟨g, 1, none⟩ = some y ∧ w.cell? ⟨g, 2, none⟩ = some z) ∧ (w.frozen? ⟨g, 0, none⟩ = false ∧ w.frozen? ⟨g, 1, none⟩ = false ∧ w.frozen? ⟨g, 2, none⟩ = false) :=
  ⟨⟨h.cell 0, h.cell 1, h.cell 2⟩, ⟨h.frozen 0, h.frozen 1, h.frozen 2⟩⟩
theorem InsOwn.last {w : World} {base : Nat} {v : Value} {l : List In} {o : In} (h : InsOwn w base v (l ++ [o])) : ∃ g c, v = .slice (some ⟨g, 0, none⟩) (l.length + 1) c ∧ base ≤ g := by
  obtain ⟨A, c, rfl⟩ := h.slice_of
  rcases h.form with ⟨_, _, e⟩ | ⟨g, rfl, hg, _⟩
  · simp at e
  · exact ⟨g, c, by rw [show (l ++ [o]).length = l.length + 1 by simp], hg⟩
theorem cmp_ne : (44 : TypeId) ≠ 56 := by decide
theorem Cm.lt {w : World} {C b m : Nat} {l : List In} (h : Cm w C b m l) : b < w.heap.size := by obtain ⟨_, A, c, h, _⟩ := h; exact h.lt
theorem Cm.le {w : World} {C b m : Nat} {l : List In} (h : Cm w C b m l) : C ≤ b := h.1
theorem Cm.map {w : World} {C b m : Nat} {l : List In} (h : Cm w C b m l) : MapIs w m kindsL := by obtain ⟨_, A, c, _, _, h⟩ := h; exact h
theorem Cm.rel {w w' : World} {C b m : Nat} {l : List In} (h : Cm w C b m l) (hr : Rel w w') : Cm w' C b m l := by
  obtain ⟨hC, A, c, h1, h2, h3⟩ := h
  exact ⟨hC, A, c, h1.rel hr, h2.rel hr, h3.rel hr⟩
theorem Cm.cells {w : World} {C b m : Nat} {l : List In} (h : Cm w C b m l) : ∃ A c, w.cell? ⟨b, 0, none⟩ = some (.map (some m)) ∧ w.cell? ⟨b, 1, none⟩ = some (.slice A l.length c) ∧ w.frozen? ⟨b, 1, none⟩ = false := by
  obtain ⟨hC, A, c, h1, h2, h3⟩ := h
  exact ⟨A, c, by rw [h1.cell]; rfl, by rw [h1.cell]; rfl, h1.frozen 1⟩
/-- Behind the append and the store. -/
theorem Cm.put {w w' : World} {C b m g c c' : Nat} {A : Option Addr} {l : List In} {o : In} (hC : C ≤ b) (hb : Bk w b 56 #[.map (some m), .slice A l.length c]) (ho : InsOwn w C (.slice A l.length c) l) (hm : MapIs w m kindsL)
    (hw : w.grownBy w' (Value.slice A l.length c).ownBlock) (hown : InsOwn w' C (.slice (some ⟨g, 0, none⟩) (l.length + 1) c') (l ++ [o])) : Cm (w'.setCell ⟨b, 1, none⟩ (.slice (some ⟨g, 0, none⟩) (l.length + 1) c')) C b m (l ++ [o]) := by
  have hb' : Bk w' b 56 #[.map (some m), .slice A l.length c] := hb.grown hw (own_ne ho.row hb cmp_ne)
  have hmb : m ≠ b := hm.ne hb
  have hm' : MapIs w' m kindsL := hm.grown hw (by
    intro e
    rcases ho.2 with ⟨h0, _⟩ | ⟨g, cap, cur, hv, _, hh, _⟩
    · injection h0 with h0; subst h0; cases e
    · rw [hv] at e
      have : m = g := by simpa [Value.ownBlock] using e
      exact hm.ne (t := 44) hh this)
  have hs := hb'.set_ 1 (.slice (some ⟨g, 0, none⟩) (l.length + 1) c')
  refine ⟨hC, some ⟨g, 0, none⟩, c', ?_, ?_, hm'.set (fun e => hmb e) _⟩
  · rw [show (l ++ [o]).length = l.length + 1 by simp]; exact hs
  · rw [show (l ++ [o]).length = l.length + 1 by simp]
    exact own_set hown.row (own_ne hown.row hb' cmp_ne) _
theorem put_rel {w0 w w' : World} {b L c : Nat} {u : Value} {A : Option Addr} {l : List In} (hC : w0.heap.size ≤ b) (ho : InsOwn w w0.heap.size (.slice A L c) l) (hr : Rel w0 w) (hg : w.grownBy w' (Value.slice A L c).ownBlock) : Rel w0 (w'.setCell ⟨b, 1, none⟩ u) :=
  (hr.grown hg (fun k hk => (ho.row.lt k hk).1)).setCell (p := ⟨b, 1, none⟩) hC _
theorem put_kq {w0 w w' : World} {base b L c : Nat} {u : Value} {A : Option Addr} {l : List In} (ho : InsOwn w base (.slice A L c) l) (hk : Kq b w0 w) (hg : w.grownBy w' (Value.slice A L c).ownBlock) : Kq b w0 (w'.setCell ⟨b, 1, none⟩ u) :=
  (hk.trans (Kq.row ho hg)).set (p := ⟨b, 1, none⟩) rfl _
theorem put_done {w w' : World} {C b m g c c' L : Nat} {A : Option Addr} {l : List In} {o : In} (hC : C ≤ b) (hL : l.length = L) (hb : Bk w b 56 #[.map (some m), .slice A L c]) (ho : InsOwn w C (.slice A L c) l) (hm : MapIs w m kindsL)
    (hw : w.grownBy w' (Value.slice A L c).ownBlock) (hown : InsOwn w' C (.slice (some ⟨g, 0, none⟩) (l.length + 1) c') (l ++ [o])) (_ : C ≤ g) : Cm (w'.setCell ⟨b, 1, none⟩ (.slice (some ⟨g, 0, none⟩) (l.length + 1) c')) C b m (l ++ [o]) := by
  subst hL; exact Cm.put hC hb ho hm hw hown
set_option maxRecDepth 100000 in
set_option maxHeartbeats 4000000 in
theorem cput_any (b m : Nat) (l : List In) (o n : Int) (nm : List UInt8) (hl : l.length ≤ 90000) (w0 w : World) (hr : Rel w0 w) (h : Cm w w0.heap.size b m l) :
    Calls Tryd.prog 42 #[.pointer (some ⟨b, 0, none⟩), .agg #[.int .i64 o, .int .i64 n, .string (B nm)]] w fun r w' => r = .returned (.tuple #[]) ∧ Cm w' w0.heap.size b m (l ++ [(o, n, nm)]) ∧ Rel w0 w' ∧ Kq b w w' := by
  obtain ⟨hC, A, c, hb, ho, hm⟩ := h
  have HX := Lib.hid (Bk.new w 44 #[.int .i64 o, .int .i64 n, .string (B nm)])
  have HB := Lib.hid (hb.alloc (.cells #[.int .i64 o, .int .i64 n, .string (B nm)] 44))
  have HO := Lib.hid (show InsOwn (w.alloc (.cells #[.int .i64 o, .int .i64 n, .string (B nm)] 44)) w0.heap.size (.slice A l.length c) l from ho.row.alloc _)
  have HM := Lib.hid (hm.alloc (.cells #[.int .i64 o, .int .i64 n, .string (B nm)] 44))
  have HA := Lib.hid (hr.alloc (.cells #[.int .i64 o, .int .i64 n, .string (B nm)] 44))
  have HK := Lib.hid ((Kq.refl b w).alloc (.cells #[.int .i64 o, .int .i64 n, .string (B nm)] 44))
  obtain ⟨W, hW⟩ : ∃ W, w.alloc (.cells #[.int .i64 o, .int .i64 n, .string (B nm)] 44) = W := ⟨_, rfl⟩
  rw [hW] at HX HB HO HM HA HK
  obtain ⟨⟨x0, x1, x2⟩, _⟩ := three_of HX.out
  obtain ⟨L, hL⟩ : ∃ L, l.length = L := ⟨_, rfl⟩
  have HL := Lib.hid hL
  have hl2 : L ≤ 90000 := by omega
  rw [hL] at HB HO
  obtain ⟨⟨b0, b1⟩, f0, f1⟩ := HB.out.two
  have HB2 := Lib.hid (show Bk (W.alloc (.cells #[.int .i64 o, .int .i64 n, .string (B nm)] 44)).drew b 56 _ from HB.out.alloc (.cells #[.int .i64 o, .int .i64 n, .string (B nm)] 44))
  have HO2 := Lib.hid (show InsOwn (W.alloc (.cells #[.int .i64 o, .int .i64 n, .string (B nm)] 44)).drew w0.heap.size (.slice A L c) l from HO.out.row.alloc (.cells #[.int .i64 o, .int .i64 n, .string (B nm)] 44))
  have HM2 := Lib.hid (show MapIs (W.alloc (.cells #[.int .i64 o, .int .i64 n, .string (B nm)] 44)).drew m kindsL from HM.out.alloc (.cells #[.int .i64 o, .int .i64 n, .string (B nm)] 44))
  have HA2 := Lib.hid ((HA.out.alloc (.cells #[.int .i64 o, .int .i64 n, .string (B nm)] 44)).drew)
  have HK2 := Lib.hid (show Kq b w (W.alloc (.cells #[.int .i64 o, .int .i64 n, .string (B nm)] 44)).drew from HK.out.alloc (.cells #[.int .i64 o, .int .i64 n, .string (B nm)] 44))
  have d1 : (W.alloc (.cells #[.int .i64 o, .int .i64 n, .string (B nm)] 44)).drew.cell? ⟨b, 1, none⟩ = some (.slice A L c) := HB2.out.cell 1
  have HIN := Lib.hid (show InsAt (W.alloc (.cells #[.int .i64 o, .int .i64 n, .string (B nm)] 44)).drew (some ⟨W.heap.size, 0, none⟩) [(o, n, nm)] from InsAt.of_bk (l := [(o, n, nm)]) (Bk.new W 44 #[.int .i64 o, .int .i64 n, .string (B nm)]))
  have hbs : w0.heap.size ≤ (W.alloc (.cells #[.int .i64 o, .int .i64 n, .string (B nm)] 44)).drew.heap.size := HA2.out.size
  clear hr hb ho hm hL hl
  go_enter Tryd.func42, Tryd.ntmps42
  go_upto_region 1 with (fail)
  refine wp_region_any (by kernel_rfl) ?_
  change wpAny _ _ _ _ _ _ _ W.drew
  refine any_take (i := 0) (v := ?_) (some 4) rfl rfl (by kernel_rfl) (by kernel_rfl) (by kernel_rfl) (fun _ _ _ h => h) (Or.inl ⟨by rfl, ?_⟩) ?_
  rotate_left 1
  · intro w'; go_simp; try with_reducible rfl
  try simp only [Act.put, List.setIfInBounds_toArray, List.set_cons_zero, List.set_cons_succ]
  refine any_take (i := 1) (v := ?_) (some 5) rfl rfl (by kernel_rfl) (by kernel_rfl) (by kernel_rfl) (fun _ _ _ h => h) (Or.inl ⟨by rfl, ?_⟩) ?_
  rotate_left 1
  · intro w'; go_simp; try with_reducible rfl
  try simp only [Act.put, List.setIfInBounds_toArray, List.set_cons_zero, List.set_cons_succ]
  refine any_take (i := 2) (v := ?_) (some 6) rfl rfl (by kernel_rfl) (by kernel_rfl) (by kernel_rfl) (fun _ _ _ h => h) (Or.inl ⟨by rfl, ?_⟩) ?_
  rotate_left 1
  · intro w'; go_simp; try with_reducible rfl
  try simp only [Act.put, List.setIfInBounds_toArray, List.set_cons_zero, List.set_cons_succ]
  refine any_take (i := 3) (v := ?_) (some 7) rfl rfl (by kernel_rfl) (by kernel_rfl) (by kernel_rfl) (fun _ _ _ h => h) (Or.inl ⟨by rfl, ?_⟩) ?_
  rotate_left 1
  · intro w'; go_simp; try with_reducible rfl
  try simp only [Act.put, List.setIfInBounds_toArray, List.set_cons_zero, List.set_cons_succ]
  refine till_take (i := 4) (v := ?_) (S := fun w' => w'.cell? ⟨b, 1, none⟩ = some (.slice A L c)) (some 8) rfl rfl (by kernel_rfl) (by kernel_rfl) (by kernel_rfl) (fun _ _ _ h => h) (Or.inl ⟨by rfl, ?_⟩) b1 ?_
  rotate_left 1
  · intro w' hSw; go_simp; try with_reducible rfl
  try simp only [Act.put, List.setIfInBounds_toArray, List.set_cons_zero, List.set_cons_succ]
  refine till_one (j := 5) (by kernel_rfl) rfl (fun K hK => ?_)
  try simp only [List.getElem_toArray, List.getElem_cons_succ, List.getElem_cons_zero]
  try rw [if_pos (by rfl)]
  go_simp
  refine hK.out _ _ b1 ?_
  clear hK K
  try simp only [Act.put, List.setIfInBounds_toArray, List.set_cons_zero, List.set_cons_succ]
  refine till_one (j := 6) (by kernel_rfl) rfl (fun K hK => ?_)
  try simp only [List.getElem_toArray, List.getElem_cons_succ, List.getElem_cons_zero]
  try rw [if_pos (by rfl)]
  go_simp
  refine hK.out _ _ d1 ?_
  clear hK K
  try simp only [Act.put, List.setIfInBounds_toArray, List.set_cons_zero, List.set_cons_succ]
  refine till_late (j := 7) (by kernel_rfl) rfl (by kernel_rfl) (fun K hK => ?_)
  try simp only [List.getElem_toArray, List.getElem_cons_succ, List.getElem_cons_zero]
  rw [if_pos (by rfl)]
  refine wp_iapp _ _ rfl (base := w0.heap.size) (v := .slice A L c) (os := l) rfl HO2.out (A := some ⟨W.heap.size, 0, none⟩) (c := 1) (n := 1) (l := [(o, n, nm)]) rfl rfl (fun e => by cases e) HIN.out (by simp) (by rw [HL.out]; omega) hbs ?_
  intro v9 w9 own9 g9 b9
  obtain ⟨g8, c8, rfl, hg8⟩ := own9.last
  have HB9 := Lib.hid (HB2.out.grown g9 (own_ne HO2.out.row HB2.out cmp_ne))
  obtain ⟨⟨y0, y1⟩, y2, y3⟩ := HB9.out.two
  have HO9 := Lib.hid own9
  have HG9 := Lib.hid g9
  clear own9 g9 b9
  refine hK.out _ _ ?_
  clear hK K
  try simp only [Act.put, List.setIfInBounds_toArray, List.set_cons_zero, List.set_cons_succ]
  refine till_late (j := 8) (by kernel_rfl) rfl (by kernel_rfl) (fun K hK => ?_)
  try simp only [List.getElem_toArray, List.getElem_cons_succ, List.getElem_cons_zero]
  try rw [if_pos (by rfl)]
  go_simp
  refine hK.out _ _ ?_
  clear hK K
  try simp only [Act.put, List.setIfInBounds_toArray, List.set_cons_zero, List.set_cons_succ]
  refine till_late (j := 9) (by kernel_rfl) rfl (by kernel_rfl) (fun K hK => ?_)
  try simp only [List.getElem_toArray, List.getElem_cons_succ, List.getElem_cons_zero]
  try rw [if_pos (by rfl)]
  go_simp
  refine hK.out _ _ ?_
  clear hK K
  try simp only [Act.put, List.setIfInBounds_toArray, List.set_cons_zero, List.set_cons_succ]
  refine till_late (j := 10) (by kernel_rfl) rfl (by kernel_rfl) (fun K hK => ?_)
  try simp only [List.getElem_toArray, List.getElem_cons_succ, List.getElem_cons_zero]
  try rw [if_pos (by rfl)]
  go_simp
  refine hK.out _ _ ?_
  clear hK K
  try simp only [Act.put, List.setIfInBounds_toArray, List.set_cons_zero, List.set_cons_succ]
  refine till_done (by kernel_rfl) ?_ _
  go_wp2_with (fail)
  go_end0
  exact ⟨rfl, put_done hC HL.out HB2.out HO2.out HM2.out HG9.out HO9.out hg8, put_rel hC HO2.out HA2.out HG9.out, put_kq HO2.out HK2.out HG9.out⟩
end Go.Proofs.YtldopbkjchgcnaaDoor

namespace Go.Proofs.YtldopbkjchgcnaaDoor
open Go.RowKit Go.Lib
set_option linter.unusedVariables false
set_option linter.unusedSimpArgs false

theorem cput_as (s : ByteArray) (b m : Nat) (l : List In) (o n : Int) (nm : List UInt8) (hs : Hid (B nm = s)) (hl : l.length ≤ 90000) (w0 w : World) (hr : Rel w0 w) (h : Cm w w0.heap.size b m l) :
    Calls Tryd.prog 42 #[.pointer (some ⟨b, 0, none⟩), .agg #[.int .i64 o, .int .i64 n, .string s]] w fun r w' => r = .returned (.tuple #[]) ∧ Cm w' w0.heap.size b m (l ++ [(o, n, nm)]) ∧ Rel w0 w' ∧ Kq b w w' := by
  rw [← hs.out]; exact cput_any b m l o n nm hl w0 w hr h
theorem Cm.alloc {w : World} {C b m : Nat} {l : List In} (h : Cm w C b m l) (o : Obj) : Cm (w.alloc o) C b m l := by
  obtain ⟨hC, A, c, h1, h2, h3⟩ := h
  exact ⟨hC, A, c, h1.alloc o, h2.row.alloc o, h3.alloc o⟩
/-- A store into a block of another type. -/
theorem Cm.far {w : World} {C b m : Nat} {l : List In} (h : Cm w C b m l) {p : Addr} {t : TypeId} {cs : Array Value} (hp : Bk w p.block t cs) (hb : p.block ≠ b) (ht : t ≠ 44) (u : Value) : Cm (w.setCell p u) C b m l := by
  obtain ⟨hC, A, c, h1, h2, h3⟩ := h
  exact ⟨hC, A, c, h1.far (Ne.symm hb) u, own_set h2.row (own_ne h2.row hp (Ne.symm ht)) u, h3.set (h3.ne hp) u⟩
set_option maxRecDepth 100000 in
set_option maxHeartbeats 4000000 in
theorem clead_any (b m : Nat) (l : List In) (o : Int) (hl : l.length ≤ 90000) (w0 w : World) (hr : Rel w0 w) (h : Cm w w0.heap.size b m l) :
    Calls Tryd.prog 41 #[.pointer (some ⟨b, 0, none⟩), .int .i64 o] w fun r w' => ∃ p q, r = .returned (.func (.func 60) #[] #[.pointer (some ⟨p, 0, none⟩), .pointer (some ⟨q, 0, none⟩)]) ∧ Bk w' p 80 #[.pointer (some ⟨b, 0, none⟩)] ∧ Bk w' q 3 #[.int .i64 (l.length : Int)] ∧ Cm w' w0.heap.size b m (l ++ [(o, 0, [])]) ∧ Rel w0 w' ∧ Kq b w w' := by
  have HR := Lib.hid hr
  obtain ⟨L, hL⟩ : ∃ L, l.length = L := ⟨_, rfl⟩
  have hlt := h.lt
  have HP := Lib.hid ((Bk.new w 80 #[.pointer (some ⟨b, 0, none⟩)]).alloc (.cells #[.int .i64 (L : Int)] 3))
  have HQ := Lib.hid (Bk.new (w.alloc (.cells #[.pointer (some ⟨b, 0, none⟩)] 80)) 3 #[.int .i64 (L : Int)])
  have HC := Lib.hid ((h.alloc (.cells #[.pointer (some ⟨b, 0, none⟩)] 80)).alloc (.cells #[.int .i64 (L : Int)] 3))
  have HA := Lib.hid ((hr.alloc (.cells #[.pointer (some ⟨b, 0, none⟩)] 80)).alloc (.cells #[.int .i64 (L : Int)] 3))
  have HK := Lib.hid (((Kq.refl b w).alloc (.cells #[.pointer (some ⟨b, 0, none⟩)] 80)).alloc (.cells #[.int .i64 (L : Int)] 3))
  obtain ⟨A, c, x0, x1, x2⟩ := (h.alloc (.cells #[.pointer (some ⟨b, 0, none⟩)] 80)).cells
  rw [hL] at x1 ⊢
  have HL := Lib.hid hL
  clear h hr hL
  go_enter Tryd.func41, Tryd.ntmps41
  go_wp2_with (go_at_call 42; (with_reducible refine (cput_as ⟨#[]⟩ b m l o 0 [] (Lib.hid rfl) hl w0 _ HA.out HC.out).mono ?_); rintro r w3 ⟨rfl, c3, r3, k3⟩)
  go_ret
  exact ⟨_, _, rfl, k3.bk HP.out (by omega) (by decide), k3.bk (by have h := HQ.out; rw [World.size_alloc] at h; exact h) (by omega) (by decide), c3, r3, HK.out.trans k3⟩
theorem cellsI_set (l : List In) (i : Nat) (o v' : Int) (nm : List UInt8) (v : Int) (h : l[i]? = some (o, v', nm)) : (cellsI l).set (i * 3 + 1) (.int .i64 v) = cellsI (l.set i (o, v, nm)) := by
  induction l generalizing i with
  | nil => simp at h
  | cons t r ih =>
    cases i with
    | zero =>
      simp only [List.getElem?_cons_zero, Option.some.injEq] at h
      subst h
      rfl
    | succ i =>
      simp only [List.getElem?_cons_succ] at h
      rw [List.set_cons_succ, cellsI_cons, cellsI_cons, ← ih i h, show (i + 1) * 3 + 1 = (cellsN t).length + (i * 3 + 1) by simp [cellsN]; omega, List.set_append_right _ _ (by omega)]
      simp
theorem Cm.drew {w : World} {C b m : Nat} {l : List In} (h : Cm w C b m l) : Cm w.drew C b m l := by
  obtain ⟨hC, A, c, h1, h2, h3⟩ := h
  exact ⟨hC, A, c, h1, h2, h3⟩
/-- A place filled in. -/
theorem Cm.fill {w : World} {b m g c L i : Nat} {l : List In} {w0 : World} {o v' v : Int} {nm : List UInt8} (hC : w0.heap.size ≤ b) (hL : l.length = L) (hr : Rel w0 w) (hb : Bk w b 56 #[.map (some m), .slice (some ⟨g, 0, none⟩) L c])
    (ho : InsOwn w w0.heap.size (.slice (some ⟨g, 0, none⟩) L c) l) (hm : MapIs w m kindsL) (hi : l[i]? = some (o, v', nm)) :
    Cm (w.setCell ⟨g, i * 3 + 1, none⟩ (.int .i64 v)) w0.heap.size b m (l.set i (o, v, nm)) ∧ Rel w0 (w.setCell ⟨g, i * 3 + 1, none⟩ (.int .i64 v)) ∧ Kq b w (w.setCell ⟨g, i * 3 + 1, none⟩ (.int .i64 v)) := by
  subst hL
  obtain ⟨h1, h2⟩ := ho.row.stored (i * 3 + 1) (.int .i64 v)
  have hgb : g ≠ b := fun e => own_ne ho.row hb cmp_ne (by rw [e]; rfl)
  have hmg : m ≠ g := by
    rcases ho.2 with ⟨h0, _⟩ | ⟨g', cap, cur, hv, _, hh, _⟩
    · injection h0 with h0; cases h0
    · have : g = g' := by injection hv with hv; injection hv with hv; injection hv
      subst this
      exact hm.ne (t := 44) hh
  refine ⟨⟨hC, some ⟨g, 0, none⟩, c, ?_, ?_, hm.set hmg _⟩, hr.setCell (p := ⟨g, i * 3 + 1, none⟩) (ho.row.lt g rfl).1 _, Kq.row ho h2⟩
  · rw [List.length_set]
    exact hb.far (p := ⟨g, i * 3 + 1, none⟩) (Ne.symm hgb) _
  · rw [List.length_set]
    unfold InsOwn
    rw [List.length_set, ← cellsI_set l i o v' nm v hi]
    exact h1
set_option maxRecDepth 100000 in
set_option maxHeartbeats 4000000 in
theorem cend_any (b m p q i : Nat) (l : List In) (o v : Int) (nm : List UInt8) (hi : l[i]? = some (o, v, nm)) (hl : l.length ≤ 90000) (w0 w : World) (hr : Rel w0 w) (h : Cm w w0.heap.size b m l) (hp : Bk w p 80 #[.pointer (some ⟨b, 0, none⟩)]) (hq : Bk w q 3 #[.int .i64 (i : Int)]) :
    Calls Tryd.prog 60 #[.pointer (some ⟨p, 0, none⟩), .pointer (some ⟨q, 0, none⟩)] w fun r w' => r = .returned (.tuple #[]) ∧ Cm w' w0.heap.size b m (l.set i (o, (l.length : Int), nm)) ∧ Rel w0 w' ∧ Kq b w w' := by
  obtain ⟨hC, A, c, hb, ho, hm⟩ := h
  obtain ⟨⟨b0, b1⟩, f0, f1⟩ := hb.two
  have p0 : w.cell? ⟨p, 0, none⟩ = some (.pointer (some ⟨b, 0, none⟩)) := hp.cell 0
  have q0 : w.cell? ⟨q, 0, none⟩ = some (.int .i64 (i : Int)) := hq.cell 0
  obtain ⟨hil, hie⟩ := List.getElem?_eq_some_iff.1 hi
  obtain ⟨L, hL⟩ : ∃ L, l.length = L := ⟨_, rfl⟩
  rcases ho.form with ⟨_, _, e⟩ | ⟨g, rfl, hg, hgl⟩
  · subst e; simp at hil
  have e1 : w.cell? ⟨g, i * 3 + 1, none⟩ = some (.int .i64 v) := by
    obtain ⟨g', off, e, _, _, h1, _⟩ := ho.at rfl i hil
    injection e with e; injection e with e1 e2; subst e1; subst e2
    rw [Nat.zero_add, hie] at h1; exact h1
  have e2 := ho.row.frozenAt (i * 3 + 1)
  rw [hL] at b1 ho hb ⊢
  have HF := Lib.hid (Cm.fill (v := (L : Int)) hC hL hr hb ho hm hi)
  have hi1 : (i : Int) < (L : Int) := by omega
  have hi2 : i < L := by omega
  have hi3 : L ≤ 90000 := by omega
  clear hr hb ho hm hp hq hi hie hil hL hl
  go_enter Tryd.func60, Tryd.ntmps60
  go_upto_region 0 with (fail)
  go_still_tail 10, (by kernel_rfl)
  go_wp2_with (fail)
  go_end0
  exact ⟨rfl, HF.out.1.drew, HF.out.2.1.drew, HF.out.2.2⟩
end Go.Proofs.YtldopbkjchgcnaaDoor
