/- A map with integer keys as a list of entries; the maps that the program makes; The landed machine in memory: offers, the next place, steps, its stack; one taken, one put; What the laws of layer 9 lean on: what the program is asked, and the law's awake; The landed compiler: its state; put; a place that is filled in by a closure. -/
import Derived.Test.YtcckemhelockaaaGreatDoorZL
import Derived.Test.YtcckemhelockaaaGreatDoorZ00
import Derived.Test.YtcckemhelockaaaGreatDoorZ01
import Derived.Test.YtcckemhelockaaaGreatDoorZ02
import Derived.Test.YtcckemhelockaaaGreatDoorZ03
namespace Go.Proofs.YtcckemhelockaaaGreatDoor
open Go.RowKit Go.Lib
open Go.Maps (Keyed IsMap)
set_option linter.unusedVariables false
set_option linter.unusedSimpArgs false
/-- How a value is told as a datum: as itself. -/
def HeldV (v : Value) : Option (DataW Value × List MemPlace) := some (.held v, [])
def look (l : List (Int × Value)) (k : Int) : Option Value := match l with
  | [] => none
  | (j, v) :: t => if k = j then some v else look t k
theorem look_cons (j : Int) (v : Value) (t : List (Int × Value)) (k : Int) : look ((j, v) :: t) k = if k = j then some v else look t k := rfl
/-- Block b is a map of these entries. -/
def MapIs (w : World) (b : Nat) (l : List (Int × Value)) : Prop :=
  ∃ D : DataW Value, w.ownsMap Tryz.prog 3 HeldV b l.length D ∧ ∀ k : Int, Maps.has D (.int .i64 k) = (look l k).isSome ∧ ∀ z, D.atKey (.int .i64 k) z = match look l k with | some v => .held v | none => z
theorem int_key : Keyed Tryz.prog 3 := Maps.int_keyed Tryz.underlying3
theorem MapIs.made (w : World) : MapIs (w.alloc (.map #[] 0)) w.heap.size [] :=
  ⟨_, World.ownsMap_made _ _ _ _, fun _ => ⟨rfl, fun _ => rfl⟩⟩
theorem MapIs.lt {w : World} {b : Nat} {l : List (Int × Value)} (h : MapIs w b l) : b < w.heap.size := by obtain ⟨D, h, _⟩ := h; exact h.lt
theorem MapIs.grown {w w' : World} {b : Nat} {l : List (Int × Value)} (h : MapIs w b l) {row : Option Nat} (hg : w.grownBy w' row) (hne : some b ≠ row) : MapIs w' b l := by
  obtain ⟨D, h, h2⟩ := h
  exact ⟨D, h.kept hg hne, h2⟩
theorem MapIs.rel {w w' : World} {b : Nat} {l : List (Int × Value)} (h : MapIs w b l) (hr : Rel w w') : MapIs w' b l :=
  h.grown (row := none) ⟨hr.2.os, hr.2.tape, hr.2.output, hr.2.size, fun k hk _ => hr.2.block k hk⟩ (by simp)
theorem MapIs.alloc {w : World} {b : Nat} {l : List (Int × Value)} (h : MapIs w b l) (o : Obj) : MapIs (w.alloc o) b l := h.grown (World.grownBy_alloc w o none) (by simp)
theorem MapIs.drew {w : World} {b : Nat} {l : List (Int × Value)} (h : MapIs w b l) : MapIs w.drew b l := h
theorem MapIs.set {w : World} {b : Nat} {l : List (Int × Value)} (h : MapIs w b l) {p : Addr} (hp : b ≠ p.block) (u : Value) : MapIs (w.setCell p u) b l := by
  obtain ⟨D, h, h2⟩ := h
  exact ⟨D, h.setCell hp u, h2⟩
theorem MapIs.block {w : World} {b : Nat} {l : List (Int × Value)} (h : MapIs w b l) : ∃ es clock, w.heap[b]? = some (.map es clock) := by
  obtain ⟨D, ⟨es, clock, hb, _⟩, _⟩ := h
  exact ⟨es, clock, hb⟩
theorem MapIs.ne {w : World} {b g : Nat} {l : List (Int × Value)} {t : TypeId} {cs : Array Value} (h : MapIs w b l) (hb : Bk w g t cs) : b ≠ g := by
  obtain ⟨es, clock, hm⟩ := h.block
  rintro rfl
  unfold Bk at hb
  rw [hb] at hm; cases hm
theorem key_lit (k : Int) : WideAt.IsKeyLit (.int .i64 k) := by simp [WideAt.IsKeyLit]
theorem MapIs.put {w : World} {b : Nat} {l : List (Int × Value)} (h : MapIs w b l) (t e : TypeId) (ht : Tryz.prog.underlying t = some (.map 3 e)) (hn : l.length < maxLen) (k : Int) (hk : (Lit.int .i64 k).wf = true) (v : Value) :
    ∃ w', (Instr.mapUpdate t (.map (some b)) (.int .i64 k) v).run Tryz.prog w = .ok () w' ∧ MapIs w' b ((k, v) :: l) ∧ w.grownBy w' (some b) := by
  obtain ⟨D, h, h2⟩ := h
  obtain ⟨w', h3, h4, h5⟩ := h.update (e := e) (d := .held v) (ps := []) int_key ht hn (Maps.keyOf_int_mk Tryz.underlying3 hk) rfl
  refine ⟨w', h3, ⟨_, h4, fun j => ?_⟩, h5⟩
  rw [look_cons]
  by_cases e : j = k
  · subst e
    rw [if_pos rfl]
    exact ⟨by rw [Maps.has_put_same h.isMap (key_lit _)]; rfl, fun z => Maps.atKey_put_same h.isMap (key_lit _) _ _⟩
  · rw [if_neg e]
    have hne : (Lit.int .i64 j) ≠ .int .i64 k := fun h => e (by injection h)
    exact ⟨by rw [Maps.has_put_other hne]; exact (h2 j).1, fun z => by rw [Maps.atKey_put_other hne]; exact (h2 j).2 z⟩
theorem MapIs.look {w : World} {b : Nat} {l : List (Int × Value)} (h : MapIs w b l) (t e : TypeId) (ht : Tryz.prog.underlying t = some (.map 3 e)) (z : Value) (hz : (zeroValue e).run Tryz.prog w = .ok z w) (k : Int) (hk : (Lit.int .i64 k).wf = true) :
    (Instr.lookup t (.map (some b)) (.int .i64 k) false).run Tryz.prog w = .ok ((look l k).getD z) w := by
  obtain ⟨D, h, h2⟩ := h
  obtain ⟨v, ps, h3, h4⟩ := h.lookup (zd := .held z) (zp := []) int_key ht hz rfl (Maps.keyOf_int_mk Tryz.underlying3 hk)
  rw [h3]
  rw [(h2 k).2] at h4
  unfold HeldV at h4
  cases hl : Go.Proofs.YtcckemhelockaaaGreatDoor.look l k with
  | none => rw [hl] at h4; have h5 := congrArg Prod.fst (Option.some.inj h4); rw [DataW.held.inj h5]; rfl
  | some u => rw [hl] at h4; have h5 := congrArg Prod.fst (Option.some.inj h4); rw [DataW.held.inj h5]; rfl
theorem MapIs.look_ok {w : World} {b : Nat} {l : List (Int × Value)} (h : MapIs w b l) (t e : TypeId) (ht : Tryz.prog.underlying t = some (.map 3 e)) (z : Value) (hz : (zeroValue e).run Tryz.prog w = .ok z w) (k : Int) (hk : (Lit.int .i64 k).wf = true) :
    (Instr.lookup t (.map (some b)) (.int .i64 k) true).run Tryz.prog w = .ok (.tuple #[(Go.Proofs.YtcckemhelockaaaGreatDoor.look l k).getD z, .bool (Go.Proofs.YtcckemhelockaaaGreatDoor.look l k).isSome]) w := by
  obtain ⟨D, h, h2⟩ := h
  obtain ⟨v, ps, h3, h4⟩ := h.look_ok (zd := .held z) (zp := []) int_key ht hz rfl (Maps.keyOf_int_mk Tryz.underlying3 hk)
  rw [h3, (h2 k).1]
  rw [(h2 k).2] at h4
  unfold HeldV at h4
  cases hl : Go.Proofs.YtcckemhelockaaaGreatDoor.look l k with
  | none => rw [hl] at h4; have h5 := congrArg Prod.fst (Option.some.inj h4); rw [DataW.held.inj h5]; rfl
  | some u => rw [hl] at h4; have h5 := congrArg Prod.fst (Option.some.inj h4); rw [DataW.held.inj h5]; rfl
/-- A store of a literal's entry, at the operation. -/
theorem wp_entry (w : World) {ops : Array Oper} {rest : List Oper} {o : Oper} {a : Act} {Q : Exit → Act → World → Prop}
    (hg : o.guard = none) (m x v : Operand) (t : TypeId) (hop : o.op = Op.insert t m x v) (e : TypeId) (ht : Tryz.prog.underlying t = some (.map 3 e)) (b : Nat) (l : List (Int × Value))
    (hm : a.eval m = .map (some b)) (hown : MapIs w b l) (hn : l.length < maxLen) (k : Int) (val : Value) (hx : a.eval x = .int .i64 k) (hwk : (Lit.int .i64 k).wf = true) (hv : a.eval v = val)
    (hK : ∀ w', MapIs w' b ((k, val) :: l) → w.grownBy w' (some b) → wpList Tryz.prog ops Q rest (a.put o.dst undef) w') :
    wpList Tryz.prog ops Q (o :: rest) a w := by
  refine wpList_plain hg fun K' hK' => ?_
  obtain ⟨w', hrun, r1, r2⟩ := hown.put t e ht hn k hwk val
  unfold Oper.wp
  simp [execOp, hop, hm, hx, hv, hrun, Result.andThen]
  exact hK' _ _ (hK w' r1 r2)
def kindsL : List (Int × Value) := [(12, .int .i64 11), (11, .int .i64 10), (8, .int .i64 8), (7, .int .i64 7), (6, .int .i64 6), (5, .int .i64 5), (4, .int .i64 1), (3, .int .i64 4), (2, .int .i64 3), (1, .int .i64 2)]
def opsL : List (Int × Value) := [(13, .agg #[.string ⟨#[106, 117, 109, 112]⟩, .int .i64 2, .int .i64 0]), (12, .agg #[.string ⟨#[117, 110, 108, 101, 115, 115]⟩, .int .i64 2, .int .i64 0]), (11, .agg #[.string ⟨#[97, 98, 111, 118, 101]⟩, .int .i64 0, .int .i64 0]), (10, .agg #[.string ⟨#[109, 111, 114, 101]⟩, .int .i64 1, .int .i64 1000]), (9, .agg #[.string ⟨#[101, 108, 115, 101]⟩, .int .i64 2, .int .i64 0]), (8, .agg #[.string ⟨#[109, 97, 120]⟩, .int .i64 0, .int .i64 0]), (7, .agg #[.string ⟨#[109, 105, 110]⟩, .int .i64 0, .int .i64 0]), (6, .agg #[.string ⟨#[99, 117, 116]⟩, .int .i64 1, .int .i64 100000]), (5, .agg #[.string ⟨#[108, 101, 115, 115]⟩, .int .i64 1, .int .i64 1000000000000]), (4, .agg #[.string ⟨#[102, 114, 111, 109]⟩, .int .i64 3, .int .i64 0]), (3, .agg #[.string ⟨#[115, 101, 99, 111, 110, 100]⟩, .int .i64 0, .int .i64 0]), (2, .agg #[.string ⟨#[108, 111, 119, 101, 115, 116]⟩, .int .i64 0, .int .i64 0]), (1, .agg #[.string ⟨#[112, 117, 115, 104]⟩, .int .i64 1, .int .i64 1000000000000])]
set_option maxRecDepth 100000 in
set_option maxHeartbeats 4000000 in
theorem operations_any (w0 w : World) (hr : Rel w0 w) :
    Calls Tryz.prog 71 #[] w fun r w' => ∃ b, r = .returned (.map (some b)) ∧ w.heap.size ≤ b ∧ MapIs w' b opsL ∧ Rel w w' ∧ Rel w0 w' := by
  have hmm := @run_makeMap Tryz.prog
  have m0 := MapIs.made w
  have hw : w.heap.size ≤ w.heap.size := Nat.le_refl _
  have r0 := hr.self.alloc (.map #[] 0)
  go_enter Tryz.func71, Tryz.ntmps71
  go_wp2_with (first
    | (refine wp_entry _ rfl _ _ _ 120 rfl 123 Tryz.underlying120 _ _ rfl m0 (by decide) 1 (.agg #[.string ⟨#[112, 117, 115, 104]⟩, .int .i64 1, .int .i64 1000000000000]) rfl (by decide) rfl ?_; intro w1 m1 g1; have r1 := Rel.grown r0 g1 (fun k hk => by injection hk with hk; rw [← hk]; exact hw); clear m0 g1 r0)
    | (refine wp_entry _ rfl _ _ _ 120 rfl 123 Tryz.underlying120 _ _ rfl m1 (by decide) 2 (.agg #[.string ⟨#[108, 111, 119, 101, 115, 116]⟩, .int .i64 0, .int .i64 0]) rfl (by decide) rfl ?_; intro w2 m2 g2; have r2 := Rel.grown r1 g2 (fun k hk => by injection hk with hk; rw [← hk]; exact hw); clear m1 g2 r1)
    | (refine wp_entry _ rfl _ _ _ 120 rfl 123 Tryz.underlying120 _ _ rfl m2 (by decide) 3 (.agg #[.string ⟨#[115, 101, 99, 111, 110, 100]⟩, .int .i64 0, .int .i64 0]) rfl (by decide) rfl ?_; intro w3 m3 g3; have r3 := Rel.grown r2 g3 (fun k hk => by injection hk with hk; rw [← hk]; exact hw); clear m2 g3 r2)
    | (refine wp_entry _ rfl _ _ _ 120 rfl 123 Tryz.underlying120 _ _ rfl m3 (by decide) 4 (.agg #[.string ⟨#[102, 114, 111, 109]⟩, .int .i64 3, .int .i64 0]) rfl (by decide) rfl ?_; intro w4 m4 g4; have r4 := Rel.grown r3 g4 (fun k hk => by injection hk with hk; rw [← hk]; exact hw); clear m3 g4 r3)
    | (refine wp_entry _ rfl _ _ _ 120 rfl 123 Tryz.underlying120 _ _ rfl m4 (by decide) 5 (.agg #[.string ⟨#[108, 101, 115, 115]⟩, .int .i64 1, .int .i64 1000000000000]) rfl (by decide) rfl ?_; intro w5 m5 g5; have r5 := Rel.grown r4 g5 (fun k hk => by injection hk with hk; rw [← hk]; exact hw); clear m4 g5 r4)
    | (refine wp_entry _ rfl _ _ _ 120 rfl 123 Tryz.underlying120 _ _ rfl m5 (by decide) 6 (.agg #[.string ⟨#[99, 117, 116]⟩, .int .i64 1, .int .i64 100000]) rfl (by decide) rfl ?_; intro w6 m6 g6; have r6 := Rel.grown r5 g6 (fun k hk => by injection hk with hk; rw [← hk]; exact hw); clear m5 g6 r5)
    | (refine wp_entry _ rfl _ _ _ 120 rfl 123 Tryz.underlying120 _ _ rfl m6 (by decide) 7 (.agg #[.string ⟨#[109, 105, 110]⟩, .int .i64 0, .int .i64 0]) rfl (by decide) rfl ?_; intro w7 m7 g7; have r7 := Rel.grown r6 g7 (fun k hk => by injection hk with hk; rw [← hk]; exact hw); clear m6 g7 r6)
    | (refine wp_entry _ rfl _ _ _ 120 rfl 123 Tryz.underlying120 _ _ rfl m7 (by decide) 8 (.agg #[.string ⟨#[109, 97, 120]⟩, .int .i64 0, .int .i64 0]) rfl (by decide) rfl ?_; intro w8 m8 g8; have r8 := Rel.grown r7 g8 (fun k hk => by injection hk with hk; rw [← hk]; exact hw); clear m7 g8 r7)
    | (refine wp_entry _ rfl _ _ _ 120 rfl 123 Tryz.underlying120 _ _ rfl m8 (by decide) 9 (.agg #[.string ⟨#[101, 108, 115, 101]⟩, .int .i64 2, .int .i64 0]) rfl (by decide) rfl ?_; intro w9 m9 g9; have r9 := Rel.grown r8 g9 (fun k hk => by injection hk with hk; rw [← hk]; exact hw); clear m8 g9 r8)
    | (refine wp_entry _ rfl _ _ _ 120 rfl 123 Tryz.underlying120 _ _ rfl m9 (by decide) 10 (.agg #[.string ⟨#[109, 111, 114, 101]⟩, .int .i64 1, .int .i64 1000]) rfl (by decide) rfl ?_; intro w10 m10 g10; have r10 := Rel.grown r9 g10 (fun k hk => by injection hk with hk; rw [← hk]; exact hw); clear m9 g10 r9)
    | (refine wp_entry _ rfl _ _ _ 120 rfl 123 Tryz.underlying120 _ _ rfl m10 (by decide) 11 (.agg #[.string ⟨#[97, 98, 111, 118, 101]⟩, .int .i64 0, .int .i64 0]) rfl (by decide) rfl ?_; intro w11 m11 g11; have r11 := Rel.grown r10 g11 (fun k hk => by injection hk with hk; rw [← hk]; exact hw); clear m10 g11 r10)
    | (refine wp_entry _ rfl _ _ _ 120 rfl 123 Tryz.underlying120 _ _ rfl m11 (by decide) 12 (.agg #[.string ⟨#[117, 110, 108, 101, 115, 115]⟩, .int .i64 2, .int .i64 0]) rfl (by decide) rfl ?_; intro w12 m12 g12; have r12 := Rel.grown r11 g12 (fun k hk => by injection hk with hk; rw [← hk]; exact hw); clear m11 g12 r11)
    | (refine wp_entry _ rfl _ _ _ 120 rfl 123 Tryz.underlying120 _ _ rfl m12 (by decide) 13 (.agg #[.string ⟨#[106, 117, 109, 112]⟩, .int .i64 2, .int .i64 0]) rfl (by decide) rfl ?_; intro w13 m13 g13; have r13 := Rel.grown r12 g13 (fun k hk => by injection hk with hk; rw [← hk]; exact hw); clear m12 g13 r12))
  go_ret
  exact ⟨_, rfl, hw, m13, r13, hr.trans r13⟩
end Go.Proofs.YtcckemhelockaaaGreatDoor

namespace Go.Proofs.YtcckemhelockaaaGreatDoor
open Go.RowKit Go.Lib
set_option linter.unusedVariables false
set_option linter.unusedSimpArgs false
/-- A map in block b hangs on that block alone. -/
theorem MapIs.heap {w w' : World} {b : Nat} {l : List (Int × Value)} (h : MapIs w b l) (e : w'.heap[b]? = w.heap[b]?) : MapIs w' b l := by
  obtain ⟨D, ⟨es, clock, h1, h2⟩, h3⟩ := h
  exact ⟨D, ⟨es, clock, e.trans h1, h2⟩, h3⟩
theorem MapIs.kr {w w' : World} {q b : Nat} {T : TypeId} {l : List (Int × Value)} (h : MapIs w q l) (hk : Kr T b w w') (hq : q ≠ b) : MapIs w' q l := by
  obtain ⟨es, clock, hb⟩ := h.block
  exact h.heap ((hk q _ hb (fun e => hq (by injection e)) (fun _ _ e => by cases e)).trans hb.symm)
theorem lm_ne : (64 : TypeId) ≠ 62 := by decide
abbrev Kl (b : Nat) (w w' : World) : Prop := Kr 64 b w w'
/-- The machine in block b; its stack's row lies in a block from C on, ahead of D. -/
def Mh (w : World) (C D b : Nat) (ov : Value) (nx st : Int) (S : List Ce) : Prop :=
  C ≤ b ∧ b < D ∧ D ≤ w.heap.size ∧ S.length ≤ 100 ∧ ∃ A c, Bk w b 62 #[ov, .int .i64 nx, .int .i64 st, .slice A S.length c] ∧ StkOwn 64 w C (.slice A S.length c) S ∧ ∀ g, (Value.slice A S.length c).ownBlock = some g → g < D
section
variable {w w' : World} {C D b : Nat} {ov : Value} {nx st : Int} {S : List Ce}
theorem Mh.of {A : Option Addr} {L c : Nat} (h1 : C ≤ b) (h2 : b < D) (h3 : D ≤ w.heap.size) (h4 : L ≤ 100) (hL : S.length = L) (hb : Bk w b 62 #[ov, .int .i64 nx, .int .i64 st, .slice A L c]) (ho : StkOwn 64 w C (.slice A L c) S)
    (hr : ∀ g, (Value.slice A L c).ownBlock = some g → g < D) : Mh w C D b ov nx st S := by
  subst hL
  exact ⟨h1, h2, h3, h4, A, c, hb, ho, hr⟩
theorem Mh.lt (h : Mh w C D b ov nx st S) : b < w.heap.size := by have := h.2.1; have := h.2.2.1; omega
theorem Mh.rel (h : Mh w C D b ov nx st S) (hr : Rel w w') : Mh w' C D b ov nx st S := by
  obtain ⟨h1, h2, h3, h4, A, c, hb, ho, h5⟩ := h
  exact ⟨h1, h2, by have := hr.size; omega, h4, A, c, hb.rel hr, ho.rel hr, h5⟩
theorem Mh.wide (h : Mh w C D b ov nx st S) {E : Nat} (h1 : D ≤ E) (h2 : E ≤ w.heap.size) : Mh w C E b ov nx st S := by
  obtain ⟨g1, g2, g3, g4, A, c, hb, ho, g5⟩ := h
  exact ⟨g1, by omega, h2, g4, A, c, hb, ho, fun g hg => by have := g5 g hg; omega⟩
theorem Mh.far (h : Mh w C D b ov nx st S) {p : Addr} (hp : D ≤ p.block) (u : Value) : Mh (w.setCell p u) C D b ov nx st S := by
  obtain ⟨h1, h2, h3, h4, A, c, hb, ho, h5⟩ := h
  exact ⟨h1, h2, by rw [World.size_setCell]; exact h3, h4, A, c, hb.far (p := p) (by omega) u, own_set ho.row (fun e => by have := h5 _ e.symm; omega) u, h5⟩
theorem Mh.cells (h : Mh w C D b ov nx st S) : ∃ A c, Bk w b 62 #[ov, .int .i64 nx, .int .i64 st, .slice A S.length c] := by
  obtain ⟨h1, h2, h3, h4, A, c, hb, ho, h5⟩ := h
  exact ⟨A, c, hb⟩
theorem Mh.next (h : Mh w C D b ov nx st S) (n : Int) : Mh (w.setCell ⟨b, 1, none⟩ (.int .i64 n)) C D b ov n st S := by
  obtain ⟨h1, h2, h3, h4, A, c, hb, ho, h5⟩ := h
  exact ⟨h1, h2, by rw [World.size_setCell]; exact h3, h4, A, c, hb.set_ 1 _, own_set ho.row (own_ne ho.row hb lm_ne) _, h5⟩
theorem Mh.step (h : Mh w C D b ov nx st S) (n : Int) : Mh (w.setCell ⟨b, 2, none⟩ (.int .i64 n)) C D b ov nx n S := by
  obtain ⟨h1, h2, h3, h4, A, c, hb, ho, h5⟩ := h
  exact ⟨h1, h2, by rw [World.size_setCell]; exact h3, h4, A, c, hb.set_ 2 _, own_set ho.row (own_ne ho.row hb lm_ne) _, h5⟩
end
theorem told_info : (Tryz.prog.info? 64).map (fun i => (i.zero, i.size, i.bytes)) = some (some (.agg #[.int .i64 0, .bool false]), 2, 16) := by kernel_rfl
/-- An amount told, or nothing, as a value. -/
abbrev CV1 (c : Ce) : Value := .agg #[.int .i64 (c.getD 0), .bool c.isSome]
set_option maxRecDepth 100000 in
set_option maxHeartbeats 4000000 in
theorem ltake_none (b D : Nat) (ov : Value) (nx st : Int) (w0 w : World) (hr : Rel w0 w) (h : Mh w w0.heap.size D b ov nx st []) :
    Calls Tryz.prog 117 #[.pointer (some ⟨b, 0, none⟩)] w fun r w' => r = .returned (.tuple #[CV1 none, .int .i64 100]) ∧ Rel w w' := by
  have HA := Lib.hid (hr.self.alloc (.cells #[.int .i64 0, .bool false] 64))
  have HX := Lib.hid (Bk.new w 64 #[.int .i64 0, .bool false])
  have hM := h.rel HA.out
  obtain ⟨W, hW⟩ : ∃ W, w.alloc (.cells #[.int .i64 0, .bool false] 64) = W := ⟨_, rfl⟩
  rw [hW] at HA HX hM
  obtain ⟨A, c, hb⟩ := hM.cells
  obtain ⟨⟨b0, b1, b2, b3⟩, _⟩ := hb.four
  simp only [List.length_nil] at b3
  obtain ⟨⟨x0, x1⟩, x2, x3⟩ := HX.out.two
  obtain ⟨⟨r0, r1⟩, _⟩ := (HX.out.put (.int .i64 0) (.bool false)).two
  clear hr h hM hb
  go_enter Tryz.func117, Tryz.ntmps117
  go_wp2_with (fail)
  exact bodyPost_ret (v := .tuple #[.agg #[.int .i64 0, .bool false], .int .i64 100]) (by simp [results, Tryz.results117, go_sem, r0, r1]) rfl ⟨rfl, HA.out.box (Nat.le_refl _) _ _⟩
set_option maxRecDepth 100000 in
set_option maxHeartbeats 4000000 in
theorem ltake_some (b D : Nat) (ov : Value) (nx st : Int) (S : List Ce) (t : Ce) (w0 w : World) (hr : Rel w0 w) (h : Mh w w0.heap.size D b ov nx st (S ++ [t])) :
    Calls Tryz.prog 117 #[.pointer (some ⟨b, 0, none⟩)] w fun r w' => r = .returned (.tuple #[CV1 t, .int .i64 0]) ∧ Mh w' w0.heap.size D b ov nx st S ∧ Rel w0 w' ∧ Kt b w w' := by
  have HA := Lib.hid (hr.alloc (.cells #[.int .i64 0, .bool false] 64))
  have HK := Lib.hid ((Kt.refl b w).alloc (.cells #[.int .i64 0, .bool false] 64))
  have HX := Lib.hid (Bk.new w 64 #[.int .i64 0, .bool false])
  have hDw := h.2.2.1
  have hM := h.rel (hr.self.alloc (.cells #[.int .i64 0, .bool false] 64))
  have hw0 : w0.heap.size ≤ w.heap.size := hr.size
  obtain ⟨W, hW⟩ : ∃ W, w.alloc (.cells #[.int .i64 0, .bool false] 64) = W := ⟨_, rfl⟩
  rw [hW] at HA HK HX hM
  obtain ⟨⟨x0, x1⟩, x2, x3⟩ := HX.out.two
  obtain ⟨hC, hbD, hDW, hS, A, c, hb, ho, hrow⟩ := hM
  have hl : (S ++ [t]).length = S.length + 1 := by simp
  rw [hl] at hb ho hrow hS
  obtain ⟨g, cap, hv, hg0, hgl, hcap, t0, t1, ht⟩ := ho.top
  obtain ⟨L, hL⟩ : ∃ L, S.length = L := ⟨_, rfl⟩
  rw [hL] at hv t0 t1 ht hb hcap hS
  injection hv with e1 e2 e3
  subst e1
  subst e3
  have hgD : g < D := hrow g rfl
  have HLn := Lib.hid hL
  have HB := Lib.hid hb
  have HT := Lib.hid (show StkOwn 64 W w0.heap.size (.slice (some ⟨g, 0, none⟩) L c) S from ht)
  obtain ⟨tn, htn⟩ : ∃ tn, t.getD 0 = tn := ⟨_, rfl⟩
  obtain ⟨tb, htb⟩ : ∃ tb, t.isSome = tb := ⟨_, rfl⟩
  rw [htn] at t0
  rw [htb] at t1
  have HTn := Lib.hid (show CV1 t = .agg #[.int .i64 tn, .bool tb] by rw [← htn, ← htb])
  obtain ⟨⟨b0, b1, b2, b3⟩, f0, f1, f2, f3⟩ := HB.out.four
  have q1 : IntKind.i64.wrap ((L : Nat) : Int) = ((L : Nat) : Int) := IntWalk.i64_in _ (by omega)
  have l0 : (0 : Int) ≤ (L : Int) := by omega
  have l1 : (L : Int) < (L : Int) + 1 := by omega
  have l2 : L ≤ c := by omega
  have l3 : decide ((L : Int) < 0) = false := decide_eq_false (by omega)
  have hwb : w.heap.size ≠ b := by omega
  clear hl hL ht htn htb hr h hb ho hrow
  go_enter Tryz.func117, Tryz.ntmps117
  go_upto_region 5 with (fail)
  have HBV := Lib.hid (HB.out.alloc (.cells #[.int .i64 tn, .bool tb] 64))
  have HTV := Lib.hid (HT.out.alloc (.cells #[.int .i64 tn, .bool tb] 64))
  have HXV := Lib.hid (HX.out.alloc (.cells #[.int .i64 tn, .bool tb] 64))
  have HNV := Lib.hid (Bk.new W 64 #[.int .i64 tn, .bool tb])
  have HAV := Lib.hid (HA.out.alloc (.cells #[.int .i64 tn, .bool tb] 64))
  have HKV := Lib.hid (HK.out.alloc (.cells #[.int .i64 tn, .bool tb] 64))
  have hWb : W.heap.size ≠ b := by omega
  have hWw : W.heap.size ≠ w.heap.size := by rw [← hW, World.size_alloc]; omega
  have hDV : D ≤ (W.alloc (.cells #[.int .i64 tn, .bool tb] 64)).heap.size := by rw [World.size_alloc]; omega
  obtain ⟨V, hV⟩ : ∃ V, W.alloc (.cells #[.int .i64 tn, .bool tb] 64) = V := ⟨_, rfl⟩
  rw [hV] at HBV HTV HXV HNV HAV HKV hDV
  try rw [hV]
  obtain ⟨⟨v0, v1, v2, v3⟩, u0, u1, u2, u3⟩ := HBV.out.four
  have HXU := Lib.hid (HXV.out.far (p := ⟨b, 3, none⟩) hwb (.slice (some ⟨g, 0, none⟩) L c))
  have HNU := Lib.hid (HNV.out.far (p := ⟨b, 3, none⟩) hWb (.slice (some ⟨g, 0, none⟩) L c))
  have HBU := Lib.hid (show Bk (V.setCell ⟨b, 3, none⟩ (.slice (some ⟨g, 0, none⟩) L c)) b 62 #[ov, .int .i64 nx, .int .i64 st, .slice (some ⟨g, 0, none⟩) L c] from HBV.out.set_ 3 (.slice (some ⟨g, 0, none⟩) L c))
  have HTU := Lib.hid (show StkOwn 64 (V.setCell ⟨b, 3, none⟩ (.slice (some ⟨g, 0, none⟩) L c)) w0.heap.size _ S from own_set (StkOwn.row HTV.out) (own_ne (StkOwn.row HTV.out) HBV.out lm_ne) _)
  have HAU := Lib.hid (HAV.out.setCell (p := ⟨b, 3, none⟩) hC (.slice (some ⟨g, 0, none⟩) L c))
  have HKU := Lib.hid (HKV.out.set (p := ⟨b, 3, none⟩) rfl (.slice (some ⟨g, 0, none⟩) L c))
  have hDU : D ≤ (V.setCell ⟨b, 3, none⟩ (.slice (some ⟨g, 0, none⟩) L c)).heap.size := by rw [World.size_setCell]; exact hDV
  go_upto_region 6 with (fail)
  obtain ⟨U, hU⟩ : ∃ U, V.setCell ⟨b, 3, none⟩ (.slice (some ⟨g, 0, none⟩) L c) = U := ⟨_, rfl⟩
  rw [hU] at HXU HNU HBU HTU HAU HKU hDU
  try rw [hU]
  have HMU := Lib.hid (Mh.of hC hbD hDU (show L ≤ 100 by omega) HLn.out HBU.out HTU.out (fun k e => by
    have : g = k := by simpa [Value.ownBlock] using e
    omega))
  obtain ⟨⟨m0, m1⟩, _⟩ := HNU.out.two
  obtain ⟨⟨k0, k1⟩, k2, k3⟩ := HXU.out.two
  obtain ⟨⟨r0, r1⟩, _⟩ := (HXU.out.put (.int .i64 tn) (.bool tb)).two
  clear hV
  go_wp2_with (fail)
  exact bodyPost_ret (v := .tuple #[.agg #[.int .i64 tn, .bool tb], .int .i64 0]) (by simp [results, Tryz.results117, go_sem, r0, r1]) rfl ⟨by rw [HTn.out], (HMU.out.far (p := ⟨w.heap.size, 0, none⟩) hDw _).far (p := ⟨w.heap.size, 1, none⟩) hDw _, HAU.out.box hw0 _ _, HKU.out.box (Nat.le_refl _) _ _⟩
theorem lput_done {w w' : World} {C b g c c' L : Nat} {A : Option Addr} {S : List Ce} {x : Ce} {xs : List Value} {ov : Value} {nx st : Int} (hC : C ≤ b) (hbD : b < w'.heap.size) (hL : S.length = L) (hl : L < 100) (hb : Bk w b 62 #[ov, .int .i64 nx, .int .i64 st, .slice A L c]) (ho : StkOwn 64 w C (.slice A L c) S) (hx : cellsC x = xs)
    (hw : w.grownBy w' (Value.slice A L c).ownBlock) (hown : w'.ownsRow C 64 2 (.slice (some ⟨g, 0, none⟩) (L + 1) c') (L + 1) (cellsS S ++ xs)) (hg : g < w'.heap.size) :
    Mh (w'.setCell ⟨b, 3, none⟩ (.slice (some ⟨g, 0, none⟩) (L + 1) c')) C (w'.setCell ⟨b, 3, none⟩ (.slice (some ⟨g, 0, none⟩) (L + 1) c')).heap.size b ov nx st (S ++ [x]) := by
  subst hL hx
  have hb' := hb.grown hw (own_ne ho.row hb lm_ne)
  have hs := hb'.set_ 3 (.slice (some ⟨g, 0, none⟩) (S.length + 1) c')
  have hle : (S ++ [x]).length = S.length + 1 := by simp
  refine Mh.of hC (by rw [World.size_setCell]; exact hbD) (Nat.le_refl _) (show S.length + 1 ≤ 100 by omega) hle hs ?_ (fun k e => by
    have : g = k := by simpa [Value.ownBlock] using e
    rw [World.size_setCell]; omega)
  unfold StkOwn
  rw [cellsS_snoc, hle]
  exact own_set hown (own_ne hown hb' lm_ne) _
set_option maxRecDepth 100000 in
set_option maxHeartbeats 4000000 in
theorem lput_full (b D : Nat) (ov : Value) (nx st : Int) (S : List Ce) (x : Ce) (hS : S.length = 100) (w0 w : World) (hr : Rel w0 w) (h : Mh w w0.heap.size D b ov nx st S) :
    Calls Tryz.prog 118 #[.pointer (some ⟨b, 0, none⟩), CV1 x] w fun r w' => r = .returned (.int .i64 100) ∧ Rel w w' := by
  obtain ⟨n, hn⟩ : ∃ n, x.getD 0 = n := ⟨_, rfl⟩
  obtain ⟨is, hi⟩ : ∃ is, x.isSome = is := ⟨_, rfl⟩
  unfold CV1
  rw [hn, hi]
  have HA := Lib.hid (hr.self.alloc (.cells #[.int .i64 n, .bool is] 64))
  have hM := h.rel HA.out
  obtain ⟨W, hW⟩ : ∃ W, w.alloc (.cells #[.int .i64 n, .bool is] 64) = W := ⟨_, rfl⟩
  rw [hW] at HA hM
  obtain ⟨A, c, hb⟩ := hM.cells
  rw [hS] at hb
  obtain ⟨⟨b0, b1, b2, b3⟩, _⟩ := hb.four
  clear hr h hM hb hS
  go_enter Tryz.func118, Tryz.ntmps118
  go_wp2_with (fail)
  go_ret
  exact ⟨rfl, HA.out⟩
set_option maxRecDepth 100000 in
set_option maxHeartbeats 4000000 in
theorem lput_room (b D : Nat) (ov : Value) (nx st : Int) (S : List Ce) (x : Ce) (hS : S.length < 100) (w0 w : World) (hr : Rel w0 w) (h : Mh w w0.heap.size D b ov nx st S) :
    Calls Tryz.prog 118 #[.pointer (some ⟨b, 0, none⟩), CV1 x] w fun r w' => r = .returned (.int .i64 0) ∧ Mh w' w0.heap.size w'.heap.size b ov nx st (S ++ [x]) ∧ Rel w0 w' ∧ Kl b w w' := by
  obtain ⟨n, hn⟩ : ∃ n, x.getD 0 = n := ⟨_, rfl⟩
  obtain ⟨is, hi⟩ : ∃ is, x.isSome = is := ⟨_, rfl⟩
  have HCx := Lib.hid (show cellsC x = [.int .i64 n, .bool is] by rw [← hn, ← hi]; rfl)
  unfold CV1
  rw [hn, hi]
  have hblt := h.lt
  obtain ⟨hC, hbD, hDw, hS', A, c, hb, ho, hrow⟩ := h
  obtain ⟨L, hL⟩ : ∃ L, S.length = L := ⟨_, rfl⟩
  rw [hL] at hb ho hS hS'
  have HL := Lib.hid hL
  have HX := Lib.hid (Bk.new w 64 #[.int .i64 n, .bool is])
  have HB := Lib.hid (hb.alloc (.cells #[.int .i64 n, .bool is] 64))
  have HO := Lib.hid (ho.alloc (.cells #[.int .i64 n, .bool is] 64))
  have HA := Lib.hid (hr.alloc (.cells #[.int .i64 n, .bool is] 64))
  have HK := Lib.hid ((Kr.refl 64 b w).alloc (.cells #[.int .i64 n, .bool is] 64))
  have hWs : (w.alloc (.cells #[.int .i64 n, .bool is] 64)).heap.size = w.heap.size + 1 := World.size_alloc _ _
  obtain ⟨W, hW⟩ : ∃ W, w.alloc (.cells #[.int .i64 n, .bool is] 64) = W := ⟨_, rfl⟩
  rw [hW] at HX HB HO HA HK hWs
  obtain ⟨⟨x0, x1⟩, _⟩ := HX.out.two
  obtain ⟨⟨b0, b1, b2, b3⟩, f0, f1, f2, f3⟩ := HB.out.four
  have HB2 := Lib.hid (show Bk (W.alloc (.cells #[.int .i64 n, .bool is] 64)).drew b 62 _ from HB.out.alloc (.cells #[.int .i64 n, .bool is] 64))
  have HO2 := Lib.hid (show StkOwn 64 (W.alloc (.cells #[.int .i64 n, .bool is] 64)).drew w0.heap.size (.slice A L c) S from HO.out.alloc (.cells #[.int .i64 n, .bool is] 64))
  have HA2 := Lib.hid ((HA.out.alloc (.cells #[.int .i64 n, .bool is] 64)).drew)
  have HK2 := Lib.hid (show Kr 64 b w (W.alloc (.cells #[.int .i64 n, .bool is] 64)).drew from HK.out.alloc (.cells #[.int .i64 n, .bool is] 64))
  have hRow : (W.alloc (.cells #[.int .i64 n, .bool is] 64)).drew.ownsRow w0.heap.size 64 2 (.slice A L c) L (cellsS S) := by have := StkOwn.row HO2.out; rw [HL.out] at this; exact this
  have HRow := Lib.hid hRow
  have d3 : (W.alloc (.cells #[.int .i64 n, .bool is] 64)).drew.cell? ⟨b, 3, none⟩ = some (.slice A L c) := HB2.out.cell 3
  have HN := Lib.hid (show ∀ (j : Nat) (u : Value), ([.int .i64 n, .bool is] : List Value)[j]? = some u → (W.alloc (.cells #[.int .i64 n, .bool is] 64)).drew.cell? ((⟨w.heap.size + 1, 0, none⟩ : Addr).add j) = some u from by rw [← hWs]; exact World.news_of_block (Bk.new W 64 #[.int .i64 n, .bool is]))
  have hbs : w0.heap.size ≤ (W.alloc (.cells #[.int .i64 n, .bool is] 64)).drew.heap.size := HA2.out.size
  have hsz : W.heap.size + 1 ≤ (W.alloc (.cells #[.int .i64 n, .bool is] 64)).drew.heap.size := by show _ ≤ (W.alloc (.cells #[.int .i64 n, .bool is] 64)).heap.size; rw [World.size_alloc]; omega
  obtain ⟨i0, hi0, hz0, hz1, hz2⟩ := info_parts told_info
  have t1 : decide ((100 : Int) ≤ (L : Int)) = false := decide_eq_false (by omega)
  clear hr hb ho hL hrow hRow hn hi
  go_enter Tryz.func118, Tryz.ntmps118
  go_upto_region 3 with (fail)
  refine wp_region_any (by kernel_rfl) ?_
  change wpAny _ _ _ _ _ _ _ W.drew
  refine any_take (i := 0) (v := ?_) (some 11) rfl rfl (by kernel_rfl) (by kernel_rfl) (by kernel_rfl) (fun _ _ _ h => h) (Or.inl ⟨by rfl, ?_⟩) ?_
  rotate_left 1
  · intro w'; go_simp; try with_reducible rfl
  try simp only [Act.put, List.setIfInBounds_toArray, List.set_cons_zero, List.set_cons_succ]
  refine any_take (i := 1) (v := ?_) (some 12) rfl rfl (by kernel_rfl) (by kernel_rfl) (by kernel_rfl) (fun _ _ _ h => h) (Or.inl ⟨by rfl, ?_⟩) ?_
  rotate_left 1
  · intro w'; go_simp; try with_reducible rfl
  try simp only [Act.put, List.setIfInBounds_toArray, List.set_cons_zero, List.set_cons_succ]
  refine any_take (i := 2) (v := ?_) (some 13) rfl rfl (by kernel_rfl) (by kernel_rfl) (by kernel_rfl) (fun _ _ _ h => h) (Or.inl ⟨by rfl, ?_⟩) ?_
  rotate_left 1
  · intro w'; go_simp; try with_reducible rfl
  try simp only [Act.put, List.setIfInBounds_toArray, List.set_cons_zero, List.set_cons_succ]
  refine any_take (i := 3) (v := ?_) (some 14) rfl rfl (by kernel_rfl) (by kernel_rfl) (by kernel_rfl) (fun _ _ _ h => h) (Or.inl ⟨by rfl, ?_⟩) ?_
  rotate_left 1
  · intro w'; go_simp; try with_reducible rfl
  try simp only [Act.put, List.setIfInBounds_toArray, List.set_cons_zero, List.set_cons_succ]
  refine till_take (i := 4) (v := ?_) (S := fun w' => w'.cell? ⟨b, 3, none⟩ = some (.slice A L c)) (some 15) rfl rfl (by kernel_rfl) (by kernel_rfl) (by kernel_rfl) (fun _ _ _ h => h) (Or.inl ⟨by rfl, ?_⟩) b3 ?_
  rotate_left 1
  · intro w' hSw; go_simp; try with_reducible rfl
  try simp only [Act.put, List.setIfInBounds_toArray, List.set_cons_zero, List.set_cons_succ]
  refine till_one (j := 5) (by kernel_rfl) rfl (fun K hK => ?_)
  try simp only [List.getElem_toArray, List.getElem_cons_succ, List.getElem_cons_zero]
  try rw [if_pos (by rfl)]
  go_simp
  refine hK.out _ _ b3 ?_
  clear hK K
  try simp only [Act.put, List.setIfInBounds_toArray, List.set_cons_zero, List.set_cons_succ]
  refine till_one (j := 6) (by kernel_rfl) rfl (fun K hK => ?_)
  try simp only [List.getElem_toArray, List.getElem_cons_succ, List.getElem_cons_zero]
  try rw [if_pos (by rfl)]
  go_simp
  refine hK.out _ _ d3 ?_
  clear hK K
  try simp only [Act.put, List.setIfInBounds_toArray, List.set_cons_zero, List.set_cons_succ]
  refine till_late (j := 7) (by kernel_rfl) rfl (by kernel_rfl) (fun K hK => ?_)
  try simp only [List.getElem_toArray, List.getElem_cons_succ, List.getElem_cons_zero]
  rw [if_pos (by rfl)]
  refine wp_append_lies _ _ _ 60 rfl w0.heap.size 64 i0 (.agg #[.int .i64 0, .bool false]) 2 16 Tryz.underlying60 hi0 hz0 hz1 hz2 rfl (by decide) (.slice A L c) L (cellsS S) rfl HRow.out ⟨w.heap.size + 1, 0, none⟩ 1 1 [.int .i64 n, .bool is] rfl rfl HN.out (by intro u hu; simp at hu; rcases hu with rfl | rfl <;> rfl) (by decide) (by unfold maxLen; omega) (by omega) hbs _ rfl ?_
  intro g9 c9 w9 own9 gr9 at9 lt9
  have HB9 := Lib.hid (HB2.out.grown gr9 (own_ne (StkOwn.row HO2.out) HB2.out lm_ne))
  obtain ⟨⟨y0, y1, y2, y3⟩, z0, z1, z2, z3⟩ := HB9.out.four
  have HO9 := Lib.hid own9
  have HG9 := Lib.hid gr9
  have hz9 := gr9.size
  clear own9 gr9 at9
  refine hK.out _ _ ?_
  clear hK K
  try simp only [Act.put, List.setIfInBounds_toArray, List.set_cons_zero, List.set_cons_succ]
  refine till_late (j := 8) (by kernel_rfl) rfl (by kernel_rfl) (fun K hK => ?_)
  try simp only [List.getElem_toArray, List.getElem_cons_succ, List.getElem_cons_zero]
  try rw [if_pos (by rfl)]
  go_simp
  refine hK.out _ _ ?_
  clear hK K
  try simp only [Act.put, List.setIfInBounds_toArray, List.set_cons_zero, List.set_cons_succ]
  refine till_late (j := 9) (by kernel_rfl) rfl (by kernel_rfl) (fun K hK => ?_)
  try simp only [List.getElem_toArray, List.getElem_cons_succ, List.getElem_cons_zero]
  try rw [if_pos (by rfl)]
  go_simp
  refine hK.out _ _ ?_
  clear hK K
  try simp only [Act.put, List.setIfInBounds_toArray, List.set_cons_zero, List.set_cons_succ]
  refine till_late (j := 10) (by kernel_rfl) rfl (by kernel_rfl) (fun K hK => ?_)
  try simp only [List.getElem_toArray, List.getElem_cons_succ, List.getElem_cons_zero]
  try rw [if_pos (by rfl)]
  go_simp
  refine hK.out _ _ ?_
  clear hK K
  try simp only [Act.put, List.setIfInBounds_toArray, List.set_cons_zero, List.set_cons_succ]
  refine till_done (by kernel_rfl) ?_ _
  go_wp2_with (fail)
  go_ret
  exact ⟨rfl, lput_done hC (by omega) HL.out (by omega) HB2.out HO2.out HCx.out HG9.out HO9.out lt9, (HA2.out.grown HG9.out (fun k hk => (HO2.out.row.lt k hk).1)).setCell (p := ⟨b, 3, none⟩) hC _, (HK2.out.trans (Kr.row HO2.out HG9.out)).set (p := ⟨b, 3, none⟩) rfl _⟩
end Go.Proofs.YtcckemhelockaaaGreatDoor

namespace Go.Proofs.YtcckemhelockaaaGreatDoor
open Go.RowKit Go.Lib
set_option linter.unusedVariables false
set_option linter.unusedSimpArgs false
def EvalOk : Prop := ∀ (x : Ex) (S : Nat → Prop) (e : El) (A : Option Addr) (c : Nat) (os : List Of) (w0 w : World), Rel w0 w → ExAt S w e x → size x ≤ 90000 → OffArg w A c os →
    Calls Tryz.prog 19 #[EV e, .slice A os.length c] w fun z w' => z = .returned (RV (evalS os x)) ∧ Rel w0 w'
end Go.Proofs.YtcckemhelockaaaGreatDoor

namespace Go.Proofs.YtcckemhelockaaaGreatDoor
open Go.RowKit Go.Lib
set_option linter.unusedVariables false
set_option linter.unusedSimpArgs false
/-- The compiler in block b: its map, what it has written. -/
def Cm (w : World) (C b m : Nat) (l : List In) : Prop := C ≤ b ∧ ∃ A c, Bk w b 77 #[.map (some m), .slice A l.length c] ∧ InsOwn w C (.slice A l.length c) l ∧ MapIs w m kindsL
/-- Every block but the compiler's, and but rows of instructions, stands as it stood. -/
def Kq (b : Nat) (w w' : World) : Prop := Lib.OthersKept 45 (some b) w w'
theorem Kq.refl (b : Nat) (w : World) : Kq b w w := Lib.OthersKept.refl _ _ w
theorem Kq.trans {b : Nat} {w w' w'' : World} (h : Kq b w w') (h' : Kq b w' w'') : Kq b w w'' := Lib.OthersKept.trans h h'
theorem Kq.alloc {b : Nat} {w w' : World} (h : Kq b w w') (o : Obj) : Kq b w (w'.alloc o) := Lib.OthersKept.alloc h o
theorem Kq.bk {b : Nat} {w w' : World} (h : Kq b w w') {g : Nat} {t : TypeId} {cs : Array Value} (hb : Bk w g t cs) (hne : g ≠ b) (ht : t ≠ 45) : Bk w' g t cs :=
  h g _ hb (fun e => hne (by injection e)) (fun c fz e => ht (by injection e))
theorem Kq.rel {b : Nat} {w w' : World} (hr : Rel w w') : Kq b w w' := fun k o hk _ _ => (hr.2.block k (by
  rcases Nat.lt_or_ge k w.heap.size with h | h
  · exact h
  · rw [Array.getElem?_eq_none h] at hk; cases hk)).trans hk
theorem Kq.set {b : Nat} {w w' : World} (h : Kq b w w') {p : Addr} (hp : p.block = b) (u : Value) : Kq b w (w'.setCell p u) := Lib.OthersKept.setCell h p hp u
theorem Kq.row {b : Nat} {w : World} {base : Nat} {v : Value} {l : List In} (h : InsOwn w base v l) {w' : World} (hg : w.grownBy w' v.ownBlock) : Kq b w w' := fun k o hk hb ho => by
  refine (hg.block k ?_ ?_).trans hk
  · rcases Nat.lt_or_ge k w.heap.size with h | h
    · exact h
    · rw [Array.getElem?_eq_none h] at hk; cases hk
  · intro e
    rcases h.2 with ⟨rfl, _⟩ | ⟨g, cap, cur, rfl, _, hh, _⟩
    · cases e
    · have : k = g := by simpa [Value.ownBlock] using e
      subst this
      rw [hh] at hk
      injection hk with hk
      exact ho _ _ hk.symm
theorem three_of {w : World} {g : Nat} {t : TypeId} {x y z : Value} (h : Bk w g t #[x, y, z]) :
    (w.cell? ⟨g, 0, none⟩ = some x ∧ w.cell? ⟨g, 1, none⟩ = some y ∧ w.cell? ⟨g, 2, none⟩ = some z) ∧ (w.frozen? ⟨g, 0, none⟩ = false ∧ w.frozen? ⟨g, 1, none⟩ = false ∧ w.frozen? ⟨g, 2, none⟩ = false) :=
  ⟨⟨h.cell 0, h.cell 1, h.cell 2⟩, ⟨h.frozen 0, h.frozen 1, h.frozen 2⟩⟩
theorem cmp_ne : (45 : TypeId) ≠ 77 := by decide
theorem Cm.lt {w : World} {C b m : Nat} {l : List In} (h : Cm w C b m l) : b < w.heap.size := by obtain ⟨_, A, c, h, _⟩ := h; exact h.lt
theorem Cm.le {w : World} {C b m : Nat} {l : List In} (h : Cm w C b m l) : C ≤ b := h.1
theorem Cm.map {w : World} {C b m : Nat} {l : List In} (h : Cm w C b m l) : MapIs w m kindsL := by obtain ⟨_, A, c, _, _, h⟩ := h; exact h
theorem Cm.rel {w w' : World} {C b m : Nat} {l : List In} (h : Cm w C b m l) (hr : Rel w w') : Cm w' C b m l := by
  obtain ⟨hC, A, c, h1, h2, h3⟩ := h
  exact ⟨hC, A, c, h1.rel hr, h2.rel hr, h3.rel hr⟩
theorem Cm.cells {w : World} {C b m : Nat} {l : List In} (h : Cm w C b m l) : ∃ A c, w.cell? ⟨b, 0, none⟩ = some (.map (some m)) ∧ w.cell? ⟨b, 1, none⟩ = some (.slice A l.length c) ∧ w.frozen? ⟨b, 1, none⟩ = false := by
  obtain ⟨hC, A, c, h1, h2, h3⟩ := h
  exact ⟨A, c, by rw [h1.cell]; rfl, by rw [h1.cell]; rfl, h1.frozen 1⟩
/-- Behind the append and the store. -/
theorem Cm.put {w w' : World} {C b m g c c' : Nat} {A : Option Addr} {l : List In} {o : In} (hC : C ≤ b) (hb : Bk w b 77 #[.map (some m), .slice A l.length c]) (ho : InsOwn w C (.slice A l.length c) l) (hm : MapIs w m kindsL)
    (hw : w.grownBy w' (Value.slice A l.length c).ownBlock) (hown : InsOwn w' C (.slice (some ⟨g, 0, none⟩) (l.length + 1) c') (l ++ [o])) : Cm (w'.setCell ⟨b, 1, none⟩ (.slice (some ⟨g, 0, none⟩) (l.length + 1) c')) C b m (l ++ [o]) := by
  have hb' : Bk w' b 77 #[.map (some m), .slice A l.length c] := hb.grown hw (own_ne ho.row hb cmp_ne)
  have hmb : m ≠ b := hm.ne hb
  have hm' : MapIs w' m kindsL := hm.grown hw (by
    intro e
    rcases ho.2 with ⟨h0, _⟩ | ⟨g, cap, cur, hv, _, hh, _⟩
    · injection h0 with h0; subst h0; cases e
    · rw [hv] at e
      have : m = g := by simpa [Value.ownBlock] using e
      exact hm.ne (t := 45) hh this)
  have hs := hb'.set_ 1 (.slice (some ⟨g, 0, none⟩) (l.length + 1) c')
  refine ⟨hC, some ⟨g, 0, none⟩, c', ?_, ?_, hm'.set (fun e => hmb e) _⟩
  · rw [show (l ++ [o]).length = l.length + 1 by simp]; exact hs
  · rw [show (l ++ [o]).length = l.length + 1 by simp]
    exact own_set hown.row (own_ne hown.row hb' cmp_ne) _
end Go.Proofs.YtcckemhelockaaaGreatDoor
