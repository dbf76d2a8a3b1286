/- The law's Strategy; Raw numbers as an argument, opened; Plain mathematics of layer 10: strategies as instructions. No program in this text; Plain mathematics of layer 10: which code may be; what is compiled may; where it leads. No program in this text; Plain mathematics of layer 9: what simple expressions tell; offers of raw numbers; lowest and second. No program in this text; Plain mathematics of layer 11: what is compiled tells what the strategy tells. No program in this text; Plain mathematics of layer 11: what the laws say of code. No program in this text; The document's own answers of layer 10: an operation; an expression's code; The document's own answers of layer 10: Compile; which code is the same. -/
import Derived.Test.YtcckemhelockaaaGreatDoorZL
import Derived.Test.YtcckemhelockaaaGreatDoorZ00
import Derived.Test.YtcckemhelockaaaGreatDoorZ01
import Derived.Test.YtcckemhelockaaaGreatDoorZ02
import Derived.Test.YtcckemhelockaaaGreatDoorZ03
import Derived.Test.YtcckemhelockaaaGreatDoorZ19
import Derived.Test.YtcckemhelockaaaGreatDoorZ20
import Derived.Test.YtcckemhelockaaaGreatDoorZ23
import Derived.Test.YtcckemhelockaaaGreatDoorZ25
import Derived.Test.YtcckemhelockaaaGreatDoorZ30
import Derived.Test.YtcckemhelockaaaGreatDoorZ31
namespace Go.Proofs.YtcckemhelockaaaGreatDoor
open Go.RowKit Go.Lib
set_option linter.unusedVariables false
set_option linter.unusedSimpArgs false
theorem expr_all : ∀ d, d ≤ 10 → ExprAt d := by
  intro d
  induction d with
  | zero =>
    intro _ c L g w0 w hr hg hs
    cases c with
    | true => exact expr_cond 0 (by omega) (fun d' h => by omega) L g w0 w hr hg hs
    | false => exact expr_tree 0 (by omega) (fun d' h => by omega) L g w0 w hr hg hs
  | succ d ih =>
    intro hd c L g w0 w hr hg hs
    have H : ∀ d', d + 1 = d' + 1 → ExprAt d' := fun d' h => by
      have : d' = d := by omega
      subst this; exact ih (by omega)
    cases c with
    | true => exact expr_cond (d + 1) hd H L g w0 w hr hg hs
    | false => exact expr_tree (d + 1) hd H L g w0 w hr hg hs
theorem expr5 (L : List Int) (x : Ex) (L' : List Int) (hx : Hid (gen 5 false L = (x, L'))) (g : Nat) (w0 w : World) (hr : Rel w0 w) (hg : w0.heap.size ≤ g) (hs : SrcAt w g L) :
    Calls Tryz.prog 27 #[.pointer (some ⟨g, 0, none⟩), .int .i64 5, .bool false] w fun e w' => ∃ v : El, e = .returned (EV v) ∧ ExAt (fun k => w.heap.size ≤ k) w' v x ∧ SrcAt w' g L' ∧ w.grownBy w' (some g) :=
  expr_as (d := 4) (expr_all 4 (by omega)) false L x L' hx g w0 w hr hg hs
set_option maxHeartbeats 2000000 in
theorem strat_any (A : Option Addr) (c : Nat) (L : List Int) (w0 w : World) (hr : Rel w0 w) (h : IntsIn w A c L) :
    Calls Tryz.prog 17 #[.slice A L.length c] w fun e w' => ∃ v : El, e = .returned (EV v) ∧ ExAt (fun k => w.heap.size ≤ k) w' v (strat L) ∧ Rel w0 w' := by
  have HR := Lib.hid hr
  have HS := Lib.hid hr.self
  have HB := Lib.hid (Bk.new w 38 #[.int .i64 0, .int .i64 0, .string ⟨#[]⟩, .slice none 0 0])
  have h1 := h.1
  have h2 := h.2.1
  have HI := Lib.hid h
  have key : ∀ (L' : List Int) (c' : Nat), IntsIn w A c' L' → Hid (SrcAt ((w.alloc (.cells #[.int .i64 0, .int .i64 0, .string ⟨#[]⟩, .slice none 0 0] 38)).alloc (.cells #[.slice A L'.length c'] 71)) (w.heap.size + 1) L') := fun L' c' hi => Lib.hid ⟨A, c', Bk.snd w _ _ _ _, hi.1, hi.2.1, hi.2.2.1, fun i hi' => by
    obtain ⟨a, e, hl, hc⟩ := hi.2.2.2 i hi'
    exact ⟨a, e, by omega, (((HS.out.alloc _).alloc _).2.cell (p := a.add i) (by rw [block_add]; exact hl)).trans hc⟩⟩
  by_cases hl : L.length ≤ 100
  · have HSr := key L c h
    obtain ⟨⟨x, L3⟩, hx⟩ : ∃ p, gen 5 false L = p := ⟨_, rfl⟩
    have HX := Lib.hid hx
    have HF := Lib.hid (show strat L = x by unfold strat; rw [List.take_of_length_le hl, hx])
    have HRW := Lib.hid ((HS.out.alloc (.cells #[.int .i64 0, .int .i64 0, .string ⟨#[]⟩, .slice none 0 0] 38)).alloc (.cells #[.slice A L.length c] 71))
    have HB1 := Lib.hid (HB.out.alloc (.cells #[.slice A L.length c] 71))
    have hzz : ((w.alloc (.cells #[.int .i64 0, .int .i64 0, .string ⟨#[]⟩, .slice none 0 0] 38)).alloc (.cells #[.slice A L.length c] 71)).heap.size = w.heap.size + 2 := by rw [World.size_alloc, World.size_alloc]
    have HZ := Lib.hid hzz
    have hlen : (L.length : Int) ≤ 100 := by omega
    clear key h hx hzz
    go_enter Tryz.func17, Tryz.ntmps17
    go_wp2_with (go_at_call 27; (with_reducible refine (expr5 L x L3 HX (w.heap.size + 1) _ _ HRW.out (by omega) HSr.out).mono ?_); rintro e w2 ⟨vx, rfl, ex, s2, g2⟩; obtain ⟨⟨c0, c1, c2, c3⟩, f0, f1, f2, f3⟩ := (HB1.out.grown g2 (fun e => by injection e; omega)).four)
    have gp := put4_grown w2 w.heap.size (.int .i64 vx.1) (.int .i64 vx.2.1) (.string (B vx.2.2.1)) (.slice vx.2.2.2.1 vx.2.2.2.2.1 vx.2.2.2.2.2)
    obtain ⟨⟨t0, t1, t2, t3⟩, _⟩ := ((HB1.out.grown g2 (fun e => by injection e; omega)).put4 (.int .i64 vx.1) (.int .i64 vx.2.1) (.string (B vx.2.2.1)) (.slice vx.2.2.2.1 vx.2.2.2.2.1 vx.2.2.2.2.2)).four
    have hz2 := g2.size
    have hz := HZ.out
    refine bodyPost_ret (v := EV vx) (by simp [results, Tryz.results17, go_sem, t0, t1, t2, t3]) rfl ⟨vx, rfl, ?_, ?_⟩
    · rw [HF.out]; exact ex.grown gp (fun q hq => ⟨by omega, fun e => by injection e; omega⟩)
    · exact HR.out.trans (Rel.grown (Rel.grown HRW.out g2 (fun k e => by cases e; omega)) gp (fun k e => by cases e; exact Nat.le_refl _))
  · have e100 : (L.take 100).length = 100 := by rw [List.length_take]; omega
    have HSr := key (L.take 100) c ⟨by omega, h2, fun z hz => h.2.2.1 z (List.mem_of_mem_take hz), fun i hi => by
      obtain ⟨a, e, hl, hc⟩ := h.2.2.2 i (by rw [List.length_take] at hi; omega)
      exact ⟨a, e, hl, by rw [List.getElem_take]; exact hc⟩⟩
    rw [e100] at HSr
    obtain ⟨⟨x, L3⟩, hx⟩ : ∃ p, gen 5 false (L.take 100) = p := ⟨_, rfl⟩
    have HX := Lib.hid hx
    have HF := Lib.hid (show strat L = x by unfold strat; rw [hx])
    have HRW := Lib.hid ((HS.out.alloc (.cells #[.int .i64 0, .int .i64 0, .string ⟨#[]⟩, .slice none 0 0] 38)).alloc (.cells #[.slice A 100 c] 71))
    have HB1 := Lib.hid (HB.out.alloc (.cells #[.slice A 100 c] 71))
    have hzz : ((w.alloc (.cells #[.int .i64 0, .int .i64 0, .string ⟨#[]⟩, .slice none 0 0] 38)).alloc (.cells #[.slice A 100 c] 71)).heap.size = w.heap.size + 2 := by rw [World.size_alloc, World.size_alloc]
    have HZ := Lib.hid hzz
    have hlen : (100 : Int) < (L.length : Int) := by omega
    clear key h hx hzz
    go_enter Tryz.func17, Tryz.ntmps17
    go_wp2_with (go_at_call 27; (with_reducible refine (expr5 (L.take 100) x L3 HX (w.heap.size + 1) _ _ HRW.out (by omega) HSr.out).mono ?_); rintro e w2 ⟨vx, rfl, ex, s2, g2⟩; obtain ⟨⟨c0, c1, c2, c3⟩, f0, f1, f2, f3⟩ := (HB1.out.grown g2 (fun e => by injection e; omega)).four)
    have gp := put4_grown w2 w.heap.size (.int .i64 vx.1) (.int .i64 vx.2.1) (.string (B vx.2.2.1)) (.slice vx.2.2.2.1 vx.2.2.2.2.1 vx.2.2.2.2.2)
    obtain ⟨⟨t0, t1, t2, t3⟩, _⟩ := ((HB1.out.grown g2 (fun e => by injection e; omega)).put4 (.int .i64 vx.1) (.int .i64 vx.2.1) (.string (B vx.2.2.1)) (.slice vx.2.2.2.1 vx.2.2.2.2.1 vx.2.2.2.2.2)).four
    have hz2 := g2.size
    have hz := HZ.out
    refine bodyPost_ret (v := EV vx) (by simp [results, Tryz.results17, go_sem, t0, t1, t2, t3]) rfl ⟨vx, rfl, ?_, ?_⟩
    · rw [HF.out]; exact ex.grown gp (fun q hq => ⟨by omega, fun e => by injection e; omega⟩)
    · exact HR.out.trans (Rel.grown (Rel.grown HRW.out g2 (fun k e => by cases e; omega)) gp (fun k e => by cases e; exact Nat.le_refl _))
end Go.Proofs.YtcckemhelockaaaGreatDoor

namespace Go.Proofs.YtcckemhelockaaaGreatDoor
open Go.RowKit Go.Lib
set_option linter.unusedVariables false
set_option linter.unusedSimpArgs false
/-- A row of numbers, as the card opens it: all that it has room for. -/
def IsRow (k : IntKind) (w : World) (a : Option Addr) (len cap : Nat) (zs : List Int) : Prop :=
  (a = none ∧ len = 0 ∧ cap = 0 ∧ zs = []) ∨ ∃ x : Addr, a = some x ∧ len ≤ cap ∧ cap ≤ maxLen ∧ zs.length = cap ∧ (∀ j, j < zs.length → w.cell? (x.add j) = some (.int k (zs.getD j 0))) ∧ ∀ u ∈ zs, (Lit.int k u).wf = true
theorem ints_of {w : World} {a : Option Addr} {len cap : Nat} {z : List Int} (h : IsRow .i64 w a len cap z) : ∃ L : List Int, len = L.length ∧ IntsIn w a cap L := by
  rcases h with ⟨rfl, rfl, rfl, rfl⟩ | ⟨x, rfl, hl, hm, hz, hcell, hwz⟩
  · exact ⟨[], rfl, Nat.le_refl _, Nat.zero_le _, fun z hz => (by cases hz), fun i hi => absurd hi (by simp)⟩
  · have e : (z.take len).length = len := by rw [List.length_take]; omega
    refine ⟨z.take len, e.symm, by omega, hm, fun u hu => wf64 (hwz u (List.mem_of_mem_take hu)), fun i hi => ?_⟩
    rw [e] at hi
    have hc := hcell i (by omega)
    have eg : z.getD i 0 = (z.take len)[i]'(by rw [e]; exact hi) := by
      rw [List.getElem_take, List.getD_eq_getElem?_getD, List.getElem?_eq_getElem (by omega)]; rfl
    rw [eg] at hc
    exact ⟨x, rfl, by have := blk_of_cell hc; rwa [block_add] at this, hc⟩
end Go.Proofs.YtcckemhelockaaaGreatDoor

namespace Go.Proofs.YtcckemhelockaaaGreatDoor
open Go.Lib
set_option linter.unusedVariables false
set_option linter.unusedSimpArgs false
def opK (k : Int) : Int := if k = 1 then 2 else if k = 2 then 3 else if k = 3 then 4 else if k = 4 then 1 else if k = 11 then 10 else if k = 12 then 11 else k
mutual
def clen : Ex → Nat
  | .mk k _ _ l => clens l + (if k = 10 then 2 else 1)
def clens : List Ex → Nat
  | [] => 0
  | x :: t => clen x + clens t
end
mutual
def many (kind : Int) : Ex → Nat
  | .mk k _ _ l => (if k = kind then 1 else 0) + manys kind l
def manys (kind : Int) : List Ex → Nat
  | [] => 0
  | x :: t => many kind x + manys kind t
end
theorem clen_mk (k n : Int) (nm : List UInt8) (l : List Ex) : clen (.mk k n nm l) = clens l + (if k = 10 then 2 else 1) := by rw [clen]
theorem clens_nil : clens [] = 0 := by rw [clens]
theorem clens_cons (x : Ex) (t : List Ex) : clens (x :: t) = clen x + clens t := by rw [clens]
theorem many_mk (kind k n : Int) (nm : List UInt8) (l : List Ex) : many kind (.mk k n nm l) = (if k = kind then 1 else 0) + manys kind l := by rw [many]
theorem manys_nil (kind : Int) : manys kind [] = 0 := by rw [manys]
theorem manys_cons (kind : Int) (x : Ex) (t : List Ex) : manys kind (x :: t) = many kind x + manys kind t := by rw [manys]
/-- One instruction for each expression, one more for each if. -/
theorem clen_size : ∀ x, clen x = size x + many 10 x := ex_ind fun k n nm l ih => by
  rw [clen_mk, size_mk, many_mk]
  have : clens l = sizes l + manys 10 l := by
    clear k n nm
    induction l with
    | nil => rw [clens_nil, sizes_nil, manys_nil]
    | cons x t ih2 =>
      rw [clens_cons, sizes_cons, manys_cons, ih x (List.mem_cons_self ..), ih2 fun y hy => ih y (List.mem_cons_of_mem _ hy)]; omega
  rw [this]
  split <;> omega
theorem many_le (kind : Int) : ∀ x, many kind x ≤ size x := ex_ind fun k n nm l ih => by
  rw [size_mk, many_mk]
  have : manys kind l ≤ sizes l := by
    clear k n nm
    induction l with
    | nil => rw [sizes_nil, manys_nil]; omega
    | cons x t ih2 =>
      have h1 := ih x (List.mem_cons_self ..)
      have h2 := ih2 fun y hy => ih y (List.mem_cons_of_mem _ hy)
      rw [sizes_cons, manys_cons]; omega
  split <;> omega
/-- An expression's code, from a place on. -/
def joinE (at_ : Nat) (A B : List In) : List In := A ++ ((9, ((at_ + A.length + 1 + B.length : Nat) : Int), []) :: B)
def joinI (at_ : Nat) (C A B : List In) : List In := C ++ ((12, ((at_ + C.length + A.length + 2 : Nat) : Int), []) :: (A ++ ((13, ((at_ + C.length + A.length + 2 + B.length : Nat) : Int), []) :: B)))
mutual
def cod : Ex → Nat → List In
  | .mk k n nm l, at_ => if k = 9 then codE l at_ else if k = 10 then codI l at_ else cods l at_ ++ [(opK k, n, nm)]
def cods : List Ex → Nat → List In
  | [], _ => []
  | x :: t, at_ => cod x at_ ++ cods t (at_ + clen x)
def codE : List Ex → Nat → List In
  | [], _ => []
  | a :: t, at_ => joinE at_ (cod a at_) (cods t (at_ + clen a + 1))
def codI : List Ex → Nat → List In
  | [], _ => []
  | c :: t, at_ => joinI at_ (cod c at_) (codH t (at_ + clen c + 1)) (codT t (at_ + clen c + 2))
def codH : List Ex → Nat → List In
  | [], _ => []
  | a :: _, at_ => cod a at_
def codT : List Ex → Nat → List In
  | [], _ => []
  | a :: t, at_ => cods t (at_ + clen a)
end
theorem cod_mk (k n : Int) (nm : List UInt8) (l : List Ex) (at_ : Nat) : cod (.mk k n nm l) at_ = if k = 9 then codE l at_ else if k = 10 then codI l at_ else cods l at_ ++ [(opK k, n, nm)] := by rw [cod]
theorem cods_nil (at_ : Nat) : cods [] at_ = [] := by rw [cods]
theorem cods_cons (x : Ex) (t : List Ex) (at_ : Nat) : cods (x :: t) at_ = cod x at_ ++ cods t (at_ + clen x) := by rw [cods]
theorem cod_else (n : Int) (nm : List UInt8) (a b : Ex) (at_ : Nat) : cod (.mk 9 n nm [a, b]) at_ = joinE at_ (cod a at_) (cod b (at_ + clen a + 1)) := by
  rw [cod_mk, if_pos rfl, codE, cods_cons, cods_nil, List.append_nil]
theorem cod_if (n : Int) (nm : List UInt8) (c a b : Ex) (at_ : Nat) : cod (.mk 10 n nm [c, a, b]) at_ = joinI at_ (cod c at_) (cod a (at_ + clen c + 1)) (cod b (at_ + clen c + 2 + clen a)) := by
  rw [cod_mk, if_neg (by decide), if_pos rfl, codI, codH, codT, cods_cons, cods_nil, List.append_nil]
theorem cod_op {k n : Int} {nm : List UInt8} {l : List Ex} (h9 : k ≠ 9) (h10 : k ≠ 10) (at_ : Nat) : cod (.mk k n nm l) at_ = cods l at_ ++ [(opK k, n, nm)] := by
  rw [cod_mk, if_neg h9, if_neg h10]
theorem joinE_len (at_ : Nat) (A B : List In) : (joinE at_ A B).length = A.length + 1 + B.length := by unfold joinE; simp; omega
theorem joinI_len (at_ : Nat) (C A B : List In) : (joinI at_ C A B).length = C.length + A.length + 2 + B.length := by unfold joinI; simp; omega
/-- What is to be shown of an expression that may be, by its kind. -/
theorem fine_ind {P : Ex → Prop} (hop : ∀ d k n nm l, fine (d + 1) (.mk k n nm l) = true → k ≠ 9 → k ≠ 10 → (∀ x ∈ l, P x) → P (.mk k n nm l))
    (helse : ∀ d n nm a b, fine (d + 1) (.mk 9 n nm [a, b]) = true → P a → P b → P (.mk 9 n nm [a, b]))
    (hif : ∀ d n nm c a b, fine (d + 1) (.mk 10 n nm [c, a, b]) = true → P c → P a → P b → P (.mk 10 n nm [c, a, b])) : ∀ d x, fine d x = true → P x := by
  intro d
  induction d with
  | zero => intro x h; cases h
  | succ d ih =>
    intro x h
    cases x with
    | mk k n nm l =>
      have hp := (fine_parts h).1
      have hm : ∀ x ∈ l, P x := fun x hx => ih x (fine_mem h hx)
      by_cases h9 : k = 9
      · subst h9
        match l, hp with
        | [a, b], _ => exact helse d n nm a b h (hm a (by simp)) (hm b (by simp))
        | [], hp => simp [argsN] at hp
        | [_], hp => simp [argsN] at hp
        | _ :: _ :: _ :: _, hp => simp [argsN] at hp; omega
      · by_cases h10 : k = 10
        · subst h10
          match l, hp with
          | [c, a, b], _ => exact hif d n nm c a b h (hm c (by simp)) (hm a (by simp)) (hm b (by simp))
          | [], hp => simp [argsN] at hp
          | [_], hp => simp [argsN] at hp
          | [_, _], hp => simp [argsN] at hp
          | _ :: _ :: _ :: _ :: _, hp => simp [argsN] at hp; omega
        · exact hop d k n nm l h h9 h10 hm
theorem cod_len : ∀ d x, fine d x = true → ∀ at_, (cod x at_).length = clen x := fine_ind
  (fun d k n nm l h h9 h10 ih at_ => by
    rw [cod_op h9 h10, clen_mk, if_neg h10, List.length_append]
    have : ∀ at_, (cods l at_).length = clens l := by
      clear h
      induction l with
      | nil => intro _; rw [cods_nil, clens_nil]; rfl
      | cons x t ih2 => intro p; rw [cods_cons, clens_cons, List.length_append, ih x (List.mem_cons_self ..), ih2 fun y hy => ih y (List.mem_cons_of_mem _ hy)]
    rw [this]; rfl)
  (fun d n nm a b h ha hb at_ => by
    rw [cod_else, joinE_len, ha, hb, clen_mk, clens_cons, clens_cons, clens_nil]; simp; omega)
  (fun d n nm c a b h hc ha hb at_ => by
    rw [cod_if, joinI_len, hc, ha, hb, clen_mk, clens_cons, clens_cons, clens_cons, clens_nil]; simp; omega)
end Go.Proofs.YtcckemhelockaaaGreatDoor

namespace Go.Proofs.YtcckemhelockaaaGreatDoor
open Go.Lib
set_option linter.unusedVariables false
set_option linter.unusedSimpArgs false
theorem inOk_op {d : Nat} {k n : Int} {nm : List UInt8} {l : List Ex} (h : fine (d + 1) (.mk k n nm l) = true) (h9 : k ≠ 9) (h10 : k ≠ 10) (len i : Nat) : inOk len i (opK k, n, nm) = true := by
  obtain ⟨p1, p2, p3, p4, _⟩ := fine_parts h
  have hk : k = 1 ∨ k = 2 ∨ k = 3 ∨ k = 4 ∨ k = 5 ∨ k = 6 ∨ k = 7 ∨ k = 8 ∨ k = 11 ∨ k = 12 := by
    unfold argsN at p1
    split at p1
    · omega
    · split at p1
      · omega
      · split at p1
        · omega
        · first | omega | (split at p1 <;> omega)
  have hnm : k ≠ 3 → nm = [] := fun e => by
    cases nm with
    | nil => rfl
    | cons c t => exact absurd (p3.1 (by simp)) e
  rcases hk with rfl | rfl | rfl | rfl | rfl | rfl | rfl | rfl | rfl | rfl
  all_goals
    unfold inOk leastO mostO
    simp only [mostN] at p2
    first
      | (rw [hnm (by decide)]; simp [opK, isTo] at p2 ⊢; omega)
      | (simp [opK, isTo, p4] at p2 ⊢; omega)
/-- What is compiled may stand. -/
theorem cod_good : ∀ d x, fine d x = true → ∀ len at_, at_ + clen x ≤ len → GoodC len at_ (cod x at_) := fun d x hx => by
  have := fine_ind (P := fun x => (∃ d, fine d x = true) ∧ ∀ len at_, at_ + clen x ≤ len → GoodC len at_ (cod x at_))
    (fun d k n nm l h h9 h10 ih => ⟨⟨_, h⟩, fun len at_ hl => by
      rw [cod_op h9 h10]
      rw [clen_mk, if_neg h10] at hl
      have hs : ∀ at_, at_ + clens l ≤ len → GoodC len at_ (cods l at_) ∧ (cods l at_).length = clens l := by
        clear h hl
        induction l with
        | nil => intro p _; rw [cods_nil, clens_nil]; exact ⟨GoodC.nil _ _, rfl⟩
        | cons x t ih2 =>
          intro p hp
          rw [clens_cons] at hp
          obtain ⟨⟨d', hd'⟩, g⟩ := ih x (List.mem_cons_self ..)
          obtain ⟨g1, g2⟩ := ih2 (fun y hy => ih y (List.mem_cons_of_mem _ hy)) (p + clen x) (by omega)
          rw [cods_cons, clens_cons, List.length_append, cod_len d' x hd', g2]
          exact ⟨(g len p (by omega)).append (by rw [cod_len d' x hd']; exact g1), rfl⟩
      obtain ⟨g1, g2⟩ := hs at_ (by omega)
      exact g1.append ((GoodC.nil _ _).cons (inOk_op h h9 h10 _ _))⟩)
    (fun d n nm a b h ha hb => ⟨⟨_, h⟩, fun len at_ hl => by
      obtain ⟨⟨da, fa⟩, ga⟩ := ha
      obtain ⟨⟨db, fb⟩, gb⟩ := hb
      rw [clen_mk, clens_cons, clens_cons, clens_nil, if_neg (by decide)] at hl
      rw [cod_else]
      unfold joinE
      refine (ga len at_ (by omega)).append (GoodC.cons (inOk_to (.inl rfl) ?_ ?_) ?_)
      · rw [cod_len db b fb, cod_len da a fa]; omega
      · rw [cod_len db b fb, cod_len da a fa]; omega
      · rw [cod_len da a fa]; exact gb len _ (by omega)⟩)
    (fun d n nm c a b h hc ha hb => ⟨⟨_, h⟩, fun len at_ hl => by
      obtain ⟨⟨dc, fc⟩, gc⟩ := hc
      obtain ⟨⟨da, fa⟩, ga⟩ := ha
      obtain ⟨⟨db, fb⟩, gb⟩ := hb
      rw [clen_mk, clens_cons, clens_cons, clens_cons, clens_nil, if_pos rfl] at hl
      rw [cod_if]
      unfold joinI
      refine (gc len at_ (by omega)).append (GoodC.cons (inOk_to (.inr (.inl rfl)) ?_ ?_) ?_)
      · rw [cod_len dc c fc, cod_len da a fa]; omega
      · rw [cod_len dc c fc, cod_len da a fa]; omega
      · rw [cod_len dc c fc]
        refine (ga len _ (by omega)).append (GoodC.cons (inOk_to (.inr (.inr rfl)) ?_ ?_) ?_)
        · rw [cod_len db b fb, cod_len da a fa]; omega
        · rw [cod_len db b fb, cod_len da a fa]; omega
        · rw [cod_len da a fa]
          have := gb len (at_ + clen c + 2 + clen a) (by omega)
          rwa [show at_ + clen c + 1 + clen a + 1 = at_ + clen c + 2 + clen a by omega]⟩)
    d x hx
  exact this.2
theorem right_code {x : Ex} (h : rightX x = true) : codeOk (cod x 0) = true ∧ (cod x 0).length = clen x ∧ clen x ≤ 4000 := by
  unfold rightX at h
  simp only [Bool.and_eq_true, Bool.not_eq_true', decide_eq_true_eq] at h
  obtain ⟨⟨⟨h1, h2⟩, h3⟩, h4⟩ := h
  have hl := cod_len 32 x h1 0
  have hs := clen_size x
  have hm := many_le 10 x
  refine ⟨codeOk_iff.2 ⟨by omega, fun i hi => ?_⟩, hl, by omega⟩
  have := cod_good 32 x h1 (cod x 0).length 0 (by omega) i hi
  rwa [Nat.zero_add] at this
end Go.Proofs.YtcckemhelockaaaGreatDoor

namespace Go.Proofs.YtcckemhelockaaaGreatDoor
open Go.Lib
set_option linter.unusedVariables false
set_option linter.unusedSimpArgs false
theorem cond_more (l : List Of) (d : Nat) (n : Int) (nm : List UInt8) (xs : List Ex) : condN l d (.mk 11 n nm xs) = .ok (decide (n < (l.length : Int))) := rfl
end Go.Proofs.YtcckemhelockaaaGreatDoor

namespace Go.Proofs.YtcckemhelockaaaGreatDoor
open Go.Lib
set_option linter.unusedVariables false
set_option linter.unusedSimpArgs false
theorem Lies.left {c : List In} {p : Nat} {a b : List In} (h : Lies c p (a ++ b)) : Lies c p a := fun i hi => by
  rw [h i (by rw [List.length_append]; omega), List.getElem_append_left hi]
theorem Lies.right {c : List In} {p : Nat} {a b : List In} (h : Lies c p (a ++ b)) {n : Nat} (hn : a.length = n) : Lies c (p + n) b := fun i hi => by
  subst hn
  rw [Nat.add_assoc, h (a.length + i) (by rw [List.length_append]; omega), List.getElem_append_right (by omega)]
  simp
theorem Lies.head {c : List In} {p : Nat} {x : In} {b : List In} (h : Lies c p (x :: b)) : c[p]? = some x := by
  have := h 0 (by simp)
  simpa using this
theorem lies_all (c : List In) : Lies c 0 c := fun i hi => by rw [Nat.zero_add, List.getElem?_eq_getElem hi]
def SegOk (l : List Of) (c : List In) (p q : Nat) (S : List Ce) (v : Ce) : Prop := ∀ n, ∃ n', goM l c p (S, 0) n = goM l c q (S ++ [v], 0) n'
def SegBad (l : List Of) (c : List In) (p : Nat) (S : List Ce) (e : Int) : Prop := e ≠ 0 ∧ ∀ n, ∃ S' n', goM l c p (S, 0) n = ((S', e), n')
/-- A piece of code, done from a place to another one, tells this. -/
def Seg (l : List Of) (c : List In) (p q : Nat) (S : List Ce) (r : Rs) : Prop := match r with
  | .ok v => SegOk l c p q S v
  | .error e => SegBad l c p S e
def bindR (r : Rs) (F : Ce → Rs) : Rs := match r with | .error e => .error e | .ok v => F v
theorem bind_ok (v : Ce) (F : Ce → Rs) : bindR (.ok v) F = F v := rfl
section
variable {l : List Of} {c : List In} (hf : Fwd c)
include hf
theorem seg_put {p : Nat} {x : In} {S : List Ce} {v : Ce} (hx : c[p]? = some x) (hS : S.length < 100) (h : stepM l x p (S, 0) = (p + 1, putM (S, 0) v)) : Seg l c p (p + 1) S (.ok v) := fun n =>
  ⟨n + 1, by rw [go_step hf hx, h, put_room hS]⟩
theorem seg_one {p q : Nat} {x : In} {S : List Ce} {r : Rs} {F : Ce → Rs} (hS : S.length < 100) (h1 : Seg l c p q S r) (hx : c[q]? = some x)
    (h : ∀ v, (∀ w, F v = .ok w → stepM l x q (S ++ [v], 0) = (q + 1, putM (S, 0) w)) ∧ (∀ e, F v = .error e → e ≠ 0 ∧ ∃ S', stepM l x q (S ++ [v], 0) = (q + 1, (S', e)))) :
    Seg l c p (q + 1) S (bindR r F) := by
  cases r with
  | error e => exact h1
  | ok v =>
    have h1 : SegOk l c p q S v := h1
    obtain ⟨ha, hb⟩ := h v
    rw [bind_ok]
    cases hF : F v with
    | ok w =>
      intro n
      obtain ⟨n1, e1⟩ := h1 n
      exact ⟨n1 + 1, by rw [e1, go_step hf hx, ha w hF, put_room hS]⟩
    | error e =>
      obtain ⟨he, S', hs⟩ := hb e hF
      refine ⟨he, fun n => ?_⟩
      obtain ⟨n1, e1⟩ := h1 n
      exact ⟨S', n1 + 1, by rw [e1, go_step hf hx, hs, go_err _ _ _ _ _ he]⟩
theorem seg_two {p q t : Nat} {x : In} {S : List Ce} {r r' : Rs} {F : Ce → Ce → Ce} (hS : S.length < 99) (h1 : Seg l c p q S r) (h2 : ∀ v, r = .ok v → Seg l c q t (S ++ [v]) r') (hx : c[t]? = some x)
    (h : ∀ a b, stepM l x t (S ++ [a] ++ [b], 0) = (t + 1, putM (S, 0) (F a b))) :
    Seg l c p (t + 1) S (bindR r fun a => bindR r' fun b => .ok (F a b)) := by
  cases r with
  | error e => exact h1
  | ok a =>
    have h1 : SegOk l c p q S a := h1
    have h2 := h2 a rfl
    cases r' with
    | error e =>
      obtain ⟨he, h2⟩ := h2
      refine ⟨he, fun n => ?_⟩
      obtain ⟨n1, e1⟩ := h1 n
      obtain ⟨S', n2, e2⟩ := h2 n1
      exact ⟨S', n2, by rw [e1, e2]⟩
    | ok b =>
      have h2 : SegOk l c q t (S ++ [a]) b := h2
      intro n
      obtain ⟨n1, e1⟩ := h1 n
      obtain ⟨n2, e2⟩ := h2 n1
      exact ⟨n2 + 1, by rw [e1, e2, go_step hf hx, h, put_room (by omega)]⟩
end
theorem step_less {l : List Of} {n : Int} {nm : List UInt8} {t : Nat} {S : List Ce} (v : Ce) : stepM l (5, n, nm) t (S ++ [v], 0) = (t + 1, minusM (S, 0) v (fun u => subR u n)) := by
  have e : stepM l (5, n, nm) t (S ++ [v], 0) = (t + 1, minusM (takeM (S ++ [v], 0)).2 (takeM (S ++ [v], 0)).1 (fun u => subR u n)) := rfl
  rw [e, take_last]
theorem step_cut {l : List Of} {n : Int} {nm : List UInt8} {t : Nat} {S : List Ce} (v : Ce) : stepM l (6, n, nm) t (S ++ [v], 0) = (t + 1, minusM (S, 0) v (fun u => cutR u n)) := by
  have e : stepM l (6, n, nm) t (S ++ [v], 0) = (t + 1, minusM (takeM (S ++ [v], 0)).2 (takeM (S ++ [v], 0)).1 (fun u => cutR u n)) := rfl
  rw [e, take_last]
/-- What less, or cut, makes of what was told. -/
def mapR (f : Int → Rs) (v : Ce) : Rs := match v with | none => .ok none | some u => f u
theorem minus_ways {f : Int → Rs} (hf : ∀ u e, f u = .error e → e = 10) (S : List Ce) (v : Ce) :
    (∀ w, mapR f v = .ok w → minusM (S, 0) v f = putM (S, 0) w) ∧ (∀ e, mapR f v = .error e → e ≠ 0 ∧ ∃ S', minusM (S, 0) v f = (S', e)) := by
  cases v with
  | none => exact ⟨fun w h => (by injection h with h; subst h; rfl), fun e h => by cases h⟩
  | some u => exact ⟨fun w h => minus_ok h, fun e h => ⟨by have := hf u e h; omega, S, minus_bad h⟩⟩
theorem step_else {l : List Of} {n : Int} {nm : List UInt8} {t : Nat} {S : List Ce} (hS : S.length < 100) (v : Ce) : stepM l (9, n, nm) t (S ++ [v], 0) = (match v with | some u => (n.toNat, (S ++ [some u], 0)) | none => (t + 1, (S, 0))) := by
  have e : stepM l (9, n, nm) t (S ++ [v], 0) = (match (takeM (S ++ [v], 0)).1 with | some u => (n.toNat, putM (takeM (S ++ [v], 0)).2 (some u)) | none => (t + 1, (takeM (S ++ [v], 0)).2)) := rfl
  rw [e, take_last]
  cases v with
  | none => rfl
  | some u => simp only; rw [put_room hS]
theorem step_unless {l : List Of} {n : Int} {nm : List UInt8} {t : Nat} {S : List Ce} (b : Bool) : stepM l (12, n, nm) t (S ++ [some (if b then 1 else 0)], 0) = (if b then t + 1 else n.toNat, (S, 0)) := by
  have e : stepM l (12, n, nm) t (S ++ [some (if b then 1 else 0)], 0) = (match (takeM (S ++ [some (if b then 1 else 0)], 0)).1 with | some v => if v = 0 then (n.toNat, (takeM (S ++ [some (if b then 1 else 0)], 0)).2) else (t + 1, (takeM (S ++ [some (if b then 1 else 0)], 0)).2) | none => (n.toNat, (takeM (S ++ [some (if b then 1 else 0)], 0)).2)) := rfl
  rw [e, take_last]
  cases b <;> rfl
theorem step_jump {l : List Of} {n : Int} {nm : List UInt8} {t : Nat} (s : Ms) : stepM l (13, n, nm) t s = (n.toNat, s) := rfl
def orR (r r' : Rs) : Rs := bindR r fun v => match v with | some u => .ok (some u) | none => r'
/-- What a condition tells, as an amount. -/
def boolR (r : Except Int Bool) : Rs := match r with | .error e => .error e | .ok b => .ok (some (if b then 1 else 0))
/-- What an expression, or a condition, tells. -/
def anyR (l : List Of) (d : Nat) (x : Ex) : Rs := if isCond x.k then boolR (condN l d x) else toldN l d x
theorem anyR_cond {l : List Of} {d : Nat} {x : Ex} (h : isCond x.k = true) : anyR l d x = boolR (condN l d x) := by unfold anyR; rw [if_pos h]
theorem anyR_told {l : List Of} {d : Nat} {x : Ex} (h : isCond x.k = false) : anyR l d x = toldN l d x := by unfold anyR; rw [h]; rfl
def ifR (r : Except Int Bool) (a b : Rs) : Rs := match r with | .error e => .error e | .ok true => a | .ok false => b
theorem seg_else {l : List Of} {c : List In} (hf : Fwd c) {p q t : Nat} {n : Int} {nm : List UInt8} {S : List Ce} {r r' : Rs} (hS : S.length < 100) (h1 : Seg l c p q S r) (hx : c[q]? = some (9, n, nm)) (hn : n.toNat = t) (h2 : Seg l c (q + 1) t S r') : Seg l c p t S (orR r r') := by
  subst hn
  cases r with
  | error e => exact h1
  | ok v =>
    have h1 : SegOk l c p q S v := h1
    cases v with
    | some u =>
      intro n0
      obtain ⟨n1, e1⟩ := h1 n0
      exact ⟨n1 + 1, by rw [e1, go_step hf hx, step_else hS]⟩
    | none =>
      show Seg l c p n.toNat S r'
      cases r' with
      | error e =>
        obtain ⟨he, h2⟩ := h2
        refine ⟨he, fun n0 => ?_⟩
        obtain ⟨n1, e1⟩ := h1 n0
        obtain ⟨S', n2, e2⟩ := h2 (n1 + 1)
        exact ⟨S', n2, by rw [e1, go_step hf hx, step_else hS]; exact e2⟩
      | ok w =>
        intro n0
        obtain ⟨n1, e1⟩ := h1 n0
        obtain ⟨n2, e2⟩ := (h2 : SegOk l c (q + 1) n.toNat S w) (n1 + 1)
        exact ⟨n2, by rw [e1, go_step hf hx, step_else hS]; exact e2⟩
theorem seg_if {l : List Of} {c : List In} (hf : Fwd c) {p q u t z : Nat} {n n' : Int} {nm nm' : List UInt8} {S : List Ce} {rc : Except Int Bool} {ra rb : Rs} (h1 : Seg l c p q S (boolR rc)) (hx : c[q]? = some (12, n, nm)) (hn : n.toNat = u)
    (ha : Seg l c (q + 1) t S ra) (hj : c[t]? = some (13, n', nm')) (hn' : n'.toNat = z) (hb : Seg l c u z S rb) : Seg l c p z S (ifR rc ra rb) := by
  subst hn hn'
  cases rc with
  | error e => exact h1
  | ok b =>
    have h1 : SegOk l c p q S (some (if b then 1 else 0)) := h1
    cases b with
    | false =>
      show Seg l c p n'.toNat S rb
      cases rb with
      | error e =>
        obtain ⟨he, h2⟩ := hb
        refine ⟨he, fun n0 => ?_⟩
        obtain ⟨n1, e1⟩ := h1 n0
        obtain ⟨S', n2, e2⟩ := h2 (n1 + 1)
        exact ⟨S', n2, by rw [e1, go_step hf hx, step_unless]; exact e2⟩
      | ok w =>
        intro n0
        obtain ⟨n1, e1⟩ := h1 n0
        obtain ⟨n2, e2⟩ := (hb : SegOk l c n.toNat n'.toNat S w) (n1 + 1)
        exact ⟨n2, by rw [e1, go_step hf hx, step_unless]; exact e2⟩
    | true =>
      show Seg l c p n'.toNat S ra
      cases ra with
      | error e =>
        obtain ⟨he, h2⟩ := ha
        refine ⟨he, fun n0 => ?_⟩
        obtain ⟨n1, e1⟩ := h1 n0
        obtain ⟨S', n2, e2⟩ := h2 (n1 + 1)
        exact ⟨S', n2, by rw [e1, go_step hf hx, step_unless]; exact e2⟩
      | ok w =>
        intro n0
        obtain ⟨n1, e1⟩ := h1 n0
        obtain ⟨n2, e2⟩ := (ha : SegOk l c (q + 1) t S w) (n1 + 1)
        exact ⟨n2 + 1, by rw [e1, go_step hf hx, step_unless]; simp only [if_true]; rw [e2, go_step hf hj, step_jump]⟩
theorem list1 {xs : List Ex} (h : (1 : Int) = (xs.length : Int)) : ∃ y, xs = [y] := by
  match xs, h with
  | [y], _ => exact ⟨y, rfl⟩
  | [], h => simp at h
  | _ :: _ :: _, h => simp at h; omega
theorem list2 {xs : List Ex} (h : (2 : Int) = (xs.length : Int)) : ∃ x y, xs = [x, y] := by
  match xs, h with
  | [x, y], _ => exact ⟨x, y, rfl⟩
  | [], h => simp at h
  | [_], h => simp at h
  | _ :: _ :: _ :: _, h => simp at h; omega
theorem list3 {xs : List Ex} (h : (3 : Int) = (xs.length : Int)) : ∃ z x y, xs = [z, x, y] := by
  match xs, h with
  | [z, x, y], _ => exact ⟨z, x, y, rfl⟩
  | [], h => simp at h
  | [_], h => simp at h
  | [_, _], h => simp at h
  | _ :: _ :: _ :: _ :: _, h => simp at h; omega
theorem fine_zero (x : Ex) : fine 0 x = false := by cases x; rfl
theorem seg_code {l : List Of} {c : List In} (hf : Fwd c) : ∀ (d : Nat) (x : Ex), fine d x = true → ∀ (p : Nat) (S : List Ce), Lies c p (cod x p) → S.length + d ≤ 99 → Seg l c p (p + clen x) S (anyR l d x) := by
  intro d
  induction d with
  | zero => intro x h; rw [fine_zero] at h; cases h
  | succ d ih =>
    intro x h p S hl hS
    cases x with
    | mk k n nm xs =>
      obtain ⟨h1, h2, h3, h4, h5⟩ := fine_parts h
      have hk := kind_list (by omega : 0 ≤ argsN k)
      have kid : ∀ (y : Ex), y ∈ xs → ∀ (q : Nat) (T : List Ce), Lies c q (cod y q) → T.length + d ≤ 99 → Seg l c q (q + clen y) T (anyR l d y) := fun y hy q T hq hT => ih y (fine_mem h hy) q T hq hT
      have len : ∀ (y : Ex), y ∈ xs → ∀ q, (cod y q).length = clen y := fun y hy q => cod_len d y (fine_mem h hy) q
      have told : ∀ (i : Nat) (hi : i < xs.length), (k = 10 → i ≠ 0) → anyR l d xs[i] = toldN l d xs[i] := fun i hi hn => anyR_told (by
        rw [(h5 i hi).1]
        by_cases e : k = 10
        · simp [hn e]
        · simp [e])
      have none0 : (0 : Int) = (xs.length : Int) → xs = [] := fun e => List.length_eq_zero_iff.1 (by omega)
      rcases hk with rfl | rfl | rfl | rfl | rfl | rfl | rfl | rfl | rfl | rfl | rfl | rfl
      · obtain rfl := none0 h1
        rw [anyR_told rfl, told_one _ _ _ rfl]
        rw [cod_op (by decide) (by decide), cods_nil, List.nil_append] at hl
        exact seg_put hf hl.head (by omega) rfl
      · obtain rfl := none0 h1
        rw [anyR_told rfl, told_two _ _ _ rfl]
        rw [cod_op (by decide) (by decide), cods_nil, List.nil_append] at hl
        exact seg_put hf hl.head (by omega) rfl
      · obtain rfl := none0 h1
        rw [anyR_told rfl, told_from _ _ _ rfl]
        rw [cod_op (by decide) (by decide), cods_nil, List.nil_append] at hl
        exact seg_put hf hl.head (by omega) rfl
      · obtain rfl := none0 h1
        rw [anyR_told rfl, told_fix _ _ _ rfl]
        rw [cod_op (by decide) (by decide), cods_nil, List.nil_append] at hl
        exact seg_put hf hl.head (by omega) rfl
      · obtain ⟨y, rfl⟩ := list1 h1
        have ty := told 0 (by simp) (by omega)
        have e : toldN l (d + 1) (.mk 5 n nm [y]) = bindR (toldN l d y) (mapR fun u => subR u n) := by
          rw [told_less5]
          cases toldN l d y with
          | error e => rfl
          | ok v => cases v <;> rfl
        rw [anyR_told rfl, e, clen_mk, clens_cons, clens_nil, if_neg (by decide)]
        rw [cod_op (by decide) (by decide), cods_cons, cods_nil, List.append_nil] at hl
        have h6 := kid y (by simp) p S hl.left (by omega)
        rw [show anyR l d y = toldN l d y from ty] at h6
        have h7 := seg_one hf (by omega) h6 (hl.right (len y (by simp) p)).head (F := mapR fun u => subR u n) (fun v => by
          obtain ⟨ha, hb⟩ := minus_ways (f := fun u => subR u n) (fun u e he => sub_err _ _ _ he) S v
          refine ⟨fun w hw => ?_, fun e he => ?_⟩
          · rw [show opK 5 = 5 from rfl, step_less, ha w hw]
          · obtain ⟨h0, S', hs⟩ := hb e he
            exact ⟨h0, S', by rw [show opK 5 = 5 from rfl, step_less, hs]⟩)
        rw [show p + clen y + 1 = p + (clen y + 0 + 1) by omega] at h7
        exact h7
      · obtain ⟨y, rfl⟩ := list1 h1
        have ty := told 0 (by simp) (by omega)
        have e : toldN l (d + 1) (.mk 6 n nm [y]) = bindR (toldN l d y) (mapR fun u => cutR u n) := by
          rw [told_cut6]
          cases toldN l d y with
          | error e => rfl
          | ok v => cases v <;> rfl
        rw [anyR_told rfl, e, clen_mk, clens_cons, clens_nil, if_neg (by decide)]
        rw [cod_op (by decide) (by decide), cods_cons, cods_nil, List.append_nil] at hl
        have h6 := kid y (by simp) p S hl.left (by omega)
        rw [show anyR l d y = toldN l d y from ty] at h6
        have h7 := seg_one hf (by omega) h6 (hl.right (len y (by simp) p)).head (F := mapR fun u => cutR u n) (fun v => by
          obtain ⟨ha, hb⟩ := minus_ways (f := fun u => cutR u n) (fun u e he => cut_err _ _ _ he) S v
          refine ⟨fun w hw => ?_, fun e he => ?_⟩
          · rw [show opK 6 = 6 from rfl, step_cut, ha w hw]
          · obtain ⟨h0, S', hs⟩ := hb e he
            exact ⟨h0, S', by rw [show opK 6 = 6 from rfl, step_cut, hs]⟩)
        rw [show p + clen y + 1 = p + (clen y + 0 + 1) by omega] at h7
        exact h7
      · obtain ⟨x, y, rfl⟩ := list2 h1
        have tx := told 0 (by simp) (by omega)
        have ty := told 1 (by simp) (by omega)
        have e : toldN l (d + 1) (.mk 7 n nm [x, y]) = bindR (toldN l d x) fun a => bindR (toldN l d y) fun b => .ok (twoC 7 a b) := by
          rw [told_both _ _ _ _ _ _ _ (by decide)]
          cases toldN l d x with
          | error e => rfl
          | ok a => cases toldN l d y <;> rfl
        rw [anyR_told rfl, e, clen_mk, clens_cons, clens_cons, clens_nil, if_neg (by decide)]
        rw [cod_op (by decide) (by decide), cods_cons, cods_cons, cods_nil, List.append_nil, List.append_assoc] at hl
        have h6 := kid x (by simp) p S hl.left (by omega)
        rw [show anyR l d x = toldN l d x from tx] at h6
        have hl2 := hl.right (len x (by simp) p)
        have h7 := seg_two hf (F := twoC 7) (r' := toldN l d y) (by omega) h6 (fun v _ => by
          have := kid y (by simp) (p + clen x) (S ++ [v]) hl2.left (by simp; omega)
          rwa [show anyR l d y = toldN l d y from ty] at this) (hl2.right (len y (by simp) _)).head (fun a b => step_two (by decide) a b)
        rw [show p + clen x + clen y + 1 = p + (clen x + (clen y + 0) + 1) by omega] at h7
        exact h7
      · obtain ⟨x, y, rfl⟩ := list2 h1
        have tx := told 0 (by simp) (by omega)
        have ty := told 1 (by simp) (by omega)
        have e : toldN l (d + 1) (.mk 8 n nm [x, y]) = bindR (toldN l d x) fun a => bindR (toldN l d y) fun b => .ok (twoC 8 a b) := by
          rw [told_both _ _ _ _ _ _ _ (by decide)]
          cases toldN l d x with
          | error e => rfl
          | ok a => cases toldN l d y <;> rfl
        rw [anyR_told rfl, e, clen_mk, clens_cons, clens_cons, clens_nil, if_neg (by decide)]
        rw [cod_op (by decide) (by decide), cods_cons, cods_cons, cods_nil, List.append_nil, List.append_assoc] at hl
        have h6 := kid x (by simp) p S hl.left (by omega)
        rw [show anyR l d x = toldN l d x from tx] at h6
        have hl2 := hl.right (len x (by simp) p)
        have h7 := seg_two hf (F := twoC 8) (r' := toldN l d y) (by omega) h6 (fun v _ => by
          have := kid y (by simp) (p + clen x) (S ++ [v]) hl2.left (by simp; omega)
          rwa [show anyR l d y = toldN l d y from ty] at this) (hl2.right (len y (by simp) _)).head (fun a b => step_two (by decide) a b)
        rw [show p + clen x + clen y + 1 = p + (clen x + (clen y + 0) + 1) by omega] at h7
        exact h7
      · obtain ⟨x, y, rfl⟩ := list2 h1
        have tx := told 0 (by simp) (by omega)
        have ty := told 1 (by simp) (by omega)
        have e : toldN l (d + 1) (.mk 9 n nm [x, y]) = orR (toldN l d x) (toldN l d y) := by
          rw [told_else]
          cases toldN l d x with
          | error e => rfl
          | ok a => cases a <;> rfl
        rw [anyR_told rfl, e, clen_mk, clens_cons, clens_cons, clens_nil, if_neg (by decide)]
        rw [cod_else, joinE, len x (by simp), len y (by simp)] at hl
        have h6 := kid x (by simp) p S hl.left (by omega)
        rw [show anyR l d x = toldN l d x from tx] at h6
        have hl2 := hl.right (len x (by simp) p)
        have h7 := kid y (by simp) (p + clen x + 1) S hl2.tail (by omega)
        rw [show anyR l d y = toldN l d y from ty] at h7
        rw [show p + (clen x + (clen y + 0) + 1) = p + clen x + 1 + clen y by omega]
        exact seg_else hf (by omega) h6 hl2.head (by omega) h7
      · obtain ⟨z, x, y, rfl⟩ := list3 h1
        have cz : isCond z.k = true := (h5 0 (by simp)).1
        have tx := told 1 (by simp) (by omega)
        have ty := told 2 (by simp) (by omega)
        have e : toldN l (d + 1) (.mk 10 n nm [z, x, y]) = ifR (condN l d z) (toldN l d x) (toldN l d y) := by
          rw [told_if]
          cases condN l d z with
          | error e => rfl
          | ok a => cases a <;> rfl
        rw [anyR_told rfl, e, clen_mk, clens_cons, clens_cons, clens_cons, clens_nil, if_pos rfl]
        rw [cod_if, joinI, len z (by simp), len x (by simp), len y (by simp)] at hl
        have h6 := kid z (by simp) p S hl.left (by omega)
        rw [anyR_cond cz] at h6
        have hl2 := hl.right (len z (by simp) p)
        have h7 := kid x (by simp) (p + clen z + 1) S hl2.tail.left (by omega)
        rw [show anyR l d x = toldN l d x from tx] at h7
        have hl3 := hl2.tail.right (len x (by simp) _)
        have h8 := kid y (by simp) (p + clen z + 1 + clen x + 1) S (by
          have := hl3.tail
          rwa [show p + clen z + 2 + clen x = p + clen z + 1 + clen x + 1 by omega] at this) (by omega)
        rw [show anyR l d y = toldN l d y from ty] at h8
        rw [show p + (clen z + (clen x + (clen y + 0)) + 2) = p + clen z + 1 + clen x + 1 + clen y by omega]
        exact seg_if hf h6 hl2.head (by omega) h7 hl3.head (by omega) h8
      · obtain rfl := none0 h1
        rw [anyR_cond rfl, cond_more]
        rw [cod_op (by decide) (by decide), cods_nil, List.nil_append] at hl
        refine seg_put hf hl.head (by omega) ?_
        show (p + 1, putM (S, 0) (some (if n < (l.length : Int) then 1 else 0))) = _
        by_cases hn : n < (l.length : Int) <;> simp [hn]
      · obtain ⟨x, y, rfl⟩ := list2 h1
        have tx := told 0 (by simp) (by omega)
        have ty := told 1 (by simp) (by omega)
        have cx : isCond x.k = false := (h5 0 (by simp)).1
        have cy : isCond y.k = false := (h5 1 (by simp)).1
        have mx := (told_less l d (d + 1) (by omega) x (fine_mem h (y := x) (by simp))).1 cx
        have my := (told_less l d (d + 1) (by omega) y (fine_mem h (y := y) (by simp))).1 cy
        have e : boolR (condN l (d + 1) (.mk 12 n nm [x, y])) = bindR (toldN l d x) fun a => bindR (toldN l d y) fun b => .ok (twoC 11 a b) := by
          rw [cond_above, mx, my]
          cases toldN l d x with
          | error e => rfl
          | ok a =>
            cases toldN l d y with
            | error e => rfl
            | ok b =>
              cases a with
              | none => rfl
              | some a =>
                cases b with
                | none => rfl
                | some b =>
                  show Except.ok (some (if decide (b < a) = true then 1 else 0)) = Except.ok (some (if b < a then 1 else 0))
                  by_cases hb : b < a <;> simp [hb]
        rw [anyR_cond rfl, e, clen_mk, clens_cons, clens_cons, clens_nil, if_neg (by decide)]
        rw [cod_op (by decide) (by decide), cods_cons, cods_cons, cods_nil, List.append_nil, List.append_assoc] at hl
        have h6 := kid x (by simp) p S hl.left (by omega)
        rw [show anyR l d x = toldN l d x from tx] at h6
        have hl2 := hl.right (len x (by simp) p)
        have h7 := seg_two hf (F := twoC 11) (r' := toldN l d y) (by omega) h6 (fun v _ => by
          have := kid y (by simp) (p + clen x) (S ++ [v]) hl2.left (by simp; omega)
          rwa [show anyR l d y = toldN l d y from ty] at this) (hl2.right (len y (by simp) _)).head (fun a b => step_two (by decide) a b)
        rw [show p + clen x + clen y + 1 = p + (clen x + (clen y + 0) + 1) by omega] at h7
        exact h7
end Go.Proofs.YtcckemhelockaaaGreatDoor

namespace Go.Proofs.YtcckemhelockaaaGreatDoor
open Go.Lib
set_option linter.unusedVariables false
set_option linter.unusedSimpArgs false
theorem seg_run {l : List Of} {c : List In} {r : Rs} (h : Seg l c 0 c.length [] r) : endR (goM l c 0 ([], 0) 0).1 = r := by
  cases r with
  | error e =>
    obtain ⟨he, h⟩ := h
    obtain ⟨S', n', e1⟩ := h 0
    rw [e1]; unfold endR; rw [if_neg he]
  | ok v =>
    obtain ⟨n', e1⟩ := (h : SegOk l c 0 c.length [] v) 0
    rw [e1, go_end _ _ _ _ _ (Nat.le_refl _)]; rfl
theorem rt_fine {x : Ex} (h : rightX x = true) : fine 32 x = true ∧ isCond x.k = false := by
  unfold rightX at h
  simp only [Bool.and_eq_true, Bool.not_eq_true'] at h
  exact ⟨h.1.1.1, h.1.1.2⟩
theorem eval_not {l : List Of} (h : offsOk l = false) (x : Ex) : evalS l x = .error 1 := by unfold evalS; rw [h]; rfl
/-- What is compiled tells just what the strategy tells. -/
theorem run_same (l : List Of) {x : Ex} (h : rightX x = true) : runS l (cod x 0) = evalS l x := by
  obtain ⟨h1, h2⟩ := rt_fine h
  obtain ⟨h3, h4, _⟩ := right_code h
  cases ho : offsOk l with
  | false => rw [eval_not ho, (run_not ho _).1]
  | true =>
    rw [(run_yes ho h3).1, eval_yes ho h, ← anyR_told (l := l) (d := 32) h2]
    apply seg_run
    have := seg_code (l := l) (fwd_of h3) 32 x h1 0 [] (lies_all _) (by simp)
    rwa [Nat.zero_add, ← h4] at this
end Go.Proofs.YtcckemhelockaaaGreatDoor

namespace Go.Proofs.YtcckemhelockaaaGreatDoor
open Go.RowKit Go.Lib
set_option linter.unusedVariables false
set_option linter.unusedSimpArgs false
theorem kidq_of {S : Nat → Prop} {w W : World} {A' : Option Addr} {es : List El} {l : List Ex} (hrow : RowE S w A' es) (hsub : ∀ i (h : i < es.length) (h' : i < l.length), ExAt S w es[i] l[i]) (hl : es.length = l.length) (hr : Rel w W) (j : Nat) (hj : j < l.length) : ∃ el : El, KidQ W A' (j * 4) el ∧ ExAt S W el l[j] := by
  obtain ⟨g, off, k, n, nm, A2, m, c, hA, h0, h1, h2, h3, ha⟩ := ExAt.arg hrow hsub hl hr j hj
  exact ⟨(k, n, nm, A2, m, c), ⟨g, off, hA, blk_of_cell h0, h0, h1, h2, h3⟩, ha⟩
theorem cods_append (a b : List Ex) (at_ : Nat) : cods (a ++ b) at_ = cods a at_ ++ cods b (at_ + clens a) ∧ clens (a ++ b) = clens a + clens b := by
  induction a generalizing at_ with
  | nil => rw [List.nil_append, cods_nil, clens_nil]; exact ⟨by simp, by omega⟩
  | cons x t ih =>
    obtain ⟨h1, h2⟩ := ih (at_ + clen x)
    rw [List.cons_append, cods_cons, cods_cons, clens_cons, clens_cons, h1, h2, List.append_assoc, Nat.add_assoc]
    exact ⟨rfl, by omega⟩
theorem cods_take {l : List Ex} {j : Nat} (h : j < l.length) (at_ : Nat) : cods (l.take (j + 1)) at_ = cods (l.take j) at_ ++ cod l[j] (at_ + clens (l.take j)) ∧ clens (l.take (j + 1)) = clens (l.take j) + clen l[j] := by
  rw [List.take_succ_eq_append_getElem h]
  obtain ⟨h1, h2⟩ := cods_append (l.take j) [l[j]] at_
  rw [cods_cons, cods_nil, List.append_nil] at h1
  rw [clens_cons, clens_nil] at h2
  exact ⟨h1, by omega⟩
theorem clens_take (l : List Ex) (j : Nat) : clens (l.take j) ≤ clens l := by
  have := (cods_append (l.take j) (l.drop j) 0).2
  rw [List.take_append_drop] at this
  omega
theorem cods_len {d : Nat} {l : List Ex} (h : ∀ x ∈ l, fine d x = true) : ∀ at_, (cods l at_).length = clens l := by
  induction l with
  | nil => intro _; rw [cods_nil, clens_nil]; rfl
  | cons x t ih => intro p; rw [cods_cons, clens_cons, List.length_append, cod_len d x (h x (List.mem_cons_self ..)), ih fun y hy => h y (List.mem_cons_of_mem _ hy)]
theorem op_kind {d : Nat} {k n : Int} {nm : List UInt8} {l : List Ex} (h : fine (d + 1) (.mk k n nm l) = true) (h9 : k ≠ 9) (h10 : k ≠ 10) : (k = 1 ∨ k = 2 ∨ k = 3 ∨ k = 4 ∨ k = 5 ∨ k = 6 ∨ k = 7 ∨ k = 8 ∨ k = 11 ∨ k = 12) ∧ l.length ≤ 2 := by
  have hp := (fine_parts h).1
  unfold argsN at hp
  split at hp
  · exact ⟨by omega, by omega⟩
  · split at hp
    · exact ⟨by omega, by omega⟩
    · split at hp
      · exact ⟨by omega, by omega⟩
      · first | omega | (split at hp <;> omega)
end Go.Proofs.YtcckemhelockaaaGreatDoor

namespace Go.Proofs.YtcckemhelockaaaGreatDoor
open Go.RowKit Go.Lib
set_option linter.unusedVariables false
set_option linter.unusedSimpArgs false
/-- What a strategy is compiled to, and the error. -/
def codX (x : Ex) : List In := if rightX x then cod x 0 else []
def codR (x : Ex) : Int := if rightX x then 0 else 1
theorem codX_yes {x : Ex} (h : rightX x = true) : codX x = cod x 0 ∧ codR x = 0 := by unfold codX codR; rw [if_pos h, if_pos h]; exact ⟨rfl, rfl⟩
theorem codX_no {x : Ex} (h : rightX x = false) : codX x = [] ∧ codR x = 1 := by unfold codX codR; rw [if_neg (by simp [h]), if_neg (by simp [h])]; exact ⟨rfl, rfl⟩
end Go.Proofs.YtcckemhelockaaaGreatDoor
