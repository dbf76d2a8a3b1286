/- The law's Strategy; Raw numbers as an argument, opened; Plain mathematics of layer 10: strategies as instructions. No program in this text; Plain mathematics of layer 10: which code may be; what is compiled may; where it leads. No program in this text; Plain mathematics of layer 10: code as lines; unlike code that may be has unlike lines. No program in this text. -/
import Derived.Test.YtldopbkjchgcnaaDoorZ05
import Derived.Test.YtldopbkjchgcnaaDoorZ02
namespace Go.Proofs.YtldopbkjchgcnaaDoor
open Go.RowKit Go.Lib
set_option linter.unusedVariables false
set_option linter.unusedSimpArgs false

theorem expr_all : ∀ d, d ≤ 10 → ExprAt d := by
  intro d
  induction d with
  | zero =>
    intro _ c L g w0 w hr hg hs
    cases c with
    | true => exact expr_cond 0 (by omega) (fun d' h => by omega) L g w0 w hr hg hs
    | false => exact expr_tree 0 (by omega) (fun d' h => by omega) L g w0 w hr hg hs
  | succ d ih =>
    intro hd c L g w0 w hr hg hs
    have H : ∀ d', d + 1 = d' + 1 → ExprAt d' := fun d' h => by
      have : d' = d := by omega
      subst this; exact ih (by omega)
    cases c with
    | true => exact expr_cond (d + 1) hd H L g w0 w hr hg hs
    | false => exact expr_tree (d + 1) hd H L g w0 w hr hg hs
theorem expr5 (L : List Int) (x : Ex) (L' : List Int) (hx : Hid (gen 5 false L = (x, L'))) (g : Nat) (w0 w : World) (hr : Rel w0 w) (hg : w0.heap.size ≤ g) (hs : SrcAt w g L) :
    Calls Tryd.prog 23 #[.pointer (some ⟨g, 0, none⟩), .int .i64 5, .bool false] w fun e w' => ∃ v : El, e = .returned (EV v) ∧ ExAt (fun k => w.heap.size ≤ k) w' v x ∧ SrcAt w' g L' ∧ w.grownBy w' (some g) :=
  expr_as (d := 4) (expr_all 4 (by omega)) false L x L' hx g w0 w hr hg hs
/-- Raw numbers as an argument. -/
def IntsIn (w : World) (A : Option Addr) (c : Nat) (L : List Int) : Prop := L.length ≤ c ∧ c ≤ maxLen ∧ (∀ z ∈ L, i64 z) ∧ ∀ i (h : i < L.length), ∃ a : Addr, A = some a ∧ a.block < w.heap.size ∧ w.cell? (a.add i) = some (.int .i64 L[i])
theorem IntsIn.rel {w w' : World} {A : Option Addr} {c : Nat} {L : List Int} (h : IntsIn w A c L) (hr : Rel w w') : IntsIn w' A c L := by
  obtain ⟨h1, h2, h3, h4⟩ := h
  refine ⟨h1, h2, h3, fun i hi => ?_⟩
  obtain ⟨a, e, hl, hc⟩ := h4 i hi
  have := hr.size
  exact ⟨a, e, by omega, (hr.2.cell (p := a.add i) (by rw [block_add]; exact hl)).trans hc⟩
set_option maxHeartbeats 2000000 in
theorem strat_any (A : Option Addr) (c : Nat) (L : List Int) (w0 w : World) (hr : Rel w0 w) (h : IntsIn w A c L) :
    Calls Tryd.prog 9 #[.slice A L.length c] w fun e w' => ∃ v : El, e = .returned (EV v) ∧ ExAt (fun k => w.heap.size ≤ k) w' v (strat L) ∧ Rel w0 w' := by
  have HR := Lib.hid hr
  have HS := Lib.hid hr.self
  have HB := Lib.hid (Bk.new w 27 #[.int .i64 0, .int .i64 0, .string ⟨#[]⟩, .slice none 0 0])
  have h1 := h.1
  have h2 := h.2.1
  have HI := Lib.hid h
  have key : ∀ (L' : List Int) (c' : Nat), IntsIn w A c' L' → Hid (SrcAt ((w.alloc (.cells #[.int .i64 0, .int .i64 0, .string ⟨#[]⟩, .slice none 0 0] 27)).alloc (.cells #[.slice A L'.length c'] 49)) (w.heap.size + 1) L') := fun L' c' hi => Lib.hid ⟨A, c', Bk.snd w _ _ _ _, hi.1, hi.2.1, hi.2.2.1, fun i hi' => by
    obtain ⟨a, e, hl, hc⟩ := hi.2.2.2 i hi'
    exact ⟨a, e, by omega, (((HS.out.alloc _).alloc _).2.cell (p := a.add i) (by rw [block_add]; exact hl)).trans hc⟩⟩
  by_cases hl : L.length ≤ 100
  · have HSr := key L c h
    obtain ⟨⟨x, L3⟩, hx⟩ : ∃ p, gen 5 false L = p := ⟨_, rfl⟩
    have HX := Lib.hid hx
    have HF := Lib.hid (show strat L = x by unfold strat; rw [List.take_of_length_le hl, hx])
    have HRW := Lib.hid ((HS.out.alloc (.cells #[.int .i64 0, .int .i64 0, .string ⟨#[]⟩, .slice none 0 0] 27)).alloc (.cells #[.slice A L.length c] 49))
    have HB1 := Lib.hid (HB.out.alloc (.cells #[.slice A L.length c] 49))
    have hzz : ((w.alloc (.cells #[.int .i64 0, .int .i64 0, .string ⟨#[]⟩, .slice none 0 0] 27)).alloc (.cells #[.slice A L.length c] 49)).heap.size = w.heap.size + 2 := by rw [World.size_alloc, World.size_alloc]
    have HZ := Lib.hid hzz
    have hlen : (L.length : Int) ≤ 100 := by omega
    clear key h hx hzz
    go_enter Tryd.func9, Tryd.ntmps9
    go_wp2_with (go_at_call 23; (with_reducible refine (expr5 L x L3 HX (w.heap.size + 1) _ _ HRW.out (by omega) HSr.out).mono ?_); rintro e w2 ⟨vx, rfl, ex, s2, g2⟩; obtain ⟨⟨c0, c1, c2, c3⟩, f0, f1, f2, f3⟩ := (HB1.out.grown g2 (fun e => by injection e; omega)).four)
    have gp := put4_grown w2 w.heap.size (.int .i64 vx.1) (.int .i64 vx.2.1) (.string (B vx.2.2.1)) (.slice vx.2.2.2.1 vx.2.2.2.2.1 vx.2.2.2.2.2)
    obtain ⟨⟨t0, t1, t2, t3⟩, _⟩ := ((HB1.out.grown g2 (fun e => by injection e; omega)).put4 (.int .i64 vx.1) (.int .i64 vx.2.1) (.string (B vx.2.2.1)) (.slice vx.2.2.2.1 vx.2.2.2.2.1 vx.2.2.2.2.2)).four
    have hz2 := g2.size
    have hz := HZ.out
    refine bodyPost_ret (v := EV vx) (by simp [results, Tryd.results9, go_sem, t0, t1, t2, t3]) rfl ⟨vx, rfl, ?_, ?_⟩
    · rw [HF.out]; exact ex.grown gp (fun q hq => ⟨by omega, fun e => by injection e; omega⟩)
    · exact HR.out.trans (Rel.grown (Rel.grown HRW.out g2 (fun k e => by cases e; omega)) gp (fun k e => by cases e; exact Nat.le_refl _))
  · have e100 : (L.take 100).length = 100 := by rw [List.length_take]; omega
    have HSr := key (L.take 100) c ⟨by omega, h2, fun z hz => h.2.2.1 z (List.mem_of_mem_take hz), fun i hi => by
      obtain ⟨a, e, hl, hc⟩ := h.2.2.2 i (by rw [List.length_take] at hi; omega)
      exact ⟨a, e, hl, by rw [List.getElem_take]; exact hc⟩⟩
    rw [e100] at HSr
    obtain ⟨⟨x, L3⟩, hx⟩ : ∃ p, gen 5 false (L.take 100) = p := ⟨_, rfl⟩
    have HX := Lib.hid hx
    have HF := Lib.hid (show strat L = x by unfold strat; rw [hx])
    have HRW := Lib.hid ((HS.out.alloc (.cells #[.int .i64 0, .int .i64 0, .string ⟨#[]⟩, .slice none 0 0] 27)).alloc (.cells #[.slice A 100 c] 49))
    have HB1 := Lib.hid (HB.out.alloc (.cells #[.slice A 100 c] 49))
    have hzz : ((w.alloc (.cells #[.int .i64 0, .int .i64 0, .string ⟨#[]⟩, .slice none 0 0] 27)).alloc (.cells #[.slice A 100 c] 49)).heap.size = w.heap.size + 2 := by rw [World.size_alloc, World.size_alloc]
    have HZ := Lib.hid hzz
    have hlen : (100 : Int) < (L.length : Int) := by omega
    clear key h hx hzz
    go_enter Tryd.func9, Tryd.ntmps9
    go_wp2_with (go_at_call 23; (with_reducible refine (expr5 (L.take 100) x L3 HX (w.heap.size + 1) _ _ HRW.out (by omega) HSr.out).mono ?_); rintro e w2 ⟨vx, rfl, ex, s2, g2⟩; obtain ⟨⟨c0, c1, c2, c3⟩, f0, f1, f2, f3⟩ := (HB1.out.grown g2 (fun e => by injection e; omega)).four)
    have gp := put4_grown w2 w.heap.size (.int .i64 vx.1) (.int .i64 vx.2.1) (.string (B vx.2.2.1)) (.slice vx.2.2.2.1 vx.2.2.2.2.1 vx.2.2.2.2.2)
    obtain ⟨⟨t0, t1, t2, t3⟩, _⟩ := ((HB1.out.grown g2 (fun e => by injection e; omega)).put4 (.int .i64 vx.1) (.int .i64 vx.2.1) (.string (B vx.2.2.1)) (.slice vx.2.2.2.1 vx.2.2.2.2.1 vx.2.2.2.2.2)).four
    have hz2 := g2.size
    have hz := HZ.out
    refine bodyPost_ret (v := EV vx) (by simp [results, Tryd.results9, go_sem, t0, t1, t2, t3]) rfl ⟨vx, rfl, ?_, ?_⟩
    · rw [HF.out]; exact ex.grown gp (fun q hq => ⟨by omega, fun e => by injection e; omega⟩)
    · exact HR.out.trans (Rel.grown (Rel.grown HRW.out g2 (fun k e => by cases e; omega)) gp (fun k e => by cases e; exact Nat.le_refl _))
end Go.Proofs.YtldopbkjchgcnaaDoor

namespace Go.Proofs.YtldopbkjchgcnaaDoor
open Go.RowKit Go.Lib
set_option linter.unusedVariables false
set_option linter.unusedSimpArgs false

/-- A row of numbers, as the card opens it: all that it has room for. -/
def IsRow (k : IntKind) (w : World) (a : Option Addr) (len cap : Nat) (zs : List Int) : Prop :=
  (a = none ∧ len = 0 ∧ cap = 0 ∧ zs = []) ∨ ∃ x : Addr, a = some x ∧ len ≤ cap ∧ cap ≤ maxLen ∧ zs.length = cap ∧ (∀ j, j < zs.length → w.cell? (x.add j) = some (.int k (zs.getD j 0))) ∧ ∀ u ∈ zs, (Lit.int k u).wf = true
theorem wf64 {a : Int} (h : (Lit.int .i64 a).wf = true) : i64 a := by
  have := bounds_i64 h; exact ⟨by omega, by omega⟩
theorem ints_of {w : World} {a : Option Addr} {len cap : Nat} {z : List Int} (h : IsRow .i64 w a len cap z) : ∃ L : List Int, len = L.length ∧ IntsIn w a cap L := by
  rcases h with ⟨rfl, rfl, rfl, rfl⟩ | ⟨x, rfl, hl, hm, hz, hcell, hwz⟩
  · exact ⟨[], rfl, Nat.le_refl _, Nat.zero_le _, fun z hz => (by cases hz), fun i hi => absurd hi (by simp)⟩
  · have e : (z.take len).length = len := by rw [List.length_take]; omega
    refine ⟨z.take len, e.symm, by omega, hm, fun u hu => wf64 (hwz u (List.mem_of_mem_take hu)), fun i hi => ?_⟩
    rw [e] at hi
    have hc := hcell i (by omega)
    have eg : z.getD i 0 = (z.take len)[i]'(by rw [e]; exact hi) := by
      rw [List.getElem_take, List.getD_eq_getElem?_getD, List.getElem?_eq_getElem (by omega)]; rfl
    rw [eg] at hc
    exact ⟨x, rfl, by have := blk_of_cell hc; rwa [block_add] at this, hc⟩
end Go.Proofs.YtldopbkjchgcnaaDoor

namespace Go.Proofs.YtldopbkjchgcnaaDoor
open Go.Lib
set_option linter.unusedVariables false
set_option linter.unusedSimpArgs false

/-- An instruction: what to do, a number, a name. -/
abbrev In := Int × Int × List UInt8
def opK (k : Int) : Int := if k = 1 then 2 else if k = 2 then 3 else if k = 3 then 4 else if k = 4 then 1 else if k = 11 then 10 else if k = 12 then 11 else k
mutual
def clen : Ex → Nat
  | .mk k _ _ l => clens l + (if k = 10 then 2 else 1)
def clens : List Ex → Nat
  | [] => 0
  | x :: t => clen x + clens t
end
mutual
def many (kind : Int) : Ex → Nat
  | .mk k _ _ l => (if k = kind then 1 else 0) + manys kind l
def manys (kind : Int) : List Ex → Nat
  | [] => 0
  | x :: t => many kind x + manys kind t
end
theorem clen_mk (k n : Int) (nm : List UInt8) (l : List Ex) : clen (.mk k n nm l) = clens l + (if k = 10 then 2 else 1) := by rw [clen]
theorem clens_nil : clens [] = 0 := by rw [clens]
theorem clens_cons (x : Ex) (t : List Ex) : clens (x :: t) = clen x + clens t := by rw [clens]
theorem many_mk (kind k n : Int) (nm : List UInt8) (l : List Ex) : many kind (.mk k n nm l) = (if k = kind then 1 else 0) + manys kind l := by rw [many]
theorem manys_nil (kind : Int) : manys kind [] = 0 := by rw [manys]
theorem manys_cons (kind : Int) (x : Ex) (t : List Ex) : manys kind (x :: t) = many kind x + manys kind t := by rw [manys]
theorem clen_pos (x : Ex) : 1 ≤ clen x := by cases x; rw [clen_mk]; split <;> omega
/-- One instruction for each expression, one more for each if. -/
theorem clen_size : ∀ x, clen x = size x + many 10 x := ex_ind fun k n nm l ih => by
  rw [clen_mk, size_mk, many_mk]
  have : clens l = sizes l + manys 10 l := by
    clear k n nm
    induction l with
    | nil => rw [clens_nil, sizes_nil, manys_nil]
    | cons x t ih2 =>
      rw [clens_cons, sizes_cons, manys_cons, ih x (List.mem_cons_self ..), ih2 fun y hy => ih y (List.mem_cons_of_mem _ hy)]; omega
  rw [this]
  split <;> omega
theorem many_le (kind : Int) : ∀ x, many kind x ≤ size x := ex_ind fun k n nm l ih => by
  rw [size_mk, many_mk]
  have : manys kind l ≤ sizes l := by
    clear k n nm
    induction l with
    | nil => rw [sizes_nil, manys_nil]; omega
    | cons x t ih2 =>
      have h1 := ih x (List.mem_cons_self ..)
      have h2 := ih2 fun y hy => ih y (List.mem_cons_of_mem _ hy)
      rw [sizes_cons, manys_cons]; omega
  split <;> omega
/-- An expression's code, from a place on. -/
def joinE (at_ : Nat) (A B : List In) : List In := A ++ ((9, ((at_ + A.length + 1 + B.length : Nat) : Int), []) :: B)
def joinI (at_ : Nat) (C A B : List In) : List In := C ++ ((12, ((at_ + C.length + A.length + 2 : Nat) : Int), []) :: (A ++ ((13, ((at_ + C.length + A.length + 2 + B.length : Nat) : Int), []) :: B)))
mutual
def cod : Ex → Nat → List In
  | .mk k n nm l, at_ => if k = 9 then codE l at_ else if k = 10 then codI l at_ else cods l at_ ++ [(opK k, n, nm)]
def cods : List Ex → Nat → List In
  | [], _ => []
  | x :: t, at_ => cod x at_ ++ cods t (at_ + clen x)
def codE : List Ex → Nat → List In
  | [], _ => []
  | a :: t, at_ => joinE at_ (cod a at_) (cods t (at_ + clen a + 1))
def codI : List Ex → Nat → List In
  | [], _ => []
  | c :: t, at_ => joinI at_ (cod c at_) (codH t (at_ + clen c + 1)) (codT t (at_ + clen c + 2))
def codH : List Ex → Nat → List In
  | [], _ => []
  | a :: _, at_ => cod a at_
def codT : List Ex → Nat → List In
  | [], _ => []
  | a :: t, at_ => cods t (at_ + clen a)
end
theorem cod_mk (k n : Int) (nm : List UInt8) (l : List Ex) (at_ : Nat) : cod (.mk k n nm l) at_ = if k = 9 then codE l at_ else if k = 10 then codI l at_ else cods l at_ ++ [(opK k, n, nm)] := by rw [cod]
theorem cods_nil (at_ : Nat) : cods [] at_ = [] := by rw [cods]
theorem cods_cons (x : Ex) (t : List Ex) (at_ : Nat) : cods (x :: t) at_ = cod x at_ ++ cods t (at_ + clen x) := by rw [cods]
theorem cod_else (n : Int) (nm : List UInt8) (a b : Ex) (at_ : Nat) : cod (.mk 9 n nm [a, b]) at_ = joinE at_ (cod a at_) (cod b (at_ + clen a + 1)) := by
  rw [cod_mk, if_pos rfl, codE, cods_cons, cods_nil, List.append_nil]
theorem cod_if (n : Int) (nm : List UInt8) (c a b : Ex) (at_ : Nat) : cod (.mk 10 n nm [c, a, b]) at_ = joinI at_ (cod c at_) (cod a (at_ + clen c + 1)) (cod b (at_ + clen c + 2 + clen a)) := by
  rw [cod_mk, if_neg (by decide), if_pos rfl, codI, codH, codT, cods_cons, cods_nil, List.append_nil]
theorem cod_op {k n : Int} {nm : List UInt8} {l : List Ex} (h9 : k ≠ 9) (h10 : k ≠ 10) (at_ : Nat) : cod (.mk k n nm l) at_ = cods l at_ ++ [(opK k, n, nm)] := by
  rw [cod_mk, if_neg h9, if_neg h10]
theorem joinE_len (at_ : Nat) (A B : List In) : (joinE at_ A B).length = A.length + 1 + B.length := by unfold joinE; simp; omega
theorem joinI_len (at_ : Nat) (C A B : List In) : (joinI at_ C A B).length = C.length + A.length + 2 + B.length := by unfold joinI; simp; omega
/-- What is to be shown of an expression that may be, by its kind. -/
theorem fine_ind {P : Ex → Prop} (hop : ∀ d k n nm l, fine (d + 1) (.mk k n nm l) = true → k ≠ 9 → k ≠ 10 → (∀ x ∈ l, P x) → P (.mk k n nm l))
    (helse : ∀ d n nm a b, fine (d + 1) (.mk 9 n nm [a, b]) = true → P a → P b → P (.mk 9 n nm [a, b]))
    (hif : ∀ d n nm c a b, fine (d + 1) (.mk 10 n nm [c, a, b]) = true → P c → P a → P b → P (.mk 10 n nm [c, a, b])) : ∀ d x, fine d x = true → P x := by
  intro d
  induction d with
  | zero => intro x h; cases h
  | succ d ih =>
    intro x h
    cases x with
    | mk k n nm l =>
      have hp := (fine_parts h).1
      have hm : ∀ x ∈ l, P x := fun x hx => ih x (fine_mem h hx)
      by_cases h9 : k = 9
      · subst h9
        match l, hp with
        | [a, b], _ => exact helse d n nm a b h (hm a (by simp)) (hm b (by simp))
        | [], hp => simp [argsN] at hp
        | [_], hp => simp [argsN] at hp
        | _ :: _ :: _ :: _, hp => simp [argsN] at hp; omega
      · by_cases h10 : k = 10
        · subst h10
          match l, hp with
          | [c, a, b], _ => exact hif d n nm c a b h (hm c (by simp)) (hm a (by simp)) (hm b (by simp))
          | [], hp => simp [argsN] at hp
          | [_], hp => simp [argsN] at hp
          | [_, _], hp => simp [argsN] at hp
          | _ :: _ :: _ :: _ :: _, hp => simp [argsN] at hp; omega
        · exact hop d k n nm l h h9 h10 hm
theorem cod_len : ∀ d x, fine d x = true → ∀ at_, (cod x at_).length = clen x := fine_ind
  (fun d k n nm l h h9 h10 ih at_ => by
    rw [cod_op h9 h10, clen_mk, if_neg h10, List.length_append]
    have : ∀ at_, (cods l at_).length = clens l := by
      clear h
      induction l with
      | nil => intro _; rw [cods_nil, clens_nil]; rfl
      | cons x t ih2 => intro p; rw [cods_cons, clens_cons, List.length_append, ih x (List.mem_cons_self ..), ih2 fun y hy => ih y (List.mem_cons_of_mem _ hy)]
    rw [this]; rfl)
  (fun d n nm a b h ha hb at_ => by
    rw [cod_else, joinE_len, ha, hb, clen_mk, clens_cons, clens_cons, clens_nil]; simp; omega)
  (fun d n nm c a b h hc ha hb at_ => by
    rw [cod_if, joinI_len, hc, ha, hb, clen_mk, clens_cons, clens_cons, clens_cons, clens_nil]; simp; omega)
/-- Leads an instruction somewhere? -/
def isTo (o : Int) : Bool := o == 9 || o == 12 || o == 13
def mv (s : Nat) (t : In) : In := if isTo t.1 then (t.1, t.2.1 + s, t.2.2) else t
theorem mv_map (s : Nat) (l : List In) : (l.map (mv s)).length = l.length := List.length_map ..
theorem mv_to (s : Nat) (o : Int) (n : Int) (nm : List UInt8) (h : isTo o = true) : mv s (o, n, nm) = (o, n + s, nm) := by unfold mv; rw [if_pos h]
theorem mv_no (s : Nat) (o : Int) (n : Int) (nm : List UInt8) (h : isTo o = false) : mv s (o, n, nm) = (o, n, nm) := by unfold mv; rw [if_neg (by simp only at h ⊢; simp [h])]
theorem opK_to {d : Nat} {k n : Int} {nm : List UInt8} {l : List Ex} (h : fine (d + 1) (.mk k n nm l) = true) (h9 : k ≠ 9) (h10 : k ≠ 10) : isTo (opK k) = false ∧ 1 ≤ opK k ∧ opK k ≤ 11 := by
  have hp := (fine_parts h).1
  have hk : k = 1 ∨ k = 2 ∨ k = 3 ∨ k = 4 ∨ k = 5 ∨ k = 6 ∨ k = 7 ∨ k = 8 ∨ k = 11 ∨ k = 12 := by
    unfold argsN at hp
    split at hp
    · omega
    · split at hp
      · omega
      · split at hp
        · omega
        · first | omega | (split at hp <;> omega)
  rcases hk with rfl | rfl | rfl | rfl | rfl | rfl | rfl | rfl | rfl | rfl <;> decide
/-- Code that stands elsewhere is the same, but for places. -/
theorem cod_move : ∀ d x, fine d x = true → ∀ s at_, cod x (s + at_) = (cod x at_).map (mv s) := fine_ind
  (fun d k n nm l h h9 h10 ih s at_ => by
    rw [cod_op h9 h10, cod_op h9 h10, List.map_append, List.map_cons, List.map_nil, mv_no s _ _ _ (opK_to h h9 h10).1]
    have : ∀ at_, cods l (s + at_) = (cods l at_).map (mv s) := by
      clear h
      induction l with
      | nil => intro _; rw [cods_nil, cods_nil]; rfl
      | cons x t ih2 => intro p; rw [cods_cons, cods_cons, List.map_append, ih x (List.mem_cons_self ..), Nat.add_assoc, ih2 fun y hy => ih y (List.mem_cons_of_mem _ hy)]
    rw [this])
  (fun d n nm a b h ha hb s at_ => by
    rw [cod_else, cod_else, ha, show s + at_ + clen a + 1 = s + (at_ + clen a + 1) by omega, hb]
    unfold joinE
    rw [List.map_append, List.map_cons, mv_to _ _ _ _ rfl, mv_map, mv_map]
    congr 3
    simp only [Prod.mk.injEq, and_true, true_and]; omega)
  (fun d n nm c a b h hc ha hb s at_ => by
    rw [cod_if, cod_if, hc, show s + at_ + clen c + 1 = s + (at_ + clen c + 1) by omega, ha, show s + at_ + clen c + 2 + clen a = s + (at_ + clen c + 2 + clen a) by omega, hb]
    unfold joinI
    rw [List.map_append, List.map_cons, List.map_append, List.map_cons, mv_to _ _ _ _ rfl, mv_to _ _ _ _ rfl, mv_map, mv_map, mv_map]
    congr 3
    · simp only [Prod.mk.injEq, and_true, true_and]; omega
    · congr 2
      simp only [Prod.mk.injEq, and_true, true_and]; omega)
end Go.Proofs.YtldopbkjchgcnaaDoor

namespace Go.Proofs.YtldopbkjchgcnaaDoor
open Go.Lib
set_option linter.unusedVariables false
set_option linter.unusedSimpArgs false

def leastO (i : Nat) (o : Int) : Int := if isTo o then (i : Int) + 1 else 0
def mostO (len : Nat) (o : Int) : Int := if isTo o then (len : Int) else if o = 1 ∨ o = 5 then 1000000000000 else if o = 6 then 100000 else if o = 10 then 1000 else 0
/-- May an instruction stand at a place of so many? -/
def inOk (len i : Nat) (t : In) : Bool := decide (1 ≤ t.1 ∧ t.1 ≤ 13) && decide (leastO i t.1 ≤ t.2.1 ∧ t.2.1 ≤ mostO len t.1) && (if t.1 = 4 then isName t.2.2 else decide (t.2.2 = []))
def okTo (l : List In) : Nat → Bool
  | 0 => true
  | i + 1 => okTo l i && (match l[i]? with | some t => inOk l.length i t | none => true)
def codeOk (l : List In) : Bool := decide (l.length ≤ 5000) && okTo l l.length
theorem okTo_iff {l : List In} : ∀ {n : Nat}, n ≤ l.length → (okTo l n = true ↔ ∀ i (h : i < l.length), i < n → inOk l.length i l[i] = true) := by
  intro n
  induction n with
  | zero => intro _; exact ⟨fun _ i _ h => absurd h (by omega), fun _ => rfl⟩
  | succ n ih =>
    intro hn
    have hl : n < l.length := by omega
    rw [okTo, List.getElem?_eq_getElem hl, Bool.and_eq_true, ih (by omega)]
    constructor
    · rintro ⟨h1, h2⟩ i hi hin
      by_cases e : i = n
      · subst e; exact h2
      · exact h1 i hi (by omega)
    · intro h
      exact ⟨fun i hi hin => h i hi (by omega), h n hl (by omega)⟩
theorem codeOk_iff {l : List In} : codeOk l = true ↔ l.length ≤ 5000 ∧ ∀ i (h : i < l.length), inOk l.length i l[i] = true := by
  unfold codeOk
  rw [Bool.and_eq_true, decide_eq_true_eq, okTo_iff (Nat.le_refl _)]
  exact ⟨fun h => ⟨h.1, fun i hi => h.2 i hi hi⟩, fun h => ⟨h.1, fun i hi _ => h.2 i hi⟩⟩
/-- All may stand where they stand, from a place on. -/
def GoodC (len at_ : Nat) (l : List In) : Prop := ∀ i (h : i < l.length), inOk len (at_ + i) l[i] = true
theorem GoodC.nil (len at_ : Nat) : GoodC len at_ [] := fun i h => absurd h (by simp)
theorem GoodC.append {len at_ : Nat} {a b : List In} (ha : GoodC len at_ a) (hb : GoodC len (at_ + a.length) b) : GoodC len at_ (a ++ b) := by
  intro i h
  by_cases hi : i < a.length
  · rw [List.getElem_append_left hi]; exact ha i hi
  · rw [List.getElem_append_right (by omega)]
    have := hb (i - a.length) (by rw [List.length_append] at h; omega)
    rwa [show at_ + a.length + (i - a.length) = at_ + i by omega] at this
theorem GoodC.cons {len at_ : Nat} {t : In} {b : List In} (ht : inOk len at_ t = true) (hb : GoodC len (at_ + 1) b) : GoodC len at_ (t :: b) := by
  intro i h
  cases i with
  | zero => exact ht
  | succ i =>
    have := hb i (by simpa using h)
    rwa [show at_ + 1 + i = at_ + (i + 1) by omega] at this
theorem inOk_to {len i : Nat} {o : Int} (ho : o = 9 ∨ o = 12 ∨ o = 13) {n : Nat} (h1 : i < n) (h2 : n ≤ len) : inOk len i (o, (n : Int), []) = true := by
  have e : isTo o = true := by rcases ho with rfl | rfl | rfl <;> rfl
  unfold inOk leastO mostO
  simp only [e, if_true]
  rcases ho with rfl | rfl | rfl <;> simp <;> omega
theorem inOk_op {d : Nat} {k n : Int} {nm : List UInt8} {l : List Ex} (h : fine (d + 1) (.mk k n nm l) = true) (h9 : k ≠ 9) (h10 : k ≠ 10) (len i : Nat) : inOk len i (opK k, n, nm) = true := by
  obtain ⟨p1, p2, p3, p4, _⟩ := fine_parts h
  have hk : k = 1 ∨ k = 2 ∨ k = 3 ∨ k = 4 ∨ k = 5 ∨ k = 6 ∨ k = 7 ∨ k = 8 ∨ k = 11 ∨ k = 12 := by
    unfold argsN at p1
    split at p1
    · omega
    · split at p1
      · omega
      · split at p1
        · omega
        · first | omega | (split at p1 <;> omega)
  have hnm : k ≠ 3 → nm = [] := fun e => by
    cases nm with
    | nil => rfl
    | cons c t => exact absurd (p3.1 (by simp)) e
  rcases hk with rfl | rfl | rfl | rfl | rfl | rfl | rfl | rfl | rfl | rfl
  all_goals
    unfold inOk leastO mostO
    simp only [mostN] at p2
    first
      | (rw [hnm (by decide)]; simp [opK, isTo] at p2 ⊢; omega)
      | (simp [opK, isTo, p4] at p2 ⊢; omega)
/-- What is compiled may stand. -/
theorem cod_good : ∀ d x, fine d x = true → ∀ len at_, at_ + clen x ≤ len → GoodC len at_ (cod x at_) := fun d x hx => by
  have := fine_ind (P := fun x => (∃ d, fine d x = true) ∧ ∀ len at_, at_ + clen x ≤ len → GoodC len at_ (cod x at_))
    (fun d k n nm l h h9 h10 ih => ⟨⟨_, h⟩, fun len at_ hl => by
      rw [cod_op h9 h10]
      rw [clen_mk, if_neg h10] at hl
      have hs : ∀ at_, at_ + clens l ≤ len → GoodC len at_ (cods l at_) ∧ (cods l at_).length = clens l := by
        clear h hl
        induction l with
        | nil => intro p _; rw [cods_nil, clens_nil]; exact ⟨GoodC.nil _ _, rfl⟩
        | cons x t ih2 =>
          intro p hp
          rw [clens_cons] at hp
          obtain ⟨⟨d', hd'⟩, g⟩ := ih x (List.mem_cons_self ..)
          obtain ⟨g1, g2⟩ := ih2 (fun y hy => ih y (List.mem_cons_of_mem _ hy)) (p + clen x) (by omega)
          rw [cods_cons, clens_cons, List.length_append, cod_len d' x hd', g2]
          exact ⟨(g len p (by omega)).append (by rw [cod_len d' x hd']; exact g1), rfl⟩
      obtain ⟨g1, g2⟩ := hs at_ (by omega)
      exact g1.append ((GoodC.nil _ _).cons (inOk_op h h9 h10 _ _))⟩)
    (fun d n nm a b h ha hb => ⟨⟨_, h⟩, fun len at_ hl => by
      obtain ⟨⟨da, fa⟩, ga⟩ := ha
      obtain ⟨⟨db, fb⟩, gb⟩ := hb
      rw [clen_mk, clens_cons, clens_cons, clens_nil, if_neg (by decide)] at hl
      rw [cod_else]
      unfold joinE
      refine (ga len at_ (by omega)).append (GoodC.cons (inOk_to (.inl rfl) ?_ ?_) ?_)
      · rw [cod_len db b fb, cod_len da a fa]; omega
      · rw [cod_len db b fb, cod_len da a fa]; omega
      · rw [cod_len da a fa]; exact gb len _ (by omega)⟩)
    (fun d n nm c a b h hc ha hb => ⟨⟨_, h⟩, fun len at_ hl => by
      obtain ⟨⟨dc, fc⟩, gc⟩ := hc
      obtain ⟨⟨da, fa⟩, ga⟩ := ha
      obtain ⟨⟨db, fb⟩, gb⟩ := hb
      rw [clen_mk, clens_cons, clens_cons, clens_cons, clens_nil, if_pos rfl] at hl
      rw [cod_if]
      unfold joinI
      refine (gc len at_ (by omega)).append (GoodC.cons (inOk_to (.inr (.inl rfl)) ?_ ?_) ?_)
      · rw [cod_len dc c fc, cod_len da a fa]; omega
      · rw [cod_len dc c fc, cod_len da a fa]; omega
      · rw [cod_len dc c fc]
        refine (ga len _ (by omega)).append (GoodC.cons (inOk_to (.inr (.inr rfl)) ?_ ?_) ?_)
        · rw [cod_len db b fb, cod_len da a fa]; omega
        · rw [cod_len db b fb, cod_len da a fa]; omega
        · rw [cod_len da a fa]
          have := gb len (at_ + clen c + 2 + clen a) (by omega)
          rwa [show at_ + clen c + 1 + clen a + 1 = at_ + clen c + 2 + clen a by omega]⟩)
    d x hx
  exact this.2
theorem right_code {x : Ex} (h : rightX x = true) : codeOk (cod x 0) = true ∧ (cod x 0).length = clen x ∧ clen x ≤ 4000 := by
  unfold rightX at h
  simp only [Bool.and_eq_true, Bool.not_eq_true', decide_eq_true_eq] at h
  obtain ⟨⟨⟨h1, h2⟩, h3⟩, h4⟩ := h
  have hl := cod_len 32 x h1 0
  have hs := clen_size x
  have hm := many_le 10 x
  refine ⟨codeOk_iff.2 ⟨by omega, fun i hi => ?_⟩, hl, by omega⟩
  have := cod_good 32 x h1 (cod x 0).length 0 (by omega) i hi
  rwa [Nat.zero_add] at this
/-- The farthest place that those of the first j that stand ahead of k lead to. -/
def farTo (l : List In) (k : Nat) : Nat → Int
  | 0 => 0
  | i + 1 => match l[i]? with
    | some t => if isTo t.1 = true ∧ i < k then max (farTo l k i) t.2.1 else farTo l k i
    | none => farTo l k i
theorem far_le {l : List In} {k : Nat} {m : Int} (hm : 0 ≤ m) : ∀ {j : Nat}, j ≤ l.length → (farTo l k j ≤ m ↔ ∀ i (h : i < l.length), i < j → isTo l[i].1 = true → i < k → l[i].2.1 ≤ m) := by
  intro j
  induction j with
  | zero => intro _; exact ⟨fun _ i _ h => absurd h (by omega), fun _ => hm⟩
  | succ j ih =>
    intro hj
    have hl : j < l.length := by omega
    rw [farTo, List.getElem?_eq_getElem hl]
    simp only
    have ih := ih (by omega)
    split
    · rename_i hc
      constructor
      · intro h i hi hij ht hk
        by_cases e : i = j
        · subst e; omega
        · exact (ih.1 (by omega)) i hi (by omega) ht hk
      · intro h
        have h1 := ih.2 fun i hi hij => h i hi (by omega)
        have h2 := h j hl (by omega) hc.1 hc.2
        omega
    · rename_i hc
      constructor
      · intro h i hi hij ht hk
        by_cases e : i = j
        · subst e; exact absurd ⟨ht, hk⟩ hc
        · exact (ih.1 h) i hi (by omega) ht hk
      · intro h
        exact ih.2 fun i hi hij => h i hi (by omega)
/-- Where it leads: behind itself, at most to the end. -/
theorem leads_in {l : List In} (h : codeOk l = true) {i : Nat} (hi : i < l.length) (ht : isTo l[i].1 = true) : (i : Int) < l[i].2.1 ∧ l[i].2.1 ≤ (l.length : Int) := by
  have := (codeOk_iff.1 h).2 i hi
  unfold inOk leastO mostO at this
  simp only [Bool.and_eq_true, decide_eq_true_eq, ht, if_true] at this
  omega
theorem take_ok {l : List In} {k i : Nat} (hk : k ≤ l.length) (hi : i < l.length) (h : i < (l.take k).length) : inOk (l.take k).length i (l.take k)[i] = inOk k i l[i] := by
  have e : (l.take k)[i] = l[i] := List.getElem_take ..
  rw [e]
  exact congrArg (fun n => inOk n i l[i]) (by rw [List.length_take]; omega)
/-- A beginning may be run just if nothing in it leads out of it. -/
theorem leads_cut {l : List In} (h : codeOk l = true) {k : Nat} (hk : k ≤ l.length) : codeOk (l.take k) = decide (farTo l k l.length ≤ (k : Int)) := by
  obtain ⟨h1, h2⟩ := codeOk_iff.1 h
  have hl : (l.take k).length = k := by rw [List.length_take]; omega
  have hfar := far_le (l := l) (k := k) (m := (k : Int)) (by omega) (j := l.length) (Nat.le_refl _)
  have key : codeOk (l.take k) = true ↔ farTo l k l.length ≤ (k : Int) := by
    rw [codeOk_iff, hfar]
    constructor
    · rintro ⟨_, g⟩ i hi _ ht hik
      have := g i (by rw [hl]; exact hik)
      rw [take_ok hk hi] at this
      unfold inOk leastO mostO at this
      simp only [Bool.and_eq_true, decide_eq_true_eq, ht, if_true] at this
      omega
    · intro g
      refine ⟨by omega, fun i hik => ?_⟩
      have hi : i < l.length := by omega
      rw [take_ok hk hi]
      rw [hl] at hik
      have h3 := h2 i hi
      unfold inOk leastO mostO at h3 ⊢
      by_cases ht : isTo l[i].1 = true
      · have := g i hi hi ht hik
        simp only [Bool.and_eq_true, decide_eq_true_eq, ht, if_true] at h3 ⊢
        exact ⟨⟨h3.1.1, by omega, this⟩, h3.2⟩
      · rw [if_neg ht, if_neg ht] at h3 ⊢
        exact h3
  by_cases hq : farTo l k l.length ≤ (k : Int)
  · rw [decide_eq_true hq]; exact key.2 hq
  · rw [decide_eq_false hq]
    cases e : codeOk (l.take k)
    · rfl
    · exact absurd (key.1 e) hq
end Go.Proofs.YtldopbkjchgcnaaDoor

namespace Go.Proofs.YtldopbkjchgcnaaDoor
open Go.Lib
set_option linter.unusedVariables false
set_option linter.unusedSimpArgs false

/-- An operation's word; what stands behind it. -/
def wordO (o : Int) : List UInt8 :=
  if o = 1 then [112,117,115,104] else if o = 2 then [108,111,119,101,115,116] else if o = 3 then [115,101,99,111,110,100] else if o = 4 then [102,114,111,109] else if o = 5 then [108,101,115,115] else if o = 6 then [99,117,116] else if o = 7 then [109,105,110] else if o = 8 then [109,97,120]
  else if o = 9 then [101,108,115,101] else if o = 10 then [109,111,114,101] else if o = 11 then [97,98,111,118,101] else if o = 12 then [117,110,108,101,115,115] else if o = 13 then [106,117,109,112] else [63]
def numO (o : Int) : Bool := o == 1 || o == 5 || o == 6 || o == 9 || o == 10 || o == 12 || o == 13
def tailO (o n : Int) (nm : List UInt8) : List UInt8 := if numO o then 32 :: itoa n else if o = 4 then 32 :: nm else []
def lineT (t : In) : List UInt8 := wordO t.1 ++ (tailO t.1 t.2.1 t.2.2 ++ [10])
def textC : List In → List UInt8
  | [] => []
  | t :: r => lineT t ++ textC r
theorem textC_append (a b : List In) : textC (a ++ b) = textC a ++ textC b := by
  induction a with
  | nil => rfl
  | cons t r ih => rw [List.cons_append, textC, textC, ih, List.append_assoc]
theorem textC_snoc (a : List In) (t : In) : textC (a ++ [t]) = textC a ++ lineT t := by rw [textC_append, textC, textC, List.append_nil]
theorem word_pt {o : Int} (h : 1 ≤ o ∧ o ≤ 13) : (wordO o).all isPt = true := by
  have : o = 1 ∨ o = 2 ∨ o = 3 ∨ o = 4 ∨ o = 5 ∨ o = 6 ∨ o = 7 ∨ o = 8 ∨ o = 9 ∨ o = 10 ∨ o = 11 ∨ o = 12 ∨ o = 13 := by omega
  rcases this with rfl | rfl | rfl | rfl | rfl | rfl | rfl | rfl | rfl | rfl | rfl | rfl | rfl <;> decide
theorem wordO_inj {o p : Int} (h : 1 ≤ o ∧ o ≤ 13) (h' : 1 ≤ p ∧ p ≤ 13) (e : wordO o = wordO p) : o = p := by
  have a : o = 1 ∨ o = 2 ∨ o = 3 ∨ o = 4 ∨ o = 5 ∨ o = 6 ∨ o = 7 ∨ o = 8 ∨ o = 9 ∨ o = 10 ∨ o = 11 ∨ o = 12 ∨ o = 13 := by omega
  have b : p = 1 ∨ p = 2 ∨ p = 3 ∨ p = 4 ∨ p = 5 ∨ p = 6 ∨ p = 7 ∨ p = 8 ∨ p = 9 ∨ p = 10 ∨ p = 11 ∨ p = 12 ∨ p = 13 := by omega
  rcases a with rfl | rfl | rfl | rfl | rfl | rfl | rfl | rfl | rfl | rfl | rfl | rfl | rfl <;> rcases b with rfl | rfl | rfl | rfl | rfl | rfl | rfl | rfl | rfl | rfl | rfl | rfl | rfl <;> first | rfl | (exfalso; revert e; decide)
theorem dd_pt (u : Nat) : (decDigits u).all isPt = true := by
  have := (dd_all u).1
  unfold allD at this
  rw [List.all_eq_true] at this ⊢
  intro c hc
  have := this c hc
  simp only [isPt, this, Bool.or_true, Bool.true_or]
theorem dd_inj {u v : Nat} (h : decDigits u = decDigits v) : u = v := by
  have a := (dd_all u).2.1
  have b := (dd_all v).2.1
  rw [h, b] at a
  omega
theorem inOk_parts {len i : Nat} {t : In} (h : inOk len i t = true) : (1 ≤ t.1 ∧ t.1 ≤ 13) ∧ 0 ≤ t.2.1 ∧ (t.1 = 4 → isName t.2.2 = true) ∧ (t.1 ≠ 4 → t.2.2 = []) ∧ (numO t.1 = false → t.2.1 = 0) := by
  unfold inOk at h
  simp only [Bool.and_eq_true, decide_eq_true_eq] at h
  obtain ⟨⟨h1, h2, h3⟩, h4⟩ := h
  refine ⟨h1, ?_, fun e => by rw [if_pos e] at h4; exact h4, fun e => by rw [if_neg e] at h4; simpa using h4, fun e => ?_⟩
  · have : 0 ≤ leastO i t.1 := by unfold leastO; split <;> omega
    omega
  · have ho : t.1 = 2 ∨ t.1 = 3 ∨ t.1 = 4 ∨ t.1 = 7 ∨ t.1 = 8 ∨ t.1 = 11 := by
      unfold numO at e
      simp only [Bool.or_eq_false_iff, beq_eq_false_iff_ne] at e
      omega
    unfold leastO mostO at *
    rcases ho with e | e | e | e | e | e <;> (rw [e] at h2 h3; simp [isTo] at h2 h3; omega)
theorem line_inj {len i len' i' : Nat} {t u : In} (ht : inOk len i t = true) (hu : inOk len' i' u = true) {r r' : List UInt8} (e : lineT t ++ r = lineT u ++ r') : t = u ∧ r = r' := by
  obtain ⟨t1, t2, t3, t4, t5⟩ := inOk_parts ht
  obtain ⟨u1, u2, u3, u4, u5⟩ := inOk_parts hu
  unfold lineT at e
  simp only [List.append_assoc] at e
  have st : ∀ (o n : Int) (nm r : List UInt8), stops (tailO o n nm ++ ([10] ++ r)) = true := fun o n nm r => by
    unfold tailO
    split
    · exact stops_cons (by decide)
    · split
      · exact stops_cons (by decide)
      · exact stops_cons (by decide)
  obtain ⟨e1, e2⟩ := split_pt (word_pt t1) (word_pt u1) (st _ _ _ _) (st _ _ _ _) e
  have eo := wordO_inj t1 u1 e1
  obtain ⟨o, n, nm⟩ := t
  obtain ⟨p, m, nm'⟩ := u
  simp only at eo t1 t2 t3 t4 t5 u1 u2 u3 u4 u5 e2
  subst eo
  have s10 : ∀ r : List UInt8, stops ([10] ++ r) = true := fun r => stops_cons (by decide)
  by_cases hn : numO o = true
  · have h4 : o ≠ 4 := by rintro rfl; cases hn
    unfold tailO at e2
    rw [if_pos hn, if_pos hn, itoa_pos t2, itoa_pos u2, List.cons_append, List.cons_append] at e2
    injection e2 with _ e2
    obtain ⟨e3, e4⟩ := split_pt (dd_pt _) (dd_pt _) (s10 _) (s10 _) e2
    have := dd_inj e3
    have en : n = m := by omega
    injection e4 with _ e4
    exact ⟨by rw [en, t4 h4, u4 h4], e4⟩
  · have hn' : numO o = false := by simpa using hn
    have en : n = m := by rw [t5 hn', u5 hn']
    unfold tailO at e2
    rw [if_neg hn, if_neg hn] at e2
    by_cases h4 : o = 4
    · rw [if_pos h4, if_pos h4, List.cons_append, List.cons_append] at e2
      injection e2 with _ e2
      obtain ⟨e3, e4⟩ := split_pt (name_parts (t3 h4)).2.1 (name_parts (u3 h4)).2.1 (s10 _) (s10 _) e2
      injection e4 with _ e4
      exact ⟨by rw [en, e3], e4⟩
    · rw [if_neg h4, if_neg h4] at e2
      injection e2 with _ e2
      exact ⟨by rw [en, t4 h4, u4 h4], e2⟩
/-- Unlike code that may be has unlike lines. -/
theorem textC_inj {len len' : Nat} : ∀ {a b : List In} {p q : Nat}, GoodC len p a → GoodC len' q b → textC a = textC b → a = b := by
  have ne : ∀ t : In, lineT t ≠ [] := fun t h => by
    have := congrArg List.length h
    unfold lineT at this
    simp only [List.length_append, List.length_cons, List.length_nil] at this
    omega
  intro a
  induction a with
  | nil =>
    intro b p q _ _ h
    cases b with
    | nil => rfl
    | cons u s => exact absurd (List.append_eq_nil_iff.1 h.symm).1 (ne u)
  | cons t r ih =>
    intro b p q ha hb h
    cases b with
    | nil => exact absurd (List.append_eq_nil_iff.1 h).1 (ne t)
    | cons u s =>
      have h0 := ha 0 (by simp)
      have h1 := hb 0 (by simp)
      simp only [List.getElem_cons_zero] at h0 h1
      obtain ⟨e1, e2⟩ := line_inj h0 h1 h
      have ga : GoodC len (p + 1) r := fun i hi => by
        have := ha (i + 1) (by simpa using hi)
        rwa [show p + (i + 1) = p + 1 + i by omega] at this
      have gb : GoodC len' (q + 1) s := fun i hi => by
        have := hb (i + 1) (by simpa using hi)
        rwa [show q + (i + 1) = q + 1 + i by omega] at this
      rw [e1, ih ga gb e2]
theorem codeOk_good {l : List In} (h : codeOk l = true) : GoodC l.length 0 l := fun i hi => by
  rw [Nat.zero_add]; exact (codeOk_iff.1 h).2 i hi
end Go.Proofs.YtldopbkjchgcnaaDoor
