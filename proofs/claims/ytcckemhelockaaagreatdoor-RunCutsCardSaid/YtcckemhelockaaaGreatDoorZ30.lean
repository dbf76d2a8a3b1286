/- Tokens in memory, pairs of raw numbers; which tokens are the same; Plain mathematics of layer 7, fourth part: what the law makes of raw numbers; Expressions in memory, and the law's source of raw numbers; What the law makes of raw numbers: its expressions, in memory. -/
import Derived.Test.YtcckemhelockaaaGreatDoorZL
import Derived.Test.YtcckemhelockaaaGreatDoorZ00
import Derived.Test.YtcckemhelockaaaGreatDoorZ01
namespace Go.Proofs.YtcckemhelockaaaGreatDoor
open Go.RowKit Go.Lib
set_option linter.unusedVariables false
set_option linter.unusedSimpArgs false
theorem Bk.put4 {w : World} {g : Nat} {t : TypeId} {x y z u : Value} (h : Bk w g t #[x, y, z, u]) (a b c d : Value) : Bk ((((w.setCell ⟨g, 0, none⟩ a).setCell ⟨g, 1, none⟩ b).setCell ⟨g, 2, none⟩ c).setCell ⟨g, 3, none⟩ d) g t #[a, b, c, d] :=
  (((h.set_ 0 a).set_ 1 b).set_ 2 c).set_ 3 d
theorem Rel.put4 {w0 w : World} (h : Rel w0 w) {g : Nat} (hg : w0.heap.size ≤ g) (a b c d : Value) : Rel w0 ((((w.setCell ⟨g, 0, none⟩ a).setCell ⟨g, 1, none⟩ b).setCell ⟨g, 2, none⟩ c).setCell ⟨g, 3, none⟩ d) :=
  (((h.setCell hg a).setCell hg b).setCell hg c).setCell hg d
end Go.Proofs.YtcckemhelockaaaGreatDoor

namespace Go.Proofs.YtcckemhelockaaaGreatDoor
open Go.RowKit Go.Lib
set_option linter.unusedVariables false
set_option linter.unusedSimpArgs false
theorem nx_bd (n : Int) (h : 0 < n) (L : List Int) : 0 ≤ (nx n L).1 ∧ (nx n L).1 < n := by
  cases L with
  | nil => exact ⟨Int.le_refl _, h⟩
  | cons c t => exact pk_bd c n h
/-- The first i arguments of a kind, made one behind the other. -/
def upto (f : Bool → List Int → Ex × List Int) (k : Int) : Nat → List Int → List Ex × List Int
  | 0, L => ([], L)
  | i + 1, L => ((upto f k i L).1 ++ [(f (decide (k = 10) && decide (i = 0)) (upto f k i L).2).1], (f (decide (k = 10) && decide (i = 0)) (upto f k i L).2).2)
/-- The kind that is picked. -/
def kindOf (d : Nat) (v : Int) : Int := if d = 0 then 1 + (1 + v) % 4 else 1 + v
/-- Numbers and name, behind the arguments. -/
def fill (k : Int) (a : List Ex × List Int) : Ex × List Int :=
  if k = 3 then (.mk k 0 (sellerL (pk (nx 60 a.2).1 60)) a.1, (nx 60 a.2).2)
  else if k = 4 ∨ k = 5 then (.mk k (nx 3000 a.2).1 [] a.1, (nx 3000 a.2).2)
  else if k = 6 then (.mk k (nx 12000 a.2).1 [] a.1, (nx 12000 a.2).2)
  else (.mk k 0 [] a.1, a.2)
def gen : Nat → Bool → List Int → Ex × List Int
  | 0, _, L => (.mk 0 0 [] [], L)
  | d + 1, true, L =>
    if d = 0 then (.mk 11 (nx 7 L).1 [] [], (nx 7 L).2)
    else if (nx 2 L).1 = 0 then (.mk 11 (nx 7 (nx 2 L).2).1 [] [], (nx 7 (nx 2 L).2).2)
    else (.mk 12 0 [] [(gen d false (nx 2 L).2).1, (gen d false (gen d false (nx 2 L).2).2).1], (gen d false (gen d false (nx 2 L).2).2).2)
  | d + 1, false, L => fill (kindOf d (nx 10 L).1) (upto (gen d) (kindOf d (nx 10 L).1) (argsN (kindOf d (nx 10 L).1)).toNat (nx 10 L).2)
/-- A strategy of raw numbers. -/
def strat (L : List Int) : Ex := (gen 5 false (L.take 100)).1
theorem upto_len (f : Bool → List Int → Ex × List Int) (k : Int) (i : Nat) (L : List Int) : (upto f k i L).1.length = i := by
  induction i with
  | zero => rfl
  | succ i ih => simp only [upto, List.length_append, List.length_cons, List.length_nil]; omega
theorem upto_all {P : Nat → Ex → Prop} (f : Bool → List Int → Ex × List Int) (k : Int) (i : Nat) (L : List Int) (h : ∀ j < i, ∀ L, P j (f (decide (k = 10) && decide (j = 0)) L).1) : ∀ j (hj : j < (upto f k i L).1.length), P j ((upto f k i L).1[j]) := by
  induction i with
  | zero => intro j hj; simp [upto] at hj
  | succ i ih =>
    intro j hj
    have hl := upto_len f k i L
    simp only [upto] at hj ⊢
    rcases Nat.lt_or_ge j (upto f k i L).1.length with h1 | h1
    · rw [List.getElem_append_left h1]
      exact ih (fun j hj L => h j (by omega) L) j h1
    · rw [List.length_append, List.length_cons, List.length_nil] at hj
      obtain rfl : j = i := by omega
      rw [List.getElem_append_right h1]
      simp only [hl, Nat.sub_self, List.getElem_cons_zero]
      exact h j (by omega) _
theorem kind_bd (d : Nat) (L : List Int) : 1 ≤ kindOf d (nx 10 L).1 ∧ kindOf d (nx 10 L).1 ≤ 10 ∧ (d = 0 → kindOf d (nx 10 L).1 ≤ 4) := by
  have := nx_bd 10 (by omega) L
  unfold kindOf
  split
  · refine ⟨?_, ?_, fun _ => ?_⟩ <;> omega
  · refine ⟨?_, ?_, fun h => absurd h ‹_›⟩ <;> omega
theorem pk_id {u n : Int} (h0 : 0 ≤ u) (h1 : u < n) : pk u n = u := by
  unfold pk; rw [if_neg (by omega)]; exact Int.emod_eq_of_lt h0 h1
theorem args_nat {k : Int} (h1 : 1 ≤ k) (h2 : k ≤ 12) : argsN k = ((argsN k).toNat : Int) := by
  have : 0 ≤ argsN k := by
    unfold argsN
    split
    · omega
    · split
      · omega
      · split
        · omega
        · split <;> omega
  omega
/-- What is made may be, is a condition just where one is asked for, and is so deep at the most. -/
theorem gen_fine : ∀ (d : Nat) (c : Bool) (L : List Int), fine (d + 1) (gen (d + 1) c L).1 = true ∧ isCond (gen (d + 1) c L).1.k = c := by
  intro d
  induction d with
  | zero =>
    intro c L
    cases c with
    | true =>
      have := nx_bd 7 (by omega) L
      simp only [gen, if_pos]
      exact ⟨fine_mk (by decide) ⟨by omega, by show _ ≤ (1000 : Int); omega⟩ (by simp) (by simp) (fun i hi => absurd hi (by simp)), rfl⟩
    | false =>
      obtain ⟨b1, b2, b3⟩ := kind_bd 0 L
      obtain ⟨k, hk⟩ : ∃ k, kindOf 0 (nx 10 L).1 = k := ⟨_, rfl⟩
      simp only [gen]
      rw [hk] at b1 b2 b3 ⊢
      have b4 := b3 rfl
      have a0 : argsN k = 0 := by
        have : k = 1 ∨ k = 2 ∨ k = 3 ∨ k = 4 := by omega
        rcases this with rfl | rfl | rfl | rfl <;> decide
      rw [a0]
      have n60 := nx_bd 60 (by omega) (nx 10 L).2
      have n3 := nx_bd 3000 (by omega) (nx 10 L).2
      have : k = 1 ∨ k = 2 ∨ k = 3 ∨ k = 4 := by omega
      rcases this with rfl | rfl | rfl | rfl
      · exact ⟨fine_mk (show argsN 1 = ((0 : Nat) : Int) by decide) (by decide) (by simp) (by simp) (fun i hi => absurd hi (by simp [upto])), rfl⟩
      · exact ⟨fine_mk (show argsN 2 = ((0 : Nat) : Int) by decide) (by decide) (by simp) (by simp) (fun i hi => absurd hi (by simp [upto])), rfl⟩
      · have hn := seller_name (pk (nx 60 (nx 10 L).2).1 60) (by rw [pk_id n60.1 n60.2]; omega) (by rw [pk_id n60.1 n60.2]; omega)
        exact ⟨fine_mk (show argsN 3 = ((0 : Nat) : Int) by decide) (by decide) (by simp only [iff_true]; exact (name_parts hn).1) (fun _ => hn) (fun i hi => absurd hi (by simp [upto])), rfl⟩
      · exact ⟨fine_mk (show argsN 4 = ((0 : Nat) : Int) by decide) ⟨n3.1, Int.le_of_lt (Int.lt_trans n3.2 (by decide))⟩ (by simp) (by simp) (fun i hi => absurd hi (by simp [upto])), rfl⟩
  | succ d ih =>
    intro c L
    cases c with
    | true =>
      have h7 := nx_bd 7 (by omega) (nx 2 L).2
      rw [gen]
      rw [if_neg (by omega)]
      split
      · exact ⟨fine_mk (by decide) ⟨by omega, by show _ ≤ (1000 : Int); omega⟩ (by simp) (by simp) (fun i hi => absurd hi (by simp)), rfl⟩
      · refine ⟨fine_mk (show argsN 12 = ((2 : Nat) : Int) by decide) (by decide) (by simp) (by simp) (fun i hi => ?_), rfl⟩
        have q1 := ih false (nx 2 L).2
        have q2 := ih false (gen (d + 1) false (nx 2 L).2).2
        have : i = 0 ∨ i = 1 := by simp at hi; omega
        rcases this with rfl | rfl
        · exact ⟨q1.2, q1.1⟩
        · exact ⟨q2.2, q2.1⟩
    | false =>
      obtain ⟨b1, b2, _⟩ := kind_bd (d + 1) L
      obtain ⟨k, hk⟩ : ∃ k, kindOf (d + 1) (nx 10 L).1 = k := ⟨_, rfl⟩
      obtain ⟨a, ha⟩ : ∃ a, upto (gen (d + 1)) k (argsN k).toNat (nx 10 L).2 = a := ⟨_, rfl⟩
      rw [gen, hk]
      rw [hk] at b1 b2
      have hl : argsN k = (a.1.length : Int) := by rw [← ha, upto_len]; exact args_nat b1 (by omega)
      have hall : ∀ i (hi : i < a.1.length), isCond a.1[i].k = (decide (k = 10) && decide (i = 0)) ∧ fine (d + 1) a.1[i] = true := by
        subst ha
        exact upto_all (P := fun i x => isCond x.k = (decide (k = 10) && decide (i = 0)) ∧ fine (d + 1) x = true) (gen (d + 1)) k (argsN k).toNat (nx 10 L).2 fun j _ L => ⟨(ih _ L).2, (ih _ L).1⟩
      rw [ha]
      have n60 := nx_bd 60 (by omega) a.2
      have n3 := nx_bd 3000 (by omega) a.2
      have n12 := nx_bd 12000 (by omega) a.2
      have hc : isCond k = false := by unfold isCond; simp; omega
      unfold fill
      split
      · rename_i e
        subst e
        have hn := seller_name (pk (nx 60 a.2).1 60) (by rw [pk_id n60.1 n60.2]; omega) (by rw [pk_id n60.1 n60.2]; omega)
        exact ⟨fine_mk hl (by decide) (by simp only [iff_true]; exact (name_parts hn).1) (fun _ => hn) hall, rfl⟩
      · rename_i e3
        split
        · rename_i e
          refine ⟨fine_mk hl ⟨n3.1, ?_⟩ (by simp [e3]) (fun h => absurd h e3) hall, hc⟩
          rcases e with rfl | rfl <;> exact Int.le_of_lt (Int.lt_trans n3.2 (by decide))
        · split
          · rename_i e
            subst e
            exact ⟨fine_mk hl ⟨n12.1, Int.le_of_lt (Int.lt_trans n12.2 (by decide))⟩ (by simp) (by simp) hall, hc⟩
          · refine ⟨fine_mk hl ⟨Int.le_refl _, ?_⟩ (by simp [e3]) (fun h => absurd h e3) hall, hc⟩
            unfold mostN
            split
            · omega
            · split
              · omega
              · first | (split <;> omega) | omega
/-- How large what may be, so deep, is at the most. -/
theorem fine_size : ∀ (d : Nat) (x : Ex), fine d x = true → size x ≤ 4 ^ d := by
  intro d
  induction d with
  | zero => intro x h; cases h
  | succ d ih =>
    intro x h
    cases x with
    | mk k n nm l =>
      obtain ⟨h1, _, _, _, h5⟩ := fine_parts h
      have h3 := args_le k
      have hs : ∀ l : List Ex, (∀ x ∈ l, size x ≤ 4 ^ d) → sizes l ≤ l.length * 4 ^ d := by
        intro l
        induction l with
        | nil => intro _; rw [sizes_nil]; omega
        | cons y t ih2 =>
          intro hh
          have e1 := hh y (List.mem_cons_self ..)
          have e2 := ih2 fun z hz => hh z (List.mem_cons_of_mem _ hz)
          rw [sizes_cons, List.length_cons, Nat.add_mul, Nat.one_mul]; omega
      have := hs l fun y hy => ih y (fine_mem h hy)
      have h4 : l.length * 4 ^ d ≤ 3 * 4 ^ d := Nat.mul_le_mul_right _ (by omega)
      have h6 : 1 ≤ 4 ^ d := Nat.one_le_pow _ _ (by omega)
      rw [size_mk, Nat.pow_succ]
      omega
theorem strat_fine (L : List Int) : fine 5 (strat L) = true ∧ isCond (strat L).k = false := gen_fine 4 false _
theorem strat_size (L : List Int) : size (strat L) ≤ 1024 := fine_size 5 _ (strat_fine L).1
end Go.Proofs.YtcckemhelockaaaGreatDoor

namespace Go.Proofs.YtcckemhelockaaaGreatDoor
open Go.RowKit Go.Lib
set_option linter.unusedVariables false
set_option linter.unusedSimpArgs false
theorem ExAt.weak {S S' : Nat → Prop} {w : World} {e : El} {x : Ex} (h : ExAt S w e x) (hm : ∀ g, S g → S' g) : ExAt S' w e x := h.mono (Nat.le_refl _) fun g hS _ => ⟨hm g hS, rfl⟩
theorem ElsOwn.toks {S : Nat → Prop} {w : World} {base : Nat} {A : Option Addr} {n c : Nat} {es : List El} (h : ElsOwn w base (.slice A n c) es) (hn : n = es.length) (hS : ∀ j, (Value.slice A n c).ownBlock = some j → S j) : RowE S w A es := by
  intro i hi
  have h : w.ownsRow base 38 4 (.slice A n c) es.length (cellsEs es) := h
  rcases h.2 with ⟨h0, h1⟩ | ⟨g, cap, cur, hv, hb, hh, _⟩
  · omega
  · have hA : A = some ⟨g, 0, none⟩ := by injection hv
    obtain ⟨c0, c1, c2, c3⟩ := cellsEs_at es i hi
    have hc := h.cells (g := g) (by rw [hA]; rfl)
    have q0 := hc _ _ c0
    have q1 := hc _ _ c1
    have q2 := hc _ _ c2
    have q3 := hc _ _ c3
    rw [addr_at] at q0 q1 q2 q3
    refine ⟨g, 0, hA, Bk.lt (t := 38) hh, hS g (by rw [hA]; rfl), ?_, ?_, ?_, ?_⟩
    · exact q0
    · rw [Nat.add_assoc]; exact q1
    · rw [Nat.add_assoc]; exact q2
    · rw [Nat.add_assoc]; exact q3
theorem ex_info : (Tryz.prog.info? 38).map (fun i => (i.zero, i.size, i.bytes)) = some (some (.agg #[.int .i64 0, .int .i64 0, .string ⟨#[]⟩, .slice none 0 0]), 4, 56) := by kernel_rfl
theorem cellsE_one (e : El) : ∀ u ∈ cellsE e, u.oneCell' = true := by
  intro u hu
  simp only [cellsE, List.mem_cons, List.not_mem_nil, or_false] at hu
  rcases hu with rfl | rfl | rfl | rfl <;> rfl
theorem grown_trans {w w' w'' : World} {r : Option Nat} (h : w.grownBy w' r) (h' : w'.grownBy w'' r) : w.grownBy w'' r :=
  ⟨h'.os.trans h.os, h'.tape.trans h.tape, h'.output.trans h.output, Nat.le_trans h.size h'.size, fun k hk hn => (h'.block k (Nat.lt_of_lt_of_le hk h.size) hn).trans (h.block k hk hn)⟩
theorem grown_of {w w' w'' : World} {r : Option Nat} (h : w.grownBy w' r) {b : Option Nat} (h' : w'.grownBy w'' b) (hb : ∀ k, b = some k → w.heap.size ≤ k) : w.grownBy w'' r :=
  ⟨h'.os.trans h.os, h'.tape.trans h.tape, h'.output.trans h.output, Nat.le_trans h.size h'.size, fun k hk hn => (h'.block k (Nat.lt_of_lt_of_le hk h.size) (fun e => by have := hb k e.symm; omega)).trans (h.block k hk hn)⟩
theorem set_grown (w : World) (b i : Nat) (v : Value) : w.grownBy (w.setCell ⟨b, i, none⟩ v) (some b) :=
  ⟨rfl, rfl, rfl, by rw [World.size_setCell]; exact Nat.le_refl _, fun k _ hk => Below.heap_setCell w ⟨b, i, none⟩ v k (fun e => hk (by rw [e]))⟩
theorem put4_grown (w : World) (b : Nat) (x y z u : Value) : w.grownBy ((((w.setCell ⟨b, 0, none⟩ x).setCell ⟨b, 1, none⟩ y).setCell ⟨b, 2, none⟩ z).setCell ⟨b, 3, none⟩ u) (some b) :=
  grown_trans (grown_trans (grown_trans (set_grown w b 0 x) (set_grown _ b 1 y)) (set_grown _ b 2 z)) (set_grown _ b 3 u)
theorem pk_as (c n y : Int) (h : Hid (pk c n = y)) (hc : -9223372036854775808 ≤ c) (hc' : c ≤ 9223372036854775807) (hn : 0 < n) (hn' : n ≤ 9223372036854775807) (w : World) :
    Calls Tryz.prog 90 #[.int .i64 c, .int .i64 n] w fun e w' => e = .returned (.int .i64 y) ∧ w = w' := by
  rw [← h.out]
  by_cases h : c < 0
  all_goals
    go_enter Tryz.func90, Tryz.ntmps90
    go_wp2
    all_goals
      go_ret
      exact ⟨ret_int (by unfold pk; split <;> first | rfl | omega), rfl⟩
theorem addr_zero (a : Addr) : a.add 0 = a := by
  obtain ⟨b, o, p⟩ := a
  cases p <;> simp [Addr.add]
theorem add_next (a : Addr) (n : Nat) : a.add (n + 1) = ⟨(a.add n).block, (a.add n).off + 1, none⟩ := by
  unfold Addr.add
  by_cases h : n = 0
  · subst h; simp
  · simp [h]; omega
theorem src_next {w : World} {g : Nat} {z : Int} {t : List Int} {a : Addr} {c : Nat} (hb : Bk w g 71 #[.slice (some a) (z :: t).length c]) (h3 : ∀ z' ∈ z :: t, i64 z')
    (h4 : ∀ i (h : i < (z :: t).length), ∃ a' : Addr, some a = some a' ∧ a'.block < g ∧ w.cell? (a'.add i) = some (.int .i64 (z :: t)[i])) (a' : Addr) (c' : Nat) (hA : t = [] ∨ a' = a.add 1) (hc : t.length ≤ c') (hc' : c' ≤ maxLen) :
    SrcAt (w.setCell ⟨g, 0, none⟩ (.slice (some a') t.length c')) g t ∧ w.grownBy (w.setCell ⟨g, 0, none⟩ (.slice (some a') t.length c')) (some g) ∧ (w.setCell ⟨g, 0, none⟩ (.slice (some a') t.length c')).heap.size = w.heap.size := by
  refine ⟨⟨some a', c', hb.set_ 0 _, hc, hc', fun z' hz => h3 z' (List.mem_cons_of_mem _ hz), fun i hi => ?_⟩, ⟨rfl, rfl, rfl, by rw [World.size_setCell]; exact Nat.le_refl _, fun k _ hk => Below.heap_setCell w ⟨g, 0, none⟩ _ k (fun e => hk (by rw [e]))⟩, World.size_setCell ..⟩
  have hi' : i + 1 < (z :: t).length := by simpa using hi
  obtain ⟨b, e, hl, hcell⟩ := h4 (i + 1) hi'
  cases e
  rcases hA with rfl | rfl
  · simp at hi
  · refine ⟨_, rfl, by rw [block_add]; exact hl, ?_⟩
    rw [Addr.add_add, Nat.add_comm 1 i]
    have hk : (w.setCell ⟨g, 0, none⟩ (.slice (some (a.add 1)) t.length c')).heap[(a.add (i + 1)).block]? = w.heap[(a.add (i + 1)).block]? := Below.heap_setCell w ⟨g, 0, none⟩ _ _ (by rw [block_add]; simp only; omega)
    rw [World.cell?_of_block hk]
    exact hcell
set_option maxHeartbeats 1000000 in
theorem next_any (g : Nat) (L : List Int) (n : Int) (hn : 0 < n) (hn' : n ≤ 9223372036854775807) (w : World) (h : SrcAt w g L) :
    Calls Tryz.prog 44 #[.pointer (some ⟨g, 0, none⟩), .int .i64 n] w fun e w' => e = .returned (.int .i64 (nx n L).1) ∧ SrcAt w' g (nx n L).2 ∧ w.grownBy w' (some g) ∧ w'.heap.size = w.heap.size := by
  obtain ⟨A, c, hb, h1, h2, h3, h4⟩ := h
  have c0 := hb.cell 0
  have f0 := hb.frozen 0
  have HB := Lib.hid hb
  have H4 := Lib.hid h4
  have HG : Hid (w.grownBy w (some g)) := Lib.hid ⟨rfl, rfl, rfl, Nat.le_refl _, fun _ _ _ => rfl⟩
  simp only [List.getElem?_toArray, List.getElem?_cons_zero] at c0
  clear hb h4
  cases L with
  | nil =>
    have H3 := Lib.hid h3
    clear h3
    go_enter Tryz.func44, Tryz.ntmps44
    go_wp2_with (fail)
    go_ret
    exact ⟨rfl, ⟨A, c, HB.out, h1, h2, H3.out, H4.out⟩, HG.out, rfl⟩
  | cons z t =>
    obtain ⟨a, rfl, hl, hc⟩ := H4.out 0 (by simp)
    have hne : a.block ≠ g := by omega
    obtain ⟨y, hy⟩ : ∃ y, pk z n = y := ⟨_, rfl⟩
    have HY := Lib.hid hy
    have hz := h3 z (List.mem_cons_self ..)
    have H3 := Lib.hid h3
    rw [addr_zero] at hc
    have HA1 := Lib.hid (show (⟨a.block, a.off + 1, none⟩ : Addr) = a.add 1 by rw [add_next a 0, addr_zero])
    have z0 := hz.1
    have z1 := hz.2
    simp only [List.length_cons, List.getElem_cons_zero] at h1 hc c0
    clear hy hz h3
    go_enter Tryz.func44, Tryz.ntmps44
    go_wp2_with (go_at_call 90; (with_reducible refine (pk_as z n y HY z0 z1 hn hn' _).mono ?_); rintro e w' ⟨rfl, rfl⟩)
    all_goals
      go_ret
      refine ⟨ret_int HY.out.symm, ?_⟩
      first
        | exact src_next HB.out H3.out H4.out _ _ (.inr HA1.out) (by omega) (by omega)
        | exact src_next HB.out H3.out H4.out _ _ (.inl (List.length_eq_zero_iff.1 (by omega))) (by omega) (by omega)
end Go.Proofs.YtcckemhelockaaaGreatDoor

namespace Go.Proofs.YtcckemhelockaaaGreatDoor
open Go.RowKit Go.Lib
set_option linter.unusedVariables false
set_option linter.unusedSimpArgs false
theorem next_as (g : Nat) (L : List Int) (n v : Int) (L' : List Int) (hv : Hid ((nx n L) = (v, L'))) (hn : 0 < n) (hn' : n ≤ 9223372036854775807) (w : World) (h : SrcAt w g L) :
    Calls Tryz.prog 44 #[.pointer (some ⟨g, 0, none⟩), .int .i64 n] w fun e w' => e = .returned (.int .i64 v) ∧ SrcAt w' g L' ∧ w.grownBy w' (some g) ∧ w'.heap.size = w.heap.size := by
  have := next_any g L n hn hn' w h
  rw [hv.out] at this
  exact this
/-- What 'expr' tells, for expressions so deep. -/
def ExprAt (d : Nat) : Prop := ∀ (c : Bool) (L : List Int) (g : Nat) (w0 w : World), Rel w0 w → w0.heap.size ≤ g → SrcAt w g L → Calls Tryz.prog 27 #[.pointer (some ⟨g, 0, none⟩), .int .i64 ((d : Int) + 1), .bool c] w fun e w' =>
  ∃ v : El, e = .returned (EV v) ∧ ExAt (fun k => w.heap.size ≤ k) w' v (gen (d + 1) c L).1 ∧ SrcAt w' g (gen (d + 1) c L).2 ∧ w.grownBy w' (some g)
theorem expr_as {d : Nat} (E : ExprAt d) (c : Bool) (L : List Int) (x : Ex) (L' : List Int) (hx : Hid (gen (d + 1) c L = (x, L'))) (g : Nat) (w0 w : World) (hr : Rel w0 w) (hg : w0.heap.size ≤ g) (hs : SrcAt w g L) :
    Calls Tryz.prog 27 #[.pointer (some ⟨g, 0, none⟩), .int .i64 ((d : Int) + 1), .bool c] w fun e w' => ∃ v : El, e = .returned (EV v) ∧ ExAt (fun k => w.heap.size ≤ k) w' v x ∧ SrcAt w' g L' ∧ w.grownBy w' (some g) := by
  have := E c L g w0 w hr hg hs
  rw [hx.out] at this
  exact this
set_option maxHeartbeats 2000000 in
theorem expr_cond (d : Nat) (hd : d ≤ 10) (H : ∀ d', d = d' + 1 → ExprAt d') (L : List Int) (g : Nat) (w0 w : World) (hr : Rel w0 w) (hg0 : w0.heap.size ≤ g) (hs : SrcAt w g L) :
    Calls Tryz.prog 27 #[.pointer (some ⟨g, 0, none⟩), .int .i64 ((d : Int) + 1), .bool true] w fun e w' =>
      ∃ v : El, e = .returned (EV v) ∧ ExAt (fun k => w.heap.size ≤ k) w' v (gen (d + 1) true L).1 ∧ SrcAt w' g (gen (d + 1) true L).2 ∧ w.grownBy w' (some g) := by
  have hgl := hs.lt
  have hA := hr.self.alloc (.cells #[.int .i64 0, .int .i64 0, .string ⟨#[]⟩, .slice none 0 0] 38)
  have hS := Lib.hid (hs.rel hA)
  have HB := Lib.hid (Bk.new w 38 #[.int .i64 0, .int .i64 0, .string ⟨#[]⟩, .slice none 0 0])
  have HG := Lib.hid (grown_rel (some g) hA)
  have HR := Lib.hid (hr.alloc (.cells #[.int .i64 0, .int .i64 0, .string ⟨#[]⟩, .slice none 0 0] 38))
  clear hA
  cases d with
  | zero =>
    obtain ⟨⟨v, L'⟩, hv⟩ : ∃ p, nx 7 L = p := ⟨_, rfl⟩
    have HV := Lib.hid hv
    have hb := nx_bd 7 (by omega) L
    rw [hv] at hb
    have HF := Lib.hid (show gen 1 true L = (.mk 11 v [] [], L') by simp [gen, hv])
    clear hv hs
    go_enter Tryz.func27, Tryz.ntmps27
    go_wp2_with (go_at_call 44; (with_reducible refine (next_as g L 7 v L' HV (by decide) (by decide) _ hS.out).mono ?_); rintro e w1 ⟨rfl, s1, g1, z1⟩; obtain ⟨⟨c0, c1, c2, c3⟩, f0, f1, f2, f3⟩ := (HB.out.grown g1 (fun e => by injection e; omega)).four)
    obtain ⟨⟨r0, r1, r2, r3⟩, _⟩ := ((HB.out.grown g1 (fun e => by injection e; omega)).put4 (.int .i64 11) (.int .i64 v) (.string ⟨#[]⟩) (.slice none 0 0)).four
    refine bodyPost_ret (v := EV (11, v, [], none, 0, 0)) (by simp [results, Tryz.results27, go_sem, r0, r1, r2, r3]; rfl) rfl ⟨_, rfl, ?_, ?_, ?_⟩
    · rw [HF.out]; exact ExAt.leaf _ _ 11 v [] none 0 ⟨by decide, by decide⟩ ⟨by omega, by omega⟩ (by simp)
    · rw [HF.out]; exact s1.grown (put4_grown w1 w.heap.size _ _ _ _) (fun k e => by cases e; exact hgl)
    · exact grown_of (grown_trans HG.out g1) (put4_grown w1 w.heap.size _ _ _ _) (fun k e => by cases e; exact Nat.le_refl _)
  | succ d =>
    have E := H d rfl
    obtain ⟨⟨v2, L2⟩, hv2⟩ : ∃ p, nx 2 L = p := ⟨_, rfl⟩
    have HV2 := Lib.hid hv2
    have hb2 := nx_bd 2 (by omega) L
    rw [hv2] at hb2
    have hdd : ¬ ((d : Int) + 1 + 1 < 2) := by omega
    by_cases h0 : v2 = 0
    · obtain ⟨⟨v, L'⟩, hv⟩ : ∃ p, nx 7 L2 = p := ⟨_, rfl⟩
      have HV := Lib.hid hv
      have hb := nx_bd 7 (by omega) L2
      rw [hv] at hb
      have HF := Lib.hid (show gen (d + 2) true L = (.mk 11 v [] [], L') by simp [gen, hv2, hv, h0])
      have h0' : (v2 == 0) = true := by simpa using h0
      clear hv hv2 hs h0
      go_enter Tryz.func27, Tryz.ntmps27
      go_wp2_with (first
        | (go_at_call 44; (with_reducible refine (next_as g L 2 v2 L2 HV2 (by decide) (by decide) _ hS.out).mono ?_); rintro e w1 ⟨rfl, s1, g1, z1⟩)
        | (go_at_call 44; (with_reducible refine (next_as g L2 7 v L' HV (by decide) (by decide) _ s1).mono ?_); rintro e w2 ⟨rfl, s2, g2, z2⟩; obtain ⟨⟨c0, c1, c2, c3⟩, f0, f1, f2, f3⟩ := (HB.out.grown (grown_trans g1 g2) (fun e => by injection e; omega)).four))
      obtain ⟨⟨r0, r1, r2, r3⟩, _⟩ := ((HB.out.grown (grown_trans g1 g2) (fun e => by injection e; omega)).put4 (.int .i64 11) (.int .i64 v) (.string ⟨#[]⟩) (.slice none 0 0)).four
      refine bodyPost_ret (v := EV (11, v, [], none, 0, 0)) (by simp [results, Tryz.results27, go_sem, r0, r1, r2, r3]; rfl) rfl ⟨_, rfl, ?_, ?_, ?_⟩
      · rw [HF.out]; exact ExAt.leaf _ _ 11 v [] none 0 ⟨by decide, by decide⟩ ⟨by omega, by omega⟩ (by simp)
      · rw [HF.out]; exact s2.grown (put4_grown w2 w.heap.size _ _ _ _) (fun k e => by cases e; exact hgl)
      · exact grown_of (grown_trans (grown_trans HG.out g1) g2) (put4_grown w2 w.heap.size _ _ _ _) (fun k e => by cases e; exact Nat.le_refl _)
    · obtain ⟨⟨x, L3⟩, hx⟩ : ∃ p, gen (d + 1) false L2 = p := ⟨_, rfl⟩
      obtain ⟨⟨y, L4⟩, hy⟩ : ∃ p, gen (d + 1) false L3 = p := ⟨_, rfl⟩
      have HF := Lib.hid (show gen (d + 2) true L = (.mk 12 0 [] [x, y], L4) by rw [gen, if_neg (by omega), hv2, if_neg h0, hx, hy])
      have h0' : (v2 == 0) = false := by simpa using h0
      have HX := Lib.hid hx
      have HY := Lib.hid hy
      have hw1 : IntKind.i64.wrap ((d : Int) + 1 + 1 - 1) = (d : Int) + 1 := by rw [IntKind.wrap_i64]; omega
      clear hv2 hs h0 hx hy
      go_enter Tryz.func27, Tryz.ntmps27
      go_wp2_with (first
        | (go_at_call 44; (with_reducible refine (next_as g L 2 v2 L2 HV2 (by decide) (by decide) _ hS.out).mono ?_); rintro e w1 ⟨rfl, s1, g1, z1⟩)
        | (go_at_call 27; (with_reducible refine (expr_as E false L2 x L3 HX g _ _ (HR.out.grown g1 (fun k e => by cases e; exact hg0)) hg0 s1).mono ?_); rintro e w2 ⟨vx, rfl, ex, s2, g2⟩)
        | (go_at_call 27; (with_reducible refine (expr_as E false L3 y L4 HY g _ _ ((HR.out.grown g1 (fun k e => by cases e; exact hg0)).grown g2 (fun k e => by cases e; exact hg0)) hg0 s2).mono ?_); rintro e w3 ⟨vy, rfl, ey, s3, g3⟩; obtain ⟨⟨c0, c1, c2, c3⟩, f0, f1, f2, f3⟩ := ((HB.out.grown (grown_trans (grown_trans g1 g2) g3) (fun e => by injection e; omega)).alloc (.cells #[.int .i64 vx.1, .int .i64 vx.2.1, .string (B vx.2.2.1), .slice vx.2.2.2.1 vx.2.2.2.2.1 vx.2.2.2.2.2, .int .i64 vy.1, .int .i64 vy.2.1, .string (B vy.2.2.1), .slice vy.2.2.2.1 vy.2.2.2.2.1 vy.2.2.2.2.2] 38)).four))
      have R2 := (HR.out.grown g1 (fun k e => by cases e; exact hg0)).grown g2 (fun k e => by cases e; exact hg0)
      have R3 := R2.grown g3 (fun k e => by cases e; exact hg0)
      have ga := grown_rel none (R3.self.alloc (.cells #[.int .i64 vx.1, .int .i64 vx.2.1, .string (B vx.2.2.1), .slice vx.2.2.2.1 vx.2.2.2.2.1 vx.2.2.2.2.2, .int .i64 vy.1, .int .i64 vy.2.1, .string (B vy.2.2.1), .slice vy.2.2.2.1 vy.2.2.2.2.1 vy.2.2.2.2.2] 38))
      have z0 : (w.alloc (.cells #[.int .i64 0, .int .i64 0, .string ⟨#[]⟩, .slice none 0 0] 38)).heap.size = w.heap.size + 1 := World.size_alloc ..
      have zz1 := g1.size
      have zz2 := g2.size
      have zz3 := g3.size
      obtain ⟨gp, hgp⟩ : ∃ gp, gp = put4_grown (w3.alloc (.cells #[.int .i64 vx.1, .int .i64 vx.2.1, .string (B vx.2.2.1), .slice vx.2.2.2.1 vx.2.2.2.2.1 vx.2.2.2.2.2, .int .i64 vy.1, .int .i64 vy.2.1, .string (B vy.2.2.1), .slice vy.2.2.2.1 vy.2.2.2.2.1 vy.2.2.2.2.2] 38)) w.heap.size (.int .i64 12) (.int .i64 0) (.string ⟨#[]⟩) (.slice (some ⟨w3.heap.size, 0, none⟩) 2 2) := ⟨_, rfl⟩
      clear hgp
      obtain ⟨⟨r0, r1, r2, r3⟩, _⟩ := (((HB.out.grown (grown_trans (grown_trans g1 g2) g3) (fun e => by injection e; omega)).alloc (.cells #[.int .i64 vx.1, .int .i64 vx.2.1, .string (B vx.2.2.1), .slice vx.2.2.2.1 vx.2.2.2.2.1 vx.2.2.2.2.2, .int .i64 vy.1, .int .i64 vy.2.1, .string (B vy.2.2.1), .slice vy.2.2.2.1 vy.2.2.2.2.1 vy.2.2.2.2.2] 38)).put4 (.int .i64 12) (.int .i64 0) (.string ⟨#[]⟩) (.slice (some ⟨w3.heap.size, 0, none⟩) 2 2)).four
      refine bodyPost_ret (v := EV (12, 0, [], some ⟨w3.heap.size, 0, none⟩, 2, 2)) (by simp [results, Tryz.results27, go_sem, r0, r1, r2, r3]; rfl) rfl ⟨_, rfl, ?_, ?_, ?_⟩
      · rw [HF.out]
        refine ExAt.two ⟨by decide, by decide⟩ ⟨by decide, by decide⟩ (Nat.zero_le _) ((Bk.new w3 38 (cellsEs [vx, vy]).toArray).grown gp (fun e => by injection e; omega)) (show w.heap.size ≤ w3.heap.size by omega) ?_ ?_
        · exact (((ex.grown (S' := fun k => w1.heap.size ≤ k) g3 (fun k hk => ⟨hk, fun e => by injection e; omega⟩)).grown (S' := fun k => w1.heap.size ≤ k) ga (fun k hk => ⟨hk, fun e => by cases e⟩)).grown gp (fun k hk => ⟨by omega, fun e => by injection e; omega⟩))
        · exact ((ey.grown (S' := fun k => w2.heap.size ≤ k) ga (fun k hk => ⟨hk, fun e => by cases e⟩)).grown gp (fun k hk => ⟨by omega, fun e => by injection e; omega⟩))
      · rw [HF.out]; exact (s3.grown ga (fun k e => by cases e)).grown gp (fun k e => by cases e; exact hgl)
      · exact grown_of (grown_of (grown_trans (grown_trans (grown_trans HG.out g1) g2) g3) ga (fun k e => by cases e)) gp (fun k e => by cases e; exact Nat.le_refl _)
end Go.Proofs.YtcckemhelockaaaGreatDoor
